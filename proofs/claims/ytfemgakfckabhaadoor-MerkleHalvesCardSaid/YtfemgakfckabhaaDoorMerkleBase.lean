/-
  Layer 8: words for slices of strings; the digest's contracts; node, leaf, split of the landed code and of the reference.
-/
import Derived.Test.YtfemgakfckabhaaDoorMerkleMath
import Derived.Test.YtfemgakfckabhaaDoorLawKit
import Derived.Test.YtfemgakfckabhaaDoorShelf
import Derived.Lib.ItoaNum
import Derived.Deep.Slices
import Derived.Maps.AppendAt
namespace Go.Proofs.YtfemgakfckabhaaDoor
open Go.RowKit
namespace Mk

/-! ### Slices of strings -/
def Ss (l : List Str) : List Value := l.map fun s => Value.string (S3.B s)
theorem Ss_len (l : List Str) : (Ss l).length = l.length := by simp [Ss]
theorem Ss_app (a b : List Str) : Ss (a ++ b) = Ss a ++ Ss b := by simp [Ss]
theorem Ss_take (l : List Str) (k : Nat) : Ss (l.take k) = (Ss l).take k := by simp [Ss, List.map_take]
theorem Ss_drop (l : List Str) (k : Nat) : Ss (l.drop k) = (Ss l).drop k := by simp [Ss, List.map_drop]
theorem Ss_one (l : List Str) : ∀ u ∈ Ss l, u.oneCell' = true := by
  intro u hu
  obtain ⟨s, _, rfl⟩ := List.mem_map.1 hu
  rfl
/-- A slice of strings lies in a world. -/
structure Rs (w : World) (A : Option Addr) (l : List Str) : Prop where
  row : S2.Row w w.heap.size A (Ss l)
theorem Rs.step {w w' : World} {A : Option Addr} {l : List Str} (h : Rs w A l) (hb : Below w.heap.size w w') : Rs w' A l := ⟨(h.row.below hb).more hb.size⟩
theorem Rs.alloc {w : World} {A : Option Addr} {l : List Str} (h : Rs w A l) (o : Obj) : Rs (w.alloc o) A l := h.step ((Below.refl _ _).alloc (Nat.le_refl _) o)
theorem Rs.drew {w : World} {A : Option Addr} {l : List Str} (h : Rs w A l) : Rs w.drew A l := h.step (Below.refl _ _).drew
theorem Rs.lit (w : World) (l : List Str) : Rs (w.alloc (.cells (Ss l).toArray 9)) (some ⟨w.heap.size, 0, none⟩) l := by
  refine ⟨.inr ⟨_, rfl, by simp, fun j u hu => ?_⟩⟩
  have h := heap_alloc_last w (.cells (Ss l).toArray 9)
  rw [Addr.add_lit, Nat.zero_add, cell_of_row _ _ _ _ _ _ h, List.getElem?_toArray]
  exact hu
theorem Rs.nil (w : World) (A : Option Addr) : Rs w A [] := ⟨.inl rfl⟩
theorem Rs.some_ {w : World} {A : Option Addr} {l : List Str} (h : Rs w A l) (hl : 1 ≤ l.length) : ∃ a, A = some a := by
  rcases h.row with e | ⟨a, rfl, _⟩
  · rw [← Ss_len, e] at hl; simp at hl
  · exact ⟨a, rfl⟩
theorem Rs.at_ {w : World} {a : Addr} {l : List Str} (h : Rs w (some a) l) {k : Nat} (hk : k < l.length) : w.cell? (a.add k) = some (.string (S3.B l[k])) := by
  rcases h.row with e | ⟨b, e, _, hc⟩
  · rw [← Ss_len, e] at hk; simp at hk
  · injection e with e
    subst e
    exact hc k _ (by simp [Ss, List.getElem?_eq_getElem hk])
theorem Rs.take {w : World} {A : Option Addr} {l : List Str} (h : Rs w A l) (k : Nat) : Rs w A (l.take k) := by
  rcases h.row with e | ⟨b, e, hb, hc⟩
  · exact ⟨.inl (by rw [Ss_take, e]; simp)⟩
  · refine ⟨.inr ⟨b, e, hb, fun j u hu => hc j u ?_⟩⟩
    rw [Ss_take, List.getElem?_take] at hu
    split at hu
    · exact hu
    · cases hu
theorem Rs.drop {w : World} {a : Addr} {l : List Str} (h : Rs w (some a) l) (k : Nat) : Rs w (some (a.add k)) (l.drop k) := by
  rcases h.row with e | ⟨b, e, hb, hc⟩
  · exact ⟨.inl (by rw [Ss_drop, e]; simp)⟩
  · injection e with e
    subst e
    refine ⟨.inr ⟨_, rfl, by rw [S2.add_block]; exact hb, fun j u hu => ?_⟩⟩
    rw [Go.Deep.add_add]
    exact hc _ u (by rw [Ss_drop, List.getElem?_drop] at hu; exact hu)
/-- A slice of strings of the call's own. -/
structure Own (w : World) (base : Nat) (v : Value) (l : List Str) : Prop where
  own : w.ownsRow base 9 1 v l.length (Ss l)
theorem Own.step {w w' : World} {base : Nat} {v : Value} {l : List Str} (h : Own w base v l) (hb : Below w.heap.size w w') : Own w' base v l := by
  have hg : w.grownBy w' none := ⟨hb.os, hb.tape, hb.output, hb.size, fun k hk _ => hb.block k hk⟩
  refine ⟨h.own.kept hg ?_⟩
  cases hv : v.ownBlock with
  | none => exact .inl rfl
  | some g => exact .inr (by simp)
theorem Own.alloc {w : World} {base : Nat} {v : Value} {l : List Str} (h : Own w base v l) (o : Obj) : Own (w.alloc o) base v l := ⟨h.own.alloc o⟩
theorem Own.drew {w : World} {base : Nat} {v : Value} {l : List Str} (h : Own w base v l) : Own w.drew base v l := ⟨h.own⟩
theorem Own.nil (w : World) (base : Nat) : Own w base (.slice none 0 0) [] := ⟨World.ownsRow_nil _ _ _ _⟩
theorem Own.mono {w : World} {base base' : Nat} {v : Value} {l : List Str} (h : Own w base v l) (hb : base' ≤ base) : Own w base' v l := by
  refine ⟨h.own.1, ?_⟩
  rcases h.own.2 with h1 | ⟨g, cap, cur, e, hb1, h2⟩
  · exact .inl h1
  · exact .inr ⟨g, cap, cur, e, Nat.le_trans hb hb1, h2⟩
theorem Own.sl {w : World} {base : Nat} {v : Value} {l : List Str} (h : Own w base v l) : ∃ (A : Option Addr) (c : Nat), v = .slice A l.length c ∧ l.length ≤ c := by
  rcases h.own.2 with ⟨rfl, h0⟩ | ⟨g, cap, cur, rfl, _, _, hc, _⟩
  · exact ⟨none, 0, by rw [h0], by omega⟩
  · exact ⟨_, cap, rfl, hc⟩
theorem Own.rs {w : World} {base n c : Nat} {A : Option Addr} {l : List Str} (h : Own w base (.slice A n c) l) : Rs w A l := by
  have h := h.own
  rcases h.2 with ⟨_, h0⟩ | ⟨g, cap, cur, hv, _, hh, _⟩
  · refine ⟨.inl ?_⟩
    have := h.1
    rw [h0] at this
    exact List.eq_nil_of_length_eq_zero (by simpa using this)
  · injection hv with hA _ _
    subst hA
    exact ⟨.inr ⟨_, rfl, (Array.getElem?_eq_some_iff.1 hh).1, h.cells (g := g) rfl⟩⟩
theorem infoStr : (Tryd.prog.info? 9).map (fun i => (i.zero, i.size, i.bytes)) = some (some (.string ⟨#[]⟩), 1, 16) := by kernel_rfl

/-! ### Numbers -/
theorem log_len (x : Nat) (h0 : x ≠ 0) (h : x < 2 ^ 64) : Lib.bitLen x = x.log2 + 1 := by
  have hb := Lib.bitLenAux_bounds 64 x h h0
  have h1 := Nat.log2_self_le (n := x) h0
  have h2 := Nat.lt_log2_self (n := x)
  obtain ⟨m, hm⟩ : ∃ m, Lib.bitLen x = m + 1 := ⟨Lib.bitLen x - 1, by unfold Lib.bitLen; omega⟩
  have hb' : 2 ^ (Lib.bitLen x - 1) ≤ x ∧ x < 2 ^ Lib.bitLen x := hb.2
  rw [hm, Nat.add_sub_cancel, Nat.pow_succ] at hb'
  rw [Nat.pow_succ] at h2
  rw [hm, pow_between (a := m) (b := x.log2) (by omega) (by omega)]
theorem sp_small (n : Nat) (h2 : 2 ≤ n) (h : n ≤ 9223372036854775807) : (sp n : Int) ≤ 4611686018427387904 := by
  have := sp_lt h2
  unfold sp at *
  have h3 : (n - 1).log2 < 63 := (Nat.pow_lt_pow_iff_right (by decide : 1 < 2)).1 (show 2 ^ (n - 1).log2 < 2 ^ 63 by omega)
  have : 2 ^ (n - 1).log2 ≤ 2 ^ 62 := Nat.pow_le_pow_right (by decide) (by omega)
  omega

set_option maxHeartbeats 1000000 in
theorem split_any (n : Nat) (w : World) (h2 : 2 ≤ n) (hn : n ≤ 9223372036854775807) :
    Calls Tryd.prog 45 #[.int .i64 (n : Int)] w fun e w' => e = .returned (.int .i64 (sp n : Nat)) ∧ w = w' := by
  have k := Tryd.bits_Len ((n - 1 : Nat) : Int) w (by omega) (by omega)
  rw [Int.toNat_natCast, log_len (n - 1) (by omega) (by omega)] at k
  have hs := sp_small n h2 hn
  have hl : (n - 1).log2 < 63 := (Nat.pow_lt_pow_iff_right (by decide : 1 < 2)).1 (show 2 ^ (n - 1).log2 < 2 ^ 63 from Nat.lt_of_le_of_lt (Nat.log2_self_le (n := n - 1) (by omega)) (by omega))
  obtain ⟨e, he⟩ : ∃ e, e = (n - 1).log2 := ⟨_, rfl⟩
  have hsp : (sp n : Int) = 2 ^ e := by unfold sp; rw [← he]; norm_cast
  obtain ⟨m, hm⟩ : ∃ m : Nat, n = m + 1 := ⟨n - 1, by omega⟩
  rw [← he] at k hl
  subst hm
  rw [Nat.add_sub_cancel, Int.natCast_add, Int.natCast_one] at k
  rw [hsp] at hs ⊢
  have hw : wrap64 (2 ^ e) = 2 ^ e := IntWalk.wrap64_in _ (by have : (0 : Int) ≤ 2 ^ e := Int.pow_nonneg (by decide); omega)
  have K := Lib.hid k
  have HW := Lib.hid hw
  rw [Int.natCast_add, Int.natCast_one]
  clear k he hsp hw
  go_enter Tryd.func45, Tryd.ntmps45
  go_wp2_with fail
  refine K.out.mono ?_
  rintro e' w1 ⟨rfl, rfl⟩
  go_wp2
  go_ret
  exact ⟨by show Ending.returned (.int .i64 (wrap64 (2 ^ e))) = _; rw [HW.out], rfl⟩

set_option maxHeartbeats 1000000 in
theorem cut_any (a : Addr) (n c : Nat) (w : World) (h2 : 2 ≤ n) (hm : n ≤ c) (hn : n ≤ 1000000) :
    Calls Tryd.prog 30 #[.slice (some a) n c] w fun e w' => e = .returned (.tuple #[.slice (some a) (sp n) (sp n), .slice (some (a.add (sp n))) (n - sp n) (n - sp n)]) ∧ Below w.heap.size w w' := by
  have k := fun w => split_any n w h2 (by omega)
  have h0 := sp_pos n
  have hk := sp_lt h2
  generalize sp n = k at *
  have hc : (n : Int) ≤ 1000000 := by omega
  have K := Lib.hid k
  clear k hn
  go_enter Tryd.func30, Tryd.ntmps30
  go_wp2_with fail
  refine (K.out _).mono ?_
  rintro e' w1 ⟨rfl, rfl⟩
  go_wp2
  go_region
  all_goals (try go_wp2)
  all_goals go_ret2
  all_goals exact ⟨rfl, (Below.refl _ _).drew⟩

set_option maxHeartbeats 1000000 in
theorem cutLast_any (a : Addr) (l : List Str) (q : Str) (c : Nat) (w : World) (hr : Rs w (some a) (l ++ [q])) (hm : l.length + 1 ≤ c) (hn : l.length ≤ 1000000) :
    Calls Tryd.prog 46 #[.slice (some a) (l.length + 1) c] w fun e w' => e = .returned (.tuple #[.slice (some a) l.length l.length, .string (S3.B q)]) ∧ Below w.heap.size w w' := by
  have hx := hr.drew.at_ (k := l.length) (by simp)
  simp only [List.getElem_concat_length] at hx
  generalize l.length = n at *
  have hc : (n : Int) ≤ 1000000 := by omega
  clear hn hr
  go_enter Tryd.func46, Tryd.ntmps46
  go_wp2
  go_region
  all_goals (try go_wp2)
  all_goals go_ret2
  all_goals exact ⟨rfl, (Below.refl _ _).drew⟩

/-! ### The digest -/
theorem sha_any (l : Str) (w : World) (hW : S3.Laid w) (h : l.length ≤ 1000000) : Calls Tryd.prog 27 #[.string (S3.B l)] w fun e w' => e = .returned (.string (S3.B (H l))) ∧ Below w.heap.size w w' :=
  S3.sha_any w w l (by omega) hW (Below.refl _ _)
theorem rsha_any (l : Str) (w : World) (h : l.length ≤ 4000) : Calls Tryd.prog 28 #[.string (S3.B l)] w fun e w' => e = .returned (.string (S3.B (H l))) ∧ Below w.heap.size w w' :=
  S3.refSha_any l w h
theorem lit0 : (⟨#[0]⟩ : ByteArray) = S3.B [0] := rfl
theorem lit1 : (⟨#[1]⟩ : ByteArray) = S3.B [1] := rfl
theorem litN : (⟨#[]⟩ : ByteArray) = S3.B [] := rfl
attribute [local go_sem] S3.B_size S3.B_app lit0 lit1

set_option maxHeartbeats 1000000 in
theorem leaf_any (s : Str) (w : World) (hW : S3.Laid w) (h : s.length ≤ 100000) : Calls Tryd.prog 11 #[.string (S3.B s)] w fun e w' => e = .returned (.string (S3.B (leaf s))) ∧ Below w.heap.size w w' := by
  have k := sha_any (0 :: s) w hW (by simp; omega)
  rw [show H (0 :: s) = leaf s from rfl] at k
  generalize leaf s = r at *
  have K := Lib.hid k
  clear k hW
  go_enter Tryd.func11, Tryd.ntmps11
  go_wp2_with fail
  refine K.out.mono ?_
  rintro e' w1 ⟨rfl, hb⟩
  have HB := Lib.hid hb
  clear hb
  go_wp2
  go_ret
  exact ⟨rfl, HB.out⟩
set_option maxHeartbeats 1000000 in
theorem rleaf_any (s : Str) (w : World) (h : s.length ≤ 1000) : Calls Tryd.prog 12 #[.string (S3.B s)] w fun e w' => e = .returned (.string (S3.B (leaf s))) ∧ Below w.heap.size w w' := by
  have k := rsha_any (0 :: s) w (by simp; omega)
  rw [show H (0 :: s) = leaf s from rfl] at k
  generalize leaf s = r at *
  have K := Lib.hid k
  clear k
  go_enter Tryd.func12, Tryd.ntmps12
  go_wp2_with fail
  refine K.out.mono ?_
  rintro e' w1 ⟨rfl, hb⟩
  have HB := Lib.hid hb
  clear hb
  go_wp2
  go_ret
  exact ⟨rfl, HB.out⟩
set_option maxHeartbeats 1000000 in
theorem node_any (l r : Str) (w : World) (hW : S3.Laid w) (h1 : l.length ≤ 100000) (h2 : r.length ≤ 100000) : Calls Tryd.prog 33 #[.string (S3.B l), .string (S3.B r)] w fun e w' => e = .returned (.string (S3.B (node l r))) ∧ Below w.heap.size w w' := by
  have k := sha_any (pre l r) w hW (by simp [pre]; omega)
  rw [show H (pre l r) = node l r from rfl, show pre l r = 1 :: (l ++ r) from rfl] at k
  generalize node l r = x at *
  have K := Lib.hid k
  clear k hW
  go_enter Tryd.func33, Tryd.ntmps33
  go_wp2_with fail
  refine K.out.mono ?_
  rintro e' w1 ⟨rfl, hb⟩
  have HB := Lib.hid hb
  clear hb
  go_wp2
  go_ret
  exact ⟨rfl, HB.out⟩
set_option maxHeartbeats 1000000 in
theorem rpre_any (l r : Str) (w : World) (h1 : l.length ≤ 1000) (h2 : r.length ≤ 1000) : Calls Tryd.prog 40 #[.string (S3.B l), .string (S3.B r)] w fun e w' => e = .returned (.string (S3.B (pre l r))) ∧ w = w' := by
  go_enter Tryd.func40, Tryd.ntmps40
  go_wp2
  go_ret
  exact ⟨rfl, rfl⟩
set_option maxHeartbeats 1000000 in
theorem rnode_any (l r : Str) (w : World) (h1 : l.length ≤ 1000) (h2 : r.length ≤ 1000) : Calls Tryd.prog 35 #[.string (S3.B l), .string (S3.B r)] w fun e w' => e = .returned (.string (S3.B (node l r))) ∧ Below w.heap.size w w' := by
  have k := rsha_any (pre l r) w (by simp [pre]; omega)
  have k1 := rpre_any l r w h1 h2
  rw [show H (pre l r) = node l r from rfl] at k
  generalize node l r = x at *
  generalize pre l r = y at *
  have K := Lib.hid k
  have K1 := Lib.hid k1
  clear k k1
  go_enter Tryd.func35, Tryd.ntmps35
  go_wp2_with fail
  refine K1.out.mono ?_
  rintro e' w1 ⟨rfl, rfl⟩
  go_wp2_with fail
  refine K.out.mono ?_
  rintro e' w1 ⟨rfl, hb⟩
  have HB := Lib.hid hb
  clear hb
  go_wp2
  go_ret
  exact ⟨rfl, HB.out⟩
set_option maxHeartbeats 1000000 in
theorem rsplit_any (n : Nat) (w : World) (h2 : 2 ≤ n) (hn : n ≤ 9223372036854775807) :
    Calls Tryd.prog 34 #[.int .i64 (n : Int)] w fun e w' => e = .returned (.int .i64 (sp n : Nat)) ∧ w = w' := by
  have hn' : (n : Int) ≤ 9223372036854775807 := by omega
  obtain ⟨r, hr⟩ : ∃ r, r = sp n := ⟨_, rfl⟩
  rw [← hr]
  have HR := Lib.hid hr
  clear hr hn
  go_enter Tryd.func34, Tryd.ntmps34
  go_wp2
  go_loop [3] (fun v => ∃ k : Nat, v = .int .i64 (k : Int) ∧ k < n ∧ 1 ≤ k ∧ (∃ e, k = 2 ^ e)) (fun v => n - (intOf v).toNat)
  case atStart => exact ⟨1, rfl, by omega, by omega, 0, rfl⟩
  case round =>
    obtain ⟨k, rfl, hlt, h1, he⟩ := hrel
    have HE := Lib.hid he
    clear he
    by_cases hc : k + k < n
    · have hc' : (k : Int) < (n : Int) - (k : Int) := by omega
      go_wp2
      go_round
      case rel => exact ⟨2 * k, by go_num, by omega, by omega, by obtain ⟨e, he⟩ := HE.out; exact ⟨e + 1, by rw [he, Nat.pow_succ]; omega⟩⟩
      case measure => simp [intOf]; omega
    · have hc' : ¬ (k : Int) < (n : Int) - (k : Int) := by omega
      go_wp2
      go_ret
      have hk : sp n = k := by
        obtain ⟨e, he⟩ := HE.out
        rw [he]
        exact sp_uniq (by omega) (by omega)
      exact ⟨by rw [HR.out, hk]; rfl, rfl⟩
end Mk
end Go.Proofs.YtfemgakfckabhaaDoor
