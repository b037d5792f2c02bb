/-
  CodeBase, CodeRow, CodePut, CodeRef: joined.
-/
import Derived.Test.YtojbicpchjiplaaGreatDoorRows
import Derived.Test.YtojbicpchjiplaaGreatDoorCodeDec
import Derived.WalkKit
import Derived.WalkSpells
import Derived.WalkLawsBesides
import Derived.Lib.Hide
import Derived.PlainAid
import Derived.Handy
import Derived.Deep.QuietTactic
import Derived.BigQuiet
import Derived.OwnWalk
import Derived.Laws.IdiomStrings
import Derived.Lib.AppendStr
import Derived.Deep.RegionWith
import Derived.RegionTactic
import Derived.Outline
import Derived.IntWalk
/-
  Layer 2 (code): words for memory, and the writer's putNum.
-/
namespace Go.Proofs.YtojbicpchjiplaaGreatDoor.S2
open Go.RowKit
open Cd

/-- The bytes as cells. -/
def U (l : List UInt8) : List Value := l.map fun b => Value.int .u8 b.toNat
/-- The string of these bytes. -/
def B (l : List UInt8) : ByteArray := ⟨l.toArray⟩
theorem U_length (l : List UInt8) : (U l).length = l.length := by simp [U]
theorem U_append (l r : List UInt8) : U (l ++ r) = U l ++ U r := by simp [U]
theorem infoByte : (Tryz.prog.info? 5).map (fun i => (i.zero, i.size, i.bytes)) = some (some (.int .u8 0), 1, 1) := by kernel_rfl

/-- The call hands back a slice of its own that holds just these bytes; below 'base' all is as it was. -/
def BRes (base : Nat) (W : World) (l : List UInt8) (e : Ending) (w' : World) : Prop :=
  ∃ v, e = .returned v ∧ w'.ownsRow base 5 1 v l.length (U l) ∧ Below base W w'
theorem one_cell {w : World} {v : Value} {t : TypeId} : ∀ (j : Nat) (u : Value), [v][j]? = some u → (w.alloc (.cells #[v] t)).cell? ((⟨w.heap.size, 0, none⟩ : Addr).add j) = some u := by
  intro j u hj
  match j, hj with
  | 0, hj => simp at hj; subst hj; simp [Addr.add]
theorem own_cong {w : World} {base : Nat} {e : TypeId} {v : Value} {n m : Nat} {xs ys : List Value} (h : w.ownsRow base e 1 v n xs) (hn : n = m) (hx : xs = ys) : w.ownsRow base e 1 v m ys := by
  subst hn; subst hx; exact h

/-- What 'putNum's loop keeps. -/
def PN (base : Nat) (t : List UInt8) (w : World) (o m : Value) (wr : World) : Prop :=
  ∃ (j x : Nat) (q : List UInt8), m = .int .i64 (x : Int) ∧ j ≤ 8 ∧ x < 128 ^ (9 - j) ∧ q ++ vi (8 - j) x = t ∧ wr.ownsRow base 5 1 o q.length (U q) ∧ Below base w wr

theorem own_push {base : Nat} {w wr w1 : World} {o v' : Value} {q : List UInt8} {b : Nat} {y : Int} {c : Value} {t : TypeId} (hb8 : b < 256) (hy : y = (b : Int)) (hbase : base ≤ wr.heap.size)
    (hown : wr.ownsRow base 5 1 o q.length (U q)) (hb : Below base w wr) (hown' : w1.ownsRow base 5 1 v' (q.length + 1) (U q ++ [.int .u8 y])) (hg : (wr.alloc (.cells #[c] t)).grownBy w1 o.ownBlock) :
    w1.ownsRow base 5 1 v' (q ++ [UInt8.ofNat b]).length (U (q ++ [UInt8.ofNat b])) ∧ Below base w w1 := by
  subst hy
  refine ⟨own_cong hown' (by simp) ?_, (hb.alloc hbase _).grown hg (by simp; omega) (fun k hk => ((hown.alloc (.cells #[c] t)).lt k hk).1)⟩
  rw [U_append]
  congr 1
  simp only [U, List.map_cons, List.map_nil]
  rw [ofNat_toNat' _ hb8]

theorem pn_step {base : Nat} {t : List UInt8} {w w1 : World} {v' : Value} {x j : Nat} {q : List UInt8} (hx : 128 ≤ x) (hj : j ≤ 8) (hlt : x < 128 ^ (9 - j))
    (he : q ++ vi (8 - j) x = t) (R : w1.ownsRow base 5 1 v' (q ++ [UInt8.ofNat (x % 128 + 128)]).length (U (q ++ [UInt8.ofNat (x % 128 + 128)])) ∧ Below base w w1) :
    PN base t w v' (.int .i64 ((x : Int) / 128)) w1 := by
  have hj8 : j < 8 := by
    rcases Nat.lt_or_ge j 8 with h | h
    · exact h
    · have : j = 8 := by omega
      rw [this] at hlt
      omega
  refine ⟨j + 1, x / 128, q ++ [UInt8.ofNat (x % 128 + 128)], by simp, by omega, ?_, ?_, R.1, R.2⟩
  · have e : 9 - j = (9 - (j + 1)) + 1 := by omega
    rw [e, Nat.pow_succ] at hlt
    omega
  · have e : 8 - j = (8 - (j + 1)) + 1 := by omega
    rw [e, vi, if_neg (by omega)] at he
    rw [List.append_assoc]
    exact he

theorem pn_end {base : Nat} {t : List UInt8} {w w1 : World} {v' : Value} {x j : Nat} {q : List UInt8} (hx : x < 128) (he : q ++ vi (8 - j) x = t)
    (R : w1.ownsRow base 5 1 v' (q ++ [UInt8.ofNat x]).length (U (q ++ [UInt8.ofNat x])) ∧ Below base w w1) : BRes base w t (.returned v') w1 := by
  have e1 : ∀ k, vi k x = [UInt8.ofNat x] := fun k => by cases k <;> simp [vi, hx]
  rw [e1] at he
  subst he
  exact ⟨_, rfl, R⟩

set_option maxHeartbeats 400000 in
set_option maxRecDepth 100000 in
theorem putNum_any (base : Nat) (l : List UInt8) (v : Value) (n : Nat) (w : World) (hb : base ≤ w.heap.size) (hown : w.ownsRow base 5 1 v l.length (U l)) (hl : l.length ≤ 1099511627776) (hn : n < 9223372036854775808) :
    Calls Tryz.prog 124 #[v, .int .i64 (n : Int)] w (BRes base w (l ++ encN n)) := by
  obtain ⟨i0, hi, hz0, hz1, hz2⟩ := info_parts infoByte
  have h0 : (0 : Int) ≤ n := by omega
  have h1 : (n : Int) ≤ 9223372036854775807 := by omega
  obtain ⟨t, ht⟩ : ∃ t, t = l ++ encN n := ⟨_, rfl⟩
  have htl : t.length ≤ 1099511627785 := by rw [ht, List.length_append]; have := encN_len n; omega
  have start : PN base t w v (.int .i64 (n : Int)) w := ⟨0, n, l, rfl, by omega, by simpa using hn, by rw [ht]; rfl, hown, Below.refl _ _⟩
  rw [← ht]
  clear ht hn hown hl
  go_enter Tryz.func124, Tryz.ntmps124
  go_wp2
  go_loopw [0, 1] (fun o m wr => PN base t w o m wr) (fun _ m _ => (intOf m).toNat)
  case atStart => exact start
  case round =>
    obtain ⟨j, x, q, rfl, hj, hlt, he, hown, hbel⟩ := hrel
    have hbase : base ≤ wr.heap.size := Nat.le_trans hb hbel.size
    have hx9 : x < 9223372036854775808 := Nat.lt_of_lt_of_le hlt (Nat.le_trans (Nat.pow_le_pow_right (by omega) (show 9 - j ≤ 9 by omega)) (by decide))
    have hx0 : (0 : Int) ≤ x := by omega
    have hx1 : (x : Int) ≤ 9223372036854775807 := by omega
    have hll : q.length ≤ 1099511627785 := by rw [← he, List.length_append] at htl; omega
    have HE := Lib.hid he
    have HL := Lib.hid hlt
    have HT := Lib.hid htl
    clear he hlt hx9 htl
    by_cases hc : 128 ≤ x
    · have hc' : (128 : Int) ≤ x := by omega
      go_wp2_with (at_builtin; refine wpList_append_own _ rfl _ _ 100 rfl base 5 i0 (.int .u8 0) 1 1 Tryz.underlying100 hi hz0 hz1 hz2 rfl (by decide) _ _ _ rfl (hown.alloc _) ⟨wr.heap.size, 0, none⟩ 1 1 [.int .u8 ((x : Int) % 128 + 128)] rfl rfl one_cell (fun u hu => by simp at hu; subst hu; rfl) (by unfold maxLen; omega) (by omega) (by simp; omega) ?_)
      intro v' w1 hown' hgrow _
      have R := pn_step hc hj HL.out HE.out (own_push (by omega) (by simp) hbase hown hbel hown' hgrow)
      clear hown' hgrow hown
      go_wp2
      go_roundw
      case rel => exact R
      case measure => simp [intOf]; omega
    · have hc' : (x : Int) < 128 := by omega
      go_wp2_with (at_builtin; refine wpList_append_own _ rfl _ _ 100 rfl base 5 i0 (.int .u8 0) 1 1 Tryz.underlying100 hi hz0 hz1 hz2 rfl (by decide) _ _ _ rfl (hown.alloc _) ⟨wr.heap.size, 0, none⟩ 1 1 [.int .u8 (x : Int)] rfl rfl one_cell (fun u hu => by simp at hu; subst hu; rfl) (by unfold maxLen; omega) (by omega) (by simp; omega) ?_)
      intro v' w1 hown' hgrow _
      have R := pn_end (by omega) HE.out (own_push (by omega) rfl hbase hown hbel hown' hgrow)
      clear hown' hgrow hown
      go_wp2
      go_ret
      exact R
end Go.Proofs.YtojbicpchjiplaaGreatDoor.S2

/-
  Layer 2 (code): a slice that came in or was handed on, read as a list; the conversions between strings and bytes.
-/
namespace Go.Proofs.YtojbicpchjiplaaGreatDoor.S2
open Go.RowKit
open Cd

theorem add_block (a : Addr) (n : Nat) : (a.add n).block = a.block := by unfold Addr.add; split <;> rfl
/-- The slice value of address A holds the cells xs, below block number bd. -/
def Row (w : World) (bd : Nat) (A : Option Addr) (xs : List Value) : Prop :=
  xs = [] ∨ ∃ a, A = some a ∧ a.block < bd ∧ ∀ j u, xs[j]? = some u → w.cell? (a.add j) = some u
theorem Row.below {w w' : World} {bd : Nat} {A : Option Addr} {xs : List Value} (h : Row w bd A xs) (hb : Below bd w w') : Row w' bd A xs := by
  rcases h with h | ⟨a, rfl, hlt, hc⟩
  · exact .inl h
  · exact .inr ⟨a, rfl, hlt, fun j u hu => (hb.cell (p := a.add j) (by rw [add_block]; exact hlt)).trans (hc j u hu)⟩
theorem Row.more {w : World} {bd bd' : Nat} {A : Option Addr} {xs : List Value} (h : Row w bd A xs) (hb : bd ≤ bd') : Row w bd' A xs := by
  rcases h with h | ⟨a, rfl, hlt, hc⟩
  · exact .inl h
  · exact .inr ⟨a, rfl, by omega, hc⟩
theorem Row.grown {w w' : World} {bd : Nat} {row : Option Nat} {A : Option Addr} {xs : List Value} (h : Row w bd A xs) (hb : bd ≤ w.heap.size) (hg : w.grownBy w' row) (hr : ∀ k, row = some k → bd ≤ k) : Row w' bd A xs := by
  rcases h with h | ⟨a, rfl, hlt, hc⟩
  · exact .inl h
  · refine .inr ⟨a, rfl, hlt, fun j u hu => (World.cell?_of_block (hg.block _ ?_ ?_)).trans (hc j u hu)⟩
    · rw [add_block]; omega
    · rw [add_block]; intro e; have := hr _ e.symm; omega
theorem Row.at_ {w : World} {bd : Nat} {A : Option Addr} {xs : List Value} (h : Row w bd A xs) {k : Nat} (hk : k < xs.length) : ∃ a, A = some a ∧ a.block < bd ∧ w.cell? (a.add k) = some xs[k] := by
  rcases h with rfl | ⟨a, rfl, hlt, hc⟩
  · simp at hk
  · exact ⟨a, rfl, hlt, hc k _ (List.getElem?_eq_getElem hk)⟩
theorem Row.of_own {w : World} {base n c : Nat} {e : TypeId} {A : Option Addr} {xs : List Value} (h : w.ownsRow base e 1 (.slice A n c) n xs) : Row w w.heap.size A xs := by
  rcases h.2 with ⟨_, h0⟩ | ⟨g, cap, cur, hv, _, hh, _⟩
  · left
    have := h.1
    rw [h0] at this
    exact List.eq_nil_of_length_eq_zero (by simpa using this)
  · injection hv with hA _ _
    subst hA
    exact .inr ⟨_, rfl, (Array.getElem?_eq_some_iff.1 hh).1, h.cells (g := g) rfl⟩

def Ss (ss : List (List UInt8)) : List Value := ss.map fun s => Value.string (B s)
def Zs (zs : List Int) : List Value := zs.map (Value.int .i64)
theorem Ss_length (ss : List (List UInt8)) : (Ss ss).length = ss.length := by simp [Ss]
theorem Zs_length (zs : List Int) : (Zs zs).length = zs.length := by simp [Zs]
theorem Ss_get (ss : List (List UInt8)) (k : Nat) (h : k < (Ss ss).length) : (Ss ss)[k] = .string (B (ss[k]'(by simpa [Ss] using h))) := by simp [Ss]
theorem Zs_get (zs : List Int) (k : Nat) (h : k < (Zs zs).length) : (Zs zs)[k] = .int .i64 (zs[k]'(by simpa [Zs] using h)) := by simp [Zs]
theorem Row.str {w : World} {bd : Nat} {A : Option Addr} {ss : List (List UInt8)} (h : Row w bd A (Ss ss)) {k : Nat} (hk : k < ss.length) : ∃ a, A = some a ∧ a.block < bd ∧ w.cell? (a.add k) = some (.string (B ss[k])) := by
  obtain ⟨a, h1, h2, h3⟩ := h.at_ (k := k) (by rw [Ss_length]; exact hk)
  exact ⟨a, h1, h2, by rw [h3, Ss_get]⟩
theorem Row.num {w : World} {bd : Nat} {A : Option Addr} {zs : List Int} (h : Row w bd A (Zs zs)) {k : Nat} (hk : k < zs.length) : ∃ a, A = some a ∧ a.block < bd ∧ w.cell? (a.add k) = some (.int .i64 zs[k]) := by
  obtain ⟨a, h1, h2, h3⟩ := h.at_ (k := k) (by rw [Zs_length]; exact hk)
  exact ⟨a, h1, h2, by rw [h3, Zs_get]⟩

/-- 'string(b)' of a slice of the call's own. -/
theorem conv_own {w : World} {base : Nat} {v : Value} {l : List UInt8} (h : w.ownsRow base 5 1 v l.length (U l)) :
    (convert 100 9 v).run Tryz.prog w = .ok (.string (B l)) w := by
  rcases h.2 with ⟨rfl, h0⟩ | ⟨g, cap, cur, rfl, _⟩
  · obtain rfl : l = [] := List.eq_nil_of_length_eq_zero h0
    rw [run_convert_bytes_string w 100 9 5 none 0 0 Tryz.underlying100 Tryz.underlying5 Tryz.underlying9]
    rfl
  · exact run_convert_bytes_back w 100 9 5 ⟨g, 0, none⟩ cap l Tryz.underlying100 Tryz.underlying5 Tryz.underlying9 (fun j hj => h.cells (g := g) rfl j _ (by simp [U, hj]))
end Go.Proofs.YtojbicpchjiplaaGreatDoor.S2

/-
  Layer 2 (code): the writer: putInt, putText, putList, and Num, Int, Text, List, Nums.
-/
namespace Go.Proofs.YtojbicpchjiplaaGreatDoor.S2
open Go.RowKit
open Cd

set_option maxHeartbeats 400000 in
theorem putNum_neg (base : Nat) (l : List UInt8) (v : Value) (m : Int) (w : World) (hown : w.ownsRow base 5 1 v l.length (U l)) (h0 : m < 0) :
    Calls Tryz.prog 124 #[v, .int .i64 m] w (BRes base w l) := by
  go_enter Tryz.func124, Tryz.ntmps124
  go_wp2
  go_ret
  exact ⟨_, rfl, hown, Below.refl _ _⟩

set_option maxHeartbeats 400000 in
theorem putText_any (base : Nat) (l : List UInt8) (v : Value) (s : List UInt8) (w : World) (hb : base ≤ w.heap.size) (hown : w.ownsRow base 5 1 v l.length (U l)) (hl : l.length + s.length ≤ 1099511627776) :
    Calls Tryz.prog 123 #[v, .string (B s)] w (BRes base w (l ++ encT s)) := by
  obtain ⟨i0, hi, hz0, hz1, hz2⟩ := info_parts infoByte
  have hsz : (B s).size = s.length := by simp [B, ByteArray.size]
  have hn := encN_len s.length
  have H := putNum_any base l v (B s).size w hb hown (by omega) (by omega)
  obtain ⟨q, hq⟩ : ∃ q, q = l ++ encN (B s).size := ⟨_, rfl⟩
  have hql : q.length ≤ l.length + 9 := by rw [hq, List.length_append, hsz]; omega
  rw [← hq] at H
  have e : l ++ encT s = q ++ s := by rw [hq, hsz]; unfold encT; rw [List.append_assoc]
  rw [e]
  have hs2 : (B s).size ≤ 1099511627776 := by omega
  have H' := Lib.hid H
  have HS := Lib.hid hsz
  clear H hq e hsz
  go_enter Tryz.func123, Tryz.ntmps123
  go_wp2_with fail
  refine H'.out.mono ?_
  rintro e w1 ⟨v1, rfl, h1, h2⟩
  go_wp2_with (at_builtin; refine Lib.wpList_append_own_string _ rfl _ _ 100 9 rfl base 5 i0 Tryz.underlying100 Tryz.underlying9 hi hz0 hz1 hz2 _ _ _ rfl h1 (B s) rfl (by unfold maxLen; omega) (by omega) (by have := h2.size; omega) ?_)
  intro v2 w2 hown2 hgrow _
  have R : BRes base w (q ++ s) (.returned v2) w2 := ⟨_, rfl, own_cong hown2 (by rw [HS.out, List.length_append]) (by rw [U_append]; rfl), h2.grown hgrow (by have := h2.size; omega) (fun k hk => (h1.lt k hk).1)⟩
  clear hown2 hgrow
  go_wp2
  go_ret
  exact R

theorem encT_le (s : List UInt8) : s.length ≤ (encT s).length := by unfold encT; rw [List.length_append]; omega
/-- What 'putList[string]'s loop keeps. -/
def PLT (base : Nat) (q : List UInt8) (ls : List (List UInt8)) (w : World) (o i : Value) (wr : World) : Prop :=
  ∃ k : Nat, i = .int .i64 (k : Int) ∧ k ≤ ls.length ∧ wr.ownsRow base 5 1 o (q ++ encM encT (ls.take k)).length (U (q ++ encM encT (ls.take k))) ∧ Below base w wr
set_option maxHeartbeats 400000 in
set_option maxRecDepth 100000 in
theorem putListT_any (base : Nat) (l : List UInt8) (v : Value) (A : Option Addr) (ls : List (List UInt8)) (cap : Nat) (w : World) (hb : base ≤ w.heap.size) (hown : w.ownsRow base 5 1 v l.length (U l)) (hr : Row w base A (Ss ls))
    (hn : ls.length ≤ 1099511627776) (hl : l.length + 9 + (encM encT ls).length ≤ 1099511627776) :
    Calls Tryz.prog 125 #[v, .slice A ls.length cap, .func (.func 123) #[] #[]] w (BRes base w (l ++ encL encT ls)) := by
  have h9 := encN_len ls.length
  have H := putNum_any base l v ls.length w hb hown (by omega) (by omega)
  obtain ⟨q, hq⟩ : ∃ q, q = l ++ encN ls.length := ⟨_, rfl⟩
  have hql : q.length ≤ l.length + 9 := by rw [hq, List.length_append]; omega
  have e : l ++ encL encT ls = q ++ encM encT ls := by rw [hq]; unfold encL; rw [List.append_assoc]
  rw [← hq] at H
  rw [e]
  have H' := Lib.hid H
  clear H hq e hown
  have hn2 : (ls.length : Int) ≤ 1099511627776 := by omega
  have hpre : ∀ k, (q ++ encM encT (ls.take k)).length ≤ 1099511627776 := by
    intro k
    have e1 : (encM encT ls).length = (encM encT (ls.take k)).length + (encM encT (ls.drop k)).length := by
      rw [← List.length_append, ← encM_append, List.take_append_drop]
    rw [List.length_append]
    omega
  have HP := Lib.hid hpre
  have HL := Lib.hid hl
  clear hpre hl
  go_enter Tryz.func125, Tryz.ntmps125
  go_wp2_with fail
  refine H'.out.mono ?_
  rintro e w1 ⟨v1, rfl, h1, h2⟩
  go_wp2_with fail
  go_loopw [0, 15] (fun o i wr => PLT base q ls w o i wr) (fun _ i _ => ls.length - (intOf i).toNat)
  case atStart => exact ⟨0, rfl, by omega, by simpa [encM] using h1, h2⟩
  case round =>
    obtain ⟨k, rfl, hk, hown, hbel⟩ := hrel
    have hbase : base ≤ wr.heap.size := Nat.le_trans hb hbel.size
    by_cases hlt : k < ls.length
    · have hlt' : (k : Int) < ls.length := by omega
      obtain ⟨a, rfl, hab, hcell⟩ := (hr.below hbel).str hlt
      have hel := (show (encT ls[k]).length + (q ++ encM encT (ls.take k)).length ≤ 1099511627776 from by have := HP.out (k + 1); rw [encM_take ls k hlt, ← List.append_assoc, List.length_append] at this; omega)
      have HC := Lib.hid (putText_any base (q ++ encM encT (ls.take k)) u0 ls[k] wr hbase hown (by have := encT_le ls[k]; omega))
      clear h1 h2 hr
      obtain ⟨x, hx⟩ : ∃ x, x = ls[k] := ⟨_, rfl⟩
      have hst : q ++ encM encT (ls.take k) ++ encT x = q ++ encM encT (ls.take (k + 1)) := by rw [encM_take ls k hlt, ← List.append_assoc, hx]
      rw [← hx] at hcell HC
      have HS := Lib.hid hst
      have HX := Lib.hid hx
      clear hst hx hown hel
      go_wp2_with fail
      refine HC.out.mono ?_
      rintro e w2 ⟨v2, rfl, h3, h4⟩
      rw [HS.out] at h3
      have R : PLT base q ls w v2 (.int .i64 ((k : Int) + 1)) w2 := ⟨k + 1, by simp, hlt, h3, hbel.trans h4⟩
      clear h3 h4 hbel
      go_wp2
      go_roundw
      case rel => exact R
      case measure => simp [intOf]; omega
    · obtain rfl : k = ls.length := by omega
      rw [List.take_length] at hown
      have R : BRes base w (q ++ encM encT ls) (.returned u0) wr := ⟨_, rfl, hown, hbel⟩
      clear hown hbel h1 h2 hr
      go_wp2
      go_ret
      exact R

/-! ### The functions of the package -/
/-- The string of these bytes is handed back; what was there is ls it was. -/
def SRes (W : World) (l : List UInt8) (e : Ending) (w' : World) : Prop := e = .returned (.string (B l)) ∧ Below W.heap.size W w'

set_option maxHeartbeats 400000 in
theorem cNum_any (n : Nat) (w : World) (hn : n < 9223372036854775808) :
    Calls Tryz.prog 56 #[.int .i64 (n : Int)] w (SRes w (encN n)) := by
  have H := Lib.hid (putNum_any w.heap.size [] (.slice none 0 0) n w (Nat.le_refl _) (World.ownsRow_nil _ _ _ _) (by simp) hn)
  go_enter Tryz.func56, Tryz.ntmps56
  go_wp2_with fail
  refine H.out.mono ?_
  rintro e w1 ⟨v1, rfl, h1, h2⟩
  have hcv := conv_own h1
  simp only [List.nil_append] at hcv
  go_wp2
  go_ret
  exact ⟨rfl, h2⟩

set_option maxHeartbeats 400000 in
theorem cNum_neg (n : Int) (w : World) (hn : n < 0) :
    Calls Tryz.prog 56 #[.int .i64 n] w (SRes w []) := by
  have H := Lib.hid (putNum_neg w.heap.size [] (.slice none 0 0) n w (World.ownsRow_nil _ _ _ _) hn)
  go_enter Tryz.func56, Tryz.ntmps56
  go_wp2_with fail
  refine H.out.mono ?_
  rintro e w1 ⟨v1, rfl, h1, h2⟩
  have hcv := conv_own h1
  go_wp2
  go_ret
  exact ⟨rfl, h2⟩

set_option maxHeartbeats 400000 in
theorem cText_any (s : List UInt8) (w : World) (hs : s.length ≤ 1099511627776) :
    Calls Tryz.prog 55 #[.string (B s)] w (SRes w (encT s)) := by
  have H := Lib.hid (putText_any w.heap.size [] (.slice none 0 0) s w (Nat.le_refl _) (World.ownsRow_nil _ _ _ _) (by simpa using hs))
  go_enter Tryz.func55, Tryz.ntmps55
  go_wp2_with fail
  refine H.out.mono ?_
  rintro e w1 ⟨v1, rfl, h1, h2⟩
  have hcv := conv_own h1
  simp only [List.nil_append] at hcv
  go_wp2
  go_ret
  exact ⟨rfl, h2⟩

set_option maxHeartbeats 400000 in
theorem cList_any (A : Option Addr) (ls : List (List UInt8)) (cap : Nat) (w : World) (hr : Row w w.heap.size A (Ss ls)) (hn : ls.length ≤ 1099511627776) (hl : (encM encT ls).length ≤ 1099511627767) :
    Calls Tryz.prog 57 #[.slice A ls.length cap] w (SRes w (encL encT ls)) := by
  have H := Lib.hid (putListT_any w.heap.size [] (.slice none 0 0) A ls cap w (Nat.le_refl _) (World.ownsRow_nil _ _ _ _) hr (by omega) (by simp; omega))
  go_enter Tryz.func57, Tryz.ntmps57
  go_wp2_with fail
  refine H.out.mono ?_
  rintro e w1 ⟨v1, rfl, h1, h2⟩
  have hcv := conv_own h1
  simp only [List.nil_append] at hcv
  go_wp2
  go_ret
  exact ⟨rfl, h2⟩

end Go.Proofs.YtojbicpchjiplaaGreatDoor.S2

/-
  Layer 2: the document's own answers (agoraref02): the writer.
-/
namespace Go.Proofs.YtojbicpchjiplaaGreatDoor.S2
open Go.RowKit
open Cd

theorem B_size' (l : List UInt8) : (B l).size = l.length := by simp [B, ByteArray.size]
theorem B_app' (a b : List UInt8) : B a ++ B b = B (a ++ b) := by
  have h : (B a ++ B b).data.toList = a ++ b := by
    rw [ByteArray.data_append, Array.toList_append]
    rfl
  calc B a ++ B b = B (B a ++ B b).data.toList := rfl
    _ = B (a ++ b) := by rw [h]
attribute [local go_sem] B_size' B_app'

/-! ### Int, Text, List, Nums -/
end Go.Proofs.YtojbicpchjiplaaGreatDoor.S2
