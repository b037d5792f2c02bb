/-
  CodeRd, CodeRd2: joined.
-/
import Derived.Test.YtojbicpchjiplaaGreatDoorCodePut
import Derived.LoopTactic
import Derived.Outline
/-
  Layer 2 (code): the reader: fail, Left, Done, Take, Num, Int, Text.
-/
namespace Go.Proofs.YtojbicpchjiplaaGreatDoor.S2
open Go.RowKit
open Cd

/-- What is left of a reader's input. -/
def lft (s : St) : List UInt8 := s.getD []
/-- The two cells of a reader. -/
def rc (s : St) : Array Value := #[.string (B (lft s)), .bool s.isNone]
/-- Whether all has been read without a failure. -/
def dn : St → Bool
  | some [] => true
  | _ => false
def takeI (n : Int) (l : List UInt8) : Option (List UInt8 × List UInt8) := if 0 ≤ n then takeN n.toNat l else none
theorem B_size (l : List UInt8) : (B l).size = l.length := by simp [B, ByteArray.size]
theorem B_eq {a : ByteArray} {l : List UInt8} (h : a.data.toList = l) : a = B l := by
  subst h; rfl
theorem B_drop (l : List UInt8) (k : Nat) : (B l).extract k (B l).size = B (l.drop k) := by
  apply B_eq
  rw [ByteArray.data_extract, Array.toList_extract, B_size]
  simp only [List.extract, B]
  exact List.take_of_length_le (by simp)
theorem B_take (l : List UInt8) (k : Nat) : (B l).extract 0 k = B (l.take k) := by
  apply B_eq
  rw [ByteArray.data_extract, Array.toList_extract]
  simp [List.extract, B]
theorem B_drop' (l : List UInt8) (k : Nat) : (B l).extract k l.length = B (l.drop k) := by rw [← B_drop, B_size]
theorem B_list (l : List UInt8) : (B l).toList = l := by rw [ByteArray.toList_eq]; rfl
theorem B_app (a b : List UInt8) : B a ++ B b = B (a ++ b) := by
  apply B_eq
  rw [ByteArray.data_append, Array.toList_append]
  rfl
attribute [local go_sem] B_size B_drop' B_take B_list B_app
/-- Block g is a reader in this state. -/
def Rd (T : TypeId) (w : World) (g : Nat) (s : St) : Prop := w.heap[g]? = some (.cells (rc s) T (0, 0))
theorem cell_at {w : World} {g : Nat} {T : TypeId} {cs : Array Value} (h : w.heap[g]? = some (.cells cs T (0, 0))) (i : Nat) : w.cell? ⟨g, i, none⟩ = cs[i]? := cell_of_row w g i cs T (0, 0) h
theorem free_at {w : World} {g : Nat} {T : TypeId} {cs : Array Value} (h : w.heap[g]? = some (.cells cs T (0, 0))) (i : Nat) : w.frozen? ⟨g, i, none⟩ = false := by
  simp [World.frozen?, h]
theorem blk_set {w : World} {g : Nat} {T : TypeId} {cs : Array Value} (h : w.heap[g]? = some (.cells cs T (0, 0))) (i : Nat) (u : Value) : (w.setCell ⟨g, i, none⟩ u).heap[g]? = some (.cells (cs.setIfInBounds i u) T (0, 0)) := by
  simp [World.setCell, Array.getElem?_modify, h]
theorem blk_lt {w : World} {g : Nat} {o : Obj} (h : w.heap[g]? = some o) : g < w.heap.size := (Array.getElem?_eq_some_iff.1 h).1
theorem grown_set {a w : World} {g : Nat} (h : a.grownBy w (some g)) (i : Nat) (u : Value) : a.grownBy (w.setCell ⟨g, i, none⟩ u) (some g) :=
  ⟨h.os, h.tape, h.output, by simpa [World.setCell] using h.size, fun k hk hne => (Below.heap_setCell w ⟨g, i, none⟩ u k (by
    rintro rfl
    exact hne rfl)).trans (h.block k hk hne)⟩
theorem grown_trans {a b c : World} {g : Nat} (h : a.grownBy b (some g)) (k : b.grownBy c (some g)) : a.grownBy c (some g) :=
  ⟨k.os.trans h.os, k.tape.trans h.tape, k.output.trans h.output, Nat.le_trans h.size k.size, fun i hi hne => (k.block i (Nat.lt_of_lt_of_le hi h.size) hne).trans (h.block i hi hne)⟩
theorem grown_alloc {a w : World} {row : Option Nat} (h : a.grownBy w row) (o : Obj) : a.grownBy (w.alloc o) row :=
  ⟨h.os, h.tape, h.output, Nat.le_trans h.size (by simp), fun i hi hne => (Below.heap_alloc w o i (Nat.lt_of_lt_of_le hi h.size)).trans (h.block i hi hne)⟩
/-- A call on the reader hands back v and leaves it in state s; all else is as it was. -/
def RRes (T : TypeId) (g : Nat) (W : World) (v : Value) (s : St) (e : Ending) (w' : World) : Prop := e = .returned v ∧ Rd T w' g s ∧ W.grownBy w' (some g)

theorem rd_set2 {T : TypeId} {w : World} {g : Nat} {s s' : St} (h : Rd T w g s) : Rd T ((w.setCell ⟨g, 0, none⟩ (.string (B (lft s')))).setCell ⟨g, 1, none⟩ (.bool s'.isNone)) g s' := by
  have h1 := blk_set (blk_set h 0 (.string (B (lft s')))) 1 (.bool s'.isNone)
  simpa [rc, Rd] using h1
theorem rd_set1 {T : TypeId} {w : World} {g : Nat} {s s' : St} (h : Rd T w g s) (he : s.isNone = s'.isNone) : Rd T (w.setCell ⟨g, 0, none⟩ (.string (B (lft s')))) g s' := by
  have h1 := blk_set h 0 (.string (B (lft s')))
  simpa [rc, Rd, he] using h1

set_option maxHeartbeats 400000 in
theorem fail_any (g : Nat) (s : St) (w : World) (h : Rd 87 w g s) :
    Calls Tryz.prog 133 #[.pointer (some ⟨g, 0, none⟩)] w (RRes 87 g w (.tuple #[]) none) := by
  have c0 : w.cell? ⟨g, 0, none⟩ = some (.string (B (lft s))) := cell_at h 0
  have c1 : w.cell? ⟨g, 1, none⟩ = some (.bool s.isNone) := cell_at h 1
  have f0 := free_at h 0
  have f1 := free_at h 1
  have H := Lib.hid h
  clear h
  go_enter Tryz.func133, Tryz.ntmps133
  go_wp2
  go_end0
  exact ⟨rfl, rd_set2 (s' := none) H.out, grown_set (grown_set (World.grownBy.refl w _) _ _) _ _⟩

set_option maxHeartbeats 400000 in
theorem done_any (g : Nat) (s : St) (w : World) (h : Rd 87 w g s) :
    Calls Tryz.prog 35 #[.pointer (some ⟨g, 0, none⟩)] w fun e w' => e = .returned (.bool (dn s)) ∧ w = w' := by
  have c0 : w.cell? ⟨g, 0, none⟩ = some (.string (B (lft s))) := cell_at h 0
  have c1 : w.cell? ⟨g, 1, none⟩ = some (.bool s.isNone) := cell_at h 1
  clear h
  have hd : dn s = (!s.isNone && (lft s).isEmpty) := by rcases s with _ | _ | ⟨b, l⟩ <;> rfl
  rw [hd]
  clear hd
  rcases s with _ | l
  all_goals
    go_enter Tryz.func35, Tryz.ntmps35
    go_wp2
    go_ret
    exact ⟨rfl, rfl⟩

set_option maxHeartbeats 400000 in
theorem take_any (g : Nat) (s : St) (n : Int) (w : World) (h : Rd 87 w g s) (hl : (lft s).length ≤ 1099511627776) :
    Calls Tryz.prog 73 #[.pointer (some ⟨g, 0, none⟩), .int .i64 n] w (RRes 87 g w (.string (B (val [] (s.bind (takeI n))))) (rest (s.bind (takeI n)))) := by
  have c0 : w.cell? ⟨g, 0, none⟩ = some (.string (B (lft s))) := cell_at h 0
  have c1 : w.cell? ⟨g, 1, none⟩ = some (.bool s.isNone) := cell_at h 1
  have f0 := free_at h 0
  have HF := Lib.hid (fail_any g s w h)
  have H := Lib.hid h
  clear h
  obtain ⟨l, hl2⟩ : ∃ l, l = lft s := ⟨_, rfl⟩
  rw [← hl2] at c0 hl
  have HL := Lib.hid hl2
  clear hl2
  have hl3 : (l.length : Int) ≤ 1099511627776 := by omega
  by_cases hin : 0 ≤ n ∧ n ≤ l.length
  · obtain ⟨m, rfl⟩ := Int.eq_ofNat_of_zero_le hin.1
    have hm : m ≤ l.length := by omega
    have hm2 : (m : Int) ≤ l.length := by omega
    have R : RRes 87 g w (.string (B (val [] (s.bind (takeI m))))) (rest (s.bind (takeI m))) (.returned (.string (B (l.take m)))) (w.setCell ⟨g, 0, none⟩ (.string (B (l.drop m)))) := by
      have hl2 := HL.out
      rcases s with _ | l'
      · subst hl2
        have e1 : List.drop m (lft none) = lft none := by simp [lft]
        have e2 : List.take m (lft none) = [] := by simp [lft]
        rw [e1, e2]
        exact ⟨rfl, rd_set1 (s' := none) H.out rfl, grown_set (World.grownBy.refl w _) _ _⟩
      · have e : l = l' := hl2
        subst e
        have et : (some l).bind (takeI m) = some (l.take m, l.drop m) := by simp [takeI, takeN, hm]
        rw [et]
        exact ⟨rfl, rd_set1 (s' := some (l.drop m)) H.out rfl, grown_set (World.grownBy.refl w _) _ _⟩
    have HR := Lib.hid R
    clear hin hl R
    go_enter Tryz.func73, Tryz.ntmps73
    go_wp2
    go_ret
    exact HR.out
  · have et : s.bind (takeI n) = none := by
      have hl2 := HL.out
      rcases s with _ | l'
      · rfl
      · have e : l = l' := hl2
        subst e
        simp only [Option.bind_some, takeI]
        split
        · simp only [takeN]
          rw [if_neg (by omega)]
        · rfl
    rw [et]
    clear et
    by_cases hn0 : 0 ≤ n
    · have hn1 : l.length < n := by omega
      clear hin hl
      go_enter Tryz.func73, Tryz.ntmps73
      go_wp2_with fail
      refine HF.out.mono ?_
      rintro e w1 ⟨rfl, h1, h2⟩
      go_wp2
      go_ret
      exact ⟨rfl, h1, h2⟩
    · have hn1 : n < 0 := by omega
      clear hin hl
      go_enter Tryz.func73, Tryz.ntmps73
      go_wp2_with fail
      refine HF.out.mono ?_
      rintro e w1 ⟨rfl, h1, h2⟩
      go_wp2
      go_ret
      exact ⟨rfl, h1, h2⟩

/-! ### Num -/
/-- After k digits: n is their number, and reading goes on behind them. -/
def PNum (l : List UInt8) (k n : Nat) : Prop := k ≤ 9 ∧ k ≤ l.length ∧ n < 128 ^ k ∧ decN l = (dv (9 - k) (k == 0) (l.drop k)).map fun p => (n + 128 ^ k * p.1, p.2)
theorem pnum_start (l : List UInt8) : PNum l 0 0 := by
  refine ⟨by omega, by omega, by omega, ?_⟩
  have e : (fun p : Nat × List UInt8 => (0 + 128 ^ 0 * p.1, p.2)) = id := by funext p; simp
  rw [e, Option.map_id]
  rfl
theorem dv_cons (k : Nat) (first : Bool) (b : UInt8) (r : List UInt8) : dv (k + 1) first (b :: r) = if b.toNat < 128 then (if b.toNat = 0 ∧ first = false then none else some (b.toNat, r)) else (dv k false r).map fun p => (b.toNat - 128 + 128 * p.1, p.2) := rfl
theorem pnum_at {l : List UInt8} {k n : Nat} (h : PNum l k n) (hk : k < 9) (hl : k < l.length) : decN l = (if l[k].toNat < 128 then (if l[k].toNat = 0 ∧ k ≠ 0 then none else some (n + 128 ^ k * l[k].toNat, l.drop (k + 1))) else (dv (9 - (k + 1)) false (l.drop (k + 1))).map fun p => (n + 128 ^ k * (l[k].toNat - 128 + 128 * p.1), p.2)) := by
  obtain ⟨_, _, _, h4⟩ := h
  have e : 9 - k = (9 - (k + 1)) + 1 := by omega
  rw [h4, e, List.drop_eq_getElem_cons hl, dv_cons]
  by_cases h1 : l[k].toNat < 128
  · simp only [h1, if_true]
    by_cases h2 : l[k].toNat = 0 ∧ k ≠ 0
    · rw [if_pos ⟨h2.1, by simpa using h2.2⟩, if_pos h2]; rfl
    · rw [if_neg h2, if_neg (by simpa using h2)]; rfl
  · simp only [h1, if_false]
    rcases dv (9 - (k + 1)) false (l.drop (k + 1)) with _ | ⟨a, b⟩ <;> rfl
theorem pnum_step {l : List UInt8} {k n : Nat} (h : PNum l k n) (hk : k < 9) (hl : k < l.length) (hb : 128 ≤ l[k].toNat) : PNum l (k + 1) (n + 128 ^ k * (l[k].toNat - 128)) := by
  have h0 := pnum_at h hk hl
  rw [if_neg (by omega)] at h0
  have hb2 := l[k].toNat_lt
  refine ⟨by omega, by omega, ?_, ?_⟩
  · have h3 := h.2.2.1
    have : 128 ^ k * (l[k].toNat - 128) ≤ 128 ^ k * 127 := Nat.mul_le_mul_left _ (by omega)
    rw [Nat.pow_succ]
    omega
  · rw [h0]
    have e0 : (k + 1 == 0) = false := by simp
    rw [e0]
    rcases dv (9 - (k + 1)) false (l.drop (k + 1)) with _ | ⟨a, b⟩
    · simp only [Option.map_none]
    · have e3 : n + 128 ^ k * (l[k].toNat - 128 + 128 * a) = n + 128 ^ k * (l[k].toNat - 128) + 128 ^ (k + 1) * a := by
        rw [Nat.pow_succ, Nat.mul_add, Nat.mul_assoc, Nat.add_assoc]
      exact congrArg (fun x => some (x, b)) e3
theorem pnum_end {l : List UInt8} {k n : Nat} (h : PNum l k n) (hk : ¬ (k < 9 ∧ k < l.length)) : decN l = none := by
  obtain ⟨h1, h2, _, h4⟩ := h
  rw [h4]
  rcases Nat.lt_or_ge k 9 with h9 | h9
  · have : k = l.length := by omega
    subst this
    have e : 9 - l.length = (8 - l.length) + 1 := by omega
    rw [e, List.drop_length]
    rfl
  · have : 9 - k = 0 := by omega
    rw [this, dv]
    rfl

theorem pow7 (k : Nat) : (2 : Int) ^ (7 * k) = ((128 ^ k : Nat) : Int) := by
  rw [Int.pow_mul, Int.natCast_pow]
  rfl
theorem shl_eq (k m b : Nat) (hk : k < 9) (hm : m < 128 ^ k) : wrap64 ((m : Int) + wrap64 ((b : Int) % 128 * 2 ^ (7 * k))) = ((m + 128 ^ k * (b % 128) : Nat) : Int) := by
  rw [pow7]
  have hP : 128 ^ k ≤ 128 ^ 8 := Nat.pow_le_pow_right (by omega) (by omega)
  have h8 : (128 : Nat) ^ 8 = 72057594037927936 := by decide
  rw [h8] at hP
  generalize 128 ^ k = P at hm hP
  have hx : P * (b % 128) ≤ P * 127 := Nat.mul_le_mul_left _ (by omega)
  have e : (b : Int) % 128 * (P : Int) = ((P * (b % 128) : Nat) : Int) := by
    rw [Int.natCast_mul, Int.mul_comm]
    rfl
  rw [e]
  generalize P * (b % 128) = Q at hx
  unfold wrap64
  omega

theorem num_none {s : St} {l : List UInt8} (h : l = lft s) (hd : decN l = none) : s.bind decN = none := by
  rcases s with _ | l'
  · rfl
  · have e : l = l' := h
    subst e
    exact hd
theorem num_some {s : St} {l : List UInt8} {p : Nat × List UInt8} (h : l = lft s) (hd : decN l = some p) : s.bind decN = some p := by
  rcases s with _ | l'
  · have e : l = [] := h
    subst e
    cases hd
  · have e : l = l' := h
    subst e
    exact hd

set_option maxHeartbeats 1000000 in
set_option maxRecDepth 100000 in
theorem num_any (g : Nat) (s : St) (w : World) (h : Rd 87 w g s) (hl : (lft s).length ≤ 1099511627776) :
    Calls Tryz.prog 74 #[.pointer (some ⟨g, 0, none⟩)] w (RRes 87 g w (.int .i64 (val 0 (s.bind decN) : Nat)) (rest (s.bind decN))) := by
  have c0 : w.cell? ⟨g, 0, none⟩ = some (.string (B (lft s))) := cell_at h 0
  have c1 : w.cell? ⟨g, 1, none⟩ = some (.bool s.isNone) := cell_at h 1
  have f0 := free_at h 0
  have HF := Lib.hid (fail_any g s w h)
  have H := Lib.hid h
  clear h
  obtain ⟨l, hl2⟩ : ∃ l, l = lft s := ⟨_, rfl⟩
  rw [← hl2] at c0 hl
  have HL := Lib.hid hl2
  clear hl2
  have hl3 : (l.length : Int) ≤ 1099511627776 := by omega
  rcases Nat.lt_or_ge l.length 9 with h9 | h9
  all_goals
    have h9' : (l.length : Int) < 9 ∨ 9 ≤ (l.length : Int) := by omega
    have h9'' : (l.length : Int) < 9 ∨ ¬ ((l.length : Int) < 9) := by omega
    go_enter Tryz.func74, Tryz.ntmps74
    go_wp2_with fail
    go_loop [3, 12] (fun n i => ∃ k m : Nat, i = .int .i64 (k : Int) ∧ n = .int .i64 (m : Int) ∧ PNum l k m) (fun _ i => 9 - (intOf i).toNat)
    case atStart => exact ⟨0, 0, rfl, rfl, pnum_start l⟩
    case round =>
      obtain ⟨k, m, rfl, rfl, hp⟩ := hrel
      have hk9 := hp.1
      have hkl := hp.2.1
      have HP := Lib.hid hp
      clear hp
      by_cases hc : k < 9 ∧ k < l.length
      · obtain ⟨hc1, hc2⟩ := hc
        have hc3 : (k : Int) < 9 := by omega
        have hc4 : (k : Int) < l.length := by omega
        have hb2 := l[k].toNat_lt
        obtain ⟨b, hb⟩ : ∃ b : Nat, b = l[k].toNat := ⟨_, rfl⟩
        have hg : ∀ h, ((B l)[k]'h).toNat = b := fun h => hb.symm
        rw [← hb] at hb2
        have HB := Lib.hid hb
        clear hb
        have hsh := shl_eq k m b hc1 HP.out.2.2.1
        have HS := Lib.hid hsh
        clear hsh
        by_cases h128 : 128 ≤ b
        · have h128' : (128 : Int) ≤ b := by omega
          have hst := pnum_step HP.out hc1 hc2 (by rw [← HB.out]; exact h128)
          rw [← HB.out, show b - 128 = b % 128 by omega] at hst
          have HT := Lib.hid hst
          clear hst
          go_wp2
          go_round
          case rel => exact ⟨k + 1, _, by go_num, congrArg _ HS.out, HT.out⟩
          case measure => simp [intOf]; omega
        · have h128' : (b : Int) < 128 := by omega
          have hat := pnum_at HP.out hc1 hc2
          rw [← HB.out, if_pos (by omega)] at hat
          by_cases hz : b = 0 ∧ k ≠ 0
          · rw [if_pos hz] at hat
            obtain ⟨rfl, hz2⟩ := hz
            have hz3 : (0 : Int) < k := by omega
            have R := Lib.hid (num_none HL.out hat)
            clear hat
            go_wp2_with fail
            refine HF.out.mono ?_
            rintro e w1 ⟨rfl, h1, h2⟩
            go_wp2
            go_ret
            rw [R.out]
            exact ⟨rfl, h1, h2⟩
          · rw [if_neg hz] at hat
            have R := Lib.hid (num_some HL.out hat)
            clear hat
            have hsd : s.isNone = false := by
              rcases s with _ | l'
              · have e : l = [] := HL.out
                subst e
                simp at hc2
              · rfl
            have R2 : RRes 87 g w (.int .i64 (val 0 (s.bind decN) : Nat)) (rest (s.bind decN)) (.returned (.int .i64 (wrap64 ((m : Int) + wrap64 ((b : Int) % 128 * 2 ^ (7 * k)))))) (w.setCell ⟨g, 0, none⟩ (.string (B (l.drop (k + 1))))) := by
              rw [R.out, HS.out, Nat.mod_eq_of_lt (by omega)]
              exact ⟨rfl, rd_set1 (s' := some (l.drop (k + 1))) H.out hsd, grown_set (World.grownBy.refl w _) _ _⟩
            have HR := Lib.hid R2
            clear R2 hsd
            rcases (show b = 0 ∧ k = 0 ∨ 0 < b from by omega) with ⟨rfl, rfl⟩ | hbp
            · have hm1 := HP.out.2.2.1
              obtain rfl : m = 0 := by simpa using hm1
              have hr := HR.out
              have e1 : l.drop (0 + 1) = l.tail := by simp
              rw [e1, shl_eq 0 0 0 (by omega) (by omega)] at hr
              have HR3 := Lib.hid hr
              clear hr e1 hm1
              go_wp2
              go_ret
              exact HR3.out
            · have hbp' : (0 : Int) < b := by omega
              go_wp2
              go_ret
              exact HR.out
      · have R := Lib.hid (num_none HL.out (pnum_end HP.out hc))
        have hc' : (l.length : Int) ≤ k ∨ (9 : Int) ≤ k := by omega
        have hc'' : (k : Int) = l.length ∨ (k : Int) = 9 := by omega
        go_wp2_with fail
        refine HF.out.mono ?_
        rintro e w1 ⟨rfl, h1, h2⟩
        go_wp2
        go_ret
        rw [R.out]
        exact ⟨rfl, h1, h2⟩
end Go.Proofs.YtojbicpchjiplaaGreatDoor.S2

/-
  Layer 2 (code): the reader: Int, Text, List, Nums, Open.
-/
namespace Go.Proofs.YtojbicpchjiplaaGreatDoor.S2
open Go.RowKit
open Cd
attribute [local go_sem] B_size B_drop' B_take B_list B_app

theorem lft_rest {α : Type} {enc : α → List UInt8} {dec : List UInt8 → Option (α × List UInt8)} {ok : α → Prop} (h : Codec enc dec ok) (s : St) : (lft (rest (s.bind dec))).length ≤ (lft s).length := by
  rcases s with _ | l
  · exact Nat.le_refl _
  · rcases hd : dec l with _ | ⟨a, r⟩
    · rw [Option.bind_some, hd]
      exact Nat.zero_le _
    · have e := (h.again _ _ _ hd).1
      rw [Option.bind_some, hd]
      show r.length ≤ l.length
      rw [e, List.length_append]
      omega
theorem val_lt (s : St) : val 0 (s.bind decN) < 9223372036854775808 := by
  rcases s with _ | l
  · simp [val]
  · rcases hd : decN l with _ | ⟨a, r⟩
    · simp [val, hd]
    · have := (codecN.again _ _ _ hd).2
      simpa [val, hd, okN] using this
theorem text_comb (s : St) : (rest (s.bind decN)).bind (takeI (val 0 (s.bind decN) : Nat)) = s.bind decT := by
  rcases s with _ | l
  · rfl
  · simp only [Option.bind_some, decT]
    rcases hd : decN l with _ | ⟨z, r⟩
    · rfl
    · simp [rest, val, takeI]

set_option maxHeartbeats 1000000 in
theorem text_any (g : Nat) (s : St) (w : World) (h : Rd 87 w g s) (hl : (lft s).length ≤ 1099511627776) :
    Calls Tryz.prog 33 #[.pointer (some ⟨g, 0, none⟩)] w (RRes 87 g w (.string (B (val [] (s.bind decT)))) (rest (s.bind decT))) := by
  have HN := Lib.hid (num_any g s w h hl)
  have hc := text_comb s
  have hl2 : (lft (rest (s.bind decN))).length ≤ 1099511627776 := Nat.le_trans (lft_rest codecN s) hl
  rw [← hc]
  obtain ⟨n, hn⟩ : ∃ n, n = val 0 (s.bind decN) := ⟨_, rfl⟩
  obtain ⟨s1, hs1⟩ : ∃ s1, s1 = rest (s.bind decN) := ⟨_, rfl⟩
  rw [← hn, ← hs1] at HN ⊢
  rw [← hs1] at hl2
  clear hn hs1 hc h hl
  go_enter Tryz.func33, Tryz.ntmps33
  go_wp2_with fail
  refine HN.out.mono ?_
  rintro e w1 ⟨rfl, h2, h3⟩
  have HT := Lib.hid (take_any g s1 n w1 h2 hl2)
  have HG := Lib.hid h3
  clear h2 h3
  go_wp2_with fail
  refine HT.out.mono ?_
  rintro e w2 ⟨rfl, h4, h5⟩
  go_wp2
  go_ret
  exact ⟨rfl, h4, grown_trans HG.out h5⟩

set_option maxHeartbeats 400000 in
theorem open_any (l : List UInt8) (w : World) :
    Calls Tryz.prog 32 #[.string (B l)] w fun e w' => e = .returned (.pointer (some ⟨w.heap.size, 0, none⟩)) ∧ w' = w.alloc (.cells (rc (some l)) 87) := by
  go_enter Tryz.func32, Tryz.ntmps32
  go_wp2
  go_ret
  exact ⟨rfl, rfl⟩

/-! ### Lists -/
/-- A call on the reader hands back a slice of its own that holds these cells, and leaves it in state s. -/
def LRes (T E : TypeId) (g : Nat) (W : World) (xs : List Value) (s : St) (e : Ending) (w' : World) : Prop :=
  ∃ A c, e = .returned (.slice A xs.length c) ∧ w'.ownsRow W.heap.size E 1 (.slice A xs.length c) xs.length xs ∧ Rd T w' g s ∧ W.grownBy w' (some g)

/-- What the loop of 'takeList' keeps: dl done so far, st the reader's state; 'tgt': what the list will be. -/
def TLat {α : Type} (T E : TypeId) (dec : List UInt8 → Option (α × List UInt8)) (c : α → Value) (g n : Nat) (tgt : Option (List α × List UInt8)) (w : World) (o : Value) (wr : World) (A : Option Addr) (cap : Nat) (dl : List α) (st : St) : Prop :=
  o = .slice A dl.length cap ∧ dl.length ≤ n ∧ wr.ownsRow w.heap.size E 1 o dl.length (dl.map c) ∧ Rd T wr g st ∧ w.grownBy wr (some g) ∧ (lft st).length ≤ 1099511627776 ∧
    (st = none → tgt = none) ∧ (∀ r, st = some r → tgt = (decM dec (n - dl.length) r).map fun q => (dl ++ q.1, q.2))
def TL {α : Type} (T E : TypeId) (dec : List UInt8 → Option (α × List UInt8)) (c : α → Value) (g n : Nat) (tgt : Option (List α × List UInt8)) (w : World) (o : Value) (wr : World) : Prop :=
  ∃ (A : Option Addr) (cap : Nat) (dl : List α) (st : St), TLat T E dec c g n tgt w o wr A cap dl st
theorem tl_tgt {α : Type} {dec : List UInt8 → Option (α × List UInt8)} {z : α} {n : Nat} {tgt : Option (List α × List UInt8)} {dl : List α} {r : List UInt8} (hn : dl.length < n)
    (h : tgt = (decM dec (n - dl.length) r).map fun q => (dl ++ q.1, q.2)) :
    (rest (dec r) = none → tgt = none) ∧ (∀ r', rest (dec r) = some r' → tgt = (decM dec (n - (dl ++ [val z (dec r)]).length) r').map fun q => (dl ++ [val z (dec r)] ++ q.1, q.2)) := by
  have e : n - dl.length = (n - (dl.length + 1)) + 1 := by omega
  rw [e, decM] at h
  rcases hd : dec r with _ | ⟨a, r1⟩
  · rw [hd] at h
    exact ⟨fun _ => h, (fun r' hr => by cases hr)⟩
  · rw [hd] at h
    refine ⟨(fun hr => by cases hr), fun r' hr => ?_⟩
    have hr' : r1 = r' := by injection hr
    subst hr'
    rw [h, List.length_append, List.length_singleton]
    simp only [Option.bind_some]
    rcases decM dec (n - (dl.length + 1)) r1 with _ | ⟨q1, q2⟩
    · rfl
    · simp [val]
theorem tl_stop {α : Type} {dec : List UInt8 → Option (α × List UInt8)} {n : Nat} {tgt : Option (List α × List UInt8)} {dl : List α} {r : List UInt8} (hn : dl.length = n)
    (h : tgt = (decM dec (n - dl.length) r).map fun q => (dl ++ q.1, q.2)) : tgt = some (dl, r) := by
  rw [h, hn, Nat.sub_self, decM]
  simp
theorem list_comb {α : Type} (dec : List UInt8 → Option (α × List UInt8)) (s : St) :
    (rest (s.bind decN) = none → s.bind (decL dec) = none ∧ val 0 (s.bind decN) = 0) ∧
    (∀ r, rest (s.bind decN) = some r → s.bind (decL dec) = if val 0 (s.bind decN) ≤ r.length then decM dec (val 0 (s.bind decN)) r else none) := by
  rcases s with _ | l
  · exact ⟨fun _ => ⟨rfl, rfl⟩, (fun r h => by cases h)⟩
  · simp only [Option.bind_some, decL]
    rcases hd : decN l with _ | ⟨z, r1⟩
    · exact ⟨fun _ => ⟨rfl, rfl⟩, (fun r h => by cases h)⟩
    · refine ⟨(fun h => by cases h), fun r h => ?_⟩
      have hr' : r1 = r := by injection h
      subst hr'
      rfl
theorem infoString : (Tryz.prog.info? 9).map (fun i => (i.zero, i.size, i.bytes)) = some (some (.string ByteArray.empty), 1, 16) := by kernel_rfl
theorem tl_push {α : Type} {T E : TypeId} {enc : α → List UInt8} {dec : List UInt8 → Option (α × List UInt8)} {ok : α → Prop} (C : Codec enc dec ok) {c : α → Value} {z : α} {g n : Nat} {tgt : Option (List α × List UInt8)} {w wr w2 w3 : World} {A : Option Addr} {cap : Nat} {dl : List α} {r : List UInt8} {v' u : Value} {t : TypeId}
    (hn : dl.length < n) (hg : g < w.heap.size) (hown2 : w2.ownsRow w.heap.size E 1 (.slice A dl.length cap) dl.length (dl.map c))
    (hgrw : w.grownBy wr (some g)) (hl : r.length ≤ 1099511627776) (ht : tgt = (decM dec (n - dl.length) r).map fun q => (dl ++ q.1, q.2))
    (h2 : Rd T w2 g (rest (dec r))) (h3 : wr.grownBy w2 (some g))
    (hown' : w3.ownsRow w.heap.size E 1 v' (dl.length + 1) (dl.map c ++ [c (val z (dec r))])) (hgrow : (w2.alloc (.cells #[u] t)).grownBy w3 (Value.ownBlock (.slice A dl.length cap))) :
    ∃ A' cap', v' = .slice A' (dl.length + 1) cap' ∧ TLat T E dec c g n tgt w v' w3 A' cap' (dl ++ [val z (dec r)]) (rest (dec r)) := by
  have hshape : ∃ A' cap', v' = .slice A' (dl.length + 1) cap' := by
    rcases hown'.2 with ⟨_, h0⟩ | ⟨g', cap', cur, rfl, _⟩
    · omega
    · exact ⟨_, _, rfl⟩
  obtain ⟨A', cap', rfl⟩ := hshape
  refine ⟨A', cap', rfl, ?_⟩
  have hT := tl_tgt (z := z) hn ht
  have hne : ∀ k, Value.ownBlock (.slice A dl.length cap) = some k → w.heap.size ≤ k := fun k hk => (hown2.lt k hk).1
  have hglt : g < w2.heap.size := blk_lt h2
  have h4 := grown_trans hgrw h3
  have h5 := hgrow.size
  have h6 := h4.size
  simp only [World.size_alloc] at h5
  refine ⟨by simp, by simp; omega, ?_, ?_, ?_, ?_, hT.1, hT.2⟩
  · exact own_cong hown' (by simp) (by simp)
  · unfold Rd at h2 ⊢
    rw [hgrow.block g (by simp; omega) (fun e => by have := hne g e.symm; omega), ← h2]
    exact Below.heap_alloc w2 _ g hglt
  · refine ⟨hgrow.os.trans h4.os, hgrow.tape.trans h4.tape, hgrow.output.trans h4.output, by omega, ?_⟩
    intro k hk hkg
    rw [hgrow.block k (by simp; omega) (fun e => by have := hne k e.symm; omega), Below.heap_alloc w2 _ k (by omega)]
    exact h4.block k hk hkg
  · exact Nat.le_trans (lft_rest C (some r)) hl
theorem tl_none {α : Type} {T E : TypeId} {c : α → Value} {g : Nat} {tgt : Option (List α × List UInt8)} {w wr : World} (h : tgt = none) (h2 : Rd T wr g none) (h3 : w.grownBy wr (some g)) :
    LRes T E g w ((val [] tgt).map c) (rest tgt) (.returned (.slice none 0 0)) wr := by
  subst h
  exact ⟨none, 0, rfl, World.ownsRow_nil _ _ _ _, h2, h3⟩
theorem tl_some {α : Type} {T E : TypeId} {c : α → Value} {g : Nat} {tgt : Option (List α × List UInt8)} {w wr : World} {A : Option Addr} {cap : Nat} {dl : List α} {r : List UInt8} (h : tgt = some (dl, r))
    (hown : wr.ownsRow w.heap.size E 1 (.slice A dl.length cap) dl.length (dl.map c)) (h2 : Rd T wr g (some r)) (h3 : w.grownBy wr (some g)) :
    LRes T E g w ((val [] tgt).map c) (rest tgt) (.returned (.slice A dl.length cap)) wr := by
  subst h
  have e : ((val [] (some (dl, r))).map c).length = dl.length := by simp [val]
  refine ⟨A, cap, ?_, ?_, h2, h3⟩
  · rw [e]
  · rw [e]; exact hown
theorem own_far {w w' : World} {base g n : Nat} {E : TypeId} {v : Value} {xs : List Value} (h : w.ownsRow base E 1 v n xs) (hg : g < base) (hgr : w.grownBy w' (some g)) : w'.ownsRow base E 1 v n xs :=
  h.kept hgr (by
    rcases ho : v.ownBlock with _ | k
    · exact .inl rfl
    · right
      intro e
      have e2 : k = g := by injection e
      have := (h.lt k ho).1
      omega)
theorem tl_start {α : Type} {T E : TypeId} {dec : List UInt8 → Option (α × List UInt8)} {c : α → Value} {g n : Nat} {tgt : Option (List α × List UInt8)} {w wr : World} {r : List UInt8} (h : tgt = decM dec n r) (hl : r.length ≤ 1099511627776) (h2 : Rd T wr g (some r)) (h3 : w.grownBy wr (some g)) :
    TL T E dec c g n tgt w (.slice none 0 0) wr := by
  refine ⟨none, 0, [], some r, rfl, by simp, World.ownsRow_nil _ _ _ _, h2, h3, hl, (fun h => by cases h), fun r' hr => ?_⟩
  obtain rfl : r = r' := by injection hr
  rw [h, List.length_nil, Nat.sub_zero]
  rcases decM dec n r with _ | ⟨q1, q2⟩ <;> rfl
def lenOf : Value → Nat
  | .slice _ k _ => k
  | _ => 0
def sv (s : List UInt8) : Value := .string (B s)

set_option maxHeartbeats 1000000 in
set_option maxRecDepth 100000 in
theorem takeListString_any (g : Nat) (s : St) (w : World) (h : Rd 87 w g s) (hl : (lft s).length ≤ 1099511627776) :
    Calls Tryz.prog 134 #[.pointer (some ⟨g, 0, none⟩), .func (.func 33) #[.pointer (some ⟨g, 0, none⟩)] #[]] w
      (LRes 87 9 g w ((val [] (s.bind (decL decT))).map sv) (rest (s.bind (decL decT)))) := by
  obtain ⟨i0, hi, hz0, hz1, hz2⟩ := info_parts infoString
  have hgw : g < w.heap.size := blk_lt h
  have HN := Lib.hid (num_any g s w h hl)
  have hcomb := list_comb decT s
  have hl2 : (lft (rest (s.bind decN))).length ≤ 1099511627776 := Nat.le_trans (lft_rest codecN s) hl
  have hnlt := val_lt s
  obtain ⟨n, hn⟩ : ∃ n, n = val 0 (s.bind decN) := ⟨_, rfl⟩
  obtain ⟨s1, hs1⟩ : ∃ s1, s1 = rest (s.bind decN) := ⟨_, rfl⟩
  obtain ⟨tgt, htgt⟩ : ∃ tgt, tgt = s.bind (decL decT) := ⟨_, rfl⟩
  rw [← hn, ← hs1] at HN
  rw [← hn, ← hs1, ← htgt] at hcomb
  rw [← hs1] at hl2
  rw [← hn] at hnlt
  rw [← htgt]
  have hn0 : (0 : Int) ≤ n := by omega
  have hn1 : (n : Int) ≤ 9223372036854775807 := by omega
  clear hn hs1 htgt h hl
  rcases s1 with _ | r
  · obtain ⟨ht, hz⟩ := hcomb.1 rfl
    subst hz
    clear hcomb hl2 hnlt
    have HT := Lib.hid ht
    clear ht
    go_enter Tryz.func134, Tryz.ntmps134
    go_wp2_with fail
    refine HN.out.mono ?_
    rintro e w1 ⟨rfl, h2, h3⟩
    have c0 : w1.cell? ⟨g, 0, none⟩ = some (.string (B (lft none))) := cell_at h2 0
    have c1 : w1.cell? ⟨g, 1, none⟩ = some (.bool true) := cell_at h2 1
    have R := Lib.hid (tl_none (c := sv) (E := 9) HT.out h2 h3)
    clear h2 h3
    go_wp2_with fail
    refine wp_loop_rounds 1 ?_
    rw [rounds_succ]
    go_wp2
    go_ret
    exact R.out
  · have hcb := hcomb.2 r rfl
    have hrl : r.length ≤ 1099511627776 := hl2
    have hrl2 : (r.length : Int) ≤ 1099511627776 := by omega
    clear hcomb hl2
    by_cases hnr : n ≤ r.length
    · rw [if_pos hnr] at hcb
      have hnr2 : (n : Int) ≤ r.length := by omega
      have HCB := Lib.hid hcb
      clear hcb hnlt
      go_enter Tryz.func134, Tryz.ntmps134
      go_wp2_with fail
      refine HN.out.mono ?_
      rintro e w1 ⟨rfl, h2, h3⟩
      have c0 : w1.cell? ⟨g, 0, none⟩ = some (.string (B r)) := cell_at h2 0
      have H2 := Lib.hid h2
      have H3 := Lib.hid h3
      clear h2 h3
      go_wp2_with fail
      go_loopw [6] (fun o wr => TL 87 9 decT sv g n tgt w o wr) (fun o _ => n - lenOf o)
      case atStart => exact tl_start HCB.out hrl H2.out H3.out
      case round =>
        obtain ⟨A, cap, dl, st, rfl, hdn, hown, hrd, hgr, hll, hno, hyes⟩ := hrel
        have hdn2 : (dl.length : Int) ≤ n := by omega
        have d1 : wr.cell? ⟨g, 1, none⟩ = some (.bool st.isNone) := cell_at hrd 1
        have d0 : wr.cell? ⟨g, 0, none⟩ = some (.string (B (lft st))) := cell_at hrd 0
        clear c0
        rcases st with _ | r1
        · have R := Lib.hid (tl_none (c := sv) (E := 9) (hno rfl) hrd hgr)
          clear hown hrd hgr hno hyes
          rcases Nat.lt_or_ge dl.length n with hlt | hge
          · have hlt2 : (dl.length : Int) < n := by omega
            go_wp2
            go_ret
            exact R.out
          · have hge2 : (n : Int) ≤ dl.length := by omega
            go_wp2
            go_ret
            exact R.out
        · rcases Nat.lt_or_ge dl.length n with hlt | hge
          · have hlt2 : (dl.length : Int) < n := by omega
            have HE := Lib.hid (text_any g (some r1) wr hrd hll)
            have HY := Lib.hid (hyes r1 rfl)
            have HG := Lib.hid hgr
            have hll1 : r1.length ≤ 1099511627776 := hll
            clear hrd hgr hno hyes hll
            go_wp2_with fail
            refine HE.out.mono ?_
            rintro e w2 ⟨rfl, h4, h5⟩
            have hown2 := own_far hown hgw h5
            have hsz2 : w.heap.size ≤ w2.heap.size := Nat.le_trans HG.out.size h5.size
            have H4 := Lib.hid h4
            have H5 := Lib.hid h5
            clear h4 h5 hown d0 d1
            obtain ⟨x, hx⟩ : ∃ x, x = val [] (decT r1) := ⟨_, rfl⟩
            have hx2 : val [] ((some r1).bind decT) = x := hx.symm
            rw [hx2]
            have HX := Lib.hid hx
            clear hx hx2
            go_wp2_with (at_builtin; refine wpList_append_own _ rfl _ _ 22 rfl w.heap.size 9 i0 (.string ByteArray.empty) 1 16 Tryz.underlying22 hi hz0 hz1 hz2 rfl (by decide) _ _ _ rfl (hown2.alloc _) ⟨w2.heap.size, 0, none⟩ 1 1 [.string (B x)] rfl rfl one_cell (fun u hu => by simp at hu; subst hu; rfl) (by unfold maxLen; omega) (by omega) (by simp; omega) ?_)
            intro v' w3 hown3 hgrow _
            have hx := HX.out
            subst hx
            obtain ⟨A', cap', rfl, R⟩ := tl_push codecT (z := []) hlt hgw hown2 HG.out hll1 HY.out H4.out H5.out hown3 hgrow
            have HR := Lib.hid R
            clear hown3 hgrow hown2 R
            go_wp2
            go_roundw
            case rel => exact ⟨_, _, _, _, HR.out⟩
            case measure => simp [lenOf]; omega
          · have hge2 : (n : Int) ≤ dl.length := by omega
            have ht := tl_stop (by omega) (hyes r1 rfl)
            have R := Lib.hid (tl_some (c := sv) ht hown hrd hgr)
            clear hown hrd hgr hno hyes ht
            go_wp2
            go_ret
            exact R.out
    · rw [if_neg hnr] at hcb
      have hnr2 : (r.length : Int) < n := by omega
      have HT := Lib.hid hcb
      clear hcb hnlt
      go_enter Tryz.func134, Tryz.ntmps134
      go_wp2_with fail
      refine HN.out.mono ?_
      rintro e w1 ⟨rfl, h2, h3⟩
      have c0 : w1.cell? ⟨g, 0, none⟩ = some (.string (B r)) := cell_at h2 0
      have HF := Lib.hid (fail_any g _ w1 h2)
      have H3 := Lib.hid h3
      clear h2 h3
      go_wp2_with fail
      refine HF.out.mono ?_
      rintro e w2 ⟨rfl, h4, h5⟩
      have c1 : w2.cell? ⟨g, 1, none⟩ = some (.bool true) := cell_at h4 1
      have R := Lib.hid (tl_none (c := sv) (E := 9) HT.out h4 (grown_trans H3.out h5))
      have hpos : (0 : Int) < n := by omega
      clear h4 h5
      go_wp2_with fail
      refine wp_loop_rounds 1 ?_
      rw [rounds_succ]
      go_wp2
      go_ret
      exact R.out

set_option maxHeartbeats 400000 in
theorem list_any (g : Nat) (s : St) (w : World) (h : Rd 87 w g s) (hl : (lft s).length ≤ 1099511627776) :
    Calls Tryz.prog 75 #[.pointer (some ⟨g, 0, none⟩)] w
      (LRes 87 9 g w ((val [] (s.bind (decL decT))).map sv) (rest (s.bind (decL decT)))) := by
  have hmf : ∀ (fn : Fn) (first cap : Array Value) (w : World), (Instr.makeFunc fn first cap).run Tryz.prog w = .ok (.func fn first cap) w := fun _ _ _ _ => rfl
  have H := Lib.hid (takeListString_any g s w h hl)
  clear h
  obtain ⟨xs, hx⟩ : ∃ xs, xs = (val [] (s.bind (decL decT))).map sv := ⟨_, rfl⟩
  rw [← hx] at H ⊢
  clear hx
  go_enter Tryz.func75, Tryz.ntmps75
  go_wp2_with fail
  refine H.out.mono ?_
  rintro e w1 ⟨A, c, rfl, h2, h3, h4⟩
  go_wp2
  go_ret
  exact ⟨A, c, rfl, h2, h3, h4⟩

end Go.Proofs.YtojbicpchjiplaaGreatDoor.S2
