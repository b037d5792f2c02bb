/-
  Layer 2 (code): the reader: fail, Left, Done, Take, Num, Int, Text.
-/
import Derived.Test.YtihanhdepijijaaCodeRow
import Derived.LoopTactic
import Derived.Outline
namespace Go.Proofs.Ytihanhdepijijaa.S2
open Go.RowKit
open Cd

/-- What is left of a reader's input. -/
def lft (s : St) : List UInt8 := s.getD []
/-- The two cells of a reader. -/
def rc (s : St) : Array Value := #[.string (B (lft s)), .bool s.isNone]
/-- Whether all has been read without a failure. -/
def dn : St → Bool
  | some [] => true
  | _ => false
def takeI (n : Int) (l : List UInt8) : Option (List UInt8 × List UInt8) := if 0 ≤ n then takeN n.toNat l else none
theorem B_size (l : List UInt8) : (B l).size = l.length := by simp [B, ByteArray.size]
theorem B_toList (l : List UInt8) : (B l).data.toList = l := rfl
theorem B_eq {a : ByteArray} {l : List UInt8} (h : a.data.toList = l) : a = B l := by
  subst h; rfl
theorem B_drop (l : List UInt8) (k : Nat) : (B l).extract k (B l).size = B (l.drop k) := by
  apply B_eq
  rw [ByteArray.data_extract, Array.toList_extract, B_size]
  simp only [List.extract, B]
  exact List.take_of_length_le (by simp)
theorem B_take (l : List UInt8) (k : Nat) : (B l).extract 0 k = B (l.take k) := by
  apply B_eq
  rw [ByteArray.data_extract, Array.toList_extract]
  simp [List.extract, B]
theorem B_drop' (l : List UInt8) (k : Nat) : (B l).extract k l.length = B (l.drop k) := by rw [← B_drop, B_size]
theorem B_list (l : List UInt8) : (B l).toList = l := by rw [ByteArray.toList_eq]; rfl
theorem B_app (a b : List UInt8) : B a ++ B b = B (a ++ b) := by
  apply B_eq
  rw [ByteArray.data_append, Array.toList_append]
  rfl
theorem B_nil : (ByteArray.mk #[]) = B [] := rfl
attribute [local go_sem] B_size B_drop' B_take B_list B_app
theorem B_get (l : List UInt8) (k : Nat) (h : k < (B l).size) : (B l)[k] = l[k]'(by rw [B_size] at h; exact h) := rfl
/-- Block g is a reader in this state. -/
def Rd (T : TypeId) (w : World) (g : Nat) (s : St) : Prop := w.heap[g]? = some (.cells (rc s) T (0, 0))
theorem cell_at {w : World} {g : Nat} {T : TypeId} {cs : Array Value} (h : w.heap[g]? = some (.cells cs T (0, 0))) (i : Nat) : w.cell? ⟨g, i, none⟩ = cs[i]? := cell_of_row w g i cs T (0, 0) h
theorem free_at {w : World} {g : Nat} {T : TypeId} {cs : Array Value} (h : w.heap[g]? = some (.cells cs T (0, 0))) (i : Nat) : w.frozen? ⟨g, i, none⟩ = false := by
  simp [World.frozen?, h]
theorem blk_set {w : World} {g : Nat} {T : TypeId} {cs : Array Value} (h : w.heap[g]? = some (.cells cs T (0, 0))) (i : Nat) (u : Value) : (w.setCell ⟨g, i, none⟩ u).heap[g]? = some (.cells (cs.setIfInBounds i u) T (0, 0)) := by
  simp [World.setCell, Array.getElem?_modify, h]
theorem blk_lt {w : World} {g : Nat} {o : Obj} (h : w.heap[g]? = some o) : g < w.heap.size := (Array.getElem?_eq_some_iff.1 h).1
theorem grown_set {a w : World} {g : Nat} (h : a.grownBy w (some g)) (i : Nat) (u : Value) : a.grownBy (w.setCell ⟨g, i, none⟩ u) (some g) :=
  ⟨h.os, h.tape, h.output, by simpa [World.setCell] using h.size, fun k hk hne => (Below.heap_setCell w ⟨g, i, none⟩ u k (by
    rintro rfl
    exact hne rfl)).trans (h.block k hk hne)⟩
theorem grown_trans {a b c : World} {g : Nat} (h : a.grownBy b (some g)) (k : b.grownBy c (some g)) : a.grownBy c (some g) :=
  ⟨k.os.trans h.os, k.tape.trans h.tape, k.output.trans h.output, Nat.le_trans h.size k.size, fun i hi hne => (k.block i (Nat.lt_of_lt_of_le hi h.size) hne).trans (h.block i hi hne)⟩
theorem grown_alloc {a w : World} {row : Option Nat} (h : a.grownBy w row) (o : Obj) : a.grownBy (w.alloc o) row :=
  ⟨h.os, h.tape, h.output, Nat.le_trans h.size (by simp), fun i hi hne => (Below.heap_alloc w o i (Nat.lt_of_lt_of_le hi h.size)).trans (h.block i hi hne)⟩
theorem grown_drew {a w : World} {row : Option Nat} (h : a.grownBy w row) : a.grownBy w.drew row := ⟨h.os, h.tape, h.output, h.size, h.block⟩
theorem grown_drewN {a w : World} {row : Option Nat} (h : a.grownBy w row) (n : Nat) : a.grownBy (w.drewN n) row := ⟨h.os, h.tape, h.output, h.size, h.block⟩

/-- A call on the reader hands back v and leaves it in state s; all else is as it was. -/
def RRes (T : TypeId) (g : Nat) (W : World) (v : Value) (s : St) (e : Ending) (w' : World) : Prop := e = .returned v ∧ Rd T w' g s ∧ W.grownBy w' (some g)

theorem rd_set2 {T : TypeId} {w : World} {g : Nat} {s s' : St} (h : Rd T w g s) : Rd T ((w.setCell ⟨g, 0, none⟩ (.string (B (lft s')))).setCell ⟨g, 1, none⟩ (.bool s'.isNone)) g s' := by
  have h1 := blk_set (blk_set h 0 (.string (B (lft s')))) 1 (.bool s'.isNone)
  simpa [rc, Rd] using h1
theorem rd_set1 {T : TypeId} {w : World} {g : Nat} {s s' : St} (h : Rd T w g s) (he : s.isNone = s'.isNone) : Rd T (w.setCell ⟨g, 0, none⟩ (.string (B (lft s')))) g s' := by
  have h1 := blk_set h 0 (.string (B (lft s')))
  simpa [rc, Rd, he] using h1

set_option maxHeartbeats 400000 in
theorem fail_any (g : Nat) (s : St) (w : World) (h : Rd 103 w g s) :
    Calls Try.prog 61 #[.pointer (some ⟨g, 0, none⟩)] w (RRes 103 g w (.tuple #[]) none) := by
  have c0 : w.cell? ⟨g, 0, none⟩ = some (.string (B (lft s))) := cell_at h 0
  have c1 : w.cell? ⟨g, 1, none⟩ = some (.bool s.isNone) := cell_at h 1
  have f0 := free_at h 0
  have f1 := free_at h 1
  have H := Lib.hid h
  clear h
  go_enter Try.func61, Try.ntmps61
  go_wp2
  go_end0
  exact ⟨rfl, rd_set2 (s' := none) H.out, grown_set (grown_set (World.grownBy.refl w _) _ _) _ _⟩

set_option maxHeartbeats 400000 in
theorem left_any (g : Nat) (s : St) (w : World) (h : Rd 103 w g s) :
    Calls Try.prog 48 #[.pointer (some ⟨g, 0, none⟩)] w fun e w' => e = .returned (.int .i64 ((lft s).length : Nat)) ∧ w = w' := by
  have c0 : w.cell? ⟨g, 0, none⟩ = some (.string (B (lft s))) := cell_at h 0
  rw [← B_size]
  clear h
  go_enter Try.func48, Try.ntmps48
  go_wp2
  go_ret
  exact ⟨rfl, rfl⟩

set_option maxHeartbeats 400000 in
theorem take_any (g : Nat) (s : St) (n : Int) (w : World) (h : Rd 103 w g s) (hl : (lft s).length ≤ 1099511627776) :
    Calls Try.prog 57 #[.pointer (some ⟨g, 0, none⟩), .int .i64 n] w (RRes 103 g w (.string (B (val [] (s.bind (takeI n))))) (rest (s.bind (takeI n)))) := by
  have c0 : w.cell? ⟨g, 0, none⟩ = some (.string (B (lft s))) := cell_at h 0
  have c1 : w.cell? ⟨g, 1, none⟩ = some (.bool s.isNone) := cell_at h 1
  have f0 := free_at h 0
  have HF := Lib.hid (fail_any g s w h)
  have H := Lib.hid h
  clear h
  obtain ⟨l, hl2⟩ : ∃ l, l = lft s := ⟨_, rfl⟩
  rw [← hl2] at c0 hl
  have HL := Lib.hid hl2
  clear hl2
  have hl3 : (l.length : Int) ≤ 1099511627776 := by omega
  by_cases hin : 0 ≤ n ∧ n ≤ l.length
  · obtain ⟨m, rfl⟩ := Int.eq_ofNat_of_zero_le hin.1
    have hm : m ≤ l.length := by omega
    have hm2 : (m : Int) ≤ l.length := by omega
    have R : RRes 103 g w (.string (B (val [] (s.bind (takeI m))))) (rest (s.bind (takeI m))) (.returned (.string (B (l.take m)))) (w.setCell ⟨g, 0, none⟩ (.string (B (l.drop m)))) := by
      have hl2 := HL.out
      rcases s with _ | l'
      · subst hl2
        have e1 : List.drop m (lft none) = lft none := by simp [lft]
        have e2 : List.take m (lft none) = [] := by simp [lft]
        rw [e1, e2]
        exact ⟨rfl, rd_set1 (s' := none) H.out rfl, grown_set (World.grownBy.refl w _) _ _⟩
      · have e : l = l' := hl2
        subst e
        have et : (some l).bind (takeI m) = some (l.take m, l.drop m) := by simp [takeI, takeN, hm]
        rw [et]
        exact ⟨rfl, rd_set1 (s' := some (l.drop m)) H.out rfl, grown_set (World.grownBy.refl w _) _ _⟩
    have HR := Lib.hid R
    clear hin hl R
    go_enter Try.func57, Try.ntmps57
    go_wp2
    go_ret
    exact HR.out
  · have et : s.bind (takeI n) = none := by
      have hl2 := HL.out
      rcases s with _ | l'
      · rfl
      · have e : l = l' := hl2
        subst e
        simp only [Option.bind_some, takeI]
        split
        · simp only [takeN]
          rw [if_neg (by omega)]
        · rfl
    rw [et]
    clear et
    by_cases hn0 : 0 ≤ n
    · have hn1 : l.length < n := by omega
      clear hin hl
      go_enter Try.func57, Try.ntmps57
      go_wp2_with fail
      refine HF.out.mono ?_
      rintro e w1 ⟨rfl, h1, h2⟩
      go_wp2
      go_ret
      exact ⟨rfl, h1, h2⟩
    · have hn1 : n < 0 := by omega
      clear hin hl
      go_enter Try.func57, Try.ntmps57
      go_wp2_with fail
      refine HF.out.mono ?_
      rintro e w1 ⟨rfl, h1, h2⟩
      go_wp2
      go_ret
      exact ⟨rfl, h1, h2⟩

/-! ### Num -/
/-- After k digits: n is their number, and reading goes on behind them. -/
def PNum (l : List UInt8) (k n : Nat) : Prop := k ≤ 9 ∧ k ≤ l.length ∧ n < 128 ^ k ∧ decN l = (dv (9 - k) (k == 0) (l.drop k)).map fun p => (n + 128 ^ k * p.1, p.2)
theorem pnum_start (l : List UInt8) : PNum l 0 0 := by
  refine ⟨by omega, by omega, by omega, ?_⟩
  have e : (fun p : Nat × List UInt8 => (0 + 128 ^ 0 * p.1, p.2)) = id := by funext p; simp
  rw [e, Option.map_id]
  rfl
theorem dv_cons (k : Nat) (first : Bool) (b : UInt8) (r : List UInt8) : dv (k + 1) first (b :: r) = if b.toNat < 128 then (if b.toNat = 0 ∧ first = false then none else some (b.toNat, r)) else (dv k false r).map fun p => (b.toNat - 128 + 128 * p.1, p.2) := rfl
theorem pnum_at {l : List UInt8} {k n : Nat} (h : PNum l k n) (hk : k < 9) (hl : k < l.length) : decN l = (if l[k].toNat < 128 then (if l[k].toNat = 0 ∧ k ≠ 0 then none else some (n + 128 ^ k * l[k].toNat, l.drop (k + 1))) else (dv (9 - (k + 1)) false (l.drop (k + 1))).map fun p => (n + 128 ^ k * (l[k].toNat - 128 + 128 * p.1), p.2)) := by
  obtain ⟨_, _, _, h4⟩ := h
  have e : 9 - k = (9 - (k + 1)) + 1 := by omega
  rw [h4, e, List.drop_eq_getElem_cons hl, dv_cons]
  by_cases h1 : l[k].toNat < 128
  · simp only [h1, if_true]
    by_cases h2 : l[k].toNat = 0 ∧ k ≠ 0
    · rw [if_pos ⟨h2.1, by simpa using h2.2⟩, if_pos h2]; rfl
    · rw [if_neg h2, if_neg (by simpa using h2)]; rfl
  · simp only [h1, if_false]
    rcases dv (9 - (k + 1)) false (l.drop (k + 1)) with _ | ⟨a, b⟩ <;> rfl
theorem pnum_step {l : List UInt8} {k n : Nat} (h : PNum l k n) (hk : k < 9) (hl : k < l.length) (hb : 128 ≤ l[k].toNat) : PNum l (k + 1) (n + 128 ^ k * (l[k].toNat - 128)) := by
  have h0 := pnum_at h hk hl
  rw [if_neg (by omega)] at h0
  have hb2 := l[k].toNat_lt
  refine ⟨by omega, by omega, ?_, ?_⟩
  · have h3 := h.2.2.1
    have : 128 ^ k * (l[k].toNat - 128) ≤ 128 ^ k * 127 := Nat.mul_le_mul_left _ (by omega)
    rw [Nat.pow_succ]
    omega
  · rw [h0]
    have e0 : (k + 1 == 0) = false := by simp
    rw [e0]
    rcases dv (9 - (k + 1)) false (l.drop (k + 1)) with _ | ⟨a, b⟩
    · simp only [Option.map_none]
    · have e3 : n + 128 ^ k * (l[k].toNat - 128 + 128 * a) = n + 128 ^ k * (l[k].toNat - 128) + 128 ^ (k + 1) * a := by
        rw [Nat.pow_succ, Nat.mul_add, Nat.mul_assoc, Nat.add_assoc]
      exact congrArg (fun x => some (x, b)) e3
theorem pnum_end {l : List UInt8} {k n : Nat} (h : PNum l k n) (hk : ¬ (k < 9 ∧ k < l.length)) : decN l = none := by
  obtain ⟨h1, h2, _, h4⟩ := h
  rw [h4]
  rcases Nat.lt_or_ge k 9 with h9 | h9
  · have : k = l.length := by omega
    subst this
    have e : 9 - l.length = (8 - l.length) + 1 := by omega
    rw [e, List.drop_length]
    rfl
  · have : 9 - k = 0 := by omega
    rw [this, dv]
    rfl

theorem pow7 (k : Nat) : (2 : Int) ^ (7 * k) = ((128 ^ k : Nat) : Int) := by
  rw [Int.pow_mul, Int.natCast_pow]
  rfl
theorem shl_eq (k m b : Nat) (hk : k < 9) (hm : m < 128 ^ k) : wrap64 ((m : Int) + wrap64 ((b : Int) % 128 * 2 ^ (7 * k))) = ((m + 128 ^ k * (b % 128) : Nat) : Int) := by
  rw [pow7]
  have hP : 128 ^ k ≤ 128 ^ 8 := Nat.pow_le_pow_right (by omega) (by omega)
  have h8 : (128 : Nat) ^ 8 = 72057594037927936 := by decide
  rw [h8] at hP
  generalize 128 ^ k = P at hm hP
  have hx : P * (b % 128) ≤ P * 127 := Nat.mul_le_mul_left _ (by omega)
  have e : (b : Int) % 128 * (P : Int) = ((P * (b % 128) : Nat) : Int) := by
    rw [Int.natCast_mul, Int.mul_comm]
    rfl
  rw [e]
  generalize P * (b % 128) = Q at hx
  unfold wrap64
  omega

theorem num_none {s : St} {l : List UInt8} (h : l = lft s) (hd : decN l = none) : s.bind decN = none := by
  rcases s with _ | l'
  · rfl
  · have e : l = l' := h
    subst e
    exact hd
theorem num_some {s : St} {l : List UInt8} {p : Nat × List UInt8} (h : l = lft s) (hd : decN l = some p) : s.bind decN = some p := by
  rcases s with _ | l'
  · have e : l = [] := h
    subst e
    cases hd
  · have e : l = l' := h
    subst e
    exact hd

set_option maxHeartbeats 1000000 in
set_option maxRecDepth 100000 in
theorem num_any (g : Nat) (s : St) (w : World) (h : Rd 103 w g s) (hl : (lft s).length ≤ 1099511627776) :
    Calls Try.prog 56 #[.pointer (some ⟨g, 0, none⟩)] w (RRes 103 g w (.int .i64 (val 0 (s.bind decN) : Nat)) (rest (s.bind decN))) := by
  have c0 : w.cell? ⟨g, 0, none⟩ = some (.string (B (lft s))) := cell_at h 0
  have c1 : w.cell? ⟨g, 1, none⟩ = some (.bool s.isNone) := cell_at h 1
  have f0 := free_at h 0
  have HF := Lib.hid (fail_any g s w h)
  have H := Lib.hid h
  clear h
  obtain ⟨l, hl2⟩ : ∃ l, l = lft s := ⟨_, rfl⟩
  rw [← hl2] at c0 hl
  have HL := Lib.hid hl2
  clear hl2
  have hl3 : (l.length : Int) ≤ 1099511627776 := by omega
  rcases Nat.lt_or_ge l.length 9 with h9 | h9
  all_goals
    have h9' : (l.length : Int) < 9 ∨ 9 ≤ (l.length : Int) := by omega
    have h9'' : (l.length : Int) < 9 ∨ ¬ ((l.length : Int) < 9) := by omega
    go_enter Try.func56, Try.ntmps56
    go_wp2_with fail
    go_loop [3, 12] (fun n i => ∃ k m : Nat, i = .int .i64 (k : Int) ∧ n = .int .i64 (m : Int) ∧ PNum l k m) (fun _ i => 9 - (intOf i).toNat)
    case atStart => exact ⟨0, 0, rfl, rfl, pnum_start l⟩
    case round =>
      obtain ⟨k, m, rfl, rfl, hp⟩ := hrel
      have hk9 := hp.1
      have hkl := hp.2.1
      have HP := Lib.hid hp
      clear hp
      by_cases hc : k < 9 ∧ k < l.length
      · obtain ⟨hc1, hc2⟩ := hc
        have hc3 : (k : Int) < 9 := by omega
        have hc4 : (k : Int) < l.length := by omega
        have hb2 := l[k].toNat_lt
        obtain ⟨b, hb⟩ : ∃ b : Nat, b = l[k].toNat := ⟨_, rfl⟩
        have hg : ∀ h, ((B l)[k]'h).toNat = b := fun h => hb.symm
        rw [← hb] at hb2
        have HB := Lib.hid hb
        clear hb
        have hsh := shl_eq k m b hc1 HP.out.2.2.1
        have HS := Lib.hid hsh
        clear hsh
        by_cases h128 : 128 ≤ b
        · have h128' : (128 : Int) ≤ b := by omega
          have hst := pnum_step HP.out hc1 hc2 (by rw [← HB.out]; exact h128)
          rw [← HB.out, show b - 128 = b % 128 by omega] at hst
          have HT := Lib.hid hst
          clear hst
          go_wp2
          go_round
          case rel => exact ⟨k + 1, _, by go_num, congrArg _ HS.out, HT.out⟩
          case measure => simp [intOf]; omega
        · have h128' : (b : Int) < 128 := by omega
          have hat := pnum_at HP.out hc1 hc2
          rw [← HB.out, if_pos (by omega)] at hat
          by_cases hz : b = 0 ∧ k ≠ 0
          · rw [if_pos hz] at hat
            obtain ⟨rfl, hz2⟩ := hz
            have hz3 : (0 : Int) < k := by omega
            have R := Lib.hid (num_none HL.out hat)
            clear hat
            go_wp2_with fail
            refine HF.out.mono ?_
            rintro e w1 ⟨rfl, h1, h2⟩
            go_wp2
            go_ret
            rw [R.out]
            exact ⟨rfl, h1, h2⟩
          · rw [if_neg hz] at hat
            have R := Lib.hid (num_some HL.out hat)
            clear hat
            have hsd : s.isNone = false := by
              rcases s with _ | l'
              · have e : l = [] := HL.out
                subst e
                simp at hc2
              · rfl
            have R2 : RRes 103 g w (.int .i64 (val 0 (s.bind decN) : Nat)) (rest (s.bind decN)) (.returned (.int .i64 (wrap64 ((m : Int) + wrap64 ((b : Int) % 128 * 2 ^ (7 * k)))))) (w.setCell ⟨g, 0, none⟩ (.string (B (l.drop (k + 1))))) := by
              rw [R.out, HS.out, Nat.mod_eq_of_lt (by omega)]
              exact ⟨rfl, rd_set1 (s' := some (l.drop (k + 1))) H.out hsd, grown_set (World.grownBy.refl w _) _ _⟩
            have HR := Lib.hid R2
            clear R2 hsd
            rcases (show b = 0 ∧ k = 0 ∨ 0 < b from by omega) with ⟨rfl, rfl⟩ | hbp
            · have hm1 := HP.out.2.2.1
              obtain rfl : m = 0 := by simpa using hm1
              have hr := HR.out
              have e1 : l.drop (0 + 1) = l.tail := by simp
              rw [e1, shl_eq 0 0 0 (by omega) (by omega)] at hr
              have HR3 := Lib.hid hr
              clear hr e1 hm1
              go_wp2
              go_ret
              exact HR3.out
            · have hbp' : (0 : Int) < b := by omega
              go_wp2
              go_ret
              exact HR.out
      · have R := Lib.hid (num_none HL.out (pnum_end HP.out hc))
        have hc' : (l.length : Int) ≤ k ∨ (9 : Int) ≤ k := by omega
        have hc'' : (k : Int) = l.length ∨ (k : Int) = 9 := by omega
        go_wp2_with fail
        refine HF.out.mono ?_
        rintro e w1 ⟨rfl, h1, h2⟩
        go_wp2
        go_ret
        rw [R.out]
        exact ⟨rfl, h1, h2⟩
end Go.Proofs.Ytihanhdepijijaa.S2
