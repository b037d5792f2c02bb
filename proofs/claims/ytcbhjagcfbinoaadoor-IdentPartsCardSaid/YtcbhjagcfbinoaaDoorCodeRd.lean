/-
  Layer 2 (code): the reader: fail, Left, Done, Take, Num, Int, Text.
-/
import Derived.Test.YtcbhjagcfbinoaaDoorCodeRow
import Derived.LoopTactic
import Derived.Outline
namespace Go.Proofs.YtcbhjagcfbinoaaDoor.S2
open Go.RowKit
open Cd

/-- What is left of a reader's input. -/
def lft (s : St) : List UInt8 := s.getD []
/-- The two cells of a reader. -/
def rc (s : St) : Array Value := #[.string (B (lft s)), .bool s.isNone]
/-- Whether all has been read without a failure. -/
def dn : St → Bool
  | some [] => true
  | _ => false
def takeI (n : Int) (l : List UInt8) : Option (List UInt8 × List UInt8) := if 0 ≤ n then takeN n.toNat l else none
theorem B_size (l : List UInt8) : (B l).size = l.length := by simp [B, ByteArray.size]
theorem B_toList (l : List UInt8) : (B l).data.toList = l := rfl
theorem B_eq {a : ByteArray} {l : List UInt8} (h : a.data.toList = l) : a = B l := by
  subst h; rfl
theorem B_drop (l : List UInt8) (k : Nat) : (B l).extract k (B l).size = B (l.drop k) := by
  apply B_eq
  rw [ByteArray.data_extract, Array.toList_extract, B_size]
  simp only [List.extract, B]
  exact List.take_of_length_le (by simp)
theorem B_take (l : List UInt8) (k : Nat) : (B l).extract 0 k = B (l.take k) := by
  apply B_eq
  rw [ByteArray.data_extract, Array.toList_extract]
  simp [List.extract, B]
theorem B_drop' (l : List UInt8) (k : Nat) : (B l).extract k l.length = B (l.drop k) := by rw [← B_drop, B_size]
theorem B_list (l : List UInt8) : (B l).toList = l := by rw [ByteArray.toList_eq]; rfl
theorem B_app (a b : List UInt8) : B a ++ B b = B (a ++ b) := by
  apply B_eq
  rw [ByteArray.data_append, Array.toList_append]
  rfl
theorem B_nil : (ByteArray.mk #[]) = B [] := rfl
attribute [local go_sem] B_size B_drop' B_take B_list B_app
theorem B_get (l : List UInt8) (k : Nat) (h : k < (B l).size) : (B l)[k] = l[k]'(by rw [B_size] at h; exact h) := rfl
/-- Block g is a reader in this state. -/
def Rd (T : TypeId) (w : World) (g : Nat) (s : St) : Prop := w.heap[g]? = some (.cells (rc s) T (0, 0))
theorem cell_at {w : World} {g : Nat} {T : TypeId} {cs : Array Value} (h : w.heap[g]? = some (.cells cs T (0, 0))) (i : Nat) : w.cell? ⟨g, i, none⟩ = cs[i]? := cell_of_row w g i cs T (0, 0) h
theorem free_at {w : World} {g : Nat} {T : TypeId} {cs : Array Value} (h : w.heap[g]? = some (.cells cs T (0, 0))) (i : Nat) : w.frozen? ⟨g, i, none⟩ = false := by
  simp [World.frozen?, h]
theorem blk_set {w : World} {g : Nat} {T : TypeId} {cs : Array Value} (h : w.heap[g]? = some (.cells cs T (0, 0))) (i : Nat) (u : Value) : (w.setCell ⟨g, i, none⟩ u).heap[g]? = some (.cells (cs.setIfInBounds i u) T (0, 0)) := by
  simp [World.setCell, Array.getElem?_modify, h]
theorem blk_lt {w : World} {g : Nat} {o : Obj} (h : w.heap[g]? = some o) : g < w.heap.size := (Array.getElem?_eq_some_iff.1 h).1
theorem grown_set {a w : World} {g : Nat} (h : a.grownBy w (some g)) (i : Nat) (u : Value) : a.grownBy (w.setCell ⟨g, i, none⟩ u) (some g) :=
  ⟨h.os, h.tape, h.output, by simpa [World.setCell] using h.size, fun k hk hne => (Below.heap_setCell w ⟨g, i, none⟩ u k (by
    rintro rfl
    exact hne rfl)).trans (h.block k hk hne)⟩
theorem grown_trans {a b c : World} {g : Nat} (h : a.grownBy b (some g)) (k : b.grownBy c (some g)) : a.grownBy c (some g) :=
  ⟨k.os.trans h.os, k.tape.trans h.tape, k.output.trans h.output, Nat.le_trans h.size k.size, fun i hi hne => (k.block i (Nat.lt_of_lt_of_le hi h.size) hne).trans (h.block i hi hne)⟩
theorem grown_alloc {a w : World} {row : Option Nat} (h : a.grownBy w row) (o : Obj) : a.grownBy (w.alloc o) row :=
  ⟨h.os, h.tape, h.output, Nat.le_trans h.size (by simp), fun i hi hne => (Below.heap_alloc w o i (Nat.lt_of_lt_of_le hi h.size)).trans (h.block i hi hne)⟩
theorem grown_drew {a w : World} {row : Option Nat} (h : a.grownBy w row) : a.grownBy w.drew row := ⟨h.os, h.tape, h.output, h.size, h.block⟩
theorem grown_drewN {a w : World} {row : Option Nat} (h : a.grownBy w row) (n : Nat) : a.grownBy (w.drewN n) row := ⟨h.os, h.tape, h.output, h.size, h.block⟩

/-- A call on the reader hands back v and leaves it in state s; all else is as it was. -/
def RRes (T : TypeId) (g : Nat) (W : World) (v : Value) (s : St) (e : Ending) (w' : World) : Prop := e = .returned v ∧ Rd T w' g s ∧ W.grownBy w' (some g)

theorem rd_set2 {T : TypeId} {w : World} {g : Nat} {s s' : St} (h : Rd T w g s) : Rd T ((w.setCell ⟨g, 0, none⟩ (.string (B (lft s')))).setCell ⟨g, 1, none⟩ (.bool s'.isNone)) g s' := by
  have h1 := blk_set (blk_set h 0 (.string (B (lft s')))) 1 (.bool s'.isNone)
  simpa [rc, Rd] using h1
theorem rd_set1 {T : TypeId} {w : World} {g : Nat} {s s' : St} (h : Rd T w g s) (he : s.isNone = s'.isNone) : Rd T (w.setCell ⟨g, 0, none⟩ (.string (B (lft s')))) g s' := by
  have h1 := blk_set h 0 (.string (B (lft s')))
  simpa [rc, Rd, he] using h1

/-! ### Num -/
/-- After k digits: n is their number, and reading goes on behind them. -/
def PNum (l : List UInt8) (k n : Nat) : Prop := k ≤ 9 ∧ k ≤ l.length ∧ n < 128 ^ k ∧ decN l = (dv (9 - k) (k == 0) (l.drop k)).map fun p => (n + 128 ^ k * p.1, p.2)
theorem pnum_start (l : List UInt8) : PNum l 0 0 := by
  refine ⟨by omega, by omega, by omega, ?_⟩
  have e : (fun p : Nat × List UInt8 => (0 + 128 ^ 0 * p.1, p.2)) = id := by funext p; simp
  rw [e, Option.map_id]
  rfl
theorem dv_cons (k : Nat) (first : Bool) (b : UInt8) (r : List UInt8) : dv (k + 1) first (b :: r) = if b.toNat < 128 then (if b.toNat = 0 ∧ first = false then none else some (b.toNat, r)) else (dv k false r).map fun p => (b.toNat - 128 + 128 * p.1, p.2) := rfl
theorem pnum_at {l : List UInt8} {k n : Nat} (h : PNum l k n) (hk : k < 9) (hl : k < l.length) : decN l = (if l[k].toNat < 128 then (if l[k].toNat = 0 ∧ k ≠ 0 then none else some (n + 128 ^ k * l[k].toNat, l.drop (k + 1))) else (dv (9 - (k + 1)) false (l.drop (k + 1))).map fun p => (n + 128 ^ k * (l[k].toNat - 128 + 128 * p.1), p.2)) := by
  obtain ⟨_, _, _, h4⟩ := h
  have e : 9 - k = (9 - (k + 1)) + 1 := by omega
  rw [h4, e, List.drop_eq_getElem_cons hl, dv_cons]
  by_cases h1 : l[k].toNat < 128
  · simp only [h1, if_true]
    by_cases h2 : l[k].toNat = 0 ∧ k ≠ 0
    · rw [if_pos ⟨h2.1, by simpa using h2.2⟩, if_pos h2]; rfl
    · rw [if_neg h2, if_neg (by simpa using h2)]; rfl
  · simp only [h1, if_false]
    rcases dv (9 - (k + 1)) false (l.drop (k + 1)) with _ | ⟨a, b⟩ <;> rfl
theorem pnum_step {l : List UInt8} {k n : Nat} (h : PNum l k n) (hk : k < 9) (hl : k < l.length) (hb : 128 ≤ l[k].toNat) : PNum l (k + 1) (n + 128 ^ k * (l[k].toNat - 128)) := by
  have h0 := pnum_at h hk hl
  rw [if_neg (by omega)] at h0
  have hb2 := l[k].toNat_lt
  refine ⟨by omega, by omega, ?_, ?_⟩
  · have h3 := h.2.2.1
    have : 128 ^ k * (l[k].toNat - 128) ≤ 128 ^ k * 127 := Nat.mul_le_mul_left _ (by omega)
    rw [Nat.pow_succ]
    omega
  · rw [h0]
    have e0 : (k + 1 == 0) = false := by simp
    rw [e0]
    rcases dv (9 - (k + 1)) false (l.drop (k + 1)) with _ | ⟨a, b⟩
    · simp only [Option.map_none]
    · have e3 : n + 128 ^ k * (l[k].toNat - 128 + 128 * a) = n + 128 ^ k * (l[k].toNat - 128) + 128 ^ (k + 1) * a := by
        rw [Nat.pow_succ, Nat.mul_add, Nat.mul_assoc, Nat.add_assoc]
      exact congrArg (fun x => some (x, b)) e3
theorem pnum_end {l : List UInt8} {k n : Nat} (h : PNum l k n) (hk : ¬ (k < 9 ∧ k < l.length)) : decN l = none := by
  obtain ⟨h1, h2, _, h4⟩ := h
  rw [h4]
  rcases Nat.lt_or_ge k 9 with h9 | h9
  · have : k = l.length := by omega
    subst this
    have e : 9 - l.length = (8 - l.length) + 1 := by omega
    rw [e, List.drop_length]
    rfl
  · have : 9 - k = 0 := by omega
    rw [this, dv]
    rfl

theorem pow7 (k : Nat) : (2 : Int) ^ (7 * k) = ((128 ^ k : Nat) : Int) := by
  rw [Int.pow_mul, Int.natCast_pow]
  rfl
theorem shl_eq (k m b : Nat) (hk : k < 9) (hm : m < 128 ^ k) : wrap64 ((m : Int) + wrap64 ((b : Int) % 128 * 2 ^ (7 * k))) = ((m + 128 ^ k * (b % 128) : Nat) : Int) := by
  rw [pow7]
  have hP : 128 ^ k ≤ 128 ^ 8 := Nat.pow_le_pow_right (by omega) (by omega)
  have h8 : (128 : Nat) ^ 8 = 72057594037927936 := by decide
  rw [h8] at hP
  generalize 128 ^ k = P at hm hP
  have hx : P * (b % 128) ≤ P * 127 := Nat.mul_le_mul_left _ (by omega)
  have e : (b : Int) % 128 * (P : Int) = ((P * (b % 128) : Nat) : Int) := by
    rw [Int.natCast_mul, Int.mul_comm]
    rfl
  rw [e]
  generalize P * (b % 128) = Q at hx
  unfold wrap64
  omega

theorem num_none {s : St} {l : List UInt8} (h : l = lft s) (hd : decN l = none) : s.bind decN = none := by
  rcases s with _ | l'
  · rfl
  · have e : l = l' := h
    subst e
    exact hd
theorem num_some {s : St} {l : List UInt8} {p : Nat × List UInt8} (h : l = lft s) (hd : decN l = some p) : s.bind decN = some p := by
  rcases s with _ | l'
  · have e : l = [] := h
    subst e
    cases hd
  · have e : l = l' := h
    subst e
    exact hd

end Go.Proofs.YtcbhjagcfbinoaaDoor.S2
