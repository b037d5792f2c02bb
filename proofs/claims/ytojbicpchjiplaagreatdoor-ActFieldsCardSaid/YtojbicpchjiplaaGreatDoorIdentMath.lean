/-
  Layer 11 (ident) in plain Lean: ids, names, handles, lists of ids. No program.
-/
import Derived.Below
import Derived.Lib.ItoaLen
namespace Go.Proofs.YtojbicpchjiplaaGreatDoor.S11
namespace Idt
abbrev Str := List UInt8
def low (c : UInt8) : Bool := decide (97 ≤ c) && decide (c ≤ 122)
def dig (c : UInt8) : Bool := decide (48 ≤ c) && decide (c ≤ 57)
def hexc (c : UInt8) : Bool := dig c || (decide (97 ≤ c) && decide (c ≤ 102))
def later (c : UInt8) : Bool := low c || (dig c || c == 95)
def isId (s : Str) : Bool := s.all hexc && decide (s.length = 16)
/-- Whether every byte may stand where it stands. -/
def shaped : Str → Bool
  | [] => true
  | c :: t => low c && t.all later
def isName (s : Str) : Bool := shaped s && (decide (1 ≤ s.length) && decide (s.length ≤ 24))
theorem name_pos {a : Str} (h : isName a = true) : 1 ≤ a.length ∧ a.length ≤ 24 := by
  simp only [isName, Bool.and_eq_true, decide_eq_true_eq] at h
  exact h.2
/-- Every prefix of a name that is not empty is a name. -/
theorem shaped_take {s : Str} (h : shaped s = true) (k : Nat) : shaped (s.take k) = true := by
  cases s with
  | nil => rw [List.take_nil]; rfl
  | cons c t =>
    cases k with
    | zero => rfl
    | succ k =>
      simp only [shaped, Bool.and_eq_true, List.take_succ_cons] at h ⊢
      exact ⟨h.1, List.all_eq_true.2 fun x hx => List.all_eq_true.1 h.2 x (List.mem_of_mem_take hx)⟩
/-! ### Lists of ids -/
open Go.Op (bytesLess)
theorem less_trans : ∀ {x y z : Str}, bytesLess x y = true → bytesLess y z = true → bytesLess x z = true
  | _, _, [], _, h => by simp [bytesLess] at h
  | _, [], _ :: _, h, _ => by simp [bytesLess] at h
  | [], _ :: _, _ :: _, _, _ => rfl
  | a :: x, b :: y, c :: z, h1, h2 => by
    simp only [bytesLess, Bool.or_eq_true, Bool.and_eq_true, decide_eq_true_eq, beq_iff_eq] at h1 h2 ⊢
    rcases h1 with h1 | ⟨rfl, h1⟩
    · rcases h2 with h2 | ⟨rfl, h2⟩
      · exact .inl (UInt8.lt_trans h1 h2)
      · exact .inl h1
    · rcases h2 with h2 | ⟨rfl, h2⟩
      · exact .inl h2
      · exact .inr ⟨rfl, less_trans h1 h2⟩
def rising : List Str → Bool
  | [] => true
  | [_] => true
  | a :: b :: t => bytesLess a b && rising (b :: t)
def ids (l : List Str) : Bool := l.all isId && (rising l && decide (l.length ≤ 64))
def Up (l : List Str) : Prop := l.Pairwise fun a b => bytesLess a b = true
theorem rising_up : ∀ l : List Str, rising l = true ↔ Up l
  | [] => by simp [rising, Up]
  | [a] => by simp [rising, Up]
  | a :: b :: t => by
    have ih := rising_up (b :: t)
    unfold Up at *
    simp only [rising, Bool.and_eq_true]
    rw [ih]
    constructor
    · rintro ⟨h1, h2⟩
      refine List.Pairwise.cons (fun x hx => ?_) h2
      rcases List.mem_cons.1 hx with rfl | hx
      · exact h1
      · exact less_trans h1 (List.rel_of_pairwise_cons h2 hx)
    · intro h
      exact ⟨List.rel_of_pairwise_cons h List.mem_cons_self, h.of_cons⟩
structure Good (l : List Str) : Prop where
  each : ∀ x ∈ l, isId x = true
  up : Up l
  len : l.length ≤ 64
theorem ids_iff {l : List Str} : ids l = true ↔ Good l := by
  unfold ids
  rw [Bool.and_eq_true, Bool.and_eq_true, rising_up, List.all_eq_true, decide_eq_true_eq]
  exact ⟨fun h => ⟨h.1, h.2.1, h.2.2⟩, fun h => ⟨h.each, h.up, h.len⟩⟩
theorem ids_no {l : List Str} (h : ¬ Good l) : ids l = false := by
  cases hh : ids l with
  | false => rfl
  | true => exact absurd (ids_iff.1 hh) h
theorem Good.part {l l' : List Str} (h : Good l) (hs : l'.Sublist l) : Good l' :=
  ⟨fun x hx => h.each x (hs.subset hx), h.up.sublist hs, Nat.le_trans hs.length_le h.len⟩
theorem up_at {l : List Str} (h : Up l) {i k : Nat} (hik : i < k) (hk : k < l.length) : bytesLess (l[i]'(by omega)) l[k] = true := List.pairwise_iff_getElem.1 h i k (by omega) hk hik
end Idt
end Go.Proofs.YtojbicpchjiplaaGreatDoor.S11
