/-
  IdentRef, IdentPk, IdentRefI, IdentRefN: joined.
-/
import Derived.Test.YtojbicpchjiplaaGreatDoorCodeRd2
import Derived.Test.YtojbicpchjiplaaGreatDoorIdentMath
import Derived.Deep.QuietTactic
import Derived.BigQuiet
/-
  Layer 11: the document's own ident (agoraref11): ids and names.
-/
namespace Go.Proofs.YtojbicpchjiplaaGreatDoor.S11
open Go.RowKit
namespace Idt
attribute [local go_sem] S2.B_size S2.B_drop' S2.B_take S2.B_list S2.B_app
theorem le_nat (a c : UInt8) : decide (a ≤ c) = decide (a.toNat ≤ c.toNat) := by
  apply decide_eq_decide.2
  exact UInt8.le_iff_toNat_le
theorem dig_nat (c : UInt8) : dig c = (decide (48 ≤ c.toNat) && decide (c.toNat ≤ 57)) := by unfold dig; rw [le_nat, le_nat]; rfl
theorem low_nat (c : UInt8) : low c = (decide (97 ≤ c.toNat) && decide (c.toNat ≤ 122)) := by unfold low; rw [le_nat, le_nat]; rfl
theorem hexc_nat (c : UInt8) : hexc c = ((decide (48 ≤ c.toNat) && decide (c.toNat ≤ 57)) || (decide (97 ≤ c.toNat) && decide (c.toNat ≤ 102))) := by unfold hexc; rw [dig_nat, le_nat, le_nat]; rfl
theorem all_take_succ {p : UInt8 → Bool} {l : Str} {j : Nat} (hj : j < l.length) (h : (l.take j).all p = true) : (l.take (j + 1)).all p = p l[j] := by
  rw [List.take_succ_eq_append_getElem hj, List.all_append, h]
  simp
end Idt
end Go.Proofs.YtojbicpchjiplaaGreatDoor.S11

/-
  Layer 11: what its own package wants (the laws of layer 11 are left out here).
-/


/-
  Layer 11: the document's own Ids (agoraref11).
-/
namespace Go.Proofs.YtojbicpchjiplaaGreatDoor.S11
open Go.RowKit
namespace Idt
attribute [local go_sem] S2.B_size S2.B_drop' S2.B_take S2.B_list S2.B_app
open Go.Op (bytesLess)
theorem ids_bad1 {l : List Str} {j : Nat} (hj : j < l.length) (h : isId l[j] = false) : ids l = false :=
  ids_no fun g => by rw [g.each _ (List.getElem_mem hj)] at h; cases h
theorem ids_bad2 {l : List Str} {j : Nat} (hj : j + 1 < l.length) (h : bytesLess l[j] l[j + 1] = false) : ids l = false :=
  ids_no fun g => by rw [up_at g.up (Nat.lt_succ_self j) hj] at h; cases h
theorem rising_of : ∀ {l : List Str}, (∀ i (h : i + 1 < l.length), bytesLess l[i] l[i + 1] = true) → rising l = true
  | [], _ => rfl
  | [_], _ => rfl
  | a :: b :: t, h => by
    simp only [rising, Bool.and_eq_true]
    exact ⟨h 0 (by simp), rising_of (l := b :: t) fun i hi => h (i + 1) (by simpa using hi)⟩
theorem ids_end {l : List Str} (h1 : ∀ i (h : i < l.length), isId l[i] = true) (h2 : ∀ i (h : i + 1 < l.length), bytesLess l[i] l[i + 1] = true) : ids l = decide (l.length ≤ 64) := by
  unfold ids
  rw [rising_of h2, show l.all isId = true from List.all_eq_true.2 fun x hx => by obtain ⟨i, hi, rfl⟩ := List.mem_iff_getElem.1 hx; exact h1 i hi]
  rfl
/-- The list so far. -/
structure Sofar (l : List Str) (j : Nat) : Prop where
  le : j ≤ l.length
  one : ∀ i (h : i < l.length), i < j → isId l[i] = true
  two : ∀ i (h : i + 1 < l.length), i + 1 < j → bytesLess l[i] l[i + 1] = true
theorem Sofar.next {l : List Str} {j : Nat} (h : Sofar l j) (hj : j < l.length) (h1 : isId l[j] = true) (h2 : ∀ (k : Nat) (_ : j = k + 1), bytesLess (l[k]'(by omega)) l[j] = true) : Sofar l (j + 1) := by
  refine ⟨by omega, fun i hi hij => ?_, fun i hi hij => ?_⟩
  · by_cases e : i = j
    · subst e; exact h1
    · exact h.one i hi (by omega)
  · by_cases e : j = i + 1
    · subst e; exact h2 i rfl
    · exact h.two i hi (by omega)
end Idt
end Go.Proofs.YtojbicpchjiplaaGreatDoor.S11

/-
  Layer 11: the document's own names (agoraref11).
-/
namespace Go.Proofs.YtojbicpchjiplaaGreatDoor.S11
open Go.RowKit
namespace Idt
attribute [local go_sem] S2.B_size S2.B_drop' S2.B_take S2.B_list S2.B_app
theorem shaped_next {l : Str} {j : Nat} (hj : j < l.length) (h : shaped (l.take j) = true) : shaped (l.take (j + 1)) = if j = 0 then low l[j] else later l[j] := by
  cases l with
  | nil => simp at hj
  | cons c t =>
    cases j with
    | zero => simp [shaped]
    | succ j =>
      have hj' : j < t.length := by simpa using hj
      simp only [shaped, List.take_succ_cons, Bool.and_eq_true] at h
      rw [if_neg (by omega), List.take_succ_cons]
      simp only [shaped, h.1, Bool.true_and]
      exact all_take_succ hj' h.2
theorem shaped_no {l : Str} {j : Nat} (h : shaped (l.take (j + 1)) = false) : isName l = false := by
  cases ha : shaped l with
  | true => rw [shaped_take ha] at h; cases h
  | false => unfold isName; rw [ha, Bool.false_and]
theorem later_nat (c : UInt8) : later c = ((decide (97 ≤ c.toNat) && decide (c.toNat ≤ 122)) || ((decide (48 ≤ c.toNat) && decide (c.toNat ≤ 57)) || decide (c.toNat = 95))) := by
  unfold later
  rw [dig_nat, low_nat]
  congr 2
  by_cases h : c = 95
  · subst h; rfl
  · have h' : ¬ c.toNat = 95 := fun e => h (UInt8.toNat_inj.1 e)
    rw [decide_eq_false h']
    simpa using h
end Idt
end Go.Proofs.YtojbicpchjiplaaGreatDoor.S11
