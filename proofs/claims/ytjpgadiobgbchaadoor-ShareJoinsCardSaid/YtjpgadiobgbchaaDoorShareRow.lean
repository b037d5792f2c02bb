/-
  Layer 7: slices of shares in memory.
-/
import Derived.Test.YtjpgadiobgbchaaDoorShareMath
import Derived.Test.YtjpgadiobgbchaaDoorSignBase
import Derived.Test.YtjpgadiobgbchaaDoorLawKit
import Derived.Deep.Slices
namespace Go.Proofs.YtjpgadiobgbchaaDoor
open Go.RowKit
namespace Sh
attribute [local go_sem] S3.B_size S3.B_app S3.B_list

/-- The cells of a list of shares. -/
def Sc (l : List (Int × Int)) : List Value := l.flatMap fun p => [.int .i64 p.1, .int .i64 p.2]
theorem Sc_len : ∀ l : List (Int × Int), (Sc l).length = l.length * 2
  | [] => rfl
  | p :: l => by
    have ih := Sc_len l
    unfold Sc at ih ⊢
    rw [List.flatMap_cons, List.length_append, ih, List.length_cons]
    simp
    omega
theorem Sc_cons (p : Int × Int) (l : List (Int × Int)) : Sc (p :: l) = .int .i64 p.1 :: .int .i64 p.2 :: Sc l := by
  unfold Sc
  rw [List.flatMap_cons]; rfl
theorem Sc_append (l m : List (Int × Int)) : Sc (l ++ m) = Sc l ++ Sc m := by unfold Sc; rw [List.flatMap_append]
theorem Sc_at : ∀ (l : List (Int × Int)) (i : Nat) (h : i < l.length), (Sc l)[i * 2]? = some (.int .i64 l[i].1) ∧ (Sc l)[i * 2 + 1]? = some (.int .i64 l[i].2)
  | p :: l, 0, _ => by rw [Sc_cons]; exact ⟨rfl, rfl⟩
  | p :: l, i + 1, h => by
    have ih := Sc_at l i (by simpa using h)
    rw [Sc_cons, show (i + 1) * 2 = i * 2 + 2 by omega, show i * 2 + 2 + 1 = i * 2 + 1 + 2 by omega]
    exact ih
theorem Sc_take (l : List (Int × Int)) (t : Nat) : Sc (l.take t) = (Sc l).take (t * 2) := by
  rcases Nat.le_total t l.length with h | h
  · have e1 : Sc l = Sc (l.take t) ++ Sc (l.drop t) := by rw [← Sc_append, List.take_append_drop]
    have e : (Sc (l.take t)).length = t * 2 := by rw [Sc_len, List.length_take]; omega
    rw [e1, ← e, List.take_left]
  · rw [List.take_of_length_le h, List.take_of_length_le (by rw [Sc_len]; omega)]
theorem row_at {w : World} {bd : Nat} {A : Option Addr} {l : List (Int × Int)} (h : S2.Row w bd A (Sc l)) {i : Nat} (hi : i < l.length) :
    ∃ a, A = some a ∧ a.block < bd ∧ w.cell? (a.add (i * 2)) = some (.int .i64 l[i].1) ∧ w.cell? ⟨(a.add (i * 2)).block, (a.add (i * 2)).off + 1, none⟩ = some (.int .i64 l[i].2) := by
  have hs := Sc_at l i hi
  rcases h with h | ⟨a, rfl, hlt, hc⟩
  · rw [h] at hs
    simp at hs
  · have h2 := hc _ _ hs.2
    rw [← Go.Deep.add_add] at h2
    exact ⟨a, rfl, hlt, hc _ _ hs.1, h2⟩
theorem row_take {w : World} {bd : Nat} {A : Option Addr} {l : List (Int × Int)} (h : S2.Row w bd A (Sc l)) (t : Nat) : S2.Row w bd A (Sc (l.take t)) := by
  rw [Sc_take]
  rcases h with h | ⟨a, rfl, hlt, hc⟩
  · left; rw [h]; simp
  · refine .inr ⟨a, rfl, hlt, fun j u hu => hc j u ?_⟩
    rw [List.getElem?_take] at hu
    split at hu
    · exact hu
    · cases hu

/-! ### Validity -/
def okAt (l : List (Int × Int)) (i : Nat) : Prop := (1 ≤ px l i ∧ px l i < 2305843009213693951) ∧ (0 ≤ py l i ∧ py l i < 2305843009213693951) ∧ ∀ k, k < i → px l k ≠ px l i
theorem px_get {l : List (Int × Int)} {i : Nat} (h : i < l.length) : px l i = l[i].1 := by unfold px; rw [List.getD_eq_getElem?_getD, List.getElem?_eq_getElem h]; rfl
theorem py_get {l : List (Int × Int)} {i : Nat} (h : i < l.length) : py l i = l[i].2 := by unfold py; rw [List.getD_eq_getElem?_getD, List.getElem?_eq_getElem h]; rfl
theorem valid_iff (l : List (Int × Int)) : Valid l ↔ ∀ i, i < l.length → okAt l i := by
  constructor
  · intro h i hi
    unfold okAt
    rw [px_get hi, py_get hi]
    refine ⟨h.x _ (List.getElem_mem hi), h.y _ (List.getElem_mem hi), fun k hk => ?_⟩
    rw [px_get (by omega)]
    exact List.pairwise_iff_getElem.1 h.one k i (by omega) hi hk
  · intro h
    refine ⟨fun p hp => ?_, fun p hp => ?_, ?_⟩
    · obtain ⟨i, hi, rfl⟩ := List.mem_iff_getElem.1 hp
      have := (h i hi).1
      rwa [px_get hi] at this
    · obtain ⟨i, hi, rfl⟩ := List.mem_iff_getElem.1 hp
      have := (h i hi).2.1
      rwa [py_get hi] at this
    · refine List.pairwise_iff_getElem.2 fun i j hi hj hij => ?_
      have := (h j hj).2.2 i hij
      rwa [px_get hi, px_get hj] at this
noncomputable instance (l : List (Int × Int)) : Decidable (Valid l) := Classical.propDecidable _
noncomputable def validB (l : List (Int × Int)) : Bool := decide (Valid l)
theorem validB_true {l : List (Int × Int)} (h : Valid l) : validB l = true := by unfold validB; exact decide_eq_true h
theorem validB_false {l : List (Int × Int)} {i : Nat} (hi : i < l.length) (h : ¬ okAt l i) : validB l = false := by
  unfold validB
  exact decide_eq_false fun hv => h ((valid_iff l).1 hv i hi)
theorem of_validB {l : List (Int × Int)} (h : validB l = true) : Valid l := by unfold validB at h; exact of_decide_eq_true h
theorem not_validB {l : List (Int × Int)} (h : validB l = false) : ¬ Valid l := by unfold validB at h; exact of_decide_eq_false h
end Sh
end Go.Proofs.YtjpgadiobgbchaaDoor
