/-
  An argument that is a slice of the law's values, opened.
-/
import Derived.Test.YtcgbamloemdilaaCodeBak
import Derived.Deep.Slices
namespace Go.Proofs.Ytcgbamloemdilaa
open Go.RowKit Go.ChangeShapes Go.WideShapes Go.Deep
open Cd

theorem list_of {P : Nat → Vl → Prop} : ∀ n, (∀ i, i < n → ∃ v, P i v) → ∃ vs : List Vl, vs.length = n ∧ ∀ (i : Nat) (h : i < vs.length), P i vs[i]
  | 0, _ => ⟨[], rfl, fun i h => absurd h (by simp)⟩
  | n + 1, h => by
    obtain ⟨vs, hl, hp⟩ := list_of n (fun i hi => h i (by omega))
    obtain ⟨v, hv⟩ := h n (by omega)
    refine ⟨vs ++ [v], by simp [hl], fun i hi => ?_⟩
    rw [List.length_append, List.length_singleton] at hi
    rcases Nat.lt_or_ge i vs.length with h1 | h1
    · rw [List.getElem_append_left h1]; exact hp i h1
    · have e : i = vs.length := by omega
      subst e
      rw [List.getElem_append_right (Nat.le_refl _)]
      simp only [Nat.sub_self, List.getElem_singleton]
      rw [hl]
      exact hv
section
variable {H : Type} {enc : TypeId × Value → H} {w : World}
theorem openVals {fuel : Nat} {v : Value} {x : DataW H × List MemPlace} (h : DataW.trod enc Try.prog w 0 (fun _ => true) true fuel 42 [v] = some x) :
    ∃ (A : Option Addr) (cap : Nat) (vs : List Vl), v = .slice A vs.length cap ∧ Vals w w.heap.size A vs ∧ vs.length ≤ maxLen := by
  rcases open_slice Try.underlying42 h with ⟨hc, _⟩ | ⟨a, len, cap, m, n, D, Pl, hc, _, hl, hm, hmm, _, hi⟩
  · injection hc with hc _
    exact ⟨none, 0, [], hc, ⟨.inl rfl, (fun v hv => by cases hv)⟩, Nat.zero_le _⟩
  · injection hc with hc _
    simp only [if_true] at hmm
    rw [cells_value] at hi
    obtain ⟨vs, hlen, hp⟩ := list_of (P := fun i v => (∀ (j : Nat) (u : Value), v.cells[j]? = some u → w.cell? (a.add (i * 5 + j)) = some u) ∧ v.In w w.heap.size ∧ v.Fit) len (fun i hil => by
      obtain ⟨cs', hcs, ht⟩ := hi i (by omega)
      obtain ⟨v, e, hin, hfit⟩ := openStruct ht
      obtain ⟨_, hcl, hat⟩ := World.cells?_some hcs
      refine ⟨v, fun j u hu => ?_, hin, hfit⟩
      have hj : j < 5 := by
        have := (Array.getElem?_eq_some_iff.1 hu).1
        simpa [Vl.cells] using this
      have h1 := hat j hj
      rw [Go.Deep.add_add] at h1
      rw [h1, e]
      simpa using hu)
    refine ⟨some a, cap, vs, by rw [hlen]; exact hc, ⟨?_, fun v hv => ?_⟩, by omega⟩
    · rcases Nat.eq_zero_or_pos len with h0 | h0
      · left; exact List.eq_nil_of_length_eq_zero (by omega)
      · refine .inr ⟨a, rfl, ?_, fun i hi j u hu => (hp i hi).1 j u hu⟩
        have h1 := (hp 0 (by omega)).1 0 _ rfl
        have := World.block_lt_of_cell? w _ h1
        rw [add_block] at this
        exact this
    · obtain ⟨i, hi, rfl⟩ := List.mem_iff_getElem.1 hv
      exact (hp i hi).2
end
end Go.Proofs.Ytcgbamloemdilaa
