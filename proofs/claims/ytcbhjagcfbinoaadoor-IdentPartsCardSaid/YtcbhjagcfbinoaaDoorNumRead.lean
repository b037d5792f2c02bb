/-
  NumReads: the walk of the law, and the facts on numerals that it wants.
-/
import Derived.Test.YtcbhjagcfbinoaaDoorNumLaw
import Derived.LoopN
namespace Go.Proofs.YtcbhjagcfbinoaaDoor.S1
open Go.RowKit

namespace Dec
open Go.Lib
theorem dec_bytes (u : Nat) : ∀ c ∈ decDigits u, 48 ≤ c.toNat ∧ c.toNat ≤ 57 := by
  induction u using Nat.strongRecOn with
  | ind u ih =>
    rw [decDigits]
    split
    · rename_i hu
      intro c hc
      rw [List.mem_singleton] at hc
      rw [hc, dig_toNat u hu]; omega
    · intro c hc
      rw [List.mem_append, List.mem_singleton] at hc
      rcases hc with hc | hc
      · exact ih (u / 10) (by omega) c hc
      · rw [hc, dig_toNat _ (by omega)]; omega
theorem dec_zero : ∀ (u : Nat) (c : UInt8) (r : List UInt8), decDigits u = c :: r → c.toNat = 48 → u = 0 ∧ r = [] := by
  intro u
  induction u using Nat.strongRecOn with
  | ind u ih =>
    intro c r h hc
    rw [decDigits] at h
    split at h
    · rename_i hu
      injection h with h1 h2
      rw [← h1, dig_toNat u hu] at hc
      exact ⟨by omega, h2.symm⟩
    · rename_i hu
      obtain ⟨d, s, hd, _⟩ := dec_head (u / 10)
      rw [hd, List.cons_append] at h
      injection h with h1 h2
      have := (ih (u / 10) (by omega) d s hd (by rw [h1]; exact hc)).1
      omega
/-- A numeral's bytes: digits, behind a '-' where the number is negative. -/
theorem itoa_cases (n : Int) : (∃ u : Nat, Lib.itoa n = decDigits u) ∨ (∃ u : Nat, Lib.itoa n = 45 :: decDigits u) := by
  unfold Lib.itoa; split
  · exact .inr ⟨_, rfl⟩
  · exact .inl ⟨_, rfl⟩
theorem itoa_bytes (n : Int) : ∀ c ∈ Lib.itoa n, c.toNat = 45 ∨ 48 ≤ c.toNat ∧ c.toNat ≤ 57 := by
  intro c hc
  rcases itoa_cases n with ⟨u, h⟩ | ⟨u, h⟩ <;> rw [h] at hc
  · exact .inr (dec_bytes u c hc)
  · rcases List.mem_cons.1 hc with hc | hc
    · exact .inl (by rw [hc]; rfl)
    · exact .inr (dec_bytes u c hc)
theorem itoa_ne (n : Int) : Lib.itoa n ≠ [] := by
  rcases itoa_cases n with ⟨u, h⟩ | ⟨u, h⟩ <;> rw [h]
  · exact decDigits_ne u
  · simp
theorem not_byte (b : UInt8) (hb : ¬ (b.toNat = 45 ∨ 48 ≤ b.toNat ∧ b.toNat ≤ 57)) (l r : List UInt8) (n : Int) : Lib.itoa n ≠ l ++ b :: r := by
  intro h
  exact hb (itoa_bytes n b (by rw [h]; simp))
theorem not_zero (m n : Int) : Lib.itoa n ≠ 48 :: Lib.itoa m := by
  intro h
  rcases itoa_cases n with ⟨u, e⟩ | ⟨u, e⟩
  · exact itoa_ne m (dec_zero u 48 _ (e.symm.trans h) rfl).2
  · rw [e] at h; injection h with h _; exact absurd h (by decide)
theorem not_minus (m n : Int) : Lib.itoa n ≠ 45 :: 45 :: Lib.itoa m := by
  intro h
  rcases itoa_cases n with ⟨u, e⟩ | ⟨u, e⟩
  · have := dec_bytes u 45 (by rw [← e, h]; simp)
    exact absurd this.1 (by decide)
  · rw [e] at h; injection h with _ h
    have := dec_bytes u 45 (by rw [h]; simp)
    exact absurd this.1 (by decide)
end Dec

theorem Good.trans {W w w' : World} (h : Good W w) (k : Good w w') : Good W w' := h.step k.2

theorem Good.of_alloc {W w w' : World} {o : Obj} (h : Good W w) (k : Good (w.alloc o) w') : Good W w' :=
  h.step (((Below.refl _ _).alloc (Nat.le_refl _) _).trans (k.2.mono (by simp)))

/-- The six spellings that the law tries, and the block that they lie in. -/
def six (t : List UInt8) : List ByteArray := [⟨#[43]⟩ ++ ⟨t.toArray⟩, ⟨#[48]⟩ ++ ⟨t.toArray⟩, ⟨#[32]⟩ ++ ⟨t.toArray⟩, ⟨t.toArray⟩ ++ ⟨#[32]⟩, ⟨#[45, 45]⟩ ++ ⟨t.toArray⟩, ⟨t.toArray⟩ ++ ⟨#[46]⟩]
def sixObj (t : List UInt8) : Obj := .cells #[.string (⟨#[43]⟩ ++ ⟨t.toArray⟩), .string (⟨#[48]⟩ ++ ⟨t.toArray⟩), .string (⟨#[32]⟩ ++ ⟨t.toArray⟩), .string (⟨t.toArray⟩ ++ ⟨#[32]⟩), .string (⟨#[45, 45]⟩ ++ ⟨t.toArray⟩), .string (⟨t.toArray⟩ ++ ⟨#[46]⟩)] 9
theorem six_cell (w wr : World) (t : List UInt8) (h : Below (w.alloc (sixObj t)).heap.size (w.alloc (sixObj t)) wr) (k : Nat) (hk : k < 6) : wr.cell? ⟨w.heap.size, k, none⟩ = some (.string ((six t).getD k ⟨#[]⟩)) := by
  rw [h.cell (p := ⟨w.heap.size, k, none⟩) (by simp)]
  rcases (by omega : k = 0 ∨ k = 1 ∨ k = 2 ∨ k = 3 ∨ k = 4 ∨ k = 5) with rfl | rfl | rfl | rfl | rfl | rfl <;> simp [sixObj, six]
theorem six_none (m : Int) (k : Nat) (hk : k < 6) (n : Int) : Lib.itoa n = ((six (Lib.itoa m)).getD k ⟨#[]⟩).data.toList → False := by
  intro h
  rcases (by omega : k = 0 ∨ k = 1 ∨ k = 2 ∨ k = 3 ∨ k = 4 ∨ k = 5) with rfl | rfl | rfl | rfl | rfl | rfl <;> simp [six, ByteArray.data_append] at h
  · exact Dec.not_byte 43 (by decide) [] _ n h
  · exact Dec.not_zero m n h
  · exact Dec.not_byte 32 (by decide) [] _ n h
  · exact Dec.not_byte 32 (by decide) _ [] n h
  · exact Dec.not_minus m n h
  · exact Dec.not_byte 46 (by decide) _ [] n h
theorem six_size (t : List UInt8) (ht : t.length ≤ 21) (k : Nat) (hk : k < 6) : ((six t).getD k ⟨#[]⟩).size ≤ 281474976710656 := by
  rcases (by omega : k = 0 ∨ k = 1 ∨ k = 2 ∨ k = 3 ∨ k = 4 ∨ k = 5) with rfl | rfl | rfl | rfl | rfl | rfl <;> simp [six, ByteArray.size] <;> omega

/-- In the range, and the number is told; or outside, and it isn't. -/
def InCase (low high n x : Int) (ok : Bool) : Prop := (low ≤ n ∧ n ≤ high ∧ x = n ∧ ok = true) ∨ (¬ (low ≤ n ∧ n ≤ high) ∧ x = 0 ∧ ok = false)
theorem ways (low high n : Int) : ∃ x ok, InCase low high n x ok ∧ ((low ≤ n ∧ n ≤ high ∧ x = n ∧ ok = true) ∨ (n < low ∧ x = 0 ∧ ok = false) ∨ (low ≤ n ∧ high < n ∧ x = 0 ∧ ok = false)) := by
  by_cases h : low ≤ n ∧ n ≤ high
  · exact ⟨n, true, .inl ⟨h.1, h.2, rfl, rfl⟩, .inl ⟨h.1, h.2, rfl, rfl⟩⟩
  · by_cases h1 : n < low
    · exact ⟨0, false, .inr ⟨h, rfl, rfl⟩, .inr (.inl ⟨h1, rfl, rfl⟩)⟩
    · exact ⟨0, false, .inr ⟨h, rfl, rfl⟩, .inr (.inr ⟨by omega, by omega, rfl, rfl⟩)⟩

end Go.Proofs.YtcbhjagcfbinoaaDoor.S1
