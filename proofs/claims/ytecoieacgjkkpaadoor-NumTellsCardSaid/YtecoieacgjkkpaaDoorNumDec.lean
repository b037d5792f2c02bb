/-
  Plain Lean on decimal numerals (no program): every int is read back from its numeral; numerals of different ints differ.
-/
import Derived.Lib.AtoiAll
import Derived.Lib.AtoiTie
import Derived.Lib.ItoaLen
namespace Go.Proofs.YtecoieacgjkkpaaDoor
open Go.Lib
def isI64 (n : Int) : Prop := -9223372036854775808 ≤ n ∧ n ≤ 9223372036854775807
def isU64 (n : Int) : Prop := 0 ≤ n ∧ n ≤ 18446744073709551615
namespace Dec

theorem dig_toNat (d : Nat) (h : d < 10) : (UInt8.ofNat (48 + d)).toNat = 48 + d := by
  simp [UInt8.toNat_ofNat']; omega

theorem decDigits_ne (u : Nat) : decDigits u ≠ [] := by
  rw [decDigits]; split <;> simp

theorem parse_app : ∀ (l : List UInt8) (acc u : Nat) (c : UInt8), parseUint10 acc l = .ok u → 48 ≤ c.toNat ∧ c.toNat ≤ 57 → u * 10 + (c.toNat - 48) < 18446744073709551616 → parseUint10 acc (l ++ [c]) = .ok (u * 10 + (c.toNat - 48))
  | [], acc, u, c, h, hc, hu => by
    simp only [parseUint10] at h
    injection h with h
    subst h
    simp only [List.nil_append, parseUint10]
    rw [if_pos hc, if_neg (by omega), if_neg (by omega)]
  | b :: r, acc, u, c, h, hc, hu => by
    simp only [parseUint10] at h
    simp only [List.cons_append, parseUint10]
    split at h
    · rename_i hb
      rw [if_pos hb]
      split at h
      · cases h
      · rename_i h1
        rw [if_neg h1]
        split at h
        · cases h
        · rename_i h2
          rw [if_neg h2]
          exact parse_app r _ u c h hc hu
    · cases h

theorem parse_dec (u : Nat) (h : u < 18446744073709551616) : parseUint10 0 (decDigits u) = .ok u := by
  induction u using Nat.strongRecOn with
  | ind u ih =>
    rw [decDigits]
    split
    · rename_i hu
      simp only [parseUint10, dig_toNat u hu]
      rw [if_pos (by omega), if_neg (by omega), if_neg (by omega)]
      congr 1; omega
    · rename_i hu
      have e := parse_app (decDigits (u / 10)) 0 (u / 10) (UInt8.ofNat (48 + u % 10)) (ih (u / 10) (by omega) (by omega)) (by rw [dig_toNat _ (by omega)]; omega) (by rw [dig_toNat _ (by omega)]; omega)
      rw [e, dig_toNat _ (by omega)]
      congr 1; omega

theorem dec_head (u : Nat) : ∃ c r, decDigits u = c :: r ∧ 48 ≤ c.toNat ∧ c.toNat ≤ 57 := by
  induction u using Nat.strongRecOn with
  | ind u ih =>
    rw [decDigits]
    split
    · rename_i hu
      exact ⟨_, _, rfl, by rw [dig_toNat u hu]; omega, by rw [dig_toNat u hu]; omega⟩
    · obtain ⟨c, r, h1, h2⟩ := ih (u / 10) (by omega)
      exact ⟨c, r ++ [_], by rw [h1]; rfl, h2⟩

theorem atoiAll_itoa (n : Int) (hn : isI64 n) : atoiAll (itoa n) = .ok n := by
  obtain ⟨h0, h1⟩ := hn
  by_cases hneg : n < 0
  · obtain ⟨u, rfl⟩ : ∃ u : Nat, n = -(u : Int) := ⟨n.natAbs, by omega⟩
    rw [itoa_neg u (by omega)]
    unfold atoiAll
    have e : parseMag (decDigits u) = .ok u := by
      unfold parseMag; rw [if_neg (decDigits_ne u)]; exact parse_dec u (by omega)
    simp [e]
    omega
  · obtain ⟨u, rfl⟩ : ∃ u : Nat, n = u := ⟨n.toNat, by omega⟩
    rw [itoa_nonneg]
    obtain ⟨c, r, h2, h3⟩ := dec_head u
    have e : parseMag (decDigits u) = .ok u := by
      unfold parseMag; rw [if_neg (decDigits_ne u)]; exact parse_dec u (by omega)
    rw [h2] at e ⊢
    have g1 : ¬ (c.toNat = 43 ∨ c.toNat = 45) := by omega
    have g2 : ¬ c.toNat = 45 := by omega
    unfold atoiAll
    simp only [if_neg g1, e, if_neg g2]
    rw [if_neg (by omega), if_neg (by omega)]

theorem itoa_inj {m n : Int} (hm : isI64 m) (hn : isI64 n) (h : itoa m = itoa n) : m = n := by
  have h1 := atoiAll_itoa m hm
  rw [h, atoiAll_itoa n hn] at h1
  injection h1 with h1
  exact h1.symm

theorem atoiAll_i64 {l : List UInt8} {v : Int} (h : atoiAll l = .ok v) : isI64 v := by
  unfold atoiAll at h
  split at h
  · cases h
  · simp only at h
    split at h
    · cases h
    · cases h
    · rename_i u hu
      split at h
      · cases h
      · split at h
        · cases h
        · injection h with h
          unfold isI64
          split at h <;> omega
end Dec
end Go.Proofs.YtecoieacgjkkpaaDoor
