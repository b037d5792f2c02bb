/-
  Layer 4: the laws of powers, of what Exp and Inv return.
-/
import Derived.Test.YtfldbddjpdbmpaaGroupField
namespace Go.Proofs.Ytfldbddjpdbmpaa
open Go.RowKit

theorem expo_mod (e : Int) : expo e % 2305843009213693950 = (e % 2305843009213693950).toNat := by
  unfold expo
  split <;> omega
theorem nat_ofN (e : Int) : ∃ E : Nat, (E : Int) = e % 2305843009213693950 ∧ E < 2305843009213693950 := ⟨(e % 2305843009213693950).toNat, by omega, by omega⟩
/-- The power of a base whose residue A is not 0 is that with the residue of the exponent. -/
theorem powP_red (a e : Int) (A E : Nat) (hA : (A : Int) = a % 2305843009213693951) (h0 : A ≠ 0) (hE : (E : Int) = e % 2305843009213693950) : powP a e = A ^ E % Gp.P := by
  have hb : A < 2305843009213693951 := by omega
  have hm : A % Gp.P = A := Nat.mod_eq_of_lt hb
  have h1 := Gp.pow_red (a := A) (by omega) (expo e)
  have h2 : expo e % Gp.N = E := by
    show expo e % 2305843009213693950 = E
    rw [expo_mod, ← hE, Int.toNat_natCast]
  rw [h2] at h1
  rw [powP, ← hA, Int.toNat_natCast]
  exact h1
theorem powP_lt (a e : Int) : powP a e < 2305843009213693951 := Nat.mod_lt _ (by decide)
theorem powP_ne (a e : Int) (h : ¬ a % 2305843009213693951 = 0) : powP a e ≠ 0 := by
  obtain ⟨A, hA, hA2⟩ := nat_of a
  have hm : A % Gp.P = A := Nat.mod_eq_of_lt hA2
  rw [powP, ← hA, Int.toNat_natCast]
  exact Gp.pow_ne (by omega) _
theorem self_mod (n : Nat) (h : n < 2305843009213693951) : ((n : Nat) : Int) = ((n : Nat) : Int) % 2305843009213693951 := by omega
theorem pow_sum (a d e : Int) (h : ¬ a % 2305843009213693951 = 0) : ((powP a d : Nat) : Int) * (powP a e : Nat) % 2305843009213693951 = (powP a ((d + e) % 2305843009213693950) : Nat) := by
  obtain ⟨A, hA, _⟩ := nat_of a
  obtain ⟨D, hD, _⟩ := nat_ofN d
  obtain ⟨E, hE, _⟩ := nat_ofN e
  obtain ⟨F, hF, _⟩ := nat_ofN ((d + e) % 2305843009213693950)
  have h0 : A ≠ 0 := by omega
  have hm : A % Gp.P ≠ 0 := by
    have : A % Gp.P = A := Nat.mod_eq_of_lt (by show A < 2305843009213693951; omega)
    omega
  have hF2 : F = (D + E) % Gp.N := by
    show F = (D + E) % 2305843009213693950
    omega
  rw [powP_red a d A D hA h0 hD, powP_red a e A E hA h0 hE, powP_red a _ A F hA h0 hF, hF2, ← Gp.pow_red hm, Nat.pow_add, ← Int.natCast_mul]
  show ((A ^ D % Gp.P * (A ^ E % Gp.P) : Nat) : Int) % ((Gp.P : Nat) : Int) = _
  rw [← Int.natCast_emod, ← Nat.mul_mod]
theorem pow_pow (a d e : Int) (h : ¬ a % 2305843009213693951 = 0) : powP ((powP a d : Nat) : Int) e = powP a (d * e % 2305843009213693950) := by
  obtain ⟨A, hA, _⟩ := nat_of a
  obtain ⟨D, hD, _⟩ := nat_ofN d
  obtain ⟨E, hE, _⟩ := nat_ofN e
  obtain ⟨F, hF, _⟩ := nat_ofN (d * e % 2305843009213693950)
  have h0 : A ≠ 0 := by omega
  have hm : A % Gp.P ≠ 0 := by
    have : A % Gp.P = A := Nat.mod_eq_of_lt (by show A < 2305843009213693951; omega)
    omega
  have hF2 : F = D * E % Gp.N := by
    have h1 : (F : Int) = ((D * E % 2305843009213693950 : Nat) : Int) := by
      rw [hF, Int.emod_emod, Int.natCast_emod, Int.natCast_mul, hD, hE]
      exact Int.mul_emod d e 2305843009213693950
    show F = D * E % 2305843009213693950
    omega
  rw [powP_red _ e (powP a d) E (self_mod _ (powP_lt a d)) (powP_ne a d h) hE, powP_red a _ A F hA h0 hF, hF2, ← Gp.pow_red hm, powP_red a d A D hA h0 hD, Nat.pow_mul, ← Nat.pow_mod]
theorem pow_prod (a b d : Int) (h : ¬ a % 2305843009213693951 = 0) (hb : ¬ b % 2305843009213693951 = 0) : ((powP a d : Nat) : Int) * (powP b d : Nat) % 2305843009213693951 = (powP (a * b % 2305843009213693951) d : Nat) := by
  obtain ⟨A, hA, _⟩ := nat_of a
  obtain ⟨B, hB, _⟩ := nat_of b
  obtain ⟨C, hC, _⟩ := nat_of (a * b % 2305843009213693951)
  obtain ⟨D, hD, _⟩ := nat_ofN d
  have hC2 : C = A * B % Gp.P := by
    have h1 : (C : Int) = ((A * B % 2305843009213693951 : Nat) : Int) := by
      rw [hC, Int.emod_emod, Int.natCast_emod, Int.natCast_mul, hA, hB]
      exact Int.mul_emod a b 2305843009213693951
    show C = A * B % 2305843009213693951
    omega
  have hC0 : C ≠ 0 := by
    intro hc
    rcases no_zero_int a b (by omega) with h1 | h1
    · exact h h1
    · exact hb h1
  rw [powP_red a d A D hA (by omega) hD, powP_red b d B D hB (by omega) hD, powP_red _ d C D hC hC0 hD, hC2, ← Int.natCast_mul, ← Nat.pow_mod, Nat.mul_pow]
  show ((A ^ D % Gp.P * (B ^ D % Gp.P) : Nat) : Int) % ((Gp.P : Nat) : Int) = _
  rw [← Int.natCast_emod, ← Nat.mul_mod]
theorem pow_inv (a d : Int) (h : ¬ a % 2305843009213693951 = 0) : invV ((powP a d : Nat) : Int) = (powP a ((0 - d) % 2305843009213693950), true) := by
  obtain ⟨A, hA, _⟩ := nat_of a
  obtain ⟨D, hD, _⟩ := nat_ofN d
  obtain ⟨F, hF, _⟩ := nat_ofN ((0 - d) % 2305843009213693950)
  have h0 : A ≠ 0 := by omega
  have hm : A % Gp.P ≠ 0 := by
    have : A % Gp.P = A := Nat.mod_eq_of_lt (by show A < 2305843009213693951; omega)
    omega
  have hF2 : F = D * (Gp.N - 1) % Gp.N := by
    show F = D * 2305843009213693949 % 2305843009213693950
    omega
  have hlt := powP_lt a d
  have hne := powP_ne a d h
  rw [invV, if_neg (by omega), invP, ← self_mod _ hlt, Int.toNat_natCast, powP_red a _ A F hA h0 hF, hF2, ← Gp.pow_red hm, powP_red a d A D hA h0 hD, Nat.pow_mul]
  rw [show (2305843009213693951 : Nat) = Gp.P from rfl, ← Nat.pow_mod]
theorem pow_same (a d e : Int) (h : ¬ a % 2305843009213693951 = 0) (he : d % 2305843009213693950 = e % 2305843009213693950) : powP a d = powP a e := by
  obtain ⟨A, hA, _⟩ := nat_of a
  obtain ⟨D, hD, _⟩ := nat_ofN d
  rw [powP_red a d A D hA (by omega) hD, powP_red a e A D hA (by omega) (hD.trans he)]
theorem pow_0 (a : Int) : powP a 0 = 1 := by
  rw [powP, show expo 0 = 0 from rfl, Nat.pow_zero]
theorem pow_1 (a : Int) : ((powP a 1 : Nat) : Int) = (a + 0) % 2305843009213693951 := by
  obtain ⟨A, hA, hA2⟩ := nat_of a
  rw [powP, show expo 1 = 1 from rfl, Nat.pow_one, ← hA, Int.toNat_natCast, Nat.mod_eq_of_lt hA2, hA, Int.add_zero]
theorem pow_2 (a : Int) : ((powP a 2 : Nat) : Int) = a * a % 2305843009213693951 := by
  obtain ⟨A, hA, _⟩ := nat_of a
  rw [powP, show expo 2 = 2 from rfl, Nat.pow_two, ← hA, Int.toNat_natCast, Int.natCast_emod, Int.natCast_mul, hA]
  exact (Int.mul_emod a a 2305843009213693951).symm
/-- Two powers of 37 are equal only with exponents of the same residue. -/
theorem gen_same (d e : Int) : powP 37 d = powP 37 e ↔ (d - e) % 2305843009213693950 = 0 := by
  have h := Gp.g_same (expo d) (expo e)
  have hd := expo_mod d
  have he := expo_mod e
  rw [show Gp.N = 2305843009213693950 from rfl, hd, he] at h
  have h37 : ((37 : Int) % 2305843009213693951).toNat = 37 := by decide
  rw [powP, powP, h37]
  refine h.trans ?_
  constructor <;> intro hh <;> omega
end Go.Proofs.Ytfldbddjpdbmpaa
