/-
  Layer 4: a long division by P and by N (shifted left by three bits), digit by digit, in plain Lean. No program.
-/
import GoSem.Core.Next
namespace Go.Proofs.Ytfldbddjpdbmpaa
namespace Kd

/-! ### P: 18446744073709551608 = 4294967295 * 2^32 + 4294967288 -/
/-- The estimate of a digit: the quotient q of u by the upper half, with its rest r, is the digit or too large. -/
structure EstP (u d q r : Nat) : Prop where
  sum : q * 4294967295 + r = u
  low : (u * 4294967296 + d) / 18446744073709551608 ≤ q
  hi : q ≤ 4294967297
  br : r < 4294967296
  bu : u < 18446744073709551608
  bd : d < 4294967296
theorem est_start_P {u d : Nat} (hu : u < 18446744073709551608) (hd : d < 4294967296) : EstP u d (u / 4294967295) (u % 4294967295) := by
  refine ⟨by omega, by omega, by omega, by omega, hu, hd⟩
theorem est_over_P {u d q r : Nat} (h : EstP u d q r) (hc : 4294967296 ≤ q ∨ 4294967296 * r + d < q * 4294967288) : (u * 4294967296 + d) / 18446744073709551608 ≤ q - 1 ∧ 1 ≤ q ∧ (q - 1) * 4294967295 + (r + 4294967295) = u := by
  obtain ⟨h1, h2, h3, h4, h5, h6⟩ := h
  omega
theorem est_next_P {u d q r : Nat} (h : EstP u d q r) (hc : 4294967296 ≤ q ∨ 4294967296 * r + d < q * 4294967288) (hr : r + 4294967295 < 4294967296) : EstP u d (q - 1) (r + 4294967295) := by
  obtain ⟨g1, g2, g3⟩ := est_over_P h hc
  exact ⟨g3, g1, by have := h.hi; omega, hr, h.bu, h.bd⟩
theorem est_stop_P {u d q r : Nat} (h : EstP u d q r) (hc : 4294967296 ≤ q ∨ 4294967296 * r + d < q * 4294967288) (hr : 4294967296 ≤ r + 4294967295) : q - 1 = (u * 4294967296 + d) / 18446744073709551608 := by
  obtain ⟨g1, g2, g3⟩ := est_over_P h hc
  obtain ⟨h1, h2, h3, h4, h5, h6⟩ := h
  omega
theorem est_done_P {u d q r : Nat} (h : EstP u d q r) (hc : ¬ (4294967296 ≤ q ∨ 4294967296 * r + d < q * 4294967288)) : q = (u * 4294967296 + d) / 18446744073709551608 := by
  obtain ⟨h1, h2, h3, h4, h5, h6⟩ := h
  omega
theorem digit_lt_P {u d : Nat} (hu : u < 18446744073709551608) (hd : d < 4294967296) : (u * 4294967296 + d) / 18446744073709551608 < 4294967296 := by omega
/-- Both digits' rests. -/
theorem rests_P (hi lo : Nat) :
    ((hi * 8 + lo / 2305843009213693952) * 4294967296 + lo * 8 % 18446744073709551616 / 4294967296) % 18446744073709551608 * 4294967296 + lo * 8 % 18446744073709551616 % 4294967296 < 18446744073709551608 * 4294967296 ∧
    (((hi * 8 + lo / 2305843009213693952) * 4294967296 + lo * 8 % 18446744073709551616 / 4294967296) % 18446744073709551608 * 4294967296 + lo * 8 % 18446744073709551616 % 4294967296) % 18446744073709551608 / 8 = (hi * 18446744073709551616 + lo) % 2305843009213693951 := by
  omega

/-! ### N: 18446744073709551600 = 4294967295 * 2^32 + 4294967280 -/
/-- The estimate of a digit: the quotient q of u by the upper half, with its rest r, is the digit or too large. -/
structure EstN (u d q r : Nat) : Prop where
  sum : q * 4294967295 + r = u
  low : (u * 4294967296 + d) / 18446744073709551600 ≤ q
  hi : q ≤ 4294967297
  br : r < 4294967296
  bu : u < 18446744073709551600
  bd : d < 4294967296
theorem est_start_N {u d : Nat} (hu : u < 18446744073709551600) (hd : d < 4294967296) : EstN u d (u / 4294967295) (u % 4294967295) := by
  refine ⟨by omega, by omega, by omega, by omega, hu, hd⟩
theorem est_over_N {u d q r : Nat} (h : EstN u d q r) (hc : 4294967296 ≤ q ∨ 4294967296 * r + d < q * 4294967280) : (u * 4294967296 + d) / 18446744073709551600 ≤ q - 1 ∧ 1 ≤ q ∧ (q - 1) * 4294967295 + (r + 4294967295) = u := by
  obtain ⟨h1, h2, h3, h4, h5, h6⟩ := h
  omega
theorem est_next_N {u d q r : Nat} (h : EstN u d q r) (hc : 4294967296 ≤ q ∨ 4294967296 * r + d < q * 4294967280) (hr : r + 4294967295 < 4294967296) : EstN u d (q - 1) (r + 4294967295) := by
  obtain ⟨g1, g2, g3⟩ := est_over_N h hc
  exact ⟨g3, g1, by have := h.hi; omega, hr, h.bu, h.bd⟩
theorem est_stop_N {u d q r : Nat} (h : EstN u d q r) (hc : 4294967296 ≤ q ∨ 4294967296 * r + d < q * 4294967280) (hr : 4294967296 ≤ r + 4294967295) : q - 1 = (u * 4294967296 + d) / 18446744073709551600 := by
  obtain ⟨g1, g2, g3⟩ := est_over_N h hc
  obtain ⟨h1, h2, h3, h4, h5, h6⟩ := h
  omega
theorem est_done_N {u d q r : Nat} (h : EstN u d q r) (hc : ¬ (4294967296 ≤ q ∨ 4294967296 * r + d < q * 4294967280)) : q = (u * 4294967296 + d) / 18446744073709551600 := by
  obtain ⟨h1, h2, h3, h4, h5, h6⟩ := h
  omega
theorem digit_lt_N {u d : Nat} (hu : u < 18446744073709551600) (hd : d < 4294967296) : (u * 4294967296 + d) / 18446744073709551600 < 4294967296 := by omega
/-- Both digits' rests. -/
theorem rests_N (hi lo : Nat) :
    ((hi * 8 + lo / 2305843009213693952) * 4294967296 + lo * 8 % 18446744073709551616 / 4294967296) % 18446744073709551600 * 4294967296 + lo * 8 % 18446744073709551616 % 4294967296 < 18446744073709551600 * 4294967296 ∧
    (((hi * 8 + lo / 2305843009213693952) * 4294967296 + lo * 8 % 18446744073709551616 / 4294967296) % 18446744073709551600 * 4294967296 + lo * 8 % 18446744073709551616 % 4294967296) % 18446744073709551600 / 8 = (hi * 18446744073709551616 + lo) % 2305843009213693950 := by
  omega

end Kd
end Go.Proofs.Ytfldbddjpdbmpaa
