/-
  GroupDivMath, GroupMath: joined.
-/
import GoSem.Core.Next
/-
  Layer 4: a long division by P and by N (shifted left by three bits), digit by digit, in plain Lean. No program.
-/
namespace Go.Proofs.YtojbicpchjiplaaGreatDoor.S4
namespace Kd

/-! ### P: 18446744073709551608 = 4294967295 * 2^32 + 4294967288 -/
/-- The estimate of a digit: the quotient q of u by the upper half, with its rest r, is the digit or too large. -/
structure EstP (u d q r : Nat) : Prop where
  sum : q * 4294967295 + r = u
  low : (u * 4294967296 + d) / 18446744073709551608 ≤ q
  hi : q ≤ 4294967297
  br : r < 4294967296
  bu : u < 18446744073709551608
  bd : d < 4294967296
theorem est_start_P {u d : Nat} (hu : u < 18446744073709551608) (hd : d < 4294967296) : EstP u d (u / 4294967295) (u % 4294967295) := by
  refine ⟨by omega, by omega, by omega, by omega, hu, hd⟩
theorem est_over_P {u d q r : Nat} (h : EstP u d q r) (hc : 4294967296 ≤ q ∨ 4294967296 * r + d < q * 4294967288) : (u * 4294967296 + d) / 18446744073709551608 ≤ q - 1 ∧ 1 ≤ q ∧ (q - 1) * 4294967295 + (r + 4294967295) = u := by
  obtain ⟨h1, h2, h3, h4, h5, h6⟩ := h
  omega
theorem est_next_P {u d q r : Nat} (h : EstP u d q r) (hc : 4294967296 ≤ q ∨ 4294967296 * r + d < q * 4294967288) (hr : r + 4294967295 < 4294967296) : EstP u d (q - 1) (r + 4294967295) := by
  obtain ⟨g1, g2, g3⟩ := est_over_P h hc
  exact ⟨g3, g1, by have := h.hi; omega, hr, h.bu, h.bd⟩
theorem est_stop_P {u d q r : Nat} (h : EstP u d q r) (hc : 4294967296 ≤ q ∨ 4294967296 * r + d < q * 4294967288) (hr : 4294967296 ≤ r + 4294967295) : q - 1 = (u * 4294967296 + d) / 18446744073709551608 := by
  obtain ⟨g1, g2, g3⟩ := est_over_P h hc
  obtain ⟨h1, h2, h3, h4, h5, h6⟩ := h
  omega
theorem est_done_P {u d q r : Nat} (h : EstP u d q r) (hc : ¬ (4294967296 ≤ q ∨ 4294967296 * r + d < q * 4294967288)) : q = (u * 4294967296 + d) / 18446744073709551608 := by
  obtain ⟨h1, h2, h3, h4, h5, h6⟩ := h
  omega
/-- Both digits' rests. -/
theorem rests_P (hi lo : Nat) :
    ((hi * 8 + lo / 2305843009213693952) * 4294967296 + lo * 8 % 18446744073709551616 / 4294967296) % 18446744073709551608 * 4294967296 + lo * 8 % 18446744073709551616 % 4294967296 < 18446744073709551608 * 4294967296 ∧
    (((hi * 8 + lo / 2305843009213693952) * 4294967296 + lo * 8 % 18446744073709551616 / 4294967296) % 18446744073709551608 * 4294967296 + lo * 8 % 18446744073709551616 % 4294967296) % 18446744073709551608 / 8 = (hi * 18446744073709551616 + lo) % 2305843009213693951 := by
  omega

/-! ### N: 18446744073709551600 = 4294967295 * 2^32 + 4294967280 -/
/-- The estimate of a digit: the quotient q of u by the upper half, with its rest r, is the digit or too large. -/
structure EstN (u d q r : Nat) : Prop where
  sum : q * 4294967295 + r = u
  low : (u * 4294967296 + d) / 18446744073709551600 ≤ q
  hi : q ≤ 4294967297
  br : r < 4294967296
  bu : u < 18446744073709551600
  bd : d < 4294967296
theorem est_start_N {u d : Nat} (hu : u < 18446744073709551600) (hd : d < 4294967296) : EstN u d (u / 4294967295) (u % 4294967295) := by
  refine ⟨by omega, by omega, by omega, by omega, hu, hd⟩
theorem est_over_N {u d q r : Nat} (h : EstN u d q r) (hc : 4294967296 ≤ q ∨ 4294967296 * r + d < q * 4294967280) : (u * 4294967296 + d) / 18446744073709551600 ≤ q - 1 ∧ 1 ≤ q ∧ (q - 1) * 4294967295 + (r + 4294967295) = u := by
  obtain ⟨h1, h2, h3, h4, h5, h6⟩ := h
  omega
theorem est_next_N {u d q r : Nat} (h : EstN u d q r) (hc : 4294967296 ≤ q ∨ 4294967296 * r + d < q * 4294967280) (hr : r + 4294967295 < 4294967296) : EstN u d (q - 1) (r + 4294967295) := by
  obtain ⟨g1, g2, g3⟩ := est_over_N h hc
  exact ⟨g3, g1, by have := h.hi; omega, hr, h.bu, h.bd⟩
theorem est_stop_N {u d q r : Nat} (h : EstN u d q r) (hc : 4294967296 ≤ q ∨ 4294967296 * r + d < q * 4294967280) (hr : 4294967296 ≤ r + 4294967295) : q - 1 = (u * 4294967296 + d) / 18446744073709551600 := by
  obtain ⟨g1, g2, g3⟩ := est_over_N h hc
  obtain ⟨h1, h2, h3, h4, h5, h6⟩ := h
  omega
theorem est_done_N {u d q r : Nat} (h : EstN u d q r) (hc : ¬ (4294967296 ≤ q ∨ 4294967296 * r + d < q * 4294967280)) : q = (u * 4294967296 + d) / 18446744073709551600 := by
  obtain ⟨h1, h2, h3, h4, h5, h6⟩ := h
  omega
/-- Both digits' rests. -/
theorem rests_N (hi lo : Nat) :
    ((hi * 8 + lo / 2305843009213693952) * 4294967296 + lo * 8 % 18446744073709551616 / 4294967296) % 18446744073709551600 * 4294967296 + lo * 8 % 18446744073709551616 % 4294967296 < 18446744073709551600 * 4294967296 ∧
    (((hi * 8 + lo / 2305843009213693952) * 4294967296 + lo * 8 % 18446744073709551616 / 4294967296) % 18446744073709551600 * 4294967296 + lo * 8 % 18446744073709551616 % 4294967296) % 18446744073709551600 / 8 = (hi * 18446744073709551616 + lo) % 2305843009213693950 := by
  omega

end Kd
end Go.Proofs.YtojbicpchjiplaaGreatDoor.S4

/-
  Layer 4: the residues modulo P = 2^61 - 1, in plain Lean: 37 has the order N = P - 1; so every residue but 0 is a power of 37, has an inverse, and its power N is 1. No program.
-/
namespace Go.Proofs.YtojbicpchjiplaaGreatDoor.S4
namespace Gp

def P : Nat := 2305843009213693951
def N : Nat := 2305843009213693950

/-! ### Powers, fast -/
/-- a^e modulo m; 'f' bits. -/
def powm (m a : Nat) : Nat → Nat → Nat
  | 0, _ => 1 % m
  | f + 1, e =>
    let h := powm m a f (e / 2)
    if e % 2 = 1 then h * h % m * a % m else h * h % m
theorem powm_eq (m a : Nat) : ∀ f e, e < 2 ^ f → powm m a f e = a ^ e % m := by
  intro f
  induction f with
  | zero =>
    intro e he
    have : e = 0 := by simpa using he
    subst this
    rfl
  | succ f ih =>
    intro e he
    have h := ih (e / 2) (by rw [Nat.pow_succ] at he; omega)
    have hs : a ^ (e / 2) * a ^ (e / 2) = a ^ (2 * (e / 2)) := by rw [← Nat.pow_add]; congr 1; omega
    simp only [powm, h, ← Nat.mul_mod, hs]
    by_cases h1 : e % 2 = 1
    · rw [if_pos h1, Nat.mod_mul_mod, ← Nat.pow_succ]
      congr 2
      omega
    · rw [if_neg h1]
      congr 2
      omega
theorem one_mod : 1 % P = 1 := by decide
theorem pow_one_of {x k : Nat} (h : x ^ k % P = 1) (m : Nat) : x ^ (k * m) % P = 1 := by
  rw [Nat.pow_mul, Nat.pow_mod, h, Nat.one_pow, one_mod]
theorem pow_shift {x k : Nat} (h : x ^ k % P = 1) (r m : Nat) : x ^ (k * m + r) % P = x ^ r % P := by
  rw [Nat.pow_add, Nat.mul_mod, pow_one_of h, Nat.one_mul, Nat.mod_mod]
theorem pow_gcd (x m n : Nat) : x ^ m % P = 1 → x ^ n % P = 1 → x ^ (Nat.gcd m n) % P = 1 := by
  induction m, n using Nat.gcd.induction with
  | H0 n => intro _ h; rw [Nat.gcd_zero_left]; exact h
  | H1 m n _ ih =>
    intro hm hn
    rw [Nat.gcd_rec]
    refine ih ?_ hm
    have := pow_shift hm (n % m) (n / m)
    rw [Nat.div_add_mod] at this
    rw [← this]; exact hn

/-! ### The order of 37 -/
def primes : List Nat := [2, 3, 5, 7, 11, 13, 31, 41, 61, 151, 331, 1321]
theorem primes_prime : ∀ q ∈ primes, ∀ d, d ∣ q → d = 1 ∨ d = q := by
  have h : ∀ q ∈ primes, ∀ d, d < 1322 → q % d = 0 → d = 1 ∨ d = q := by decide +kernel
  have hb : ∀ q ∈ primes, 0 < q ∧ q < 1322 := by decide
  intro q hq d hd
  have := Nat.le_of_dvd (hb q hq).1 hd
  exact h q hq d (by have := (hb q hq).2; omega) (Nat.mod_eq_zero_of_dvd hd)
theorem N_prod : N = 2 * (3 * (3 * (5 * (5 * (7 * (11 * (13 * (31 * (41 * (61 * (151 * (331 * 1321)))))))))))) := by decide
theorem cop_of {q m : Nat} (hq : q ∈ primes) (h : ¬ q ∣ m) : Nat.Coprime m q := by
  rcases primes_prime q hq _ (Nat.gcd_dvd_right m q) with h1 | h1
  · exact h1
  · exact absurd (h1 ▸ Nat.gcd_dvd_left m q) h
theorem some_prime {m : Nat} (hm : m ∣ N) (h1 : m ≠ 1) : ∃ q ∈ primes, q ∣ m := by
  apply Classical.byContradiction
  intro hc
  have hn : ∀ q ∈ primes, Nat.Coprime m q := fun q hq => cop_of hq (fun h => hc ⟨q, hq, h⟩)
  have hN : Nat.Coprime m N := by
    rw [N_prod]
    have c := fun q (hq : q ∈ primes) => hn q hq
    have p2 := c 2 (by decide)
    have p3 := c 3 (by decide)
    have p5 := c 5 (by decide)
    have p7 := c 7 (by decide)
    have p11 := c 11 (by decide)
    have p13 := c 13 (by decide)
    have p31 := c 31 (by decide)
    have p41 := c 41 (by decide)
    have p61 := c 61 (by decide)
    have p151 := c 151 (by decide)
    have p331 := c 331 (by decide)
    have p1321 := c 1321 (by decide)
    exact p2.mul_right (p3.mul_right (p3.mul_right (p5.mul_right (p5.mul_right (p7.mul_right (p11.mul_right (p13.mul_right (p31.mul_right (p41.mul_right (p61.mul_right (p151.mul_right (p331.mul_right p1321))))))))))))
  exact h1 (Nat.eq_one_of_dvd_one (by
    have : Nat.gcd m N = m := Nat.gcd_eq_left hm
    rw [Nat.Coprime, this] at hN
    rw [hN]; exact Nat.dvd_refl 1))
theorem g_N : 37 ^ N % P = 1 := by
  rw [← powm_eq P 37 62 N (by decide)]; decide +kernel
theorem g_not : ∀ q ∈ primes, powm P 37 62 (N / q) ≠ 1 := by decide +kernel
theorem g_div : ∀ q ∈ primes, N / q < 2 ^ 62 ∧ 0 < q := by decide
/-- The order of 37 is N. -/
theorem g_ord {k : Nat} (h : 37 ^ k % P = 1) : N ∣ k := by
  have hg := pow_gcd 37 k N h g_N
  obtain ⟨m, hm⟩ := Nat.gcd_dvd_right k N
  by_cases h1 : m = 1
  · rw [h1, Nat.mul_one] at hm
    rw [hm]; exact Nat.gcd_dvd_left k N
  · exfalso
    obtain ⟨q, hq, r, hr⟩ := some_prime (m := m) ⟨Nat.gcd k N, by rw [Nat.mul_comm]; exact hm⟩ h1
    have hb := g_div q hq
    have he : N / q = Nat.gcd k N * r := by
      have e : N = q * (Nat.gcd k N * r) := by
        conv => lhs; rw [hm, hr]
        rw [Nat.mul_left_comm]
      rw [e, Nat.mul_div_cancel_left _ hb.2, ← e]
    refine g_not q hq ?_
    rw [powm_eq P 37 62 _ hb.1, he]
    exact pow_one_of hg r

/-! ### Every residue but 0 is a power of 37 -/
theorem pigeon : ∀ (n : Nat) (f : Nat → Nat), (∀ i, i < n → f i < n) → (∀ i j, i < n → j < n → f i = f j → i = j) → ∀ y, y < n → ∃ i, i < n ∧ f i = y := by
  intro n
  induction n with
  | zero => intro f _ _ y hy; omega
  | succ n ih =>
    intro f hf hi y hy
    have hc := hf n (by omega)
    have hg := ih (fun i => if f i = n then f n else f i)
      (fun i h => by
        have h1 := hf i (by omega)
        show (if f i = n then f n else f i) < n
        split
        · rename_i e
          have : f n ≠ n := fun e2 => by have := hi i n (by omega) (by omega) (by rw [e, e2]); omega
          omega
        · omega)
      (fun i j h1 h2 e => by
        have e' : (if f i = n then f n else f i) = (if f j = n then f n else f j) := e
        split at e' <;> split at e'
        · rename_i a b; exact hi i j (by omega) (by omega) (by rw [a, b])
        · have := hi n j (by omega) (by omega) e'; omega
        · have := hi i n (by omega) (by omega) e'; omega
        · exact hi i j (by omega) (by omega) e')
    by_cases e : y = f n
    · exact ⟨n, by omega, e.symm⟩
    · by_cases hyn : y = n
      · obtain ⟨i, h1, h2⟩ := hg (f n) (by omega)
        have h2' : (if f i = n then f n else f i) = f n := h2
        split at h2'
        · rename_i a; exact ⟨i, by omega, by rw [a, hyn]⟩
        · have := hi i n (by omega) (by omega) h2'; omega
      · obtain ⟨i, h1, h2⟩ := hg y (by omega)
        have h2' : (if f i = n then f n else f i) = y := h2
        split at h2'
        · exact absurd h2'.symm e
        · exact ⟨i, by omega, h2'⟩
theorem P_eq : P = N + 1 := by decide
theorem g_unit (i : Nat) (hi : i ≤ N) : 37 ^ i % P * (37 ^ (N - i) % P) % P = 1 := by
  rw [← Nat.mul_mod, ← Nat.pow_add, Nat.add_sub_cancel' hi]; exact g_N
theorem g_pos (i : Nat) (hi : i ≤ N) : 0 < 37 ^ i % P := by
  rcases Nat.eq_zero_or_pos (37 ^ i % P) with h | h
  · have := g_unit i hi
    rw [h, Nat.zero_mul] at this
    cases this
  · exact h
theorem g_inj {i j : Nat} (hi : i ≤ N) (hij : i ≤ j) (h : 37 ^ i % P = 37 ^ j % P) : N ∣ j - i := by
  apply g_ord
  have h1 : 37 ^ (j - i) * 37 ^ i * 37 ^ (N - i) % P = 37 ^ (j - i) % P := by
    rw [Nat.mul_assoc, ← Nat.pow_add 37 i, Nat.add_sub_cancel' hi, Nat.mul_mod, g_N, Nat.mul_one, Nat.mod_mod]
  rw [← h1, ← Nat.pow_add, Nat.sub_add_cancel hij, Nat.mul_mod, ← h]
  exact g_unit i hi
theorem power_of {x : Nat} (h0 : 0 < x) (hx : x < P) : ∃ i, i < N ∧ 37 ^ i % P = x := by
  obtain ⟨i, hi, h⟩ := pigeon N (fun i => 37 ^ i % P - 1)
    (fun i hi => by
      have h1 := g_pos i (by omega)
      have h2 : 37 ^ i % P < P := Nat.mod_lt _ (by decide)
      rw [P_eq] at h2
      show 37 ^ i % P - 1 < N
      rw [P_eq] at h1 ⊢
      omega)
    (fun i j hi hj e => by
      have e' : 37 ^ i % P - 1 = 37 ^ j % P - 1 := e
      have h1 := g_pos i (by omega)
      have h2 := g_pos j (by omega)
      have e2 : 37 ^ i % P = 37 ^ j % P := by omega
      rcases Nat.le_total i j with hl | hl
      · obtain ⟨c, hc⟩ := g_inj (by omega) hl e2
        rcases Nat.eq_zero_or_pos c with rfl | hp
        · omega
        · have : N ≤ N * c := Nat.le_mul_of_pos_right _ hp
          omega
      · obtain ⟨c, hc⟩ := g_inj (by omega) hl e2.symm
        rcases Nat.eq_zero_or_pos c with rfl | hp
        · omega
        · have : N ≤ N * c := Nat.le_mul_of_pos_right _ hp
          omega)
    (x - 1) (by rw [P_eq] at hx; omega)
  refine ⟨i, hi, ?_⟩
  have h' : 37 ^ i % P - 1 = x - 1 := h
  have h1 := g_pos i (by omega)
  omega

/-! ### What the layer promises -/
theorem fermat {a : Nat} (h : a % P ≠ 0) : a ^ N % P = 1 := by
  obtain ⟨i, _, hi⟩ := power_of (x := a % P) (by omega) (Nat.mod_lt _ (by decide))
  rw [Nat.pow_mod, ← hi, ← Nat.pow_mod, ← Nat.pow_mul, Nat.mul_comm]
  exact pow_one_of g_N i
theorem pow_red {a : Nat} (h : a % P ≠ 0) (e : Nat) : a ^ e % P = a ^ (e % N) % P := by
  have := pow_shift (fermat h) (e % N) (e / N)
  rw [Nat.div_add_mod] at this
  exact this
theorem pow_ne {a : Nat} (h : a % P ≠ 0) (e : Nat) : a ^ e % P ≠ 0 := by
  intro hc
  have h1 : a ^ e * a ^ ((N - 1) * e) % P = 1 := by
    rw [← Nat.pow_add, show e + (N - 1) * e = N * e by
      have : N * e = (N - 1 + 1) * e := by congr 1
      rw [this, Nat.add_mul, Nat.one_mul, Nat.add_comm]]
    exact pow_one_of (fermat h) e
  rw [Nat.mul_mod, hc, Nat.zero_mul] at h1
  cases h1
end Gp
end Go.Proofs.YtojbicpchjiplaaGreatDoor.S4
