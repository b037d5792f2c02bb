/-
  Layer 4: the reference's Exp.
-/
import Derived.Test.YtfldbddjpdbmpaaGroupMul
namespace Go.Proofs.Ytfldbddjpdbmpaa
open Go.RowKit

/-- The exponent: a negative one is replaced by its residue. -/
def expo (e : Int) : Nat := (if e < 0 then e % 2305843009213693950 else e).toNat
/-- What Exp returns. -/
def powP (a e : Int) : Nat := (a % 2305843009213693951).toNat ^ expo e % 2305843009213693951
theorem refMul_nat (x y : Nat) (w : World) : Calls Try.prog 16 #[.int .i64 (x : Int), .int .i64 (y : Int)] w fun e w' => e = .returned (.int .i64 ((x * y % 2305843009213693951 : Nat) : Int)) ∧ w' = w := by
  have := refMul_any (x : Int) (y : Int) w
  rw [show (x : Int) * y % 2305843009213693951 = ((x * y % 2305843009213693951 : Nat) : Int) by simp] at this
  exact this
/-- One round of the loop. -/
theorem exp_step (X B E p : Nat) : (if E % 2 = 1 then X * B % p else X) * (B * B % p) ^ (E / 2) % p = X * B ^ E % p := by
  have h1 : (B * B % p) ^ (E / 2) % p = B ^ (2 * (E / 2)) % p := by
    rw [← Nat.pow_mod, ← Nat.pow_two, ← Nat.pow_mul]
  by_cases h : E % 2 = 1
  · rw [if_pos h, Nat.mul_mod, h1, Nat.mod_mod, ← Nat.mul_mod, Nat.mul_assoc, ← Nat.pow_succ']
    congr 3; omega
  · rw [if_neg h, Nat.mul_mod, h1, ← Nat.mul_mod]
    congr 3; omega

set_option maxHeartbeats 1000000 in
theorem refExp_any (a e : Int) (w : World) (he : isI64 e) : Calls Try.prog 18 #[.int .i64 a, .int .i64 e] w fun r w' => r = .returned (.int .i64 (powP a e : Nat)) ∧ w' = w := by
  obtain ⟨he1, he2⟩ := he
  have k1 := fun w => refMod_any e 2305843009213693950 w (Or.inr rfl)
  have k2 := fun w => refMod_any a 2305843009213693951 w (Or.inl rfl)
  obtain ⟨E0, hE0⟩ : ∃ x : Nat, x = expo e := ⟨_, rfl⟩
  obtain ⟨A, hA⟩ : ∃ x : Nat, (x : Int) = a % 2305843009213693951 := ⟨(a % 2305843009213693951).toNat, by omega⟩
  have hp : powP a e = A ^ E0 % 2305843009213693951 := by
    rw [powP, ← hE0, ← hA]; rfl
  rw [hp]
  have hA2 : A < 2305843009213693951 := by omega
  rw [← hA] at k2
  have hb : E0 ≤ 9223372036854775807 := by rw [hE0, expo]; split <;> omega
  have hE1 : e < 0 → (E0 : Int) = e % 2305843009213693950 := fun h => by rw [hE0, expo, if_pos h]; omega
  have hE2 : ¬ e < 0 → (E0 : Int) = e := fun h => by rw [hE0, expo, if_neg h]; omega
  have K1 := Lib.hid k1
  have K2 := Lib.hid k2
  have H1 := Lib.hid hE1
  have H2 := Lib.hid hE2
  have hb3 : (E0 : Int) ≤ 9223372036854775807 := by omega
  clear k1 k2 hE0 hA hp hE1 hE2
  go_enter Try.func18, Try.ntmps18
  by_cases hn : e < 0
  · have hk := K1.out
    rw [← H1.out hn] at hk
    have K3 := Lib.hid hk
    clear hk H1 H2 K1
    go_wp2_with fail
    refine (K3.out _).mono ?_
    rintro r w1 ⟨rfl, rfl⟩
    go_wp2_with fail
    refine (K2.out _).mono ?_
    rintro r w1 ⟨rfl, rfl⟩
    go_wp2_with fail
    clear hn K2 K3
    go_loopw [1, 5, 6] (fun s1 s5 s6 wr => ∃ E X B : Nat, s1 = .int .i64 (E : Int) ∧ s5 = .int .i64 (X : Int) ∧ s6 = .int .i64 (B : Int) ∧ E ≤ 9223372036854775807 ∧ X < 2305843009213693951 ∧ Hid (X * B ^ E % 2305843009213693951 = A ^ E0 % 2305843009213693951) ∧ wr = w1) (fun s1 _ _ _ => (intOf s1).toNat)
    case atStart => exact ⟨E0, 1, A, rfl, rfl, rfl, hb, by omega, Lib.hid (by rw [Nat.one_mul]), rfl⟩
    case round =>
      obtain ⟨E, X, B, rfl, rfl, rfl, hE, hX, HI, rfl⟩ := hrel
      by_cases h0 : E = 0
      · subst h0
        have hi := HI.out
        rw [Nat.pow_zero, Nat.mul_one, Nat.mod_eq_of_lt hX] at hi
        have HI2 := Lib.hid hi
        rw [show ((0 : Nat) : Int) = 0 from rfl]
        clear HI hi
        go_wp2
        go_ret
        exact ⟨by rw [← HI2.out]; rfl, rfl⟩
      · have hE0' : (0 : Int) < E := by omega
        have hstep := exp_step X B E 2305843009213693951
        rw [HI.out] at hstep
        have k5 := fun w => refMul_nat X B w
        have k6 := fun w => refMul_nat B B w
        obtain ⟨X2, hX2⟩ : ∃ x, x = X * B % 2305843009213693951 := ⟨_, rfl⟩
        obtain ⟨B2, hB2⟩ : ∃ x, x = B * B % 2305843009213693951 := ⟨_, rfl⟩
        obtain ⟨E2, hE2⟩ : ∃ x, x = E / 2 := ⟨_, rfl⟩
        rw [← hX2] at hstep k5
        rw [← hB2] at hstep k6
        rw [← hE2] at hstep
        have hX2b : X2 < 2305843009213693951 := by rw [hX2]; exact Nat.mod_lt _ (by decide)
        have d1 : (E : Int) / 2 = (E2 : Int) := by omega
        have d2 : (E : Int).tdiv 2 = (E2 : Int) := by rw [Int.tdiv_eq_ediv_of_nonneg (by omega)]; exact d1
        have d3 : IntKind.i64.wrap (E2 : Int) = E2 := IntWalk.i64_in _ (by omega)
        have d4 : (E : Int).tmod 2 = (E : Int) % 2 := Int.tmod_eq_emod_of_nonneg (by omega)
        have hlt : E2 < E := by omega
        have K5 := Lib.hid k5
        have K6 := Lib.hid k6
        clear k5 k6 hX2 hB2 hE2
        by_cases h1 : E % 2 = 1
        · have h2 : (E : Int) % 2 = 1 := by omega
          rw [if_pos h1] at hstep
          have HS := Lib.hid hstep
          clear hstep h1 HI
          go_wp2_with fail
          refine (K5.out _).mono ?_
          rintro r w2 ⟨rfl, rfl⟩
          go_wp2_with fail
          refine (K6.out _).mono ?_
          rintro r w2 ⟨rfl, rfl⟩
          go_wp2_with fail
          go_roundw
          case rel => exact ⟨E2, X2, B2, rfl, rfl, rfl, by omega, hX2b, HS, trivial⟩
          case measure => simp [intOf]; omega
        · have h2 : ¬ (E : Int) % 2 = 1 := by omega
          rw [if_neg h1] at hstep
          have HS := Lib.hid hstep
          clear hstep h1 HI
          go_wp2_with fail
          refine (K6.out _).mono ?_
          rintro r w2 ⟨rfl, rfl⟩
          go_wp2_with fail
          go_roundw
          case rel => exact ⟨E2, X, B2, rfl, rfl, rfl, by omega, hX, HS, trivial⟩
          case measure => simp [intOf]; omega
  · have hE := H2.out hn
    clear H1 H2 K1
    subst hE
    go_wp2_with fail
    refine (K2.out _).mono ?_
    rintro r w1 ⟨rfl, rfl⟩
    go_wp2_with fail
    clear hn K2
    go_loopw [1, 5, 6] (fun s1 s5 s6 wr => ∃ E X B : Nat, s1 = .int .i64 (E : Int) ∧ s5 = .int .i64 (X : Int) ∧ s6 = .int .i64 (B : Int) ∧ E ≤ 9223372036854775807 ∧ X < 2305843009213693951 ∧ Hid (X * B ^ E % 2305843009213693951 = A ^ E0 % 2305843009213693951) ∧ wr = w1) (fun s1 _ _ _ => (intOf s1).toNat)
    case atStart => exact ⟨E0, 1, A, rfl, rfl, rfl, hb, by omega, Lib.hid (by rw [Nat.one_mul]), rfl⟩
    case round =>
      obtain ⟨E, X, B, rfl, rfl, rfl, hE, hX, HI, rfl⟩ := hrel
      by_cases h0 : E = 0
      · subst h0
        have hi := HI.out
        rw [Nat.pow_zero, Nat.mul_one, Nat.mod_eq_of_lt hX] at hi
        have HI2 := Lib.hid hi
        rw [show ((0 : Nat) : Int) = 0 from rfl]
        clear HI hi
        go_wp2
        go_ret
        exact ⟨by rw [← HI2.out]; rfl, rfl⟩
      · have hE0' : (0 : Int) < E := by omega
        have hstep := exp_step X B E 2305843009213693951
        rw [HI.out] at hstep
        have k5 := fun w => refMul_nat X B w
        have k6 := fun w => refMul_nat B B w
        obtain ⟨X2, hX2⟩ : ∃ x, x = X * B % 2305843009213693951 := ⟨_, rfl⟩
        obtain ⟨B2, hB2⟩ : ∃ x, x = B * B % 2305843009213693951 := ⟨_, rfl⟩
        obtain ⟨E2, hE2⟩ : ∃ x, x = E / 2 := ⟨_, rfl⟩
        rw [← hX2] at hstep k5
        rw [← hB2] at hstep k6
        rw [← hE2] at hstep
        have hX2b : X2 < 2305843009213693951 := by rw [hX2]; exact Nat.mod_lt _ (by decide)
        have d1 : (E : Int) / 2 = (E2 : Int) := by omega
        have d2 : (E : Int).tdiv 2 = (E2 : Int) := by rw [Int.tdiv_eq_ediv_of_nonneg (by omega)]; exact d1
        have d3 : IntKind.i64.wrap (E2 : Int) = E2 := IntWalk.i64_in _ (by omega)
        have d4 : (E : Int).tmod 2 = (E : Int) % 2 := Int.tmod_eq_emod_of_nonneg (by omega)
        have hlt : E2 < E := by omega
        have K5 := Lib.hid k5
        have K6 := Lib.hid k6
        clear k5 k6 hX2 hB2 hE2
        by_cases h1 : E % 2 = 1
        · have h2 : (E : Int) % 2 = 1 := by omega
          rw [if_pos h1] at hstep
          have HS := Lib.hid hstep
          clear hstep h1 HI
          go_wp2_with fail
          refine (K5.out _).mono ?_
          rintro r w2 ⟨rfl, rfl⟩
          go_wp2_with fail
          refine (K6.out _).mono ?_
          rintro r w2 ⟨rfl, rfl⟩
          go_wp2_with fail
          go_roundw
          case rel => exact ⟨E2, X2, B2, rfl, rfl, rfl, by omega, hX2b, HS, trivial⟩
          case measure => simp [intOf]; omega
        · have h2 : ¬ (E : Int) % 2 = 1 := by omega
          rw [if_neg h1] at hstep
          have HS := Lib.hid hstep
          clear hstep h1 HI
          go_wp2_with fail
          refine (K6.out _).mono ?_
          rintro r w2 ⟨rfl, rfl⟩
          go_wp2_with fail
          go_roundw
          case rel => exact ⟨E2, X, B2, rfl, rfl, rfl, by omega, hX, HS, trivial⟩
          case measure => simp [intOf]; omega
end Go.Proofs.Ytfldbddjpdbmpaa
