/-
  Layer 4: the package's Exp and Inv (the landed code).
-/
import Derived.Test.YtfldbddjpdbmpaaGroupOps
namespace Go.Proofs.Ytfldbddjpdbmpaa
open Go.RowKit

theorem bitLenAux_lt : ∀ (f x : Nat), x < 2 ^ f → x < 2 ^ Lib.bitLenAux f x := by
  intro f
  induction f with
  | zero => intro x h; exact h
  | succ f ih =>
    intro x h
    unfold Lib.bitLenAux
    split
    · omega
    · have h2 := ih (x / 2) (by rw [Nat.pow_succ] at h; omega)
      rw [Nat.add_comm 1, Nat.pow_succ]
      omega
theorem bitLen_lt (x : Nat) (h : x < 18446744073709551616) : x < 2 ^ Lib.bitLen x := bitLenAux_lt 64 x h
theorem and_one (x : Nat) (h : x < 9223372036854775808) : bits .and .i64 (x : Int) 1 = ((x % 2 : Nat) : Int) := by
  show IntKind.i64.wrap ((BitVec.ofInt 64 (x : Int) &&& BitVec.ofInt 64 ((1 : Nat) : Int)).toNat : Int) = _
  rw [BitVec.toNat_and, ofInt_u64 x (by omega), ofInt_u64 1 (by decide), Nat.and_one_is_mod]
  exact IntWalk.i64_in _ (by omega)
/-- The square's residue as a natural number. -/
def res (S : Int) : Nat := (S % 2305843009213693951).toNat
theorem res_mul (S : Int) (X : Nat) : (X : Int) * S % 2305843009213693951 = ((X * res S % 2305843009213693951 : Nat) : Int) := by
  have h : (res S : Int) = S % 2305843009213693951 := by unfold res; omega
  rw [Int.natCast_emod, Int.natCast_mul, h]
  show (X : Int) * S % 2305843009213693951 = (X : Int) * (S % 2305843009213693951) % 2305843009213693951
  rw [Int.mul_emod (X : Int) (S % 2305843009213693951), Int.emod_emod, ← Int.mul_emod]
theorem res_sq (S : Int) : res (S * S % 2305843009213693951) = res S * res S % 2305843009213693951 := by
  have h : (res S : Int) = S % 2305843009213693951 := by unfold res; omega
  have h2 : ((res S * res S % 2305843009213693951 : Nat) : Int) = S * S % 2305843009213693951 := by
    rw [Int.natCast_emod, Int.natCast_mul, h]
    exact (Int.mul_emod S S _).symm
  rw [← h2]
  unfold res
  omega

set_option maxHeartbeats 1000000 in
theorem exp_any (a e : Int) (w : World) (ia : isI64 a) (he : isI64 e) : Calls Try.prog 17 #[.int .i64 a, .int .i64 e] w fun r w' => r = .returned (.int .i64 (powP a e : Nat)) ∧ Drew w w' := by
  obtain ⟨he1, he2⟩ := he
  have k1 := fun w => residue_any e 2305843009213693950 w (Or.inr rfl)
  obtain ⟨E0, hE0⟩ : ∃ x : Nat, x = expo e := ⟨_, rfl⟩
  have hp : powP a e = res a ^ E0 % 2305843009213693951 := by rw [powP, ← hE0]; rfl
  rw [hp]
  have hb : E0 ≤ 9223372036854775807 := by rw [hE0, expo]; split <;> omega
  have hE1 : e < 0 → (E0 : Int) = e % 2305843009213693950 := fun h => by rw [hE0, expo, if_pos h]; omega
  have hE2 : ¬ e < 0 → (E0 : Int) = e := fun h => by rw [hE0, expo, if_neg h]; omega
  have k2 := fun w => Try.bits_Len (E0 : Int) w (by omega) (by omega)
  rw [show ((E0 : Int)).toNat = E0 from rfl] at k2
  have hn := bitLen_lt E0 (by omega)
  have hn2 : Lib.bitLen E0 ≤ 63 := Lib.bitLen_le E0 63 (by decide) (by omega)
  obtain ⟨n, hnd⟩ : ∃ n, n = Lib.bitLen E0 := ⟨_, rfl⟩
  rw [← hnd] at hn hn2 k2
  have e1 : IntKind.u64.wrap (E0 : Int) = E0 := IntWalk.u64_in _ (by omega)
  have K1 := Lib.hid k1
  have K2 := Lib.hid k2
  have H1 := Lib.hid hE1
  have H2 := Lib.hid hE2
  have HN := Lib.hid hn
  have HB : Hid (E0 ≤ 9223372036854775807) := Lib.hid hb
  have HN2 : Hid (n ≤ 63) := Lib.hid hn2
  clear k1 k2 hE0 hp hE1 hE2 hnd hn hb hn2
  go_enter Try.func17, Try.ntmps17
  by_cases hn : e < 0
  · have hk := K1.out
    rw [← H1.out hn] at hk
    have K3 := Lib.hid hk
    clear hk H1 H2 K1
    go_wp2_with fail
    refine (K3.out _).mono ?_
    rintro r w1 ⟨rfl, rfl⟩
    go_wp2_with fail
    refine (K2.out _).mono ?_
    rintro r w1 ⟨rfl, rfl⟩
    go_wp2_with fail
    clear hn K3
    have st : Hid (1 * res a ^ (E0 / 2 ^ 0) % 2305843009213693951 = res a ^ E0 % 2305843009213693951) := Lib.hid (by rw [Nat.pow_zero, Nat.div_one, Nat.one_mul])
    go_loopw [5, 6, 16] (fun s5 s6 s16 wz => ∃ (i X : Nat) (S : Int), s5 = .int .i64 (X : Int) ∧ s6 = .int .i64 S ∧ s16 = .int .i64 (i : Int) ∧ i ≤ n ∧ X < 2305843009213693951 ∧ isI64 S ∧ Hid (X * res S ^ (E0 / 2 ^ i) % 2305843009213693951 = res a ^ E0 % 2305843009213693951) ∧ Hid (Drew w1 wz)) (fun _ _ s16 _ => n - (intOf s16).toNat)
    case atStart => exact ⟨0, 1, a, rfl, rfl, rfl, Nat.zero_le _, by decide, ia, st, Lib.hid (Drew.refl _)⟩
    case round =>
      clear st
      obtain ⟨i, X, S, rfl, rfl, rfl, hi, hX, hS, HI, HD⟩ := hrel
      by_cases hin : i < n
      · have hin2 : (i : Int) < n := by omega
        have hd : E0 / 2 ^ i < 9223372036854775808 := Nat.lt_of_le_of_lt (Nat.div_le_self _ _) (by have := HB.out; omega)
        obtain ⟨D, hD⟩ : ∃ D, D = E0 / 2 ^ i := ⟨_, rfl⟩
        have hnext : E0 / 2 ^ (i + 1) = D / 2 := by rw [hD, Nat.pow_succ, Nat.div_div_eq_div_mul]
        have hn2 := HN2.out
        have hsh : (E0 : Int) / 2 ^ (min i 64) = (D : Int) := by rw [Nat.min_eq_left (by omega), hD]; simp
        obtain ⟨t, ht⟩ : ∃ t, t = D % 2 := ⟨_, rfl⟩
        have hand : bits .and .i64 (D : Int) 1 = (t : Int) := by rw [ht]; exact and_one D (by omega)
        have hstep := exp_step X (res S) D 2305843009213693951
        have hi := HI.out
        rw [← hD] at hi
        rw [hi, ← hnext, ← res_sq S] at hstep
        obtain ⟨S2, hS2⟩ : ∃ x, x = S * S % 2305843009213693951 := ⟨_, rfl⟩
        have k6 := fun w => mul_any S S w hS hS
        rw [← hS2] at k6 hstep
        have iS2 : isI64 S2 := by unfold isI64; omega
        have hw1 : IntKind.i64.wrap ((i : Int) + 1) = ((i + 1 : Nat) : Int) := by rw [show (i : Int) + 1 = ((i + 1 : Nat) : Int) by omega]; exact IntWalk.i64_in _ (by omega)
        have K6 := Lib.hid k6
        by_cases h1 : t = 1
        · have k5 := fun w => mul_any X S w (by unfold isI64; omega) hS
          rw [if_pos (by omega), show X * res S % 2305843009213693951 = X * res S % 2305843009213693951 from rfl] at hstep
          have hr := res_mul S X
          obtain ⟨X2, hX2⟩ : ∃ x, x = X * res S % 2305843009213693951 := ⟨_, rfl⟩
          have hX2b : X2 < 2305843009213693951 := by rw [hX2]; exact Nat.mod_lt _ (by decide)
          rw [← hX2] at hr hstep
          rw [hr] at k5
          have K5 := Lib.hid k5
          have HS := Lib.hid hstep
          subst h1
          rw [show ((1 : Nat) : Int) = 1 from rfl] at hand
          clear k5 k6 hstep hi hX2 hr hS2 ht hD hnext hd HI hX hS hin hn2
          go_wp2_with fail
          refine (K5.out _).mono ?_
          rintro r w2 ⟨rfl, g1⟩
          go_wp2_with fail
          refine (K6.out _).mono ?_
          rintro r w3 ⟨rfl, g2⟩
          have GG := Lib.hid ((HD.out.trans g1).trans g2)
          clear g1 g2
          go_wp2_with fail
          go_roundw
          case rel => exact ⟨i + 1, X2, S2, rfl, rfl, rfl, by omega, hX2b, iS2, HS, GG⟩
          case measure => simp [intOf]; omega
        · have ht0 : t = 0 := by omega
          rw [if_neg (by omega)] at hstep
          have HS := Lib.hid hstep
          subst ht0
          rw [show ((0 : Nat) : Int) = 0 from rfl] at hand
          clear k6 hstep hi hS2 ht hD hnext hd HI hS hin hn2 h1
          go_wp2_with fail
          refine (K6.out _).mono ?_
          rintro r w3 ⟨rfl, g2⟩
          have GG := Lib.hid (HD.out.trans g2)
          clear g2
          go_wp2_with fail
          go_roundw
          case rel => exact ⟨i + 1, X, S2, rfl, rfl, rfl, by omega, hX, iS2, HS, GG⟩
          case measure => simp [intOf]; omega
      · obtain rfl : i = n := by omega
        have hi := HI.out
        rw [Nat.div_eq_of_lt HN.out, Nat.pow_zero, Nat.mul_one, Nat.mod_eq_of_lt hX] at hi
        have HI2 := Lib.hid hi
        clear HI hi hX hS hin HN HN2 HB
        go_wp2
        go_ret
        exact ⟨by rw [← HI2.out]; rfl, HD.out⟩
  · have hE := H2.out hn
    clear H1 H2 K1
    subst hE
    go_wp2_with fail
    refine (K2.out _).mono ?_
    rintro r w1 ⟨rfl, rfl⟩
    go_wp2_with fail
    clear hn
    have st : Hid (1 * res a ^ (E0 / 2 ^ 0) % 2305843009213693951 = res a ^ E0 % 2305843009213693951) := Lib.hid (by rw [Nat.pow_zero, Nat.div_one, Nat.one_mul])
    go_loopw [5, 6, 16] (fun s5 s6 s16 wz => ∃ (i X : Nat) (S : Int), s5 = .int .i64 (X : Int) ∧ s6 = .int .i64 S ∧ s16 = .int .i64 (i : Int) ∧ i ≤ n ∧ X < 2305843009213693951 ∧ isI64 S ∧ Hid (X * res S ^ (E0 / 2 ^ i) % 2305843009213693951 = res a ^ E0 % 2305843009213693951) ∧ Hid (Drew w1 wz)) (fun _ _ s16 _ => n - (intOf s16).toNat)
    case atStart => exact ⟨0, 1, a, rfl, rfl, rfl, Nat.zero_le _, by decide, ia, st, Lib.hid (Drew.refl _)⟩
    case round =>
      clear st
      obtain ⟨i, X, S, rfl, rfl, rfl, hi, hX, hS, HI, HD⟩ := hrel
      by_cases hin : i < n
      · have hin2 : (i : Int) < n := by omega
        have hd : E0 / 2 ^ i < 9223372036854775808 := Nat.lt_of_le_of_lt (Nat.div_le_self _ _) (by have := HB.out; omega)
        obtain ⟨D, hD⟩ : ∃ D, D = E0 / 2 ^ i := ⟨_, rfl⟩
        have hnext : E0 / 2 ^ (i + 1) = D / 2 := by rw [hD, Nat.pow_succ, Nat.div_div_eq_div_mul]
        have hn2 := HN2.out
        have hsh : (E0 : Int) / 2 ^ (min i 64) = (D : Int) := by rw [Nat.min_eq_left (by omega), hD]; simp
        obtain ⟨t, ht⟩ : ∃ t, t = D % 2 := ⟨_, rfl⟩
        have hand : bits .and .i64 (D : Int) 1 = (t : Int) := by rw [ht]; exact and_one D (by omega)
        have hstep := exp_step X (res S) D 2305843009213693951
        have hi := HI.out
        rw [← hD] at hi
        rw [hi, ← hnext, ← res_sq S] at hstep
        obtain ⟨S2, hS2⟩ : ∃ x, x = S * S % 2305843009213693951 := ⟨_, rfl⟩
        have k6 := fun w => mul_any S S w hS hS
        rw [← hS2] at k6 hstep
        have iS2 : isI64 S2 := by unfold isI64; omega
        have hw1 : IntKind.i64.wrap ((i : Int) + 1) = ((i + 1 : Nat) : Int) := by rw [show (i : Int) + 1 = ((i + 1 : Nat) : Int) by omega]; exact IntWalk.i64_in _ (by omega)
        have K6 := Lib.hid k6
        by_cases h1 : t = 1
        · have k5 := fun w => mul_any X S w (by unfold isI64; omega) hS
          rw [if_pos (by omega), show X * res S % 2305843009213693951 = X * res S % 2305843009213693951 from rfl] at hstep
          have hr := res_mul S X
          obtain ⟨X2, hX2⟩ : ∃ x, x = X * res S % 2305843009213693951 := ⟨_, rfl⟩
          have hX2b : X2 < 2305843009213693951 := by rw [hX2]; exact Nat.mod_lt _ (by decide)
          rw [← hX2] at hr hstep
          rw [hr] at k5
          have K5 := Lib.hid k5
          have HS := Lib.hid hstep
          subst h1
          rw [show ((1 : Nat) : Int) = 1 from rfl] at hand
          clear k5 k6 hstep hi hX2 hr hS2 ht hD hnext hd HI hX hS hin hn2
          go_wp2_with fail
          refine (K5.out _).mono ?_
          rintro r w2 ⟨rfl, g1⟩
          go_wp2_with fail
          refine (K6.out _).mono ?_
          rintro r w3 ⟨rfl, g2⟩
          have GG := Lib.hid ((HD.out.trans g1).trans g2)
          clear g1 g2
          go_wp2_with fail
          go_roundw
          case rel => exact ⟨i + 1, X2, S2, rfl, rfl, rfl, by omega, hX2b, iS2, HS, GG⟩
          case measure => simp [intOf]; omega
        · have ht0 : t = 0 := by omega
          rw [if_neg (by omega)] at hstep
          have HS := Lib.hid hstep
          subst ht0
          rw [show ((0 : Nat) : Int) = 0 from rfl] at hand
          clear k6 hstep hi hS2 ht hD hnext hd HI hS hin hn2 h1
          go_wp2_with fail
          refine (K6.out _).mono ?_
          rintro r w3 ⟨rfl, g2⟩
          have GG := Lib.hid (HD.out.trans g2)
          clear g2
          go_wp2_with fail
          go_roundw
          case rel => exact ⟨i + 1, X, S2, rfl, rfl, rfl, by omega, hX, iS2, HS, GG⟩
          case measure => simp [intOf]; omega
      · obtain rfl : i = n := by omega
        have hi := HI.out
        rw [Nat.div_eq_of_lt HN.out, Nat.pow_zero, Nat.mul_one, Nat.mod_eq_of_lt hX] at hi
        have HI2 := Lib.hid hi
        clear HI hi hX hS hin HN HN2 HB
        go_wp2
        go_ret
        exact ⟨by rw [← HI2.out]; rfl, HD.out⟩
/-- What Inv returns. -/
def invV (a : Int) : Nat × Bool := if a % 2305843009213693951 = 0 then (0, false) else (invP a, true)
theorem refInv_pair (a : Int) (w : World) : Calls Try.prog 10 #[.int .i64 a] w fun e w' => e = .returned (.tuple #[.int .i64 ((invV a).1 : Nat), .bool (invV a).2]) ∧ w' = w := by
  refine (refInv_any a w).mono fun e w' h => ?_
  refine ⟨h.1.trans ?_, h.2⟩
  unfold invV
  generalize invP a = I
  by_cases hz : a % 2305843009213693951 = 0
  · rw [if_pos hz, if_pos hz]
    rfl
  · rw [if_neg hz, if_neg hz]
theorem inv_pow (a : Int) : powP a (-1) = invP a := by
  rw [powP, invP]
  rfl

set_option maxHeartbeats 1000000 in
theorem inv_any (a : Int) (w : World) (ia : isI64 a) : Calls Try.prog 9 #[.int .i64 a] w fun e w' => e = .returned (.tuple #[.int .i64 ((invV a).1 : Nat), .bool (invV a).2]) ∧ Drew w w' := by
  have k1 := fun w => residue_any a 2305843009213693951 w (Or.inl rfl)
  have k2 := fun w => exp_any a (-1) w ia (by unfold isI64; omega)
  rw [inv_pow] at k2
  obtain ⟨I, hI⟩ : ∃ I, I = invP a := ⟨_, rfl⟩
  obtain ⟨z, hz⟩ : ∃ z, z = a % 2305843009213693951 := ⟨_, rfl⟩
  rw [← hI] at k2
  rw [← hz] at k1
  unfold invV
  rw [← hz, ← hI]
  have K1 := Lib.hid k1
  have K2 := Lib.hid k2
  clear k1 k2 hI hz ia
  by_cases h0 : z = 0
  · rw [if_pos h0]
    subst h0
    clear K2
    go_enter Try.func9, Try.ntmps9
    go_wp2_with fail
    refine (K1.out _).mono ?_
    rintro r w1 ⟨rfl, rfl⟩
    go_wp2
    go_ret2
    exact ⟨rfl, Drew.refl _⟩
  · rw [if_neg h0]
    go_enter Try.func9, Try.ntmps9
    go_wp2_with fail
    refine (K1.out _).mono ?_
    rintro r w1 ⟨rfl, rfl⟩
    go_wp2_with fail
    refine (K2.out _).mono ?_
    rintro r w2 ⟨rfl, g⟩
    go_wp2
    go_ret2
    exact ⟨rfl, g⟩
end Go.Proofs.Ytfldbddjpdbmpaa
