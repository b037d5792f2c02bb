/-
  GroupOps, GroupFun, GroupAlg, GroupPow: joined.
-/
import Derived.Test.YtojbicpchjiplaaGreatDoorGroupInv
import Derived.Test.YtojbicpchjiplaaGreatDoorGroupDivN
import Derived.Test.YtojbicpchjiplaaGreatDoorShelf
/-
  Layer 4: the package's functions (the landed code): residue, plus, minus, times and what calls them.
-/
namespace Go.Proofs.YtojbicpchjiplaaGreatDoor.S4
open Go.RowKit

set_option maxHeartbeats 1000000 in
theorem residue_any (a m : Int) (w : World) (hm : isMod m) :
    Calls Tryz.prog 130 #[.int .i64 a, .int .i64 m] w fun e w' => e = .returned (.int .i64 (a % m)) ∧ w' = w := by
  have hm0 : m ≠ 0 := by rcases hm with rfl | rfl <;> decide
  have hmp : 0 < m := by rcases hm with rfl | rfl <;> decide
  have hr := tmod_parts a m hmp
  have hmb : m ≤ 2305843009213693951 := by rcases hm with rfl | rfl <;> decide
  obtain ⟨r, hr0⟩ : ∃ r, r = a.tmod m := ⟨_, rfl⟩
  rw [← hr0] at hr
  have hrw : IntKind.i64.wrap r = r := IntWalk.i64_in _ (by have := hr.2; omega)
  have hrm : r < 0 → IntKind.i64.wrap (r + m) = r + m := fun h => IntWalk.i64_in _ (by have := hr.2; omega)
  have hr1 := hr.1
  have hr2 := hr.2
  replace hr0 := hr0.symm
  clear hr
  go_enter Tryz.func130, Tryz.ntmps130
  by_cases h : r < 0
  · have hrm' := hrm h
    rw [if_pos h] at hr1
    have HR := Lib.hid hr1
    clear hrm hr1
    go_wp2
    go_ret
    exact ⟨by rw [HR.out]; rfl, rfl⟩
  · rw [if_neg h] at hr1
    have HR := Lib.hid hr1
    clear hrm hr1
    go_wp2
    go_ret
    exact ⟨by rw [HR.out]; rfl, rfl⟩
theorem isMod_range (m : Int) (hm : isMod m) (a : Int) : 0 ≤ a % m ∧ a % m < 2305843009213693951 ∧ 0 < m ∧ m ≤ 2305843009213693951 := by
  rcases hm with rfl | rfl <;> omega

set_option maxHeartbeats 1000000 in
theorem plus_any (a b m : Int) (w : World) (hm : isMod m) : Calls Tryz.prog 137 #[.int .i64 a, .int .i64 b, .int .i64 m] w fun e w' => e = .returned (.int .i64 ((a + b) % m)) ∧ w' = w := by
  have k1 := fun w => residue_any a m w hm
  have k2 := fun w => residue_any b m w hm
  have r1 := isMod_range m hm a
  have r2 := isMod_range m hm b
  have hz : (a % m + b % m) % m = (a + b) % m := (Int.add_emod a b m).symm
  obtain ⟨x, hx⟩ : ∃ x, x = a % m := ⟨_, rfl⟩
  obtain ⟨y, hy⟩ : ∃ y, y = b % m := ⟨_, rfl⟩
  rw [← hx] at k1 hz r1
  rw [← hy] at k2 hz r2
  have hxy : IntKind.i64.wrap (x + y) = x + y := IntWalk.i64_in _ (by omega)
  have k3 := fun w => residue_any (x + y) m w hm
  rw [hz] at k3
  have K1 := Lib.hid k1
  have K2 := Lib.hid k2
  have K3 := Lib.hid k3
  clear k1 k2 k3 hx hy hz hm r1 r2
  go_enter Tryz.func137, Tryz.ntmps137
  go_wp2_with fail
  refine (K1.out _).mono ?_
  rintro e w1 ⟨rfl, rfl⟩
  go_wp2_with fail
  refine (K2.out _).mono ?_
  rintro e w1 ⟨rfl, rfl⟩
  go_wp2_with fail
  refine (K3.out _).mono ?_
  rintro e w1 ⟨rfl, rfl⟩
  go_wp2
  go_ret
  exact ⟨rfl, rfl⟩

theorem lead_P (w : World) : Calls Tryz.prog 163 #[.int .u64 2305843009213693951] w fun e w' => e = .returned (.int .i64 3) ∧ w' = w := by
  have h := Tryz.bits_LeadingZeros64 2305843009213693951 w (by decide) (by decide)
  rw [show (2305843009213693951 : Int).toNat = 2305843009213693951 from rfl, show Lib.bitLen 2305843009213693951 = 61 by decide +kernel] at h
  exact h
theorem lead_N (w : World) : Calls Tryz.prog 163 #[.int .u64 2305843009213693950] w fun e w' => e = .returned (.int .i64 3) ∧ w' = w := by
  have h := Tryz.bits_LeadingZeros64 2305843009213693950 w (by decide) (by decide)
  rw [show (2305843009213693950 : Int).toNat = 2305843009213693950 from rfl, show Lib.bitLen 2305843009213693950 = 61 by decide +kernel] at h
  exact h

set_option maxHeartbeats 1000000 in
theorem rem64_any (m : Nat) (hi lo : Nat) (w : World) (hm : isMod (m : Int)) (hh : hi < 288230376151711744) (hl : lo < 18446744073709551616) :
    Calls Tryz.prog 149 #[.int .u64 (hi : Int), .int .u64 (lo : Int), .int .u64 (m : Int)] w fun e w' => e = .returned (.int .u64 (((hi * 18446744073709551616 + lo) % m : Nat) : Int)) ∧ Drew w w' := by
  have k : ∀ w, Calls Tryz.prog 158 #[.int .u64 (hi : Int), .int .u64 (lo : Int), .int .u64 (m : Int)] w fun e w' => (∃ q : Int, e = .returned (.tuple #[.int .u64 q, .int .u64 (((hi * 18446744073709551616 + lo) % m : Nat) : Int)])) ∧ Drew w w' := fun w => by
    rcases hm with h | h
    · obtain rfl : m = 2305843009213693951 := by omega
      exact div64_P hi lo w hh hl lead_P
    · obtain rfl : m = 2305843009213693950 := by omega
      exact div64_N hi lo w hh hl lead_N
  have hm0 : (0 : Int) < m := by rcases hm with h | h <;> omega
  have hm1 : (hi : Int) < m := by rcases hm with h | h <;> omega
  obtain ⟨z, hz⟩ : ∃ z, z = (hi * 18446744073709551616 + lo) % m := ⟨_, rfl⟩
  rw [← hz] at k ⊢
  have e1 : (hi : Int) % m = hi := Int.emod_eq_of_lt (by omega) hm1
  have e2 : (hi : Int).tmod m = hi := by rw [Int.tmod_eq_emod_of_nonneg (by omega)]; exact e1
  have e3 : IntKind.u64.wrap (hi : Int) = hi := IntWalk.u64_in _ (by omega)
  have hmz : ¬ (m : Int) = 0 := by omega
  have K := Lib.hid k
  clear k hz hm hh hl
  go_enter Tryz.func149, Tryz.ntmps149
  go_wp2_with fail
  refine (K.out _).mono ?_
  rintro e w1 ⟨⟨q, rfl⟩, g⟩
  go_wp2
  go_ret
  exact ⟨rfl, g⟩

set_option maxHeartbeats 1000000 in
theorem times_any (a b : Int) (m : Nat) (w : World) (hm : isMod (m : Int)) : Calls Tryz.prog 129 #[.int .i64 a, .int .i64 b, .int .i64 (m : Int)] w fun e w' => e = .returned (.int .i64 (a * b % (m : Int))) ∧ Drew w w' := by
  have k1 := fun w => residue_any a m w hm
  have k2 := fun w => residue_any b m w hm
  have r1 := isMod_range m hm a
  have r2 := isMod_range m hm b
  obtain ⟨x, hx⟩ : ∃ x : Nat, (x : Int) = a % m := ⟨(a % m).toNat, by omega⟩
  obtain ⟨y, hy⟩ : ∃ y : Nat, (y : Int) = b % m := ⟨(b % m).toNat, by omega⟩
  rw [← hx] at k1 r1
  rw [← hy] at k2 r2
  have k3 := fun w => Tryz.bits_Mul64 x y (by omega) (by omega) w
  have hxy : x * y < 288230376151711744 * 18446744073709551616 := Nat.lt_of_le_of_lt (Nat.mul_le_mul (show x ≤ 2305843009213693951 by omega) (show y ≤ 2305843009213693951 by omega)) (by decide)
  have k4 := fun w => rem64_any m (x * y / 18446744073709551616) (x * y % 18446744073709551616) w hm (Nat.div_lt_of_lt_mul (by omega)) (Nat.mod_lt _ (by decide))
  have hmn : 0 < m := by omega
  have hzz : (x * y / 18446744073709551616 * 18446744073709551616 + x * y % 18446744073709551616) % m = x * y % m := by rw [Nat.div_add_mod']
  rw [hzz] at k4
  have hz : ((x * y % m : Nat) : Int) = a * b % (m : Int) := by
    rw [Int.natCast_emod, Int.natCast_mul, hx, hy]
    exact (Int.mul_emod a b m).symm
  have hzb : x * y % m < m := Nat.mod_lt _ hmn
  obtain ⟨z, hzd⟩ : ∃ z, z = x * y % m := ⟨_, rfl⟩
  obtain ⟨H, hH⟩ : ∃ z, z = x * y / 18446744073709551616 := ⟨_, rfl⟩
  obtain ⟨L, hL⟩ : ∃ z, z = x * y % 18446744073709551616 := ⟨_, rfl⟩
  rw [← hzd] at k4 hz hzb
  rw [← hH, ← hL] at k4 k3
  have e1 : IntKind.u64.wrap (x : Int) = x := IntWalk.u64_in _ (by omega)
  have e2 : IntKind.u64.wrap (y : Int) = y := IntWalk.u64_in _ (by omega)
  have e3 : IntKind.u64.wrap (m : Int) = m := IntWalk.u64_in _ (by omega)
  have e4 : IntKind.i64.wrap (z : Int) = z := IntWalk.i64_in _ (by omega)
  rw [← hz]
  have K1 := Lib.hid k1
  have K2 := Lib.hid k2
  have K3 := Lib.hid k3
  have K4 := Lib.hid k4
  clear k1 k2 k3 k4 hx hy hz hm r1 r2 hxy hzz hzb hzd hH hL
  go_enter Tryz.func129, Tryz.ntmps129
  go_wp2_with fail
  refine (K1.out _).mono ?_
  rintro e w1 ⟨rfl, rfl⟩
  go_wp2_with fail
  refine (K2.out _).mono ?_
  rintro e w1 ⟨rfl, rfl⟩
  go_wp2_with fail
  refine (K3.out _).mono ?_
  rintro e w1 ⟨rfl, rfl⟩
  go_wp2_with fail
  refine (K4.out _).mono ?_
  rintro e w1 ⟨rfl, g⟩
  go_wp2
  go_ret
  exact ⟨rfl, g⟩

theorem addN_any (a b : Int) (w : World) (_ : isI64 a) (_ : isI64 b) : Calls Tryz.prog 85 #[.int .i64 a, .int .i64 b] w fun e w' => e = .returned (.int .i64 ((a + b) % 2305843009213693950)) ∧ w' = w := by
  have K := Lib.hid fun w => plus_any a b 2305843009213693950 w (Or.inr rfl)
  go_enter Tryz.func85, Tryz.ntmps85
  go_wp2_with fail
  refine (K.out _).mono ?_
  rintro r w1 ⟨rfl, rfl⟩
  go_wp2
  go_ret
  exact ⟨rfl, rfl⟩

theorem mul_any (a b : Int) (w : World) (_ : isI64 a) (_ : isI64 b) : Calls Tryz.prog 66 #[.int .i64 a, .int .i64 b] w fun e w' => e = .returned (.int .i64 ((a * b) % 2305843009213693951)) ∧ Drew w w' := by
  have k := fun w => times_any a b 2305843009213693951 w (Or.inl rfl)
  rw [show ((2305843009213693951 : Nat) : Int) = 2305843009213693951 from rfl] at k
  have K := Lib.hid k
  clear k
  go_enter Tryz.func66, Tryz.ntmps66
  go_wp2_with fail
  refine (K.out _).mono ?_
  rintro r w1 ⟨rfl, g⟩
  go_wp2
  go_ret
  exact ⟨rfl, g⟩

theorem mulN_any (a b : Int) (w : World) (_ : isI64 a) (_ : isI64 b) : Calls Tryz.prog 86 #[.int .i64 a, .int .i64 b] w fun e w' => e = .returned (.int .i64 ((a * b) % 2305843009213693950)) ∧ Drew w w' := by
  have k := fun w => times_any a b 2305843009213693950 w (Or.inr rfl)
  rw [show ((2305843009213693950 : Nat) : Int) = 2305843009213693950 from rfl] at k
  have K := Lib.hid k
  clear k
  go_enter Tryz.func86, Tryz.ntmps86
  go_wp2_with fail
  refine (K.out _).mono ?_
  rintro r w1 ⟨rfl, g⟩
  go_wp2
  go_ret
  exact ⟨rfl, g⟩
end Go.Proofs.YtojbicpchjiplaaGreatDoor.S4

/-
  Layer 4: the package's Exp and Inv (the landed code).
-/
namespace Go.Proofs.YtojbicpchjiplaaGreatDoor.S4
open Go.RowKit

theorem bitLenAux_lt : ∀ (f x : Nat), x < 2 ^ f → x < 2 ^ Lib.bitLenAux f x := by
  intro f
  induction f with
  | zero => intro x h; exact h
  | succ f ih =>
    intro x h
    unfold Lib.bitLenAux
    split
    · omega
    · have h2 := ih (x / 2) (by rw [Nat.pow_succ] at h; omega)
      rw [Nat.add_comm 1, Nat.pow_succ]
      omega
theorem bitLen_lt (x : Nat) (h : x < 18446744073709551616) : x < 2 ^ Lib.bitLen x := bitLenAux_lt 64 x h
theorem and_one (x : Nat) (h : x < 9223372036854775808) : bits .and .i64 (x : Int) 1 = ((x % 2 : Nat) : Int) := by
  show IntKind.i64.wrap ((BitVec.ofInt 64 (x : Int) &&& BitVec.ofInt 64 ((1 : Nat) : Int)).toNat : Int) = _
  rw [BitVec.toNat_and, ofInt_u64 x (by omega), ofInt_u64 1 (by decide), Nat.and_one_is_mod]
  exact IntWalk.i64_in _ (by omega)
/-- The square's residue as a natural number. -/
def res (S : Int) : Nat := (S % 2305843009213693951).toNat
theorem res_mul (S : Int) (X : Nat) : (X : Int) * S % 2305843009213693951 = ((X * res S % 2305843009213693951 : Nat) : Int) := by
  have h : (res S : Int) = S % 2305843009213693951 := by unfold res; omega
  rw [Int.natCast_emod, Int.natCast_mul, h]
  show (X : Int) * S % 2305843009213693951 = (X : Int) * (S % 2305843009213693951) % 2305843009213693951
  rw [Int.mul_emod (X : Int) (S % 2305843009213693951), Int.emod_emod, ← Int.mul_emod]
theorem res_sq (S : Int) : res (S * S % 2305843009213693951) = res S * res S % 2305843009213693951 := by
  have h : (res S : Int) = S % 2305843009213693951 := by unfold res; omega
  have h2 : ((res S * res S % 2305843009213693951 : Nat) : Int) = S * S % 2305843009213693951 := by
    rw [Int.natCast_emod, Int.natCast_mul, h]
    exact (Int.mul_emod S S _).symm
  rw [← h2]
  unfold res
  omega

set_option maxHeartbeats 1000000 in
theorem exp_any (a e : Int) (w : World) (ia : isI64 a) (he : isI64 e) : Calls Tryz.prog 67 #[.int .i64 a, .int .i64 e] w fun r w' => r = .returned (.int .i64 (powP a e : Nat)) ∧ Drew w w' := by
  obtain ⟨he1, he2⟩ := he
  have k1 := fun w => residue_any e 2305843009213693950 w (Or.inr rfl)
  obtain ⟨E0, hE0⟩ : ∃ x : Nat, x = expo e := ⟨_, rfl⟩
  have hp : powP a e = res a ^ E0 % 2305843009213693951 := by rw [powP, ← hE0]; rfl
  rw [hp]
  have hb : E0 ≤ 9223372036854775807 := by rw [hE0, expo]; split <;> omega
  have hE1 : e < 0 → (E0 : Int) = e % 2305843009213693950 := fun h => by rw [hE0, expo, if_pos h]; omega
  have hE2 : ¬ e < 0 → (E0 : Int) = e := fun h => by rw [hE0, expo, if_neg h]; omega
  have k2 := fun w => Tryz.bits_Len (E0 : Int) w (by omega) (by omega)
  rw [show ((E0 : Int)).toNat = E0 from rfl] at k2
  have hn := bitLen_lt E0 (by omega)
  have hn2 : Lib.bitLen E0 ≤ 63 := Lib.bitLen_le E0 63 (by decide) (by omega)
  obtain ⟨n, hnd⟩ : ∃ n, n = Lib.bitLen E0 := ⟨_, rfl⟩
  rw [← hnd] at hn hn2 k2
  have e1 : IntKind.u64.wrap (E0 : Int) = E0 := IntWalk.u64_in _ (by omega)
  have K1 := Lib.hid k1
  have K2 := Lib.hid k2
  have H1 := Lib.hid hE1
  have H2 := Lib.hid hE2
  have HN := Lib.hid hn
  have HB : Hid (E0 ≤ 9223372036854775807) := Lib.hid hb
  have HN2 : Hid (n ≤ 63) := Lib.hid hn2
  clear k1 k2 hE0 hp hE1 hE2 hnd hn hb hn2
  go_enter Tryz.func67, Tryz.ntmps67
  by_cases hn : e < 0
  · have hk := K1.out
    rw [← H1.out hn] at hk
    have K3 := Lib.hid hk
    clear hk H1 H2 K1
    go_wp2_with fail
    refine (K3.out _).mono ?_
    rintro r w1 ⟨rfl, rfl⟩
    go_wp2_with fail
    refine (K2.out _).mono ?_
    rintro r w1 ⟨rfl, rfl⟩
    go_wp2_with fail
    clear hn K3
    have st : Hid (1 * res a ^ (E0 / 2 ^ 0) % 2305843009213693951 = res a ^ E0 % 2305843009213693951) := Lib.hid (by rw [Nat.pow_zero, Nat.div_one, Nat.one_mul])
    go_loopw [5, 6, 16] (fun s5 s6 s16 wz => ∃ (i X : Nat) (S : Int), s5 = .int .i64 (X : Int) ∧ s6 = .int .i64 S ∧ s16 = .int .i64 (i : Int) ∧ i ≤ n ∧ X < 2305843009213693951 ∧ isI64 S ∧ Hid (X * res S ^ (E0 / 2 ^ i) % 2305843009213693951 = res a ^ E0 % 2305843009213693951) ∧ Hid (Drew w1 wz)) (fun _ _ s16 _ => n - (intOf s16).toNat)
    case atStart => exact ⟨0, 1, a, rfl, rfl, rfl, Nat.zero_le _, by decide, ia, st, Lib.hid (Drew.refl _)⟩
    case round =>
      clear st
      obtain ⟨i, X, S, rfl, rfl, rfl, hi, hX, hS, HI, HD⟩ := hrel
      by_cases hin : i < n
      · have hin2 : (i : Int) < n := by omega
        have hd : E0 / 2 ^ i < 9223372036854775808 := Nat.lt_of_le_of_lt (Nat.div_le_self _ _) (by have := HB.out; omega)
        obtain ⟨D, hD⟩ : ∃ D, D = E0 / 2 ^ i := ⟨_, rfl⟩
        have hnext : E0 / 2 ^ (i + 1) = D / 2 := by rw [hD, Nat.pow_succ, Nat.div_div_eq_div_mul]
        have hn2 := HN2.out
        have hsh : (E0 : Int) / 2 ^ (min i 64) = (D : Int) := by rw [Nat.min_eq_left (by omega), hD]; simp
        obtain ⟨t, ht⟩ : ∃ t, t = D % 2 := ⟨_, rfl⟩
        have hand : bits .and .i64 (D : Int) 1 = (t : Int) := by rw [ht]; exact and_one D (by omega)
        have hstep := exp_step X (res S) D 2305843009213693951
        have hi := HI.out
        rw [← hD] at hi
        rw [hi, ← hnext, ← res_sq S] at hstep
        obtain ⟨S2, hS2⟩ : ∃ x, x = S * S % 2305843009213693951 := ⟨_, rfl⟩
        have k6 := fun w => mul_any S S w hS hS
        rw [← hS2] at k6 hstep
        have iS2 : isI64 S2 := by unfold isI64; omega
        have hw1 : IntKind.i64.wrap ((i : Int) + 1) = ((i + 1 : Nat) : Int) := by rw [show (i : Int) + 1 = ((i + 1 : Nat) : Int) by omega]; exact IntWalk.i64_in _ (by omega)
        have K6 := Lib.hid k6
        by_cases h1 : t = 1
        · have k5 := fun w => mul_any X S w (by unfold isI64; omega) hS
          rw [if_pos (by omega), show X * res S % 2305843009213693951 = X * res S % 2305843009213693951 from rfl] at hstep
          have hr := res_mul S X
          obtain ⟨X2, hX2⟩ : ∃ x, x = X * res S % 2305843009213693951 := ⟨_, rfl⟩
          have hX2b : X2 < 2305843009213693951 := by rw [hX2]; exact Nat.mod_lt _ (by decide)
          rw [← hX2] at hr hstep
          rw [hr] at k5
          have K5 := Lib.hid k5
          have HS := Lib.hid hstep
          subst h1
          rw [show ((1 : Nat) : Int) = 1 from rfl] at hand
          clear k5 k6 hstep hi hX2 hr hS2 ht hD hnext hd HI hX hS hin hn2
          go_wp2_with fail
          refine (K5.out _).mono ?_
          rintro r w2 ⟨rfl, g1⟩
          go_wp2_with fail
          refine (K6.out _).mono ?_
          rintro r w3 ⟨rfl, g2⟩
          have GG := Lib.hid ((HD.out.trans g1).trans g2)
          clear g1 g2
          go_wp2_with fail
          go_roundw
          case rel => exact ⟨i + 1, X2, S2, rfl, rfl, rfl, by omega, hX2b, iS2, HS, GG⟩
          case measure => simp [intOf]; omega
        · have ht0 : t = 0 := by omega
          rw [if_neg (by omega)] at hstep
          have HS := Lib.hid hstep
          subst ht0
          rw [show ((0 : Nat) : Int) = 0 from rfl] at hand
          clear k6 hstep hi hS2 ht hD hnext hd HI hS hin hn2 h1
          go_wp2_with fail
          refine (K6.out _).mono ?_
          rintro r w3 ⟨rfl, g2⟩
          have GG := Lib.hid (HD.out.trans g2)
          clear g2
          go_wp2_with fail
          go_roundw
          case rel => exact ⟨i + 1, X, S2, rfl, rfl, rfl, by omega, hX, iS2, HS, GG⟩
          case measure => simp [intOf]; omega
      · obtain rfl : i = n := by omega
        have hi := HI.out
        rw [Nat.div_eq_of_lt HN.out, Nat.pow_zero, Nat.mul_one, Nat.mod_eq_of_lt hX] at hi
        have HI2 := Lib.hid hi
        clear HI hi hX hS hin HN HN2 HB
        go_wp2
        go_ret
        exact ⟨by rw [← HI2.out]; rfl, HD.out⟩
  · have hE := H2.out hn
    clear H1 H2 K1
    subst hE
    go_wp2_with fail
    refine (K2.out _).mono ?_
    rintro r w1 ⟨rfl, rfl⟩
    go_wp2_with fail
    clear hn
    have st : Hid (1 * res a ^ (E0 / 2 ^ 0) % 2305843009213693951 = res a ^ E0 % 2305843009213693951) := Lib.hid (by rw [Nat.pow_zero, Nat.div_one, Nat.one_mul])
    go_loopw [5, 6, 16] (fun s5 s6 s16 wz => ∃ (i X : Nat) (S : Int), s5 = .int .i64 (X : Int) ∧ s6 = .int .i64 S ∧ s16 = .int .i64 (i : Int) ∧ i ≤ n ∧ X < 2305843009213693951 ∧ isI64 S ∧ Hid (X * res S ^ (E0 / 2 ^ i) % 2305843009213693951 = res a ^ E0 % 2305843009213693951) ∧ Hid (Drew w1 wz)) (fun _ _ s16 _ => n - (intOf s16).toNat)
    case atStart => exact ⟨0, 1, a, rfl, rfl, rfl, Nat.zero_le _, by decide, ia, st, Lib.hid (Drew.refl _)⟩
    case round =>
      clear st
      obtain ⟨i, X, S, rfl, rfl, rfl, hi, hX, hS, HI, HD⟩ := hrel
      by_cases hin : i < n
      · have hin2 : (i : Int) < n := by omega
        have hd : E0 / 2 ^ i < 9223372036854775808 := Nat.lt_of_le_of_lt (Nat.div_le_self _ _) (by have := HB.out; omega)
        obtain ⟨D, hD⟩ : ∃ D, D = E0 / 2 ^ i := ⟨_, rfl⟩
        have hnext : E0 / 2 ^ (i + 1) = D / 2 := by rw [hD, Nat.pow_succ, Nat.div_div_eq_div_mul]
        have hn2 := HN2.out
        have hsh : (E0 : Int) / 2 ^ (min i 64) = (D : Int) := by rw [Nat.min_eq_left (by omega), hD]; simp
        obtain ⟨t, ht⟩ : ∃ t, t = D % 2 := ⟨_, rfl⟩
        have hand : bits .and .i64 (D : Int) 1 = (t : Int) := by rw [ht]; exact and_one D (by omega)
        have hstep := exp_step X (res S) D 2305843009213693951
        have hi := HI.out
        rw [← hD] at hi
        rw [hi, ← hnext, ← res_sq S] at hstep
        obtain ⟨S2, hS2⟩ : ∃ x, x = S * S % 2305843009213693951 := ⟨_, rfl⟩
        have k6 := fun w => mul_any S S w hS hS
        rw [← hS2] at k6 hstep
        have iS2 : isI64 S2 := by unfold isI64; omega
        have hw1 : IntKind.i64.wrap ((i : Int) + 1) = ((i + 1 : Nat) : Int) := by rw [show (i : Int) + 1 = ((i + 1 : Nat) : Int) by omega]; exact IntWalk.i64_in _ (by omega)
        have K6 := Lib.hid k6
        by_cases h1 : t = 1
        · have k5 := fun w => mul_any X S w (by unfold isI64; omega) hS
          rw [if_pos (by omega), show X * res S % 2305843009213693951 = X * res S % 2305843009213693951 from rfl] at hstep
          have hr := res_mul S X
          obtain ⟨X2, hX2⟩ : ∃ x, x = X * res S % 2305843009213693951 := ⟨_, rfl⟩
          have hX2b : X2 < 2305843009213693951 := by rw [hX2]; exact Nat.mod_lt _ (by decide)
          rw [← hX2] at hr hstep
          rw [hr] at k5
          have K5 := Lib.hid k5
          have HS := Lib.hid hstep
          subst h1
          rw [show ((1 : Nat) : Int) = 1 from rfl] at hand
          clear k5 k6 hstep hi hX2 hr hS2 ht hD hnext hd HI hX hS hin hn2
          go_wp2_with fail
          refine (K5.out _).mono ?_
          rintro r w2 ⟨rfl, g1⟩
          go_wp2_with fail
          refine (K6.out _).mono ?_
          rintro r w3 ⟨rfl, g2⟩
          have GG := Lib.hid ((HD.out.trans g1).trans g2)
          clear g1 g2
          go_wp2_with fail
          go_roundw
          case rel => exact ⟨i + 1, X2, S2, rfl, rfl, rfl, by omega, hX2b, iS2, HS, GG⟩
          case measure => simp [intOf]; omega
        · have ht0 : t = 0 := by omega
          rw [if_neg (by omega)] at hstep
          have HS := Lib.hid hstep
          subst ht0
          rw [show ((0 : Nat) : Int) = 0 from rfl] at hand
          clear k6 hstep hi hS2 ht hD hnext hd HI hS hin hn2 h1
          go_wp2_with fail
          refine (K6.out _).mono ?_
          rintro r w3 ⟨rfl, g2⟩
          have GG := Lib.hid (HD.out.trans g2)
          clear g2
          go_wp2_with fail
          go_roundw
          case rel => exact ⟨i + 1, X, S2, rfl, rfl, rfl, by omega, hX, iS2, HS, GG⟩
          case measure => simp [intOf]; omega
      · obtain rfl : i = n := by omega
        have hi := HI.out
        rw [Nat.div_eq_of_lt HN.out, Nat.pow_zero, Nat.mul_one, Nat.mod_eq_of_lt hX] at hi
        have HI2 := Lib.hid hi
        clear HI hi hX hS hin HN HN2 HB
        go_wp2
        go_ret
        exact ⟨by rw [← HI2.out]; rfl, HD.out⟩
end Go.Proofs.YtojbicpchjiplaaGreatDoor.S4

/-
  Layer 4: the algebra of what the functions return, over integers.
-/
namespace Go.Proofs.YtojbicpchjiplaaGreatDoor.S4
open Go.RowKit

theorem nat_of (a : Int) : ∃ A : Nat, (A : Int) = a % 2305843009213693951 ∧ A < 2305843009213693951 := ⟨(a % 2305843009213693951).toNat, by omega, by omega⟩
end Go.Proofs.YtojbicpchjiplaaGreatDoor.S4

/-
  Layer 4: the laws of powers, of what Exp and Inv return.
-/
namespace Go.Proofs.YtojbicpchjiplaaGreatDoor.S4
open Go.RowKit

theorem expo_mod (e : Int) : expo e % 2305843009213693950 = (e % 2305843009213693950).toNat := by
  unfold expo
  split <;> omega
theorem nat_ofN (e : Int) : ∃ E : Nat, (E : Int) = e % 2305843009213693950 ∧ E < 2305843009213693950 := ⟨(e % 2305843009213693950).toNat, by omega, by omega⟩
/-- The power of a base whose residue A is not 0 is that with the residue of the exponent. -/
theorem powP_red (a e : Int) (A E : Nat) (hA : (A : Int) = a % 2305843009213693951) (h0 : A ≠ 0) (hE : (E : Int) = e % 2305843009213693950) : powP a e = A ^ E % Gp.P := by
  have hb : A < 2305843009213693951 := by omega
  have hm : A % Gp.P = A := Nat.mod_eq_of_lt hb
  have h1 := Gp.pow_red (a := A) (by omega) (expo e)
  have h2 : expo e % Gp.N = E := by
    show expo e % 2305843009213693950 = E
    rw [expo_mod, ← hE, Int.toNat_natCast]
  rw [h2] at h1
  rw [powP, ← hA, Int.toNat_natCast]
  exact h1
theorem powP_lt (a e : Int) : powP a e < 2305843009213693951 := Nat.mod_lt _ (by decide)
theorem powP_ne (a e : Int) (h : ¬ a % 2305843009213693951 = 0) : powP a e ≠ 0 := by
  obtain ⟨A, hA, hA2⟩ := nat_of a
  have hm : A % Gp.P = A := Nat.mod_eq_of_lt hA2
  rw [powP, ← hA, Int.toNat_natCast]
  exact Gp.pow_ne (by omega) _
theorem self_mod (n : Nat) (h : n < 2305843009213693951) : ((n : Nat) : Int) = ((n : Nat) : Int) % 2305843009213693951 := by omega
theorem pow_sum (a d e : Int) (h : ¬ a % 2305843009213693951 = 0) : ((powP a d : Nat) : Int) * (powP a e : Nat) % 2305843009213693951 = (powP a ((d + e) % 2305843009213693950) : Nat) := by
  obtain ⟨A, hA, _⟩ := nat_of a
  obtain ⟨D, hD, _⟩ := nat_ofN d
  obtain ⟨E, hE, _⟩ := nat_ofN e
  obtain ⟨F, hF, _⟩ := nat_ofN ((d + e) % 2305843009213693950)
  have h0 : A ≠ 0 := by omega
  have hm : A % Gp.P ≠ 0 := by
    have : A % Gp.P = A := Nat.mod_eq_of_lt (by show A < 2305843009213693951; omega)
    omega
  have hF2 : F = (D + E) % Gp.N := by
    show F = (D + E) % 2305843009213693950
    omega
  rw [powP_red a d A D hA h0 hD, powP_red a e A E hA h0 hE, powP_red a _ A F hA h0 hF, hF2, ← Gp.pow_red hm, Nat.pow_add, ← Int.natCast_mul]
  show ((A ^ D % Gp.P * (A ^ E % Gp.P) : Nat) : Int) % ((Gp.P : Nat) : Int) = _
  rw [← Int.natCast_emod, ← Nat.mul_mod]
theorem pow_pow (a d e : Int) (h : ¬ a % 2305843009213693951 = 0) : powP ((powP a d : Nat) : Int) e = powP a (d * e % 2305843009213693950) := by
  obtain ⟨A, hA, _⟩ := nat_of a
  obtain ⟨D, hD, _⟩ := nat_ofN d
  obtain ⟨E, hE, _⟩ := nat_ofN e
  obtain ⟨F, hF, _⟩ := nat_ofN (d * e % 2305843009213693950)
  have h0 : A ≠ 0 := by omega
  have hm : A % Gp.P ≠ 0 := by
    have : A % Gp.P = A := Nat.mod_eq_of_lt (by show A < 2305843009213693951; omega)
    omega
  have hF2 : F = D * E % Gp.N := by
    have h1 : (F : Int) = ((D * E % 2305843009213693950 : Nat) : Int) := by
      rw [hF, Int.emod_emod, Int.natCast_emod, Int.natCast_mul, hD, hE]
      exact Int.mul_emod d e 2305843009213693950
    show F = D * E % 2305843009213693950
    omega
  rw [powP_red _ e (powP a d) E (self_mod _ (powP_lt a d)) (powP_ne a d h) hE, powP_red a _ A F hA h0 hF, hF2, ← Gp.pow_red hm, powP_red a d A D hA h0 hD, Nat.pow_mul, ← Nat.pow_mod]
theorem pow_same (a d e : Int) (h : ¬ a % 2305843009213693951 = 0) (he : d % 2305843009213693950 = e % 2305843009213693950) : powP a d = powP a e := by
  obtain ⟨A, hA, _⟩ := nat_of a
  obtain ⟨D, hD, _⟩ := nat_ofN d
  rw [powP_red a d A D hA (by omega) hD, powP_red a e A D hA (by omega) (hD.trans he)]
end Go.Proofs.YtojbicpchjiplaaGreatDoor.S4
