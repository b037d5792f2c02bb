/-
  Layer 4: the package's functions (the landed code): residue, plus, minus, times and what calls them.
-/
import Derived.Test.YtfldbddjpdbmpaaGroupInv
import Derived.Test.YtfldbddjpdbmpaaGroupDivN
import Derived.Test.YtfldbddjpdbmpaaShelf
namespace Go.Proofs.Ytfldbddjpdbmpaa
open Go.RowKit

set_option maxHeartbeats 1000000 in
theorem residue_any (a m : Int) (w : World) (hm : isMod m) :
    Calls Try.prog 26 #[.int .i64 a, .int .i64 m] w fun e w' => e = .returned (.int .i64 (a % m)) ∧ w' = w := by
  have hm0 : m ≠ 0 := by rcases hm with rfl | rfl <;> decide
  have hmp : 0 < m := by rcases hm with rfl | rfl <;> decide
  have hr := tmod_parts a m hmp
  have hmb : m ≤ 2305843009213693951 := by rcases hm with rfl | rfl <;> decide
  obtain ⟨r, hr0⟩ : ∃ r, r = a.tmod m := ⟨_, rfl⟩
  rw [← hr0] at hr
  have hrw : IntKind.i64.wrap r = r := IntWalk.i64_in _ (by have := hr.2; omega)
  have hrm : r < 0 → IntKind.i64.wrap (r + m) = r + m := fun h => IntWalk.i64_in _ (by have := hr.2; omega)
  have hr1 := hr.1
  have hr2 := hr.2
  replace hr0 := hr0.symm
  clear hr
  go_enter Try.func26, Try.ntmps26
  by_cases h : r < 0
  · have hrm' := hrm h
    rw [if_pos h] at hr1
    have HR := Lib.hid hr1
    clear hrm hr1
    go_wp2
    go_ret
    exact ⟨by rw [HR.out]; rfl, rfl⟩
  · rw [if_neg h] at hr1
    have HR := Lib.hid hr1
    clear hrm hr1
    go_wp2
    go_ret
    exact ⟨by rw [HR.out]; rfl, rfl⟩
theorem isMod_range (m : Int) (hm : isMod m) (a : Int) : 0 ≤ a % m ∧ a % m < 2305843009213693951 ∧ 0 < m ∧ m ≤ 2305843009213693951 := by
  rcases hm with rfl | rfl <;> omega

set_option maxHeartbeats 1000000 in
theorem plus_any (a b m : Int) (w : World) (hm : isMod m) : Calls Try.prog 28 #[.int .i64 a, .int .i64 b, .int .i64 m] w fun e w' => e = .returned (.int .i64 ((a + b) % m)) ∧ w' = w := by
  have k1 := fun w => residue_any a m w hm
  have k2 := fun w => residue_any b m w hm
  have r1 := isMod_range m hm a
  have r2 := isMod_range m hm b
  have hz : (a % m + b % m) % m = (a + b) % m := (Int.add_emod a b m).symm
  obtain ⟨x, hx⟩ : ∃ x, x = a % m := ⟨_, rfl⟩
  obtain ⟨y, hy⟩ : ∃ y, y = b % m := ⟨_, rfl⟩
  rw [← hx] at k1 hz r1
  rw [← hy] at k2 hz r2
  have hxy : IntKind.i64.wrap (x + y) = x + y := IntWalk.i64_in _ (by omega)
  have k3 := fun w => residue_any (x + y) m w hm
  rw [hz] at k3
  have K1 := Lib.hid k1
  have K2 := Lib.hid k2
  have K3 := Lib.hid k3
  clear k1 k2 k3 hx hy hz hm r1 r2
  go_enter Try.func28, Try.ntmps28
  go_wp2_with fail
  refine (K1.out _).mono ?_
  rintro e w1 ⟨rfl, rfl⟩
  go_wp2_with fail
  refine (K2.out _).mono ?_
  rintro e w1 ⟨rfl, rfl⟩
  go_wp2_with fail
  refine (K3.out _).mono ?_
  rintro e w1 ⟨rfl, rfl⟩
  go_wp2
  go_ret
  exact ⟨rfl, rfl⟩

set_option maxHeartbeats 1000000 in
theorem minus_any (a b m : Int) (w : World) (hm : isMod m) : Calls Try.prog 29 #[.int .i64 a, .int .i64 b, .int .i64 m] w fun e w' => e = .returned (.int .i64 ((a - b) % m)) ∧ w' = w := by
  have k1 := fun w => residue_any a m w hm
  have k2 := fun w => residue_any b m w hm
  have r1 := isMod_range m hm a
  have r2 := isMod_range m hm b
  have hz : (a % m - b % m) % m = (a - b) % m := (Int.sub_emod a b m).symm
  obtain ⟨x, hx⟩ : ∃ x, x = a % m := ⟨_, rfl⟩
  obtain ⟨y, hy⟩ : ∃ y, y = b % m := ⟨_, rfl⟩
  rw [← hx] at k1 hz r1
  rw [← hy] at k2 hz r2
  have hxy : IntKind.i64.wrap (x - y) = x - y := IntWalk.i64_in _ (by omega)
  have k3 := fun w => residue_any (x - y) m w hm
  rw [hz] at k3
  have K1 := Lib.hid k1
  have K2 := Lib.hid k2
  have K3 := Lib.hid k3
  clear k1 k2 k3 hx hy hz hm r1 r2
  go_enter Try.func29, Try.ntmps29
  go_wp2_with fail
  refine (K1.out _).mono ?_
  rintro e w1 ⟨rfl, rfl⟩
  go_wp2_with fail
  refine (K2.out _).mono ?_
  rintro e w1 ⟨rfl, rfl⟩
  go_wp2_with fail
  refine (K3.out _).mono ?_
  rintro e w1 ⟨rfl, rfl⟩
  go_wp2
  go_ret
  exact ⟨rfl, rfl⟩

theorem lead_P (w : World) : Calls Try.prog 38 #[.int .u64 2305843009213693951] w fun e w' => e = .returned (.int .i64 3) ∧ w' = w := by
  have h := Try.bits_LeadingZeros64 2305843009213693951 w (by decide) (by decide)
  rw [show (2305843009213693951 : Int).toNat = 2305843009213693951 from rfl, show Lib.bitLen 2305843009213693951 = 61 by decide +kernel] at h
  exact h
theorem lead_N (w : World) : Calls Try.prog 38 #[.int .u64 2305843009213693950] w fun e w' => e = .returned (.int .i64 3) ∧ w' = w := by
  have h := Try.bits_LeadingZeros64 2305843009213693950 w (by decide) (by decide)
  rw [show (2305843009213693950 : Int).toNat = 2305843009213693950 from rfl, show Lib.bitLen 2305843009213693950 = 61 by decide +kernel] at h
  exact h

set_option maxHeartbeats 1000000 in
theorem rem64_any (m : Nat) (hi lo : Nat) (w : World) (hm : isMod (m : Int)) (hh : hi < 288230376151711744) (hl : lo < 18446744073709551616) :
    Calls Try.prog 34 #[.int .u64 (hi : Int), .int .u64 (lo : Int), .int .u64 (m : Int)] w fun e w' => e = .returned (.int .u64 (((hi * 18446744073709551616 + lo) % m : Nat) : Int)) ∧ Drew w w' := by
  have k : ∀ w, Calls Try.prog 37 #[.int .u64 (hi : Int), .int .u64 (lo : Int), .int .u64 (m : Int)] w fun e w' => (∃ q : Int, e = .returned (.tuple #[.int .u64 q, .int .u64 (((hi * 18446744073709551616 + lo) % m : Nat) : Int)])) ∧ Drew w w' := fun w => by
    rcases hm with h | h
    · obtain rfl : m = 2305843009213693951 := by omega
      exact div64_P hi lo w hh hl lead_P
    · obtain rfl : m = 2305843009213693950 := by omega
      exact div64_N hi lo w hh hl lead_N
  have hm0 : (0 : Int) < m := by rcases hm with h | h <;> omega
  have hm1 : (hi : Int) < m := by rcases hm with h | h <;> omega
  obtain ⟨z, hz⟩ : ∃ z, z = (hi * 18446744073709551616 + lo) % m := ⟨_, rfl⟩
  rw [← hz] at k ⊢
  have e1 : (hi : Int) % m = hi := Int.emod_eq_of_lt (by omega) hm1
  have e2 : (hi : Int).tmod m = hi := by rw [Int.tmod_eq_emod_of_nonneg (by omega)]; exact e1
  have e3 : IntKind.u64.wrap (hi : Int) = hi := IntWalk.u64_in _ (by omega)
  have hmz : ¬ (m : Int) = 0 := by omega
  have K := Lib.hid k
  clear k hz hm hh hl
  go_enter Try.func34, Try.ntmps34
  go_wp2_with fail
  refine (K.out _).mono ?_
  rintro e w1 ⟨⟨q, rfl⟩, g⟩
  go_wp2
  go_ret
  exact ⟨rfl, g⟩

set_option maxHeartbeats 1000000 in
theorem times_any (a b : Int) (m : Nat) (w : World) (hm : isMod (m : Int)) : Calls Try.prog 30 #[.int .i64 a, .int .i64 b, .int .i64 (m : Int)] w fun e w' => e = .returned (.int .i64 (a * b % (m : Int))) ∧ Drew w w' := by
  have k1 := fun w => residue_any a m w hm
  have k2 := fun w => residue_any b m w hm
  have r1 := isMod_range m hm a
  have r2 := isMod_range m hm b
  obtain ⟨x, hx⟩ : ∃ x : Nat, (x : Int) = a % m := ⟨(a % m).toNat, by omega⟩
  obtain ⟨y, hy⟩ : ∃ y : Nat, (y : Int) = b % m := ⟨(b % m).toNat, by omega⟩
  rw [← hx] at k1 r1
  rw [← hy] at k2 r2
  have k3 := fun w => Try.bits_Mul64 x y (by omega) (by omega) w
  have hxy : x * y < 288230376151711744 * 18446744073709551616 := Nat.lt_of_le_of_lt (Nat.mul_le_mul (show x ≤ 2305843009213693951 by omega) (show y ≤ 2305843009213693951 by omega)) (by decide)
  have k4 := fun w => rem64_any m (x * y / 18446744073709551616) (x * y % 18446744073709551616) w hm (Nat.div_lt_of_lt_mul (by omega)) (Nat.mod_lt _ (by decide))
  have hmn : 0 < m := by omega
  have hzz : (x * y / 18446744073709551616 * 18446744073709551616 + x * y % 18446744073709551616) % m = x * y % m := by rw [Nat.div_add_mod']
  rw [hzz] at k4
  have hz : ((x * y % m : Nat) : Int) = a * b % (m : Int) := by
    rw [Int.natCast_emod, Int.natCast_mul, hx, hy]
    exact (Int.mul_emod a b m).symm
  have hzb : x * y % m < m := Nat.mod_lt _ hmn
  obtain ⟨z, hzd⟩ : ∃ z, z = x * y % m := ⟨_, rfl⟩
  obtain ⟨H, hH⟩ : ∃ z, z = x * y / 18446744073709551616 := ⟨_, rfl⟩
  obtain ⟨L, hL⟩ : ∃ z, z = x * y % 18446744073709551616 := ⟨_, rfl⟩
  rw [← hzd] at k4 hz hzb
  rw [← hH, ← hL] at k4 k3
  have e1 : IntKind.u64.wrap (x : Int) = x := IntWalk.u64_in _ (by omega)
  have e2 : IntKind.u64.wrap (y : Int) = y := IntWalk.u64_in _ (by omega)
  have e3 : IntKind.u64.wrap (m : Int) = m := IntWalk.u64_in _ (by omega)
  have e4 : IntKind.i64.wrap (z : Int) = z := IntWalk.i64_in _ (by omega)
  rw [← hz]
  have K1 := Lib.hid k1
  have K2 := Lib.hid k2
  have K3 := Lib.hid k3
  have K4 := Lib.hid k4
  clear k1 k2 k3 k4 hx hy hz hm r1 r2 hxy hzz hzb hzd hH hL
  go_enter Try.func30, Try.ntmps30
  go_wp2_with fail
  refine (K1.out _).mono ?_
  rintro e w1 ⟨rfl, rfl⟩
  go_wp2_with fail
  refine (K2.out _).mono ?_
  rintro e w1 ⟨rfl, rfl⟩
  go_wp2_with fail
  refine (K3.out _).mono ?_
  rintro e w1 ⟨rfl, rfl⟩
  go_wp2_with fail
  refine (K4.out _).mono ?_
  rintro e w1 ⟨rfl, g⟩
  go_wp2
  go_ret
  exact ⟨rfl, g⟩

theorem add_any (a b : Int) (w : World) (_ : isI64 a) (_ : isI64 b) : Calls Try.prog 11 #[.int .i64 a, .int .i64 b] w fun e w' => e = .returned (.int .i64 ((a + b) % 2305843009213693951)) ∧ w' = w := by
  have K := Lib.hid fun w => plus_any a b 2305843009213693951 w (Or.inl rfl)
  go_enter Try.func11, Try.ntmps11
  go_wp2_with fail
  refine (K.out _).mono ?_
  rintro r w1 ⟨rfl, rfl⟩
  go_wp2
  go_ret
  exact ⟨rfl, rfl⟩

theorem sub_any (a b : Int) (w : World) (_ : isI64 a) (_ : isI64 b) : Calls Try.prog 13 #[.int .i64 a, .int .i64 b] w fun e w' => e = .returned (.int .i64 ((a - b) % 2305843009213693951)) ∧ w' = w := by
  have K := Lib.hid fun w => minus_any a b 2305843009213693951 w (Or.inl rfl)
  go_enter Try.func13, Try.ntmps13
  go_wp2_with fail
  refine (K.out _).mono ?_
  rintro r w1 ⟨rfl, rfl⟩
  go_wp2
  go_ret
  exact ⟨rfl, rfl⟩

theorem addN_any (a b : Int) (w : World) (_ : isI64 a) (_ : isI64 b) : Calls Try.prog 19 #[.int .i64 a, .int .i64 b] w fun e w' => e = .returned (.int .i64 ((a + b) % 2305843009213693950)) ∧ w' = w := by
  have K := Lib.hid fun w => plus_any a b 2305843009213693950 w (Or.inr rfl)
  go_enter Try.func19, Try.ntmps19
  go_wp2_with fail
  refine (K.out _).mono ?_
  rintro r w1 ⟨rfl, rfl⟩
  go_wp2
  go_ret
  exact ⟨rfl, rfl⟩

theorem subN_any (a b : Int) (w : World) (_ : isI64 a) (_ : isI64 b) : Calls Try.prog 21 #[.int .i64 a, .int .i64 b] w fun e w' => e = .returned (.int .i64 ((a - b) % 2305843009213693950)) ∧ w' = w := by
  have K := Lib.hid fun w => minus_any a b 2305843009213693950 w (Or.inr rfl)
  go_enter Try.func21, Try.ntmps21
  go_wp2_with fail
  refine (K.out _).mono ?_
  rintro r w1 ⟨rfl, rfl⟩
  go_wp2
  go_ret
  exact ⟨rfl, rfl⟩

theorem mul_any (a b : Int) (w : World) (_ : isI64 a) (_ : isI64 b) : Calls Try.prog 15 #[.int .i64 a, .int .i64 b] w fun e w' => e = .returned (.int .i64 ((a * b) % 2305843009213693951)) ∧ Drew w w' := by
  have k := fun w => times_any a b 2305843009213693951 w (Or.inl rfl)
  rw [show ((2305843009213693951 : Nat) : Int) = 2305843009213693951 from rfl] at k
  have K := Lib.hid k
  clear k
  go_enter Try.func15, Try.ntmps15
  go_wp2_with fail
  refine (K.out _).mono ?_
  rintro r w1 ⟨rfl, g⟩
  go_wp2
  go_ret
  exact ⟨rfl, g⟩

theorem mulN_any (a b : Int) (w : World) (_ : isI64 a) (_ : isI64 b) : Calls Try.prog 23 #[.int .i64 a, .int .i64 b] w fun e w' => e = .returned (.int .i64 ((a * b) % 2305843009213693950)) ∧ Drew w w' := by
  have k := fun w => times_any a b 2305843009213693950 w (Or.inr rfl)
  rw [show ((2305843009213693950 : Nat) : Int) = 2305843009213693950 from rfl] at k
  have K := Lib.hid k
  clear k
  go_enter Try.func23, Try.ntmps23
  go_wp2_with fail
  refine (K.out _).mono ?_
  rintro r w1 ⟨rfl, g⟩
  go_wp2
  go_ret
  exact ⟨rfl, g⟩
end Go.Proofs.Ytfldbddjpdbmpaa
