/-
  Layer 4: the reference's Mod, Add, Sub, AddN, SubN.
-/
import Derived.Test.YtfldbddjpdbmpaaRows
import Derived.Test.YtfldbddjpdbmpaaGroupMath
import Derived.WalkKit
import Derived.WalkSpells
import Derived.WalkLawsBesides
import Derived.Lib.Hide
import Derived.PlainAid
import Derived.Handy
import Derived.LoopTactic
import Derived.Outline
import Derived.IntWalk
import Derived.Laws.BitsAllLaws
import Derived.Deep.QuietTactic
import Derived.BigQuiet
namespace Go.Proofs.Ytfldbddjpdbmpaa
open Go.RowKit

def isI64 (n : Int) : Prop := -9223372036854775808 ≤ n ∧ n ≤ 9223372036854775807
/-- The moduli. -/
def isMod (m : Int) : Prop := m = 2305843009213693951 ∨ m = 2305843009213693950

theorem tmod_parts (a m : Int) (hm : 0 < m) : (a % m = if a.tmod m < 0 then a.tmod m + m else a.tmod m) ∧ -m < a.tmod m ∧ a.tmod m < m := by
  rcases Int.le_total 0 a with h | h
  · have e := Int.tmod_eq_emod_of_nonneg (b := m) h
    have h1 := Int.emod_nonneg a (Int.ne_of_gt hm)
    have h2 := Int.emod_lt_of_pos a hm
    rw [e, if_neg (by omega)]
    exact ⟨rfl, by omega, h2⟩
  · obtain ⟨b, rfl⟩ : ∃ b, a = -b := ⟨-a, by omega⟩
    have hb : 0 ≤ b := by omega
    have e := Int.tmod_eq_emod_of_nonneg (b := m) hb
    have h1 := Int.emod_nonneg b (Int.ne_of_gt hm)
    have h2 := Int.emod_lt_of_pos b hm
    rw [Int.neg_tmod, e]
    refine ⟨?_, by omega, by omega⟩
    have hd := Int.emod_add_mul_ediv b m
    by_cases h0 : b % m = 0
    · rw [h0, if_neg (by omega)]
      have : m ∣ -b := Int.dvd_neg.2 (Int.dvd_of_emod_eq_zero h0)
      rw [Int.emod_eq_zero_of_dvd this]; rfl
    · rw [if_pos (by omega)]
      have hs : -b = (m - b % m) + m * (-(b / m) - 1) := by
        rw [Int.mul_sub, Int.mul_neg, Int.mul_one]; omega
      rw [hs, Int.add_mul_emod_self_left, Int.emod_eq_of_lt (by omega) (by omega)]
      omega

set_option maxHeartbeats 1000000 in
theorem refMod_any (a m : Int) (w : World) (hm : isMod m) :
    Calls Try.prog 27 #[.int .i64 a, .int .i64 m] w fun e w' => e = .returned (.int .i64 (a % m)) ∧ w' = w := by
  have hm0 : m ≠ 0 := by rcases hm with rfl | rfl <;> decide
  have hmp : 0 < m := by rcases hm with rfl | rfl <;> decide
  have hr := tmod_parts a m hmp
  have hmb : m ≤ 2305843009213693951 := by rcases hm with rfl | rfl <;> decide
  obtain ⟨r, hr0⟩ : ∃ r, r = a.tmod m := ⟨_, rfl⟩
  rw [← hr0] at hr
  have hrw : IntKind.i64.wrap r = r := IntWalk.i64_in _ (by have := hr.2; omega)
  have hrm : r < 0 → IntKind.i64.wrap (r + m) = r + m := fun h => IntWalk.i64_in _ (by have := hr.2; omega)
  have hr1 := hr.1
  have hr2 := hr.2
  replace hr0 := hr0.symm
  clear hr
  go_enter Try.func27, Try.ntmps27
  by_cases h : r < 0
  · have hrm' := hrm h
    rw [if_pos h] at hr1
    have HR := Lib.hid hr1
    clear hrm hr1
    go_wp2
    go_ret
    exact ⟨by rw [HR.out]; rfl, rfl⟩
  · rw [if_neg h] at hr1
    have HR := Lib.hid hr1
    clear hrm hr1
    go_wp2
    go_ret
    exact ⟨by rw [HR.out]; rfl, rfl⟩
set_option maxHeartbeats 1000000 in
theorem refAdd_any (a b : Int) (w : World) : Calls Try.prog 12 #[.int .i64 a, .int .i64 b] w fun e w' => e = .returned (.int .i64 ((a + b) % 2305843009213693951)) ∧ w' = w := by
  have hm : isMod 2305843009213693951 := by unfold isMod; omega
  have k1 := fun w => refMod_any a 2305843009213693951 w hm
  have k2 := fun w => refMod_any b 2305843009213693951 w hm
  obtain ⟨x, hx⟩ : ∃ x, x = a % 2305843009213693951 := ⟨_, rfl⟩
  obtain ⟨y, hy⟩ : ∃ y, y = b % 2305843009213693951 := ⟨_, rfl⟩
  have hxy : IntKind.i64.wrap (x + y) = x + y := IntWalk.i64_in _ (by omega)
  have hz : (x + y) % 2305843009213693951 = (a + b) % 2305843009213693951 := by rw [hx, hy, ← Int.add_emod]
  have k3 := fun w => refMod_any (x + y) 2305843009213693951 w hm
  rw [← hx] at k1
  rw [← hy] at k2
  rw [hz] at k3
  have K1 := Lib.hid k1
  have K2 := Lib.hid k2
  have K3 := Lib.hid k3
  clear k1 k2 k3 hx hy hz hm
  go_enter Try.func12, Try.ntmps12
  go_wp2_with fail
  refine (K1.out _).mono ?_
  rintro e w1 ⟨rfl, rfl⟩
  go_wp2_with fail
  refine (K2.out _).mono ?_
  rintro e w1 ⟨rfl, rfl⟩
  go_wp2_with fail
  refine (K3.out _).mono ?_
  rintro e w1 ⟨rfl, rfl⟩
  go_wp2
  go_ret
  exact ⟨rfl, rfl⟩

set_option maxHeartbeats 1000000 in
theorem refSub_any (a b : Int) (w : World) : Calls Try.prog 14 #[.int .i64 a, .int .i64 b] w fun e w' => e = .returned (.int .i64 ((a - b) % 2305843009213693951)) ∧ w' = w := by
  have hm : isMod 2305843009213693951 := by unfold isMod; omega
  have k1 := fun w => refMod_any a 2305843009213693951 w hm
  have k2 := fun w => refMod_any b 2305843009213693951 w hm
  obtain ⟨x, hx⟩ : ∃ x, x = a % 2305843009213693951 := ⟨_, rfl⟩
  obtain ⟨y, hy⟩ : ∃ y, y = b % 2305843009213693951 := ⟨_, rfl⟩
  have hxy : IntKind.i64.wrap (x - y) = x - y := IntWalk.i64_in _ (by omega)
  have hz : (x - y) % 2305843009213693951 = (a - b) % 2305843009213693951 := by rw [hx, hy, ← Int.sub_emod]
  have k3 := fun w => refMod_any (x - y) 2305843009213693951 w hm
  rw [← hx] at k1
  rw [← hy] at k2
  rw [hz] at k3
  have K1 := Lib.hid k1
  have K2 := Lib.hid k2
  have K3 := Lib.hid k3
  clear k1 k2 k3 hx hy hz hm
  go_enter Try.func14, Try.ntmps14
  go_wp2_with fail
  refine (K1.out _).mono ?_
  rintro e w1 ⟨rfl, rfl⟩
  go_wp2_with fail
  refine (K2.out _).mono ?_
  rintro e w1 ⟨rfl, rfl⟩
  go_wp2_with fail
  refine (K3.out _).mono ?_
  rintro e w1 ⟨rfl, rfl⟩
  go_wp2
  go_ret
  exact ⟨rfl, rfl⟩

set_option maxHeartbeats 1000000 in
theorem refAddN_any (a b : Int) (w : World) : Calls Try.prog 20 #[.int .i64 a, .int .i64 b] w fun e w' => e = .returned (.int .i64 ((a + b) % 2305843009213693950)) ∧ w' = w := by
  have hm : isMod 2305843009213693950 := by unfold isMod; omega
  have k1 := fun w => refMod_any a 2305843009213693950 w hm
  have k2 := fun w => refMod_any b 2305843009213693950 w hm
  obtain ⟨x, hx⟩ : ∃ x, x = a % 2305843009213693950 := ⟨_, rfl⟩
  obtain ⟨y, hy⟩ : ∃ y, y = b % 2305843009213693950 := ⟨_, rfl⟩
  have hxy : IntKind.i64.wrap (x + y) = x + y := IntWalk.i64_in _ (by omega)
  have hz : (x + y) % 2305843009213693950 = (a + b) % 2305843009213693950 := by rw [hx, hy, ← Int.add_emod]
  have k3 := fun w => refMod_any (x + y) 2305843009213693950 w hm
  rw [← hx] at k1
  rw [← hy] at k2
  rw [hz] at k3
  have K1 := Lib.hid k1
  have K2 := Lib.hid k2
  have K3 := Lib.hid k3
  clear k1 k2 k3 hx hy hz hm
  go_enter Try.func20, Try.ntmps20
  go_wp2_with fail
  refine (K1.out _).mono ?_
  rintro e w1 ⟨rfl, rfl⟩
  go_wp2_with fail
  refine (K2.out _).mono ?_
  rintro e w1 ⟨rfl, rfl⟩
  go_wp2_with fail
  refine (K3.out _).mono ?_
  rintro e w1 ⟨rfl, rfl⟩
  go_wp2
  go_ret
  exact ⟨rfl, rfl⟩

set_option maxHeartbeats 1000000 in
theorem refSubN_any (a b : Int) (w : World) : Calls Try.prog 22 #[.int .i64 a, .int .i64 b] w fun e w' => e = .returned (.int .i64 ((a - b) % 2305843009213693950)) ∧ w' = w := by
  have hm : isMod 2305843009213693950 := by unfold isMod; omega
  have k1 := fun w => refMod_any a 2305843009213693950 w hm
  have k2 := fun w => refMod_any b 2305843009213693950 w hm
  obtain ⟨x, hx⟩ : ∃ x, x = a % 2305843009213693950 := ⟨_, rfl⟩
  obtain ⟨y, hy⟩ : ∃ y, y = b % 2305843009213693950 := ⟨_, rfl⟩
  have hxy : IntKind.i64.wrap (x - y) = x - y := IntWalk.i64_in _ (by omega)
  have hz : (x - y) % 2305843009213693950 = (a - b) % 2305843009213693950 := by rw [hx, hy, ← Int.sub_emod]
  have k3 := fun w => refMod_any (x - y) 2305843009213693950 w hm
  rw [← hx] at k1
  rw [← hy] at k2
  rw [hz] at k3
  have K1 := Lib.hid k1
  have K2 := Lib.hid k2
  have K3 := Lib.hid k3
  clear k1 k2 k3 hx hy hz hm
  go_enter Try.func22, Try.ntmps22
  go_wp2_with fail
  refine (K1.out _).mono ?_
  rintro e w1 ⟨rfl, rfl⟩
  go_wp2_with fail
  refine (K2.out _).mono ?_
  rintro e w1 ⟨rfl, rfl⟩
  go_wp2_with fail
  refine (K3.out _).mono ?_
  rintro e w1 ⟨rfl, rfl⟩
  go_wp2
  go_ret
  exact ⟨rfl, rfl⟩
end Go.Proofs.Ytfldbddjpdbmpaa
