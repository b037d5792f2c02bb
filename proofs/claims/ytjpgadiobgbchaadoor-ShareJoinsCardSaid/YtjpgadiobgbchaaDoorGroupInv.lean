/-
  GroupBase, GroupMul, GroupExp, GroupInv: joined.
-/
import Derived.Test.YtjpgadiobgbchaaDoorRows
import Derived.Test.YtjpgadiobgbchaaDoorGroupMath
import Derived.WalkKit
import Derived.WalkSpells
import Derived.WalkLawsBesides
import Derived.Lib.Hide
import Derived.PlainAid
import Derived.Handy
import Derived.LoopTactic
import Derived.Outline
import Derived.IntWalk
import Derived.Laws.BitsAllLaws
import Derived.Deep.QuietTactic
import Derived.BigQuiet
import Derived.OwnWalk
/-
  Layer 4: the reference's Mod, Add, Sub, AddN, SubN.
-/
namespace Go.Proofs.YtjpgadiobgbchaaDoor.S4
open Go.RowKit

def isI64 (n : Int) : Prop := -9223372036854775808 ≤ n ∧ n ≤ 9223372036854775807
/-- The moduli. -/
def isMod (m : Int) : Prop := m = 2305843009213693951 ∨ m = 2305843009213693950

theorem tmod_parts (a m : Int) (hm : 0 < m) : (a % m = if a.tmod m < 0 then a.tmod m + m else a.tmod m) ∧ -m < a.tmod m ∧ a.tmod m < m := by
  rcases Int.le_total 0 a with h | h
  · have e := Int.tmod_eq_emod_of_nonneg (b := m) h
    have h1 := Int.emod_nonneg a (Int.ne_of_gt hm)
    have h2 := Int.emod_lt_of_pos a hm
    rw [e, if_neg (by omega)]
    exact ⟨rfl, by omega, h2⟩
  · obtain ⟨b, rfl⟩ : ∃ b, a = -b := ⟨-a, by omega⟩
    have hb : 0 ≤ b := by omega
    have e := Int.tmod_eq_emod_of_nonneg (b := m) hb
    have h1 := Int.emod_nonneg b (Int.ne_of_gt hm)
    have h2 := Int.emod_lt_of_pos b hm
    rw [Int.neg_tmod, e]
    refine ⟨?_, by omega, by omega⟩
    have hd := Int.emod_add_mul_ediv b m
    by_cases h0 : b % m = 0
    · rw [h0, if_neg (by omega)]
      have : m ∣ -b := Int.dvd_neg.2 (Int.dvd_of_emod_eq_zero h0)
      rw [Int.emod_eq_zero_of_dvd this]; rfl
    · rw [if_pos (by omega)]
      have hs : -b = (m - b % m) + m * (-(b / m) - 1) := by
        rw [Int.mul_sub, Int.mul_neg, Int.mul_one]; omega
      rw [hs, Int.add_mul_emod_self_left, Int.emod_eq_of_lt (by omega) (by omega)]
      omega

set_option maxHeartbeats 1000000 in
theorem refMod_any (a m : Int) (w : World) (hm : isMod m) :
    Calls Tryd.prog 44 #[.int .i64 a, .int .i64 m] w fun e w' => e = .returned (.int .i64 (a % m)) ∧ w' = w := by
  have hm0 : m ≠ 0 := by rcases hm with rfl | rfl <;> decide
  have hmp : 0 < m := by rcases hm with rfl | rfl <;> decide
  have hr := tmod_parts a m hmp
  have hmb : m ≤ 2305843009213693951 := by rcases hm with rfl | rfl <;> decide
  obtain ⟨r, hr0⟩ : ∃ r, r = a.tmod m := ⟨_, rfl⟩
  rw [← hr0] at hr
  have hrw : IntKind.i64.wrap r = r := IntWalk.i64_in _ (by have := hr.2; omega)
  have hrm : r < 0 → IntKind.i64.wrap (r + m) = r + m := fun h => IntWalk.i64_in _ (by have := hr.2; omega)
  have hr1 := hr.1
  have hr2 := hr.2
  replace hr0 := hr0.symm
  clear hr
  go_enter Tryd.func44, Tryd.ntmps44
  by_cases h : r < 0
  · have hrm' := hrm h
    rw [if_pos h] at hr1
    have HR := Lib.hid hr1
    clear hrm hr1
    go_wp2
    go_ret
    exact ⟨by rw [HR.out]; rfl, rfl⟩
  · rw [if_neg h] at hr1
    have HR := Lib.hid hr1
    clear hrm hr1
    go_wp2
    go_ret
    exact ⟨by rw [HR.out]; rfl, rfl⟩
set_option maxHeartbeats 1000000 in
theorem refAdd_any (a b : Int) (w : World) : Calls Tryd.prog 27 #[.int .i64 a, .int .i64 b] w fun e w' => e = .returned (.int .i64 ((a + b) % 2305843009213693951)) ∧ w' = w := by
  have hm : isMod 2305843009213693951 := by unfold isMod; omega
  have k1 := fun w => refMod_any a 2305843009213693951 w hm
  have k2 := fun w => refMod_any b 2305843009213693951 w hm
  obtain ⟨x, hx⟩ : ∃ x, x = a % 2305843009213693951 := ⟨_, rfl⟩
  obtain ⟨y, hy⟩ : ∃ y, y = b % 2305843009213693951 := ⟨_, rfl⟩
  have hxy : IntKind.i64.wrap (x + y) = x + y := IntWalk.i64_in _ (by omega)
  have hz : (x + y) % 2305843009213693951 = (a + b) % 2305843009213693951 := by rw [hx, hy, ← Int.add_emod]
  have k3 := fun w => refMod_any (x + y) 2305843009213693951 w hm
  rw [← hx] at k1
  rw [← hy] at k2
  rw [hz] at k3
  have K1 := Lib.hid k1
  have K2 := Lib.hid k2
  have K3 := Lib.hid k3
  clear k1 k2 k3 hx hy hz hm
  go_enter Tryd.func27, Tryd.ntmps27
  go_wp2_with fail
  refine (K1.out _).mono ?_
  rintro e w1 ⟨rfl, rfl⟩
  go_wp2_with fail
  refine (K2.out _).mono ?_
  rintro e w1 ⟨rfl, rfl⟩
  go_wp2_with fail
  refine (K3.out _).mono ?_
  rintro e w1 ⟨rfl, rfl⟩
  go_wp2
  go_ret
  exact ⟨rfl, rfl⟩

set_option maxHeartbeats 1000000 in
theorem refSub_any (a b : Int) (w : World) : Calls Tryd.prog 48 #[.int .i64 a, .int .i64 b] w fun e w' => e = .returned (.int .i64 ((a - b) % 2305843009213693951)) ∧ w' = w := by
  have hm : isMod 2305843009213693951 := by unfold isMod; omega
  have k1 := fun w => refMod_any a 2305843009213693951 w hm
  have k2 := fun w => refMod_any b 2305843009213693951 w hm
  obtain ⟨x, hx⟩ : ∃ x, x = a % 2305843009213693951 := ⟨_, rfl⟩
  obtain ⟨y, hy⟩ : ∃ y, y = b % 2305843009213693951 := ⟨_, rfl⟩
  have hxy : IntKind.i64.wrap (x - y) = x - y := IntWalk.i64_in _ (by omega)
  have hz : (x - y) % 2305843009213693951 = (a - b) % 2305843009213693951 := by rw [hx, hy, ← Int.sub_emod]
  have k3 := fun w => refMod_any (x - y) 2305843009213693951 w hm
  rw [← hx] at k1
  rw [← hy] at k2
  rw [hz] at k3
  have K1 := Lib.hid k1
  have K2 := Lib.hid k2
  have K3 := Lib.hid k3
  clear k1 k2 k3 hx hy hz hm
  go_enter Tryd.func48, Tryd.ntmps48
  go_wp2_with fail
  refine (K1.out _).mono ?_
  rintro e w1 ⟨rfl, rfl⟩
  go_wp2_with fail
  refine (K2.out _).mono ?_
  rintro e w1 ⟨rfl, rfl⟩
  go_wp2_with fail
  refine (K3.out _).mono ?_
  rintro e w1 ⟨rfl, rfl⟩
  go_wp2
  go_ret
  exact ⟨rfl, rfl⟩

end Go.Proofs.YtjpgadiobgbchaaDoor.S4

/-
  Layer 4: the reference's parts, Mul, MulN.
-/
namespace Go.Proofs.YtjpgadiobgbchaaDoor.S4
open Go.RowKit

def hi (a b : Nat) : Nat := a / 2147483648 * (b / 2147483648)
def mid (a b : Nat) : Nat := a / 2147483648 * (b % 2147483648) + a % 2147483648 * (b / 2147483648)
def lo (a b : Nat) : Nat := a % 2147483648 * (b % 2147483648)
theorem parts_bounds (a b : Nat) (ha : a < 2305843009213693952) (hb : b < 2305843009213693952) :
    hi a b ≤ 1152921502459363329 ∧ mid a b ≤ 4611686014132420606 ∧ lo a b ≤ 4611686014132420609 ∧ a / 2147483648 * (b % 2147483648) ≤ 2305843007066210303 ∧ a % 2147483648 * (b / 2147483648) ≤ 2305843007066210303 := by
  have x1 : a / 2147483648 ≤ 1073741823 := by omega
  have x0 : a % 2147483648 ≤ 2147483647 := by omega
  have y1 : b / 2147483648 ≤ 1073741823 := by omega
  have y0 : b % 2147483648 ≤ 2147483647 := by omega
  have h1 := Nat.mul_le_mul x1 y1
  have h2 := Nat.mul_le_mul x1 y0
  have h3 := Nat.mul_le_mul x0 y1
  have h4 := Nat.mul_le_mul x0 y0
  unfold hi mid lo
  omega
theorem parts_sum (a b : Nat) : a * b = hi a b * 4611686018427387904 + mid a b * 2147483648 + lo a b := by
  obtain ⟨x1, hx1⟩ : ∃ x, x = a / 2147483648 := ⟨_, rfl⟩
  obtain ⟨x0, hx0⟩ : ∃ x, x = a % 2147483648 := ⟨_, rfl⟩
  obtain ⟨y1, hy1⟩ : ∃ x, x = b / 2147483648 := ⟨_, rfl⟩
  obtain ⟨y0, hy0⟩ : ∃ x, x = b % 2147483648 := ⟨_, rfl⟩
  have ea : a = 2147483648 * x1 + x0 := by omega
  have eb : b = 2147483648 * y1 + y0 := by omega
  unfold hi mid lo
  rw [← hx1, ← hx0, ← hy1, ← hy0]
  conv => lhs; rw [ea, eb]
  rw [Nat.add_mul, Nat.mul_add, Nat.mul_add, Nat.mul_mul_mul_comm, Nat.mul_assoc 2147483648 x1 y0, Nat.mul_left_comm x0 2147483648 y1, Nat.add_mul]
  omega

set_option maxHeartbeats 1000000 in
theorem refParts_any (a b : Nat) (w : World) (ha : a < 2305843009213693952) (hb : b < 2305843009213693952) :
    Calls Tryd.prog 47 #[.int .i64 (a : Int), .int .i64 (b : Int)] w fun e w' => e = .returned (.tuple #[.int .u64 (hi a b : Nat), .int .u64 (mid a b : Nat), .int .u64 (lo a b : Nat)]) ∧ w' = w := by
  obtain ⟨b1, b2, b3, b4, b5⟩ := parts_bounds a b ha hb
  have hwa : IntKind.u64.wrap (a : Int) = a := IntWalk.u64_in _ (by omega)
  have hwb : IntKind.u64.wrap (b : Int) = b := IntWalk.u64_in _ (by omega)
  have aa := u64_and_nat a 2147483647 (by omega) (by decide)
  have ab := u64_and_nat b 2147483647 (by omega) (by decide)
  rw [show ((2147483647 : Nat) : Int) = 2147483647 from rfl, show (2147483647 : Nat) = 2 ^ 31 - 1 from rfl, Nat.and_two_pow_sub_one_eq_mod, show (2 ^ 31 : Nat) = 2147483648 from rfl] at aa ab
  have da : (a : Int) / 2147483648 = ((a / 2147483648 : Nat) : Int) := by omega
  have db : (b : Int) / 2147483648 = ((b / 2147483648 : Nat) : Int) := by omega
  obtain ⟨H, hH⟩ : ∃ x, x = hi a b := ⟨_, rfl⟩
  obtain ⟨M, hM⟩ : ∃ x, x = mid a b := ⟨_, rfl⟩
  obtain ⟨L, hL⟩ : ∃ x, x = lo a b := ⟨_, rfl⟩
  rw [← hH] at b1 ⊢
  rw [← hM] at b2 ⊢
  rw [← hL] at b3 ⊢
  unfold hi at hH
  unfold mid at hM
  unfold lo at hL
  obtain ⟨x1, hx1⟩ : ∃ x, x = a / 2147483648 := ⟨_, rfl⟩
  obtain ⟨x0, hx0⟩ : ∃ x, x = a % 2147483648 := ⟨_, rfl⟩
  obtain ⟨y1, hy1⟩ : ∃ x, x = b / 2147483648 := ⟨_, rfl⟩
  obtain ⟨y0, hy0⟩ : ∃ x, x = b % 2147483648 := ⟨_, rfl⟩
  rw [← hx1, ← hy1] at hH
  rw [← hx1, ← hx0, ← hy1, ← hy0] at hM
  rw [← hx0, ← hy0] at hL
  rw [← hx1] at da b4
  rw [← hy1] at db b5
  rw [← hx0] at aa b5
  rw [← hy0] at ab b4
  obtain ⟨m1, hm1⟩ : ∃ x, x = x1 * y0 := ⟨_, rfl⟩
  obtain ⟨m2, hm2⟩ : ∃ x, x = x0 * y1 := ⟨_, rfl⟩
  rw [← hm1] at hM b4
  rw [← hm2] at hM b5
  have e1 : IntKind.u64.wrap ((x1 : Int) * y1) = (H : Int) := by rw [show (x1 : Int) * y1 = (H : Int) by rw [hH]; simp]; exact IntWalk.u64_in _ (by omega)
  have e2 : IntKind.u64.wrap ((x1 : Int) * y0) = (m1 : Int) := by rw [show (x1 : Int) * y0 = (m1 : Int) by rw [hm1]; simp]; exact IntWalk.u64_in _ (by omega)
  have e3 : IntKind.u64.wrap ((x0 : Int) * y1) = (m2 : Int) := by rw [show (x0 : Int) * y1 = (m2 : Int) by rw [hm2]; simp]; exact IntWalk.u64_in _ (by omega)
  have e4 : IntKind.u64.wrap ((x0 : Int) * y0) = (L : Int) := by rw [show (x0 : Int) * y0 = (L : Int) by rw [hL]; simp]; exact IntWalk.u64_in _ (by omega)
  have e5 : IntKind.u64.wrap ((m1 : Int) + m2) = (M : Int) := by rw [show (m1 : Int) + m2 = (M : Int) by omega]; exact IntWalk.u64_in _ (by omega)
  clear hH hM hL hx1 hx0 hy1 hy0 hm1 hm2 b1 b2 b3 b4 b5
  go_enter Tryd.func47, Tryd.ntmps47
  go_wp2
  go_ret3
  exact ⟨rfl, rfl⟩
/-- What the partial products add up to, modulo P and modulo N. -/
theorem mul_mod_P (a b : Nat) : (2 * hi a b + mid a b / 1073741824 + mid a b % 1073741824 * 2147483648 + lo a b) % 2305843009213693951 = a * b % 2305843009213693951 := by
  have h := parts_sum a b
  have e : a * b = (2 * hi a b + mid a b / 1073741824 + mid a b % 1073741824 * 2147483648 + lo a b) + 2305843009213693951 * (2 * hi a b + mid a b / 1073741824) := by omega
  rw [e, Nat.add_mul_mod_self_left]
theorem mul_mod_N (a b : Nat) : (4 * hi a b + 2 * (mid a b / 1073741824) + mid a b % 1073741824 * 2147483648 + lo a b) % 2305843009213693950 = a * b % 2305843009213693950 := by
  have h := parts_sum a b
  have e : a * b = (4 * hi a b + 2 * (mid a b / 1073741824) + mid a b % 1073741824 * 2147483648 + lo a b) + 2305843009213693950 * (2 * hi a b + mid a b / 1073741824) := by omega
  rw [e, Nat.add_mul_mod_self_left]

set_option maxHeartbeats 1000000 in
theorem refMul_any (a b : Int) (w : World) : Calls Tryd.prog 28 #[.int .i64 a, .int .i64 b] w fun e w' => e = .returned (.int .i64 (a * b % 2305843009213693951)) ∧ w' = w := by
  have hm : isMod 2305843009213693951 := by unfold isMod; omega
  have k1 := fun w => refMod_any a 2305843009213693951 w hm
  have k2 := fun w => refMod_any b 2305843009213693951 w hm
  obtain ⟨x, hx⟩ : ∃ x : Nat, (x : Int) = a % 2305843009213693951 := ⟨(a % 2305843009213693951).toNat, by omega⟩
  obtain ⟨y, hy⟩ : ∃ y : Nat, (y : Int) = b % 2305843009213693951 := ⟨(b % 2305843009213693951).toNat, by omega⟩
  have hx2 : x < 2305843009213693952 := by omega
  have hy2 : y < 2305843009213693952 := by omega
  have k3 := fun w => refParts_any x y w hx2 hy2
  obtain ⟨b1, b2, b3, _, _⟩ := parts_bounds x y hx2 hy2
  have hmod := mul_mod_P x y
  have hz : ((x * y % 2305843009213693951 : Nat) : Int) = a * b % 2305843009213693951 := by
    rw [Int.natCast_emod, Int.natCast_mul, hx, hy]
    exact (Int.mul_emod a b 2305843009213693951).symm
  obtain ⟨H, hH⟩ : ∃ x', x' = hi x y := ⟨_, rfl⟩
  obtain ⟨M, hM⟩ : ∃ x', x' = mid x y := ⟨_, rfl⟩
  obtain ⟨L, hL⟩ : ∃ x', x' = lo x y := ⟨_, rfl⟩
  rw [← hH] at b1 hmod k3
  rw [← hM] at b2 hmod k3
  rw [← hL] at b3 hmod k3
  rw [← hmod] at hz
  obtain ⟨Z, hZ⟩ : ∃ z : Nat, z = (2 * H + M / 1073741824 + M % 1073741824 * 2147483648 + L) % 2305843009213693951 := ⟨_, rfl⟩
  rw [← hZ] at hz
  rw [← hx] at k1
  rw [← hy] at k2
  obtain ⟨q, hq⟩ : ∃ q, q = M / 1073741824 := ⟨_, rfl⟩
  obtain ⟨r, hr⟩ : ∃ r, r = M % 1073741824 := ⟨_, rfl⟩
  have am := u64_and_nat M 1073741823 (by omega) (by decide)
  rw [show ((1073741823 : Nat) : Int) = 1073741823 from rfl, show (1073741823 : Nat) = 2 ^ 30 - 1 from rfl, Nat.and_two_pow_sub_one_eq_mod, show (2 ^ 30 : Nat) = 1073741824 from rfl, ← hr] at am
  have dm : (M : Int) / 1073741824 = (q : Int) := by omega
  have e1 : IntKind.u64.wrap (2 * (H : Int)) = 2 * H := IntWalk.u64_in _ (by omega)
  have e2 : IntKind.u64.wrap (2 * (H : Int) + q) = 2 * H + q := IntWalk.u64_in _ (by omega)
  have e3 : IntKind.u64.wrap ((r : Int) * 2147483648) = r * 2147483648 := IntWalk.u64_in _ (by omega)
  have e4 : IntKind.u64.wrap (2 * (H : Int) + q + r * 2147483648) = 2 * H + q + r * 2147483648 := IntWalk.u64_in _ (by omega)
  have e5 : IntKind.u64.wrap (2 * (H : Int) + q + r * 2147483648 + L) = 2 * H + q + r * 2147483648 + L := IntWalk.u64_in _ (by omega)
  have e6 : (2 * (H : Int) + q + r * 2147483648 + L) % 2305843009213693951 = Z := by omega
  have e7 : IntKind.i64.wrap (Z : Int) = Z := IntWalk.i64_in _ (by omega)
  have e8 : IntKind.u64.wrap (Z : Int) = Z := IntWalk.u64_in _ (by omega)
  have HZ := Lib.hid hz
  have K1 := Lib.hid k1
  have K2 := Lib.hid k2
  have K3 := Lib.hid k3
  clear k1 k2 k3 hx hy hx2 hy2 hz hm hH hM hL hZ hq hr hmod b1 b2 b3
  go_enter Tryd.func28, Tryd.ntmps28
  go_wp2_with fail
  refine (K1.out _).mono ?_
  rintro e w1 ⟨rfl, rfl⟩
  go_wp2_with fail
  refine (K2.out _).mono ?_
  rintro e w1 ⟨rfl, rfl⟩
  go_wp2_with fail
  refine (K3.out _).mono ?_
  rintro e w1 ⟨rfl, rfl⟩
  go_wp2
  go_ret
  exact ⟨by rw [← HZ.out]; rfl, rfl⟩

end Go.Proofs.YtjpgadiobgbchaaDoor.S4

/-
  Layer 4: the reference's Exp.
-/
namespace Go.Proofs.YtjpgadiobgbchaaDoor.S4
open Go.RowKit

/-- The exponent: a negative one is replaced by its residue. -/
def expo (e : Int) : Nat := (if e < 0 then e % 2305843009213693950 else e).toNat
/-- What Exp returns. -/
def powP (a e : Int) : Nat := (a % 2305843009213693951).toNat ^ expo e % 2305843009213693951
theorem refMul_nat (x y : Nat) (w : World) : Calls Tryd.prog 28 #[.int .i64 (x : Int), .int .i64 (y : Int)] w fun e w' => e = .returned (.int .i64 ((x * y % 2305843009213693951 : Nat) : Int)) ∧ w' = w := by
  have := refMul_any (x : Int) (y : Int) w
  rw [show (x : Int) * y % 2305843009213693951 = ((x * y % 2305843009213693951 : Nat) : Int) by simp] at this
  exact this
/-- One round of the loop. -/
theorem exp_step (X B E p : Nat) : (if E % 2 = 1 then X * B % p else X) * (B * B % p) ^ (E / 2) % p = X * B ^ E % p := by
  have h1 : (B * B % p) ^ (E / 2) % p = B ^ (2 * (E / 2)) % p := by
    rw [← Nat.pow_mod, ← Nat.pow_two, ← Nat.pow_mul]
  by_cases h : E % 2 = 1
  · rw [if_pos h, Nat.mul_mod, h1, Nat.mod_mod, ← Nat.mul_mod, Nat.mul_assoc, ← Nat.pow_succ']
    congr 3; omega
  · rw [if_neg h, Nat.mul_mod, h1, ← Nat.mul_mod]
    congr 3; omega

end Go.Proofs.YtjpgadiobgbchaaDoor.S4

/-
  Layer 4: the reference's Inv.
-/
namespace Go.Proofs.YtjpgadiobgbchaaDoor.S4
open Go.RowKit

/-- What Inv returns of a residue other than 0. -/
def invP (a : Int) : Nat := (a % 2305843009213693951).toNat ^ (Gp.N - 1) % 2305843009213693951
/-- The loop's state: r and s are multiples of A modulo P, by x and y. -/
structure Euc (A r s U V : Nat) (x y : Int) : Prop where
  sg : (x = -(U : Int) ∧ y = V) ∨ (x = U ∧ y = -(V : Int))
  sum : V * r + U * s = 2305843009213693951
  dx : (2305843009213693951 : Int) ∣ x * A - r
  dy : (2305843009213693951 : Int) ∣ y * A - s
  gcd : Nat.gcd r s = 1
  bU : U ≤ 2305843009213693951
  bV : V ≤ 2305843009213693951
  br : r ≤ 2305843009213693951
  bs : s ≤ 2305843009213693951
theorem euc_start (A : Nat) (h0 : 0 < A) (hA : A < 2305843009213693951) : Euc A 2305843009213693951 A 0 1 0 1 := by
  have hm : A % Gp.P = A := Nat.mod_eq_of_lt hA
  have hu := Gp.unit_of (a := A) (by omega)
  refine ⟨.inl ⟨by omega, rfl⟩, by omega, ⟨-1, by omega⟩, ⟨0, by omega⟩, ?_, by omega, by omega, by omega, by omega⟩
  have h1 : Nat.gcd 2305843009213693951 A ∣ Gp.P := Nat.gcd_dvd_left _ _
  have h2 : Nat.gcd 2305843009213693951 A ∣ A * A ^ (Gp.N - 1) := Nat.dvd_trans (Nat.gcd_dvd_right _ _) (Nat.dvd_mul_right _ _)
  have h3 : Nat.gcd 2305843009213693951 A ∣ A * A ^ (Gp.N - 1) % Gp.P := (Nat.dvd_mod_iff h1).2 h2
  rw [hu] at h3
  exact Nat.eq_one_of_dvd_one h3
theorem euc_step {A r s U V : Nat} {x y : Int} (h : Euc A r s U V x y) (hs : 0 < s) :
    Euc A s (r - r / s * s) V (U + r / s * V) y (x - (r / s : Nat) * y) ∧ r / s * s ≤ r ∧ r / s * V ≤ 2305843009213693951 := by
  have hq : r / s * s ≤ r := Nat.div_mul_le_self r s
  obtain ⟨q, hqq⟩ : ∃ q, q = r / s := ⟨_, rfl⟩
  have hmod : r % s = r - q * s := by rw [hqq, Nat.mod_eq_sub_div_mul]
  rw [← hqq] at hq ⊢
  have hsum : (U + q * V) * s + V * (r - q * s) = 2305843009213693951 := by
    have h1 := h.sum
    have h2 : V * (r - q * s) + V * (q * s) = V * r := by rw [← Nat.mul_add, Nat.sub_add_cancel hq]
    have h3 : q * V * s = V * (q * s) := by rw [Nat.mul_comm q V, Nat.mul_assoc]
    rw [Nat.add_mul, h3]
    omega
  have hV2 : U + q * V ≤ 2305843009213693951 := by
    have h1 : U + q * V ≤ (U + q * V) * s := Nat.le_mul_of_pos_right _ hs
    omega
  refine ⟨⟨?_, hsum, h.dy, ?_, ?_, h.bV, hV2, h.bs, by have := h.br; omega⟩, hq, by omega⟩
  · rcases h.sg with ⟨h1, h2⟩ | ⟨h1, h2⟩
    · right
      refine ⟨h2, ?_⟩
      rw [h1, h2]; simp; omega
    · left
      refine ⟨h2, ?_⟩
      rw [h1, h2, Int.mul_neg]; simp
  · have e : (x - (q : Int) * y) * A - ((r - q * s : Nat) : Int) = (x * A - r) - q * (y * A - s) := by
      rw [Int.natCast_sub hq, Int.natCast_mul, Int.sub_mul, Int.mul_sub, Int.mul_assoc]; omega
    rw [e]
    exact Int.dvd_sub h.dx (Int.dvd_mul_of_dvd_right h.dy)
  · rw [← hmod, Nat.gcd_comm, ← Nat.gcd_rec, Nat.gcd_comm]; exact h.gcd
theorem euc_end {A r U V : Nat} {x y : Int} (h : Euc A r 0 U V x y) (a : Int) (hA : (A : Int) = a % 2305843009213693951) : x % 2305843009213693951 = (invP a : Nat) := by
  have hr : r = 1 := by have := h.gcd; rw [Nat.gcd_zero_right] at this; exact this
  subst hr
  obtain ⟨u, hu⟩ : ∃ u : Nat, (u : Int) = x % 2305843009213693951 := ⟨(x % 2305843009213693951).toNat, by omega⟩
  have hu2 : u < 2305843009213693951 := by omega
  have h1 : (u * A) % Gp.P = 1 := by
    have h2 : ((u * A : Nat) : Int) % 2305843009213693951 = 1 := by
      rw [Int.natCast_mul, hu, Int.mul_emod, Int.emod_emod, ← Int.mul_emod]
      have := Int.emod_emod_of_dvd (x * A - 1) (Int.dvd_refl 2305843009213693951)
      have h3 := Int.emod_eq_zero_of_dvd h.dx
      simp at h3
      omega
    have h4 : (((u * A) % 2305843009213693951 : Nat) : Int) = 1 := by rw [Int.natCast_emod]; exact h2
    show (u * A) % 2305843009213693951 = 1
    omega
  have hA0 : A % Gp.P ≠ 0 := by
    intro hc
    rw [Nat.mul_mod, hc, Nat.mul_zero] at h1
    cases h1
  have h2 := Gp.unit_of hA0
  have h3 : u * (A * A ^ (Gp.N - 1)) % Gp.P = A ^ (Gp.N - 1) % Gp.P := by
    rw [← Nat.mul_assoc, Nat.mul_mod, h1, Nat.one_mul, Nat.mod_mod]
  rw [Nat.mul_mod, h2, Nat.mul_one, Nat.mod_mod] at h3
  have h4 : u = A ^ (Gp.N - 1) % Gp.P := by
    rw [← h3]; exact (Nat.mod_eq_of_lt hu2).symm
  rw [← hu, h4, invP, ← hA]
  rfl

set_option maxHeartbeats 1000000 in
set_option maxRecDepth 100000 in
theorem refInv_any (a : Int) (w : World) : Calls Tryd.prog 49 #[.int .i64 a] w fun e w' =>
    e = .returned (if a % 2305843009213693951 = 0 then .tuple #[.int .i64 0, .bool false] else .tuple #[.int .i64 (invP a : Nat), .bool true]) ∧ w' = w := by
  have k1 := fun w => refMod_any a 2305843009213693951 w (Or.inl rfl)
  obtain ⟨I, hI⟩ : ∃ I, I = invP a := ⟨_, rfl⟩
  rw [← hI]
  have HI := Lib.hid hI
  clear hI
  obtain ⟨A, hA⟩ : ∃ x : Nat, (x : Int) = a % 2305843009213693951 := ⟨(a % 2305843009213693951).toNat, by omega⟩
  rw [← hA] at k1
  have hA2 : A < 2305843009213693951 := by omega
  have hA3 : (A : Int) < 2305843009213693951 := by omega
  have K1 := Lib.hid k1
  have HA := Lib.hid hA
  by_cases h0 : A = 0
  · have hz : a % 2305843009213693951 = 0 := by omega
    rw [if_pos hz]
    subst h0
    rw [show ((0 : Nat) : Int) = 0 from rfl] at K1
    clear k1 hA hz HA hA2 hA3
    go_enter Tryd.func49, Tryd.ntmps49
    go_wp2_with fail
    refine (K1.out _).mono ?_
    rintro r w1 ⟨rfl, rfl⟩
    go_wp2
    go_ret2
    exact ⟨rfl, rfl⟩
  · have hz : ¬ a % 2305843009213693951 = 0 := by omega
    rw [if_neg hz]
    have h00 : ¬ (A : Int) = 0 := by omega
    have HP : Hid (0 < A ∧ A < 2305843009213693951) := Lib.hid ⟨by omega, hA2⟩
    clear k1 hA hz h0 hA2 hA3
    go_enter Tryd.func49, Tryd.ntmps49
    go_wp2_with fail
    refine (K1.out _).mono ?_
    rintro r w1 ⟨rfl, rfl⟩
    clear K1
    go_wp2_with fail
    clear h00
    have st := Lib.hid (euc_start A HP.out.1 HP.out.2)
    go_loopw [4, 5, 6, 7] (fun s4 s5 s6 s7 wr => ∃ (r s U V : Nat) (x y : Int), s4 = .int .i64 (r : Int) ∧ s5 = .int .i64 (s : Int) ∧ s6 = .int .i64 x ∧ s7 = .int .i64 y ∧ Hid (Euc A r s U V x y) ∧ wr = w1) (fun _ s5 _ _ _ => (intOf s5).toNat)
    case atStart => exact ⟨2305843009213693951, A, 0, 1, 0, 1, rfl, rfl, rfl, rfl, st, rfl⟩
    case round =>
      clear st
      obtain ⟨r, s, U, V, x, y, rfl, rfl, rfl, rfl, HE, rfl⟩ := hrel
      by_cases hs : s = 0
      · subst hs
        have hfin := euc_end HE.out a HA.out
        have k2 := fun w => refMod_any x 2305843009213693951 w (Or.inl rfl)
        rw [hfin, ← HI.out] at k2
        have K2 := Lib.hid k2
        rw [show ((0 : Nat) : Int) = 0 from rfl]
        clear k2 hfin HE HA HI
        go_wp2_with fail
        refine (K2.out _).mono ?_
        rintro r2 w2 ⟨rfl, rfl⟩
        go_wp2
        go_ret2
        exact ⟨rfl, rfl⟩
      · have hs0 : (0 : Int) < s := by omega
        have hsne : ¬ (s : Int) = 0 := by omega
        obtain ⟨hstep, hqs, hqV⟩ := euc_step HE.out (show 0 < s by omega)
        have hr := HE.out.br
        have hS := HE.out.bs
        have hU := HE.out.bU
        have hV := HE.out.bV
        have hsg := HE.out.sg
        have hlt : r - r / s * s < s := by rw [← Nat.mod_eq_sub_div_mul]; exact Nat.mod_lt _ (by omega)
        obtain ⟨q, hq⟩ : ∃ q, q = r / s := ⟨_, rfl⟩
        have hqr : q ≤ r := by rw [hq]; exact Nat.div_le_self _ _
        rw [← hq] at hstep hqs hqV hlt
        obtain ⟨t1, ht1⟩ : ∃ t, t = q * s := ⟨_, rfl⟩
        obtain ⟨t2, ht2⟩ : ∃ t, t = q * V := ⟨_, rfl⟩
        rw [← ht1] at hstep hqs hlt
        rw [← ht2] at hqV hstep
        obtain ⟨z, hz⟩ : ∃ z : Int, z = (q : Int) * y := ⟨_, rfl⟩
        rw [← hz] at hstep
        have hzb : -2305843009213693951 ≤ z ∧ z ≤ 2305843009213693951 := by
          rcases hsg with ⟨_, h2⟩ | ⟨_, h2⟩
          · have : z = (t2 : Int) := by rw [hz, h2, ht2]; simp
            omega
          · have : z = -(t2 : Int) := by rw [hz, h2, ht2, Int.mul_neg]; simp
            omega
        obtain ⟨s2, hs2⟩ : ∃ t, t = r - t1 := ⟨_, rfl⟩
        rw [← hs2] at hstep hlt
        have d1 : (r : Int) / (s : Int) = (q : Int) := by rw [hq]; simp
        have d2 : (r : Int).tdiv (s : Int) = (q : Int) := by rw [Int.tdiv_eq_ediv_of_nonneg (by omega)]; exact d1
        have d3 : IntKind.i64.wrap (q : Int) = q := IntWalk.i64_in _ (by omega)
        have d4 : IntKind.i64.wrap ((q : Int) * s) = (t1 : Int) := by rw [show (q : Int) * s = (t1 : Int) by rw [ht1]; simp]; exact IntWalk.i64_in _ (by omega)
        have d5 : IntKind.i64.wrap ((r : Int) - t1) = (s2 : Int) := by rw [show (r : Int) - t1 = (s2 : Int) by omega]; exact IntWalk.i64_in _ (by omega)
        have d6 : IntKind.i64.wrap ((q : Int) * y) = z := by rw [← hz]; exact IntWalk.i64_in _ (by omega)
        obtain ⟨y2, hy2⟩ : ∃ t, t = x - z := ⟨_, rfl⟩
        have d7 : IntKind.i64.wrap (x - z) = y2 := by
          rw [hy2]
          refine IntWalk.i64_in _ ?_
          rcases hsg with ⟨h1, _⟩ | ⟨h1, _⟩ <;> omega
        rw [← hy2] at hstep
        have HS := Lib.hid hstep
        clear hstep HE hr hS hU hV hsg hq hqr ht1 ht2 hz hzb hs2 hy2 hqs hqV HA
        go_wp2_with fail
        go_roundw
        case rel => exact ⟨s, s2, V, _, y, y2, rfl, rfl, rfl, rfl, HS, trivial⟩
        case measure => simp [intOf]; omega
end Go.Proofs.YtjpgadiobgbchaaDoor.S4
