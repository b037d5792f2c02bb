/-
  Layer 4: the reference's parts, Mul, MulN.
-/
import Derived.Test.YtfldbddjpdbmpaaGroupBase
import Derived.OwnWalk
namespace Go.Proofs.Ytfldbddjpdbmpaa
open Go.RowKit

def hi (a b : Nat) : Nat := a / 2147483648 * (b / 2147483648)
def mid (a b : Nat) : Nat := a / 2147483648 * (b % 2147483648) + a % 2147483648 * (b / 2147483648)
def lo (a b : Nat) : Nat := a % 2147483648 * (b % 2147483648)
theorem parts_bounds (a b : Nat) (ha : a < 2305843009213693952) (hb : b < 2305843009213693952) :
    hi a b ≤ 1152921502459363329 ∧ mid a b ≤ 4611686014132420606 ∧ lo a b ≤ 4611686014132420609 ∧ a / 2147483648 * (b % 2147483648) ≤ 2305843007066210303 ∧ a % 2147483648 * (b / 2147483648) ≤ 2305843007066210303 := by
  have x1 : a / 2147483648 ≤ 1073741823 := by omega
  have x0 : a % 2147483648 ≤ 2147483647 := by omega
  have y1 : b / 2147483648 ≤ 1073741823 := by omega
  have y0 : b % 2147483648 ≤ 2147483647 := by omega
  have h1 := Nat.mul_le_mul x1 y1
  have h2 := Nat.mul_le_mul x1 y0
  have h3 := Nat.mul_le_mul x0 y1
  have h4 := Nat.mul_le_mul x0 y0
  unfold hi mid lo
  omega
theorem parts_sum (a b : Nat) : a * b = hi a b * 4611686018427387904 + mid a b * 2147483648 + lo a b := by
  obtain ⟨x1, hx1⟩ : ∃ x, x = a / 2147483648 := ⟨_, rfl⟩
  obtain ⟨x0, hx0⟩ : ∃ x, x = a % 2147483648 := ⟨_, rfl⟩
  obtain ⟨y1, hy1⟩ : ∃ x, x = b / 2147483648 := ⟨_, rfl⟩
  obtain ⟨y0, hy0⟩ : ∃ x, x = b % 2147483648 := ⟨_, rfl⟩
  have ea : a = 2147483648 * x1 + x0 := by omega
  have eb : b = 2147483648 * y1 + y0 := by omega
  unfold hi mid lo
  rw [← hx1, ← hx0, ← hy1, ← hy0]
  conv => lhs; rw [ea, eb]
  rw [Nat.add_mul, Nat.mul_add, Nat.mul_add, Nat.mul_mul_mul_comm, Nat.mul_assoc 2147483648 x1 y0, Nat.mul_left_comm x0 2147483648 y1, Nat.add_mul]
  omega

set_option maxHeartbeats 1000000 in
theorem refParts_any (a b : Nat) (w : World) (ha : a < 2305843009213693952) (hb : b < 2305843009213693952) :
    Calls Try.prog 31 #[.int .i64 (a : Int), .int .i64 (b : Int)] w fun e w' => e = .returned (.tuple #[.int .u64 (hi a b : Nat), .int .u64 (mid a b : Nat), .int .u64 (lo a b : Nat)]) ∧ w' = w := by
  obtain ⟨b1, b2, b3, b4, b5⟩ := parts_bounds a b ha hb
  have hwa : IntKind.u64.wrap (a : Int) = a := IntWalk.u64_in _ (by omega)
  have hwb : IntKind.u64.wrap (b : Int) = b := IntWalk.u64_in _ (by omega)
  have aa := u64_and_nat a 2147483647 (by omega) (by decide)
  have ab := u64_and_nat b 2147483647 (by omega) (by decide)
  rw [show ((2147483647 : Nat) : Int) = 2147483647 from rfl, show (2147483647 : Nat) = 2 ^ 31 - 1 from rfl, Nat.and_two_pow_sub_one_eq_mod, show (2 ^ 31 : Nat) = 2147483648 from rfl] at aa ab
  have da : (a : Int) / 2147483648 = ((a / 2147483648 : Nat) : Int) := by omega
  have db : (b : Int) / 2147483648 = ((b / 2147483648 : Nat) : Int) := by omega
  obtain ⟨H, hH⟩ : ∃ x, x = hi a b := ⟨_, rfl⟩
  obtain ⟨M, hM⟩ : ∃ x, x = mid a b := ⟨_, rfl⟩
  obtain ⟨L, hL⟩ : ∃ x, x = lo a b := ⟨_, rfl⟩
  rw [← hH] at b1 ⊢
  rw [← hM] at b2 ⊢
  rw [← hL] at b3 ⊢
  unfold hi at hH
  unfold mid at hM
  unfold lo at hL
  obtain ⟨x1, hx1⟩ : ∃ x, x = a / 2147483648 := ⟨_, rfl⟩
  obtain ⟨x0, hx0⟩ : ∃ x, x = a % 2147483648 := ⟨_, rfl⟩
  obtain ⟨y1, hy1⟩ : ∃ x, x = b / 2147483648 := ⟨_, rfl⟩
  obtain ⟨y0, hy0⟩ : ∃ x, x = b % 2147483648 := ⟨_, rfl⟩
  rw [← hx1, ← hy1] at hH
  rw [← hx1, ← hx0, ← hy1, ← hy0] at hM
  rw [← hx0, ← hy0] at hL
  rw [← hx1] at da b4
  rw [← hy1] at db b5
  rw [← hx0] at aa b5
  rw [← hy0] at ab b4
  obtain ⟨m1, hm1⟩ : ∃ x, x = x1 * y0 := ⟨_, rfl⟩
  obtain ⟨m2, hm2⟩ : ∃ x, x = x0 * y1 := ⟨_, rfl⟩
  rw [← hm1] at hM b4
  rw [← hm2] at hM b5
  have e1 : IntKind.u64.wrap ((x1 : Int) * y1) = (H : Int) := by rw [show (x1 : Int) * y1 = (H : Int) by rw [hH]; simp]; exact IntWalk.u64_in _ (by omega)
  have e2 : IntKind.u64.wrap ((x1 : Int) * y0) = (m1 : Int) := by rw [show (x1 : Int) * y0 = (m1 : Int) by rw [hm1]; simp]; exact IntWalk.u64_in _ (by omega)
  have e3 : IntKind.u64.wrap ((x0 : Int) * y1) = (m2 : Int) := by rw [show (x0 : Int) * y1 = (m2 : Int) by rw [hm2]; simp]; exact IntWalk.u64_in _ (by omega)
  have e4 : IntKind.u64.wrap ((x0 : Int) * y0) = (L : Int) := by rw [show (x0 : Int) * y0 = (L : Int) by rw [hL]; simp]; exact IntWalk.u64_in _ (by omega)
  have e5 : IntKind.u64.wrap ((m1 : Int) + m2) = (M : Int) := by rw [show (m1 : Int) + m2 = (M : Int) by omega]; exact IntWalk.u64_in _ (by omega)
  clear hH hM hL hx1 hx0 hy1 hy0 hm1 hm2 b1 b2 b3 b4 b5
  go_enter Try.func31, Try.ntmps31
  go_wp2
  go_ret3
  exact ⟨rfl, rfl⟩
/-- What the partial products add up to, modulo P and modulo N. -/
theorem mul_mod_P (a b : Nat) : (2 * hi a b + mid a b / 1073741824 + mid a b % 1073741824 * 2147483648 + lo a b) % 2305843009213693951 = a * b % 2305843009213693951 := by
  have h := parts_sum a b
  have e : a * b = (2 * hi a b + mid a b / 1073741824 + mid a b % 1073741824 * 2147483648 + lo a b) + 2305843009213693951 * (2 * hi a b + mid a b / 1073741824) := by omega
  rw [e, Nat.add_mul_mod_self_left]
theorem mul_mod_N (a b : Nat) : (4 * hi a b + 2 * (mid a b / 1073741824) + mid a b % 1073741824 * 2147483648 + lo a b) % 2305843009213693950 = a * b % 2305843009213693950 := by
  have h := parts_sum a b
  have e : a * b = (4 * hi a b + 2 * (mid a b / 1073741824) + mid a b % 1073741824 * 2147483648 + lo a b) + 2305843009213693950 * (2 * hi a b + mid a b / 1073741824) := by omega
  rw [e, Nat.add_mul_mod_self_left]

set_option maxHeartbeats 1000000 in
theorem refMul_any (a b : Int) (w : World) : Calls Try.prog 16 #[.int .i64 a, .int .i64 b] w fun e w' => e = .returned (.int .i64 (a * b % 2305843009213693951)) ∧ w' = w := by
  have hm : isMod 2305843009213693951 := by unfold isMod; omega
  have k1 := fun w => refMod_any a 2305843009213693951 w hm
  have k2 := fun w => refMod_any b 2305843009213693951 w hm
  obtain ⟨x, hx⟩ : ∃ x : Nat, (x : Int) = a % 2305843009213693951 := ⟨(a % 2305843009213693951).toNat, by omega⟩
  obtain ⟨y, hy⟩ : ∃ y : Nat, (y : Int) = b % 2305843009213693951 := ⟨(b % 2305843009213693951).toNat, by omega⟩
  have hx2 : x < 2305843009213693952 := by omega
  have hy2 : y < 2305843009213693952 := by omega
  have k3 := fun w => refParts_any x y w hx2 hy2
  obtain ⟨b1, b2, b3, _, _⟩ := parts_bounds x y hx2 hy2
  have hmod := mul_mod_P x y
  have hz : ((x * y % 2305843009213693951 : Nat) : Int) = a * b % 2305843009213693951 := by
    rw [Int.natCast_emod, Int.natCast_mul, hx, hy]
    exact (Int.mul_emod a b 2305843009213693951).symm
  obtain ⟨H, hH⟩ : ∃ x', x' = hi x y := ⟨_, rfl⟩
  obtain ⟨M, hM⟩ : ∃ x', x' = mid x y := ⟨_, rfl⟩
  obtain ⟨L, hL⟩ : ∃ x', x' = lo x y := ⟨_, rfl⟩
  rw [← hH] at b1 hmod k3
  rw [← hM] at b2 hmod k3
  rw [← hL] at b3 hmod k3
  rw [← hmod] at hz
  obtain ⟨Z, hZ⟩ : ∃ z : Nat, z = (2 * H + M / 1073741824 + M % 1073741824 * 2147483648 + L) % 2305843009213693951 := ⟨_, rfl⟩
  rw [← hZ] at hz
  rw [← hx] at k1
  rw [← hy] at k2
  obtain ⟨q, hq⟩ : ∃ q, q = M / 1073741824 := ⟨_, rfl⟩
  obtain ⟨r, hr⟩ : ∃ r, r = M % 1073741824 := ⟨_, rfl⟩
  have am := u64_and_nat M 1073741823 (by omega) (by decide)
  rw [show ((1073741823 : Nat) : Int) = 1073741823 from rfl, show (1073741823 : Nat) = 2 ^ 30 - 1 from rfl, Nat.and_two_pow_sub_one_eq_mod, show (2 ^ 30 : Nat) = 1073741824 from rfl, ← hr] at am
  have dm : (M : Int) / 1073741824 = (q : Int) := by omega
  have e1 : IntKind.u64.wrap (2 * (H : Int)) = 2 * H := IntWalk.u64_in _ (by omega)
  have e2 : IntKind.u64.wrap (2 * (H : Int) + q) = 2 * H + q := IntWalk.u64_in _ (by omega)
  have e3 : IntKind.u64.wrap ((r : Int) * 2147483648) = r * 2147483648 := IntWalk.u64_in _ (by omega)
  have e4 : IntKind.u64.wrap (2 * (H : Int) + q + r * 2147483648) = 2 * H + q + r * 2147483648 := IntWalk.u64_in _ (by omega)
  have e5 : IntKind.u64.wrap (2 * (H : Int) + q + r * 2147483648 + L) = 2 * H + q + r * 2147483648 + L := IntWalk.u64_in _ (by omega)
  have e6 : (2 * (H : Int) + q + r * 2147483648 + L) % 2305843009213693951 = Z := by omega
  have e7 : IntKind.i64.wrap (Z : Int) = Z := IntWalk.i64_in _ (by omega)
  have e8 : IntKind.u64.wrap (Z : Int) = Z := IntWalk.u64_in _ (by omega)
  have HZ := Lib.hid hz
  have K1 := Lib.hid k1
  have K2 := Lib.hid k2
  have K3 := Lib.hid k3
  clear k1 k2 k3 hx hy hx2 hy2 hz hm hH hM hL hZ hq hr hmod b1 b2 b3
  go_enter Try.func16, Try.ntmps16
  go_wp2_with fail
  refine (K1.out _).mono ?_
  rintro e w1 ⟨rfl, rfl⟩
  go_wp2_with fail
  refine (K2.out _).mono ?_
  rintro e w1 ⟨rfl, rfl⟩
  go_wp2_with fail
  refine (K3.out _).mono ?_
  rintro e w1 ⟨rfl, rfl⟩
  go_wp2
  go_ret
  exact ⟨by rw [← HZ.out]; rfl, rfl⟩

set_option maxHeartbeats 1000000 in
theorem refMulN_any (a b : Int) (w : World) : Calls Try.prog 24 #[.int .i64 a, .int .i64 b] w fun e w' => e = .returned (.int .i64 (a * b % 2305843009213693950)) ∧ w' = w := by
  have hm : isMod 2305843009213693950 := by unfold isMod; omega
  have k1 := fun w => refMod_any a 2305843009213693950 w hm
  have k2 := fun w => refMod_any b 2305843009213693950 w hm
  obtain ⟨x, hx⟩ : ∃ x : Nat, (x : Int) = a % 2305843009213693950 := ⟨(a % 2305843009213693950).toNat, by omega⟩
  obtain ⟨y, hy⟩ : ∃ y : Nat, (y : Int) = b % 2305843009213693950 := ⟨(b % 2305843009213693950).toNat, by omega⟩
  have hx2 : x < 2305843009213693952 := by omega
  have hy2 : y < 2305843009213693952 := by omega
  have k3 := fun w => refParts_any x y w hx2 hy2
  obtain ⟨b1, b2, b3, _, _⟩ := parts_bounds x y hx2 hy2
  have hmod := mul_mod_N x y
  have hz : ((x * y % 2305843009213693950 : Nat) : Int) = a * b % 2305843009213693950 := by
    rw [Int.natCast_emod, Int.natCast_mul, hx, hy]
    exact (Int.mul_emod a b 2305843009213693950).symm
  obtain ⟨H, hH⟩ : ∃ x', x' = hi x y := ⟨_, rfl⟩
  obtain ⟨M, hM⟩ : ∃ x', x' = mid x y := ⟨_, rfl⟩
  obtain ⟨L, hL⟩ : ∃ x', x' = lo x y := ⟨_, rfl⟩
  rw [← hH] at b1 hmod k3
  rw [← hM] at b2 hmod k3
  rw [← hL] at b3 hmod k3
  rw [← hmod] at hz
  obtain ⟨Z, hZ⟩ : ∃ z : Nat, z = (4 * H + 2 * (M / 1073741824) + M % 1073741824 * 2147483648 + L) % 2305843009213693950 := ⟨_, rfl⟩
  rw [← hZ] at hz
  rw [← hx] at k1
  rw [← hy] at k2
  obtain ⟨q, hq⟩ : ∃ q, q = M / 1073741824 := ⟨_, rfl⟩
  obtain ⟨r, hr⟩ : ∃ r, r = M % 1073741824 := ⟨_, rfl⟩
  have am := u64_and_nat M 1073741823 (by omega) (by decide)
  rw [show ((1073741823 : Nat) : Int) = 1073741823 from rfl, show (1073741823 : Nat) = 2 ^ 30 - 1 from rfl, Nat.and_two_pow_sub_one_eq_mod, show (2 ^ 30 : Nat) = 1073741824 from rfl, ← hr] at am
  have dm : (M : Int) / 1073741824 = (q : Int) := by omega
  have e1 : IntKind.u64.wrap (4 * (H : Int)) = 4 * H := IntWalk.u64_in _ (by omega)
  have e1' : IntKind.u64.wrap (2 * (q : Int)) = 2 * q := IntWalk.u64_in _ (by omega)
  have e2 : IntKind.u64.wrap (4 * (H : Int) + 2 * q) = 4 * H + 2 * q := IntWalk.u64_in _ (by omega)
  have e3 : IntKind.u64.wrap ((r : Int) * 2147483648) = r * 2147483648 := IntWalk.u64_in _ (by omega)
  have e4 : IntKind.u64.wrap (4 * (H : Int) + 2 * q + r * 2147483648) = 4 * H + 2 * q + r * 2147483648 := IntWalk.u64_in _ (by omega)
  have e5 : IntKind.u64.wrap (4 * (H : Int) + 2 * q + r * 2147483648 + L) = 4 * H + 2 * q + r * 2147483648 + L := IntWalk.u64_in _ (by omega)
  have e6 : (4 * (H : Int) + 2 * q + r * 2147483648 + L) % 2305843009213693950 = Z := by omega
  have e7 : IntKind.i64.wrap (Z : Int) = Z := IntWalk.i64_in _ (by omega)
  have e8 : IntKind.u64.wrap (Z : Int) = Z := IntWalk.u64_in _ (by omega)
  have HZ := Lib.hid hz
  have K1 := Lib.hid k1
  have K2 := Lib.hid k2
  have K3 := Lib.hid k3
  clear k1 k2 k3 hx hy hx2 hy2 hz hm hH hM hL hZ hq hr hmod b1 b2 b3
  go_enter Try.func24, Try.ntmps24
  go_wp2_with fail
  refine (K1.out _).mono ?_
  rintro e w1 ⟨rfl, rfl⟩
  go_wp2_with fail
  refine (K2.out _).mono ?_
  rintro e w1 ⟨rfl, rfl⟩
  go_wp2_with fail
  refine (K3.out _).mono ?_
  rintro e w1 ⟨rfl, rfl⟩
  go_wp2
  go_ret
  exact ⟨by rw [← HZ.out]; rfl, rfl⟩
end Go.Proofs.Ytfldbddjpdbmpaa
