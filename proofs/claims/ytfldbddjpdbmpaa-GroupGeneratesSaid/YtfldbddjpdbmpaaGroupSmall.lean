/-
  Layer 4: the law's own 'small'.
-/
import Derived.Test.YtfldbddjpdbmpaaGroupFun
namespace Go.Proofs.Ytfldbddjpdbmpaa
open Go.RowKit

theorem inv_lit (x : Nat) (a : Int) (r : Nat) (hx : a % 2305843009213693951 = x) (hr : Gp.powm 2305843009213693951 x 62 2305843009213693949 = r) : invP a = r := by
  rw [invP, hx, ← hr, ← Gp.powm_eq _ _ 62 (Gp.N - 1) (by decide), Int.toNat_natCast]; rfl
theorem pow_lit (x k : Nat) (a e : Int) (r : Nat) (hx : a % 2305843009213693951 = x) (hk : expo e = k) (hb : k < 2 ^ 62) (hr : Gp.powm 2305843009213693951 x 62 k = r) : powP a e = r := by
  rw [powP, hx, hk, ← hr, Gp.powm_eq _ _ _ _ hb, Int.toNat_natCast]

set_option maxHeartbeats 2000000 in
set_option maxRecDepth 100000 in
theorem small_any (w : World) : Calls Try.prog 8 #[] w fun e w' => e = .returned (.bool true) ∧ Drew w w' := by
  have g := Lib.hid (Drew.refl w)
  have k1 : ∀ w, Calls Try.prog 9 #[.int .i64 2] w fun e w' => e = .returned (.tuple #[.int .i64 1152921504606846976, .bool true]) ∧ Drew w w' := fun w => by
    have e : invV 2 = (1152921504606846976, true) := by rw [invV, if_neg (by decide), inv_lit 2 2 1152921504606846976 (by decide) (by decide +kernel)]
    have := inv_any 2 w (by unfold isI64; omega); rw [e] at this; exact this
  have k2 : ∀ w, Calls Try.prog 9 #[.int .i64 2305843009213693951] w fun e w' => e = .returned (.tuple #[.int .i64 0, .bool false]) ∧ Drew w w' := fun w => by
    have e : invV 2305843009213693951 = (0, false) := by rw [invV, if_pos (by decide)]
    have := inv_any 2305843009213693951 w (by unfold isI64; omega); rw [e] at this; exact this
  have k3 : ∀ w, Calls Try.prog 9 #[.int .i64 3] w fun e w' => e = .returned (.tuple #[.int .i64 1537228672809129301, .bool true]) ∧ Drew w w' := fun w => by
    have e : invV 3 = (1537228672809129301, true) := by rw [invV, if_neg (by decide), inv_lit 3 3 1537228672809129301 (by decide) (by decide +kernel)]
    have := inv_any 3 w (by unfold isI64; omega); rw [e] at this; exact this
  have k4 : ∀ w, Calls Try.prog 11 #[.int .i64 2305843009213693950, .int .i64 2] w fun e w' => e = .returned (.int .i64 1) ∧ w' = w := fun w => by
    have := add_any 2305843009213693950 2 w (by unfold isI64; omega) (by unfold isI64; omega); rw [show ((2305843009213693950 : Int) + 2) % 2305843009213693951 = 1 by decide] at this; exact this
  have k5 : ∀ w, Calls Try.prog 13 #[.int .i64 0, .int .i64 1] w fun e w' => e = .returned (.int .i64 2305843009213693950) ∧ w' = w := fun w => by
    have := sub_any 0 1 w (by unfold isI64; omega) (by unfold isI64; omega); rw [show ((0 : Int) - 1) % 2305843009213693951 = 2305843009213693950 by decide] at this; exact this
  have k6 : ∀ w, Calls Try.prog 15 #[.int .i64 2305843009213693950, .int .i64 2305843009213693950] w fun e w' => e = .returned (.int .i64 1) ∧ Drew w w' := fun w => by
    have := mul_any 2305843009213693950 2305843009213693950 w (by unfold isI64; omega) (by unfold isI64; omega); rw [show ((2305843009213693950 : Int) * 2305843009213693950) % 2305843009213693951 = 1 by decide] at this; exact this
  have k7 : ∀ w, Calls Try.prog 17 #[.int .i64 3, .int .i64 (-1)] w fun e w' => e = .returned (.int .i64 1537228672809129301) ∧ Drew w w' := fun w => by
    have e : powP 3 (-1) = 1537228672809129301 := pow_lit 3 2305843009213693949 3 (-1) 1537228672809129301 (by decide) (by decide) (by decide) (by decide +kernel)
    have := exp_any 3 (-1) w (by unfold isI64; omega) (by unfold isI64; omega); rw [e] at this; exact this
  have k8 : ∀ w, Calls Try.prog 17 #[.int .i64 2, .int .i64 61] w fun e w' => e = .returned (.int .i64 1) ∧ Drew w w' := fun w => by
    have e : powP 2 61 = 1 := pow_lit 2 61 2 61 1 (by decide) (by decide) (by decide) (by decide +kernel)
    have := exp_any 2 61 w (by unfold isI64; omega) (by unfold isI64; omega); rw [e] at this; exact this
  have k9 : ∀ w, Calls Try.prog 17 #[.int .i64 0, .int .i64 0] w fun e w' => e = .returned (.int .i64 1) ∧ Drew w w' := fun w => by
    have e : powP 0 0 = 1 := pow_lit 0 0 0 0 1 (by decide) (by decide) (by decide) (by decide +kernel)
    have := exp_any 0 0 w (by unfold isI64; omega) (by unfold isI64; omega); rw [e] at this; exact this
  have k10 : ∀ w, Calls Try.prog 17 #[.int .i64 0, .int .i64 2305843009213693950] w fun e w' => e = .returned (.int .i64 0) ∧ Drew w w' := fun w => by
    have e : powP 0 2305843009213693950 = 0 := pow_lit 0 2305843009213693950 0 2305843009213693950 0 (by decide) (by decide) (by decide) (by decide +kernel)
    have := exp_any 0 2305843009213693950 w (by unfold isI64; omega) (by unfold isI64; omega); rw [e] at this; exact this
  have k11 : ∀ w, Calls Try.prog 23 #[.int .i64 2305843009213693949, .int .i64 2305843009213693949] w fun e w' => e = .returned (.int .i64 1) ∧ Drew w w' := fun w => by
    have := mulN_any 2305843009213693949 2305843009213693949 w (by unfold isI64; omega) (by unfold isI64; omega); rw [show ((2305843009213693949 : Int) * 2305843009213693949) % 2305843009213693950 = 1 by decide] at this; exact this
  have k12 : ∀ w, Calls Try.prog 19 #[.int .i64 2305843009213693949, .int .i64 2] w fun e w' => e = .returned (.int .i64 1) ∧ w' = w := fun w => by
    have := addN_any 2305843009213693949 2 w (by unfold isI64; omega) (by unfold isI64; omega); rw [show ((2305843009213693949 : Int) + 2) % 2305843009213693950 = 1 by decide] at this; exact this
  have k13 : ∀ w, Calls Try.prog 21 #[.int .i64 0, .int .i64 1] w fun e w' => e = .returned (.int .i64 2305843009213693949) ∧ w' = w := fun w => by
    have := subN_any 0 1 w (by unfold isI64; omega) (by unfold isI64; omega); rw [show ((0 : Int) - 1) % 2305843009213693950 = 2305843009213693949 by decide] at this; exact this
  have K1 := Lib.hid k1
  have K2 := Lib.hid k2
  have K3 := Lib.hid k3
  have K4 := Lib.hid k4
  have K5 := Lib.hid k5
  have K6 := Lib.hid k6
  have K7 := Lib.hid k7
  have K8 := Lib.hid k8
  have K9 := Lib.hid k9
  have K10 := Lib.hid k10
  have K11 := Lib.hid k11
  have K12 := Lib.hid k12
  have K13 := Lib.hid k13
  clear k1 k2 k3 k4 k5 k6 k7 k8 k9 k10 k11 k12 k13
  go_enter Try.func8, Try.ntmps8
  go_wp2_with fail
  refine (K1.out _).mono ?_
  rintro r w1 ⟨rfl, h⟩
  replace g := Lib.hid (g.out.trans h)
  clear h
  clear K1
  go_wp2_with fail
  refine (K2.out _).mono ?_
  rintro r w1 ⟨rfl, h⟩
  replace g := Lib.hid (g.out.trans h)
  clear h
  clear K2
  go_wp2_with fail
  refine (K3.out _).mono ?_
  rintro r w1 ⟨rfl, h⟩
  replace g := Lib.hid (g.out.trans h)
  clear h
  clear K3
  go_wp2_with fail
  refine (K4.out _).mono ?_
  rintro r w1 ⟨rfl, rfl⟩
  clear K4
  go_wp2_with fail
  refine (K5.out _).mono ?_
  rintro r w1 ⟨rfl, rfl⟩
  clear K5
  go_wp2_with fail
  refine (K6.out _).mono ?_
  rintro r w1 ⟨rfl, h⟩
  replace g := Lib.hid (g.out.trans h)
  clear h
  clear K6
  go_wp2_with fail
  refine (K7.out _).mono ?_
  rintro r w1 ⟨rfl, h⟩
  replace g := Lib.hid (g.out.trans h)
  clear h
  clear K7
  go_wp2_with fail
  refine (K8.out _).mono ?_
  rintro r w1 ⟨rfl, h⟩
  replace g := Lib.hid (g.out.trans h)
  clear h
  clear K8
  go_wp2_with fail
  refine (K9.out _).mono ?_
  rintro r w1 ⟨rfl, h⟩
  replace g := Lib.hid (g.out.trans h)
  clear h
  clear K9
  go_wp2_with fail
  refine (K10.out _).mono ?_
  rintro r w1 ⟨rfl, h⟩
  replace g := Lib.hid (g.out.trans h)
  clear h
  clear K10
  go_wp2_with fail
  refine (K11.out _).mono ?_
  rintro r w1 ⟨rfl, h⟩
  replace g := Lib.hid (g.out.trans h)
  clear h
  clear K11
  go_wp2_with fail
  refine (K12.out _).mono ?_
  rintro r w1 ⟨rfl, rfl⟩
  clear K12
  go_wp2_with fail
  refine (K13.out _).mono ?_
  rintro r w1 ⟨rfl, rfl⟩
  clear K13
  go_wp2
  go_ret
  exact ⟨rfl, g.out⟩
end Go.Proofs.Ytfldbddjpdbmpaa
