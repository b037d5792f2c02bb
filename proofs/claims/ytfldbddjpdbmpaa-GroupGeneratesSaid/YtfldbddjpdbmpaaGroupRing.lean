/-
  Layer 4: GroupRing' walk.
-/
import Derived.Test.YtfldbddjpdbmpaaGroupSmall
namespace Go.Proofs.Ytfldbddjpdbmpaa
open Go.RowKit

theorem mulL (a b m : Int) : a % m * b % m = a * b % m := by rw [Int.mul_emod, Int.emod_emod, ← Int.mul_emod]
theorem mulR (a b m : Int) : a * (b % m) % m = a * b % m := by rw [Int.mul_emod, Int.emod_emod, ← Int.mul_emod]
theorem in_any (n m : Int) (w : World) (h0 : 0 ≤ n) (h1 : n < m) : Calls Try.prog 25 #[.int .i64 n, .int .i64 m] w fun e w' => e = .returned (.bool true) ∧ w' = w := by
  go_enter Try.func25, Try.ntmps25
  go_wp2
  go_ret
  exact ⟨rfl, rfl⟩

set_option maxHeartbeats 4000000 in
set_option maxRecDepth 100000 in
theorem ring_walk (a b c : Int) (w : World) (ia : isI64 a) (ib : isI64 b) (ic : isI64 c) :
    Calls Try.prog 6 #[.int .i64 a, .int .i64 b, .int .i64 c] w fun e w' => e = .returned (.bool true) ∧ Drew w w' := by
  obtain ⟨x, hx⟩ : ∃ z : Int, z = (a + 0) % 2305843009213693950 := ⟨_, rfl⟩
  have ix : isI64 x := by unfold isI64; omega
  obtain ⟨y, hy⟩ : ∃ z : Int, z = (b + 0) % 2305843009213693950 := ⟨_, rfl⟩
  have iy : isI64 y := by unfold isI64; omega
  obtain ⟨ab, hab⟩ : ∃ z : Int, z = (a + b) % 2305843009213693950 := ⟨_, rfl⟩
  have iab : isI64 ab := by unfold isI64; omega
  obtain ⟨bc, hbc⟩ : ∃ z : Int, z = (b + c) % 2305843009213693950 := ⟨_, rfl⟩
  have ibc : isI64 bc := by unfold isI64; omega
  obtain ⟨abc, habc⟩ : ∃ z : Int, z = (a + b + c) % 2305843009213693950 := ⟨_, rfl⟩
  have iabc : isI64 abc := by unfold isI64; omega
  obtain ⟨p, hp⟩ : ∃ z : Int, z = a * b % 2305843009213693950 := ⟨_, rfl⟩
  have ip : isI64 p := by unfold isI64; omega
  obtain ⟨q, hq⟩ : ∃ z : Int, z = b * c % 2305843009213693950 := ⟨_, rfl⟩
  have iq : isI64 q := by unfold isI64; omega
  obtain ⟨pc, hpc⟩ : ∃ z : Int, z = a * b * c % 2305843009213693950 := ⟨_, rfl⟩
  have ipc : isI64 pc := by unfold isI64; omega
  obtain ⟨ac, hac⟩ : ∃ z : Int, z = a * c % 2305843009213693950 := ⟨_, rfl⟩
  have iac : isI64 ac := by unfold isI64; omega
  obtain ⟨abac, habac⟩ : ∃ z : Int, z = (a * b + a * c) % 2305843009213693950 := ⟨_, rfl⟩
  have iabac : isI64 abac := by unfold isI64; omega
  obtain ⟨d, hd⟩ : ∃ z : Int, z = (a - b) % 2305843009213693950 := ⟨_, rfl⟩
  have id : isI64 d := by unfold isI64; omega
  have k1 : ∀ w, Calls Try.prog 19 #[.int .i64 a, .int .i64 0] w fun e w' => e = .returned (.int .i64 x) ∧ w' = w := fun w => by
    have := addN_any a 0 w ia (by unfold isI64; omega)
    rw [show (a + 0 : Int) % 2305843009213693950 = x from by rw [hx]] at this; exact this
  have k2 : ∀ w, Calls Try.prog 19 #[.int .i64 b, .int .i64 0] w fun e w' => e = .returned (.int .i64 y) ∧ w' = w := fun w => by
    have := addN_any b 0 w ib (by unfold isI64; omega)
    rw [show (b + 0 : Int) % 2305843009213693950 = y from by rw [hy]] at this; exact this
  have k90 : ∀ w, Calls Try.prog 25 #[.int .i64 x, .int .i64 2305843009213693950] w fun e w' => e = .returned (.bool true) ∧ w' = w := fun w => in_any x 2305843009213693950 w (by omega) (by omega)
  have k3 : ∀ w, Calls Try.prog 23 #[.int .i64 a, .int .i64 1] w fun e w' => e = .returned (.int .i64 x) ∧ Drew w w' := fun w => by
    have := mulN_any a 1 w ia (by unfold isI64; omega)
    rw [show (a * 1 : Int) % 2305843009213693950 = x from by rw [hx, Int.mul_one, Int.add_zero]] at this; exact this
  have k4 : ∀ w, Calls Try.prog 19 #[.int .i64 x, .int .i64 2305843009213693950] w fun e w' => e = .returned (.int .i64 x) ∧ w' = w := fun w => by
    have := addN_any x 2305843009213693950 w ix (by unfold isI64; omega)
    rw [show (x + 2305843009213693950 : Int) % 2305843009213693950 = x from by omega] at this; exact this
  have k5 : ∀ w, Calls Try.prog 21 #[.int .i64 a, .int .i64 a] w fun e w' => e = .returned (.int .i64 0) ∧ w' = w := fun w => by
    have := subN_any a a w ia ia
    rw [show (a - a : Int) % 2305843009213693950 = 0 from by rw [Int.sub_self]; rfl] at this; exact this
  have k6 : ∀ w, Calls Try.prog 19 #[.int .i64 a, .int .i64 b] w fun e w' => e = .returned (.int .i64 ab) ∧ w' = w := fun w => by
    have := addN_any a b w ia ib
    rw [show (a + b : Int) % 2305843009213693950 = ab from by rw [hab]] at this; exact this
  have k7 : ∀ w, Calls Try.prog 19 #[.int .i64 b, .int .i64 a] w fun e w' => e = .returned (.int .i64 ab) ∧ w' = w := fun w => by
    have := addN_any b a w ib ia
    rw [show (b + a : Int) % 2305843009213693950 = ab from by omega] at this; exact this
  have k8 : ∀ w, Calls Try.prog 23 #[.int .i64 a, .int .i64 b] w fun e w' => e = .returned (.int .i64 p) ∧ Drew w w' := fun w => by
    have := mulN_any a b w ia ib
    rw [show (a * b : Int) % 2305843009213693950 = p from by rw [hp]] at this; exact this
  have k9 : ∀ w, Calls Try.prog 23 #[.int .i64 b, .int .i64 a] w fun e w' => e = .returned (.int .i64 p) ∧ Drew w w' := fun w => by
    have := mulN_any b a w ib ia
    rw [show (b * a : Int) % 2305843009213693950 = p from by rw [hp, Int.mul_comm]] at this; exact this
  have k10 : ∀ w, Calls Try.prog 21 #[.int .i64 ab, .int .i64 b] w fun e w' => e = .returned (.int .i64 x) ∧ w' = w := fun w => by
    have := subN_any ab b w iab ib
    rw [show (ab - b : Int) % 2305843009213693950 = x from by omega] at this; exact this
  have k11 : ∀ w, Calls Try.prog 19 #[.int .i64 ab, .int .i64 c] w fun e w' => e = .returned (.int .i64 abc) ∧ w' = w := fun w => by
    have := addN_any ab c w iab ic
    rw [show (ab + c : Int) % 2305843009213693950 = abc from by omega] at this; exact this
  have k12 : ∀ w, Calls Try.prog 19 #[.int .i64 b, .int .i64 c] w fun e w' => e = .returned (.int .i64 bc) ∧ w' = w := fun w => by
    have := addN_any b c w ib ic
    rw [show (b + c : Int) % 2305843009213693950 = bc from by rw [hbc]] at this; exact this
  have k13 : ∀ w, Calls Try.prog 19 #[.int .i64 a, .int .i64 bc] w fun e w' => e = .returned (.int .i64 abc) ∧ w' = w := fun w => by
    have := addN_any a bc w ia ibc
    rw [show (a + bc : Int) % 2305843009213693950 = abc from by omega] at this; exact this
  have k14 : ∀ w, Calls Try.prog 23 #[.int .i64 p, .int .i64 c] w fun e w' => e = .returned (.int .i64 pc) ∧ Drew w w' := fun w => by
    have := mulN_any p c w ip ic
    rw [show (p * c : Int) % 2305843009213693950 = pc from by rw [hp, hpc, mulL]] at this; exact this
  have k15 : ∀ w, Calls Try.prog 23 #[.int .i64 b, .int .i64 c] w fun e w' => e = .returned (.int .i64 q) ∧ Drew w w' := fun w => by
    have := mulN_any b c w ib ic
    rw [show (b * c : Int) % 2305843009213693950 = q from by rw [hq]] at this; exact this
  have k16 : ∀ w, Calls Try.prog 23 #[.int .i64 a, .int .i64 q] w fun e w' => e = .returned (.int .i64 pc) ∧ Drew w w' := fun w => by
    have := mulN_any a q w ia iq
    rw [show (a * q : Int) % 2305843009213693950 = pc from by rw [hq, hpc, mulR, Int.mul_assoc]] at this; exact this
  have k17 : ∀ w, Calls Try.prog 23 #[.int .i64 a, .int .i64 bc] w fun e w' => e = .returned (.int .i64 abac) ∧ Drew w w' := fun w => by
    have := mulN_any a bc w ia ibc
    rw [show (a * bc : Int) % 2305843009213693950 = abac from by rw [hbc, habac, mulR, Int.mul_add]] at this; exact this
  have k18 : ∀ w, Calls Try.prog 23 #[.int .i64 a, .int .i64 c] w fun e w' => e = .returned (.int .i64 ac) ∧ Drew w w' := fun w => by
    have := mulN_any a c w ia ic
    rw [show (a * c : Int) % 2305843009213693950 = ac from by rw [hac]] at this; exact this
  have k19 : ∀ w, Calls Try.prog 19 #[.int .i64 p, .int .i64 ac] w fun e w' => e = .returned (.int .i64 abac) ∧ w' = w := fun w => by
    have := addN_any p ac w ip iac
    rw [show (p + ac : Int) % 2305843009213693950 = abac from by rw [hp, hac, habac, ← Int.add_emod]] at this; exact this
  have k20 : ∀ w, Calls Try.prog 23 #[.int .i64 x, .int .i64 y] w fun e w' => e = .returned (.int .i64 p) ∧ Drew w w' := fun w => by
    have := mulN_any x y w ix iy
    rw [show (x * y : Int) % 2305843009213693950 = p from by rw [hx, hy, hp, mulL, mulR, Int.add_zero, Int.add_zero]] at this; exact this
  have k21 : ∀ w, Calls Try.prog 19 #[.int .i64 x, .int .i64 y] w fun e w' => e = .returned (.int .i64 ab) ∧ w' = w := fun w => by
    have := addN_any x y w ix iy
    rw [show (x + y : Int) % 2305843009213693950 = ab from by omega] at this; exact this
  have k22 : ∀ w, Calls Try.prog 21 #[.int .i64 x, .int .i64 y] w fun e w' => e = .returned (.int .i64 d) ∧ w' = w := fun w => by
    have := subN_any x y w ix iy
    rw [show (x - y : Int) % 2305843009213693950 = d from by omega] at this; exact this
  have k23 : ∀ w, Calls Try.prog 21 #[.int .i64 a, .int .i64 b] w fun e w' => e = .returned (.int .i64 d) ∧ w' = w := fun w => by
    have := subN_any a b w ia ib
    rw [show (a - b : Int) % 2305843009213693950 = d from by rw [hd]] at this; exact this
  have KS := Lib.hid small_any
  have g := Lib.hid (Drew.refl w)
  have K1 := Lib.hid k1
  have K2 := Lib.hid k2
  have K3 := Lib.hid k3
  have K4 := Lib.hid k4
  have K5 := Lib.hid k5
  have K6 := Lib.hid k6
  have K7 := Lib.hid k7
  have K8 := Lib.hid k8
  have K9 := Lib.hid k9
  have K10 := Lib.hid k10
  have K11 := Lib.hid k11
  have K12 := Lib.hid k12
  have K13 := Lib.hid k13
  have K14 := Lib.hid k14
  have K15 := Lib.hid k15
  have K16 := Lib.hid k16
  have K17 := Lib.hid k17
  have K18 := Lib.hid k18
  have K19 := Lib.hid k19
  have K20 := Lib.hid k20
  have K21 := Lib.hid k21
  have K22 := Lib.hid k22
  have K23 := Lib.hid k23
  have K90 := Lib.hid k90
  clear k1 k2 k3 k4 k5 k6 k7 k8 k9 k10 k11 k12 k13 k14 k15 k16 k17 k18 k19 k20 k21 k22 k23 k90 hx ix hy iy hab iab hbc ibc habc iabc hp ip hq iq hpc ipc hac iac habac iabac hd id
  go_enter Try.func6, Try.ntmps6
  go_wp2_with fail
  refine (KS.out _).mono ?_
  rintro r w1 ⟨rfl, h⟩
  replace g := Lib.hid (g.out.trans h)
  clear h
  go_wp2_with fail
  refine (K1.out _).mono ?_
  rintro r w1 ⟨rfl, rfl⟩
  go_wp2_with fail
  refine (K2.out _).mono ?_
  rintro r w1 ⟨rfl, rfl⟩
  go_wp2_with fail
  refine (K90.out _).mono ?_
  rintro r w1 ⟨rfl, rfl⟩
  go_wp2_with fail
  refine (K3.out _).mono ?_
  rintro r w1 ⟨rfl, h⟩
  replace g := Lib.hid (g.out.trans h)
  clear h
  go_wp2_with fail
  refine (K4.out _).mono ?_
  rintro r w1 ⟨rfl, rfl⟩
  go_wp2_with fail
  refine (K5.out _).mono ?_
  rintro r w1 ⟨rfl, rfl⟩
  go_wp2_with fail
  refine (K6.out _).mono ?_
  rintro r w1 ⟨rfl, rfl⟩
  go_wp2_with fail
  refine (K7.out _).mono ?_
  rintro r w1 ⟨rfl, rfl⟩
  go_wp2_with fail
  refine (K8.out _).mono ?_
  rintro r w1 ⟨rfl, h⟩
  replace g := Lib.hid (g.out.trans h)
  clear h
  go_wp2_with fail
  refine (K9.out _).mono ?_
  rintro r w1 ⟨rfl, h⟩
  replace g := Lib.hid (g.out.trans h)
  clear h
  go_wp2_with fail
  refine (K6.out _).mono ?_
  rintro r w1 ⟨rfl, rfl⟩
  go_wp2_with fail
  refine (K10.out _).mono ?_
  rintro r w1 ⟨rfl, rfl⟩
  go_wp2_with fail
  refine (K6.out _).mono ?_
  rintro r w1 ⟨rfl, rfl⟩
  go_wp2_with fail
  refine (K11.out _).mono ?_
  rintro r w1 ⟨rfl, rfl⟩
  go_wp2_with fail
  refine (K12.out _).mono ?_
  rintro r w1 ⟨rfl, rfl⟩
  go_wp2_with fail
  refine (K13.out _).mono ?_
  rintro r w1 ⟨rfl, rfl⟩
  go_wp2_with fail
  refine (K8.out _).mono ?_
  rintro r w1 ⟨rfl, h⟩
  replace g := Lib.hid (g.out.trans h)
  clear h
  go_wp2_with fail
  refine (K14.out _).mono ?_
  rintro r w1 ⟨rfl, h⟩
  replace g := Lib.hid (g.out.trans h)
  clear h
  go_wp2_with fail
  refine (K15.out _).mono ?_
  rintro r w1 ⟨rfl, h⟩
  replace g := Lib.hid (g.out.trans h)
  clear h
  go_wp2_with fail
  refine (K16.out _).mono ?_
  rintro r w1 ⟨rfl, h⟩
  replace g := Lib.hid (g.out.trans h)
  clear h
  go_wp2_with fail
  refine (K12.out _).mono ?_
  rintro r w1 ⟨rfl, rfl⟩
  go_wp2_with fail
  refine (K17.out _).mono ?_
  rintro r w1 ⟨rfl, h⟩
  replace g := Lib.hid (g.out.trans h)
  clear h
  go_wp2_with fail
  refine (K8.out _).mono ?_
  rintro r w1 ⟨rfl, h⟩
  replace g := Lib.hid (g.out.trans h)
  clear h
  go_wp2_with fail
  refine (K18.out _).mono ?_
  rintro r w1 ⟨rfl, h⟩
  replace g := Lib.hid (g.out.trans h)
  clear h
  go_wp2_with fail
  refine (K19.out _).mono ?_
  rintro r w1 ⟨rfl, rfl⟩
  go_wp2_with fail
  refine (K20.out _).mono ?_
  rintro r w1 ⟨rfl, h⟩
  replace g := Lib.hid (g.out.trans h)
  clear h
  go_wp2_with fail
  refine (K8.out _).mono ?_
  rintro r w1 ⟨rfl, h⟩
  replace g := Lib.hid (g.out.trans h)
  clear h
  go_wp2_with fail
  refine (K21.out _).mono ?_
  rintro r w1 ⟨rfl, rfl⟩
  go_wp2_with fail
  refine (K6.out _).mono ?_
  rintro r w1 ⟨rfl, rfl⟩
  go_wp2_with fail
  refine (K22.out _).mono ?_
  rintro r w1 ⟨rfl, rfl⟩
  go_wp2_with fail
  refine (K23.out _).mono ?_
  rintro r w1 ⟨rfl, rfl⟩
  go_wp2
  go_ret
  exact ⟨rfl, g.out⟩
end Go.Proofs.Ytfldbddjpdbmpaa
