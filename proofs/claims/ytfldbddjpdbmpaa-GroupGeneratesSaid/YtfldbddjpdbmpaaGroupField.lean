/-
  Layer 4: GroupField' walk.
-/
import Derived.Test.YtfldbddjpdbmpaaGroupSmall
import Derived.Test.YtfldbddjpdbmpaaGroupRing
namespace Go.Proofs.Ytfldbddjpdbmpaa
open Go.RowKit

theorem nat_of (a : Int) : ∃ A : Nat, (A : Int) = a % 2305843009213693951 ∧ A < 2305843009213693951 := ⟨(a % 2305843009213693951).toNat, by omega, by omega⟩
theorem inv_mul (a : Int) (h : ¬ a % 2305843009213693951 = 0) : a * (invP a : Nat) % 2305843009213693951 = 1 := by
  obtain ⟨A, hA, hA2⟩ := nat_of a
  have hm : A % Gp.P = A := Nat.mod_eq_of_lt hA2
  have hu := Gp.unit_of (a := A) (by omega)
  have hI : invP a = A ^ (Gp.N - 1) % 2305843009213693951 := by rw [invP, ← hA, Int.toNat_natCast]
  rw [← mulL a, ← hA, hI, ← Int.natCast_mul]
  have e : A * (A ^ (Gp.N - 1) % 2305843009213693951) % 2305843009213693951 = 1 := by
    rw [Nat.mul_mod, Nat.mod_mod, ← Nat.mul_mod]
    exact hu
  rw [show ((2305843009213693951 : Int)) = ((2305843009213693951 : Nat) : Int) from rfl, ← Int.natCast_emod, e]
  rfl
theorem inv_lt (a : Int) : invP a < 2305843009213693951 := by rw [invP]; exact Nat.mod_lt _ (by decide)
theorem no_zero_int (a b : Int) (h : a * b % 2305843009213693951 = 0) : a % 2305843009213693951 = 0 ∨ b % 2305843009213693951 = 0 := by
  obtain ⟨A, hA, _⟩ := nat_of a
  obtain ⟨B, hB, _⟩ := nat_of b
  have e : A * B % Gp.P = 0 := by
    rw [← mulL, ← mulR, ← hA, ← hB, ← Int.natCast_mul] at h
    have h2 : ((A * B % 2305843009213693951 : Nat) : Int) = 0 := by rw [Int.natCast_emod]; exact h
    show A * B % 2305843009213693951 = 0
    omega
  have hAm : A % Gp.P = A := Nat.mod_eq_of_lt (by show A < 2305843009213693951; omega)
  have hBm : B % Gp.P = B := Nat.mod_eq_of_lt (by show B < 2305843009213693951; omega)
  rcases Gp.no_zero e with h1 | h1
  · left; omega
  · right; omega

set_option maxHeartbeats 8000000 in
set_option maxRecDepth 100000 in
theorem field_walk (a b c : Int) (w : World) (ia : isI64 a) (ib : isI64 b) (ic : isI64 c) :
    Calls Try.prog 4 #[.int .i64 a, .int .i64 b, .int .i64 c] w fun e w' => e = .returned (.bool true) ∧ Drew w w' := by
  obtain ⟨x, hx⟩ : ∃ z : Int, z = (a + 0) % 2305843009213693951 := ⟨_, rfl⟩
  have ix : isI64 x := by unfold isI64; omega
  obtain ⟨bx, hbx⟩ : ∃ z : Int, z = (b + 0) % 2305843009213693951 := ⟨_, rfl⟩
  have ibx : isI64 bx := by unfold isI64; omega
  obtain ⟨ab, hab⟩ : ∃ z : Int, z = (a + b) % 2305843009213693951 := ⟨_, rfl⟩
  have iab : isI64 ab := by unfold isI64; omega
  obtain ⟨bc, hbc⟩ : ∃ z : Int, z = (b + c) % 2305843009213693951 := ⟨_, rfl⟩
  have ibc : isI64 bc := by unfold isI64; omega
  obtain ⟨abc, habc⟩ : ∃ z : Int, z = (a + b + c) % 2305843009213693951 := ⟨_, rfl⟩
  have iabc : isI64 abc := by unfold isI64; omega
  obtain ⟨p, hp⟩ : ∃ z : Int, z = a * b % 2305843009213693951 := ⟨_, rfl⟩
  have ip : isI64 p := by unfold isI64; omega
  obtain ⟨q, hq⟩ : ∃ z : Int, z = b * c % 2305843009213693951 := ⟨_, rfl⟩
  have iq : isI64 q := by unfold isI64; omega
  obtain ⟨pc, hpc⟩ : ∃ z : Int, z = a * b * c % 2305843009213693951 := ⟨_, rfl⟩
  have ipc : isI64 pc := by unfold isI64; omega
  obtain ⟨ac, hac⟩ : ∃ z : Int, z = a * c % 2305843009213693951 := ⟨_, rfl⟩
  have iac : isI64 ac := by unfold isI64; omega
  obtain ⟨abac, habac⟩ : ∃ z : Int, z = (a * b + a * c) % 2305843009213693951 := ⟨_, rfl⟩
  have iabac : isI64 abac := by unfold isI64; omega
  have k1 : ∀ w, Calls Try.prog 11 #[.int .i64 a, .int .i64 0] w fun e w' => e = .returned (.int .i64 x) ∧ w' = w := fun w => by
    have := add_any a 0 w ia (by unfold isI64; omega)
    rw [show (a + 0 : Int) % 2305843009213693951 = x from by rw [hx]] at this; exact this
  have k90 : ∀ w, Calls Try.prog 25 #[.int .i64 x, .int .i64 2305843009213693951] w fun e w' => e = .returned (.bool true) ∧ w' = w := fun w => in_any x 2305843009213693951 w (by omega) (by omega)
  have k2 : ∀ w, Calls Try.prog 15 #[.int .i64 a, .int .i64 1] w fun e w' => e = .returned (.int .i64 x) ∧ Drew w w' := fun w => by
    have := mul_any a 1 w ia (by unfold isI64; omega)
    rw [show (a * 1 : Int) % 2305843009213693951 = x from by rw [hx, Int.mul_one, Int.add_zero]] at this; exact this
  have k3 : ∀ w, Calls Try.prog 13 #[.int .i64 a, .int .i64 0] w fun e w' => e = .returned (.int .i64 x) ∧ w' = w := fun w => by
    have := sub_any a 0 w ia (by unfold isI64; omega)
    rw [show (a - 0 : Int) % 2305843009213693951 = x from by omega] at this; exact this
  have k4 : ∀ w, Calls Try.prog 11 #[.int .i64 x, .int .i64 2305843009213693951] w fun e w' => e = .returned (.int .i64 x) ∧ w' = w := fun w => by
    have := add_any x 2305843009213693951 w ix (by unfold isI64; omega)
    rw [show (x + 2305843009213693951 : Int) % 2305843009213693951 = x from by omega] at this; exact this
  have k5 : ∀ w, Calls Try.prog 13 #[.int .i64 a, .int .i64 a] w fun e w' => e = .returned (.int .i64 0) ∧ w' = w := fun w => by
    have := sub_any a a w ia ia
    rw [show (a - a : Int) % 2305843009213693951 = 0 from by rw [Int.sub_self]; rfl] at this; exact this
  have k6 : ∀ w, Calls Try.prog 11 #[.int .i64 a, .int .i64 b] w fun e w' => e = .returned (.int .i64 ab) ∧ w' = w := fun w => by
    have := add_any a b w ia ib
    rw [show (a + b : Int) % 2305843009213693951 = ab from by rw [hab]] at this; exact this
  have k7 : ∀ w, Calls Try.prog 11 #[.int .i64 b, .int .i64 a] w fun e w' => e = .returned (.int .i64 ab) ∧ w' = w := fun w => by
    have := add_any b a w ib ia
    rw [show (b + a : Int) % 2305843009213693951 = ab from by omega] at this; exact this
  have k8 : ∀ w, Calls Try.prog 15 #[.int .i64 a, .int .i64 b] w fun e w' => e = .returned (.int .i64 p) ∧ Drew w w' := fun w => by
    have := mul_any a b w ia ib
    rw [show (a * b : Int) % 2305843009213693951 = p from by rw [hp]] at this; exact this
  have k9 : ∀ w, Calls Try.prog 15 #[.int .i64 b, .int .i64 a] w fun e w' => e = .returned (.int .i64 p) ∧ Drew w w' := fun w => by
    have := mul_any b a w ib ia
    rw [show (b * a : Int) % 2305843009213693951 = p from by rw [hp, Int.mul_comm]] at this; exact this
  have k10 : ∀ w, Calls Try.prog 13 #[.int .i64 ab, .int .i64 b] w fun e w' => e = .returned (.int .i64 x) ∧ w' = w := fun w => by
    have := sub_any ab b w iab ib
    rw [show (ab - b : Int) % 2305843009213693951 = x from by omega] at this; exact this
  have k11 : ∀ w, Calls Try.prog 11 #[.int .i64 ab, .int .i64 c] w fun e w' => e = .returned (.int .i64 abc) ∧ w' = w := fun w => by
    have := add_any ab c w iab ic
    rw [show (ab + c : Int) % 2305843009213693951 = abc from by omega] at this; exact this
  have k12 : ∀ w, Calls Try.prog 11 #[.int .i64 b, .int .i64 c] w fun e w' => e = .returned (.int .i64 bc) ∧ w' = w := fun w => by
    have := add_any b c w ib ic
    rw [show (b + c : Int) % 2305843009213693951 = bc from by rw [hbc]] at this; exact this
  have k13 : ∀ w, Calls Try.prog 11 #[.int .i64 a, .int .i64 bc] w fun e w' => e = .returned (.int .i64 abc) ∧ w' = w := fun w => by
    have := add_any a bc w ia ibc
    rw [show (a + bc : Int) % 2305843009213693951 = abc from by omega] at this; exact this
  have k14 : ∀ w, Calls Try.prog 15 #[.int .i64 p, .int .i64 c] w fun e w' => e = .returned (.int .i64 pc) ∧ Drew w w' := fun w => by
    have := mul_any p c w ip ic
    rw [show (p * c : Int) % 2305843009213693951 = pc from by rw [hp, hpc, mulL]] at this; exact this
  have k15 : ∀ w, Calls Try.prog 15 #[.int .i64 b, .int .i64 c] w fun e w' => e = .returned (.int .i64 q) ∧ Drew w w' := fun w => by
    have := mul_any b c w ib ic
    rw [show (b * c : Int) % 2305843009213693951 = q from by rw [hq]] at this; exact this
  have k16 : ∀ w, Calls Try.prog 15 #[.int .i64 a, .int .i64 q] w fun e w' => e = .returned (.int .i64 pc) ∧ Drew w w' := fun w => by
    have := mul_any a q w ia iq
    rw [show (a * q : Int) % 2305843009213693951 = pc from by rw [hq, hpc, mulR, Int.mul_assoc]] at this; exact this
  have k17 : ∀ w, Calls Try.prog 15 #[.int .i64 a, .int .i64 bc] w fun e w' => e = .returned (.int .i64 abac) ∧ Drew w w' := fun w => by
    have := mul_any a bc w ia ibc
    rw [show (a * bc : Int) % 2305843009213693951 = abac from by rw [hbc, habac, mulR, Int.mul_add]] at this; exact this
  have k18 : ∀ w, Calls Try.prog 15 #[.int .i64 a, .int .i64 c] w fun e w' => e = .returned (.int .i64 ac) ∧ Drew w w' := fun w => by
    have := mul_any a c w ia ic
    rw [show (a * c : Int) % 2305843009213693951 = ac from by rw [hac]] at this; exact this
  have k19 : ∀ w, Calls Try.prog 11 #[.int .i64 p, .int .i64 ac] w fun e w' => e = .returned (.int .i64 abac) ∧ w' = w := fun w => by
    have := add_any p ac w ip iac
    rw [show (p + ac : Int) % 2305843009213693951 = abac from by rw [hp, hac, habac, ← Int.add_emod]] at this; exact this
  have k20 : ∀ w, Calls Try.prog 11 #[.int .i64 b, .int .i64 0] w fun e w' => e = .returned (.int .i64 bx) ∧ w' = w := fun w => by
    have := add_any b 0 w ib (by unfold isI64; omega)
    rw [show (b + 0 : Int) % 2305843009213693951 = bx from by rw [hbx]] at this; exact this
  by_cases hx0 : x = 0
  · have hkeep := hx0
    have ki : ∀ w, Calls Try.prog 9 #[.int .i64 a] w fun e w' => e = .returned (.tuple #[.int .i64 0, .bool false]) ∧ Drew w w' := fun w => by
      have := inv_any a w ia; rw [show invV a = (0, false) by rw [invV, if_pos (by omega)]] at this; exact this
    have hp0 : p = 0 := by
      rw [hp, ← mulL, show a % 2305843009213693951 = 0 by omega, Int.zero_mul]; rfl
    have KI := Lib.hid ki
    clear ki
    subst hp0
    subst hx0
    have KS := Lib.hid small_any
    have g := Lib.hid (Drew.refl w)
    have K1 := Lib.hid k1
    have K2 := Lib.hid k2
    have K3 := Lib.hid k3
    have K4 := Lib.hid k4
    have K5 := Lib.hid k5
    have K6 := Lib.hid k6
    have K7 := Lib.hid k7
    have K8 := Lib.hid k8
    have K9 := Lib.hid k9
    have K10 := Lib.hid k10
    have K11 := Lib.hid k11
    have K12 := Lib.hid k12
    have K13 := Lib.hid k13
    have K14 := Lib.hid k14
    have K15 := Lib.hid k15
    have K16 := Lib.hid k16
    have K17 := Lib.hid k17
    have K18 := Lib.hid k18
    have K19 := Lib.hid k19
    have K20 := Lib.hid k20
    have K90 := Lib.hid k90
    clear hkeep k1 k2 k3 k4 k5 k6 k7 k8 k9 k10 k11 k12 k13 k14 k15 k16 k17 k18 k19 k20 k90 hx ix hbx ibx hab iab hbc ibc habc iabc hp ip hq iq hpc ipc hac iac habac iabac
    go_enter Try.func4, Try.ntmps4
    go_wp2_with fail
    refine (KS.out _).mono ?_
    rintro r w1 ⟨rfl, h⟩
    replace g := Lib.hid (g.out.trans h)
    clear h
    go_wp2_with fail
    refine (K1.out _).mono ?_
    rintro r w1 ⟨rfl, rfl⟩
    go_wp2_with fail
    refine (K90.out _).mono ?_
    rintro r w1 ⟨rfl, rfl⟩
    go_wp2_with fail
    refine (K2.out _).mono ?_
    rintro r w1 ⟨rfl, h⟩
    replace g := Lib.hid (g.out.trans h)
    clear h
    go_wp2_with fail
    refine (K3.out _).mono ?_
    rintro r w1 ⟨rfl, rfl⟩
    go_wp2_with fail
    refine (K4.out _).mono ?_
    rintro r w1 ⟨rfl, rfl⟩
    go_wp2_with fail
    refine (K5.out _).mono ?_
    rintro r w1 ⟨rfl, rfl⟩
    go_wp2_with fail
    refine (K6.out _).mono ?_
    rintro r w1 ⟨rfl, rfl⟩
    go_wp2_with fail
    refine (K7.out _).mono ?_
    rintro r w1 ⟨rfl, rfl⟩
    go_wp2_with fail
    refine (K8.out _).mono ?_
    rintro r w1 ⟨rfl, h⟩
    replace g := Lib.hid (g.out.trans h)
    clear h
    go_wp2_with fail
    refine (K9.out _).mono ?_
    rintro r w1 ⟨rfl, h⟩
    replace g := Lib.hid (g.out.trans h)
    clear h
    go_wp2_with fail
    refine (K6.out _).mono ?_
    rintro r w1 ⟨rfl, rfl⟩
    go_wp2_with fail
    refine (K10.out _).mono ?_
    rintro r w1 ⟨rfl, rfl⟩
    go_wp2_with fail
    refine (K6.out _).mono ?_
    rintro r w1 ⟨rfl, rfl⟩
    go_wp2_with fail
    refine (K11.out _).mono ?_
    rintro r w1 ⟨rfl, rfl⟩
    go_wp2_with fail
    refine (K12.out _).mono ?_
    rintro r w1 ⟨rfl, rfl⟩
    go_wp2_with fail
    refine (K13.out _).mono ?_
    rintro r w1 ⟨rfl, rfl⟩
    go_wp2_with fail
    refine (K8.out _).mono ?_
    rintro r w1 ⟨rfl, h⟩
    replace g := Lib.hid (g.out.trans h)
    clear h
    go_wp2_with fail
    refine (K14.out _).mono ?_
    rintro r w1 ⟨rfl, h⟩
    replace g := Lib.hid (g.out.trans h)
    clear h
    go_wp2_with fail
    refine (K15.out _).mono ?_
    rintro r w1 ⟨rfl, h⟩
    replace g := Lib.hid (g.out.trans h)
    clear h
    go_wp2_with fail
    refine (K16.out _).mono ?_
    rintro r w1 ⟨rfl, h⟩
    replace g := Lib.hid (g.out.trans h)
    clear h
    go_wp2_with fail
    refine (K12.out _).mono ?_
    rintro r w1 ⟨rfl, rfl⟩
    go_wp2_with fail
    refine (K17.out _).mono ?_
    rintro r w1 ⟨rfl, h⟩
    replace g := Lib.hid (g.out.trans h)
    clear h
    go_wp2_with fail
    refine (K8.out _).mono ?_
    rintro r w1 ⟨rfl, h⟩
    replace g := Lib.hid (g.out.trans h)
    clear h
    go_wp2_with fail
    refine (K18.out _).mono ?_
    rintro r w1 ⟨rfl, h⟩
    replace g := Lib.hid (g.out.trans h)
    clear h
    go_wp2_with fail
    refine (K19.out _).mono ?_
    rintro r w1 ⟨rfl, rfl⟩
    go_wp2_with fail
    refine (KI.out _).mono ?_
    rintro r w1 ⟨rfl, h⟩
    replace g := Lib.hid (g.out.trans h)
    clear h
    go_wp2_with fail
    refine (K8.out _).mono ?_
    rintro r w1 ⟨rfl, h⟩
    replace g := Lib.hid (g.out.trans h)
    clear h
    go_wp2
    go_ret
    exact ⟨rfl, g.out⟩
  · have hne : ¬ x = 0 := hx0
    clear hx0
    have hI1 := inv_mul a (by omega)
    have hI2 := inv_lt a
    have ki : ∀ w, Calls Try.prog 9 #[.int .i64 a] w fun e w' => e = .returned (.tuple #[.int .i64 (invP a : Nat), .bool true]) ∧ Drew w w' := fun w => by
      have := inv_any a w ia; rw [show invV a = (invP a, true) by rw [invV, if_neg (by omega)]] at this; exact this
    generalize invP a = J at hI1 hI2 ki
    obtain ⟨I, hI⟩ : ∃ I : Int, I = (J : Nat) := ⟨_, rfl⟩
    rw [← hI] at hI1 ki
    have iI : isI64 I := by unfold isI64; omega
    have k91 : ∀ w, Calls Try.prog 25 #[.int .i64 I, .int .i64 2305843009213693951] w fun e w' => e = .returned (.bool true) ∧ w' = w := fun w => in_any I 2305843009213693951 w (by omega) (by omega)
    have k92 : ∀ w, Calls Try.prog 15 #[.int .i64 a, .int .i64 I] w fun e w' => e = .returned (.int .i64 1) ∧ Drew w w' := fun w => by
      have := mul_any a I w ia iI; rw [hI1] at this; exact this
    have k93 : ∀ w, Calls Try.prog 15 #[.int .i64 p, .int .i64 I] w fun e w' => e = .returned (.int .i64 bx) ∧ Drew w w' := fun w => by
      have := mul_any p I w ip iI
      rw [show p * I % 2305843009213693951 = bx by rw [hp, hbx, mulL, Int.mul_comm a b, Int.mul_assoc, ← mulR, hI1, Int.mul_one, Int.add_zero]] at this; exact this
    have KI := Lib.hid ki
    have K91 := Lib.hid k91
    have K92 := Lib.hid k92
    have K93 := Lib.hid k93
    clear ki k91 k92 k93 hI hI1 hI2 iI
    by_cases hb0 : bx = 0
    · have hp0 : p = 0 := by rw [hp, ← mulR, show b % 2305843009213693951 = 0 by omega, Int.mul_zero]; rfl
      subst hb0
      subst hp0
      have KS := Lib.hid small_any
      have g := Lib.hid (Drew.refl w)
      have K1 := Lib.hid k1
      have K2 := Lib.hid k2
      have K3 := Lib.hid k3
      have K4 := Lib.hid k4
      have K5 := Lib.hid k5
      have K6 := Lib.hid k6
      have K7 := Lib.hid k7
      have K8 := Lib.hid k8
      have K9 := Lib.hid k9
      have K10 := Lib.hid k10
      have K11 := Lib.hid k11
      have K12 := Lib.hid k12
      have K13 := Lib.hid k13
      have K14 := Lib.hid k14
      have K15 := Lib.hid k15
      have K16 := Lib.hid k16
      have K17 := Lib.hid k17
      have K18 := Lib.hid k18
      have K19 := Lib.hid k19
      have K20 := Lib.hid k20
      have K90 := Lib.hid k90
      clear k1 k2 k3 k4 k5 k6 k7 k8 k9 k10 k11 k12 k13 k14 k15 k16 k17 k18 k19 k20 k90 hx ix hbx ibx hab iab hbc ibc habc iabc hp ip hq iq hpc ipc hac iac habac iabac
      go_enter Try.func4, Try.ntmps4
      go_wp2_with fail
      refine (KS.out _).mono ?_
      rintro r w1 ⟨rfl, h⟩
      replace g := Lib.hid (g.out.trans h)
      clear h
      go_wp2_with fail
      refine (K1.out _).mono ?_
      rintro r w1 ⟨rfl, rfl⟩
      go_wp2_with fail
      refine (K90.out _).mono ?_
      rintro r w1 ⟨rfl, rfl⟩
      go_wp2_with fail
      refine (K2.out _).mono ?_
      rintro r w1 ⟨rfl, h⟩
      replace g := Lib.hid (g.out.trans h)
      clear h
      go_wp2_with fail
      refine (K3.out _).mono ?_
      rintro r w1 ⟨rfl, rfl⟩
      go_wp2_with fail
      refine (K4.out _).mono ?_
      rintro r w1 ⟨rfl, rfl⟩
      go_wp2_with fail
      refine (K5.out _).mono ?_
      rintro r w1 ⟨rfl, rfl⟩
      go_wp2_with fail
      refine (K6.out _).mono ?_
      rintro r w1 ⟨rfl, rfl⟩
      go_wp2_with fail
      refine (K7.out _).mono ?_
      rintro r w1 ⟨rfl, rfl⟩
      go_wp2_with fail
      refine (K8.out _).mono ?_
      rintro r w1 ⟨rfl, h⟩
      replace g := Lib.hid (g.out.trans h)
      clear h
      go_wp2_with fail
      refine (K9.out _).mono ?_
      rintro r w1 ⟨rfl, h⟩
      replace g := Lib.hid (g.out.trans h)
      clear h
      go_wp2_with fail
      refine (K6.out _).mono ?_
      rintro r w1 ⟨rfl, rfl⟩
      go_wp2_with fail
      refine (K10.out _).mono ?_
      rintro r w1 ⟨rfl, rfl⟩
      go_wp2_with fail
      refine (K6.out _).mono ?_
      rintro r w1 ⟨rfl, rfl⟩
      go_wp2_with fail
      refine (K11.out _).mono ?_
      rintro r w1 ⟨rfl, rfl⟩
      go_wp2_with fail
      refine (K12.out _).mono ?_
      rintro r w1 ⟨rfl, rfl⟩
      go_wp2_with fail
      refine (K13.out _).mono ?_
      rintro r w1 ⟨rfl, rfl⟩
      go_wp2_with fail
      refine (K8.out _).mono ?_
      rintro r w1 ⟨rfl, h⟩
      replace g := Lib.hid (g.out.trans h)
      clear h
      go_wp2_with fail
      refine (K14.out _).mono ?_
      rintro r w1 ⟨rfl, h⟩
      replace g := Lib.hid (g.out.trans h)
      clear h
      go_wp2_with fail
      refine (K15.out _).mono ?_
      rintro r w1 ⟨rfl, h⟩
      replace g := Lib.hid (g.out.trans h)
      clear h
      go_wp2_with fail
      refine (K16.out _).mono ?_
      rintro r w1 ⟨rfl, h⟩
      replace g := Lib.hid (g.out.trans h)
      clear h
      go_wp2_with fail
      refine (K12.out _).mono ?_
      rintro r w1 ⟨rfl, rfl⟩
      go_wp2_with fail
      refine (K17.out _).mono ?_
      rintro r w1 ⟨rfl, h⟩
      replace g := Lib.hid (g.out.trans h)
      clear h
      go_wp2_with fail
      refine (K8.out _).mono ?_
      rintro r w1 ⟨rfl, h⟩
      replace g := Lib.hid (g.out.trans h)
      clear h
      go_wp2_with fail
      refine (K18.out _).mono ?_
      rintro r w1 ⟨rfl, h⟩
      replace g := Lib.hid (g.out.trans h)
      clear h
      go_wp2_with fail
      refine (K19.out _).mono ?_
      rintro r w1 ⟨rfl, rfl⟩
      go_wp2_with fail
      refine (KI.out _).mono ?_
      rintro r w1 ⟨rfl, h⟩
      replace g := Lib.hid (g.out.trans h)
      clear h
      go_wp2_with fail
      refine (K91.out _).mono ?_
      rintro r w1 ⟨rfl, rfl⟩
      go_wp2_with fail
      refine (K92.out _).mono ?_
      rintro r w1 ⟨rfl, h⟩
      replace g := Lib.hid (g.out.trans h)
      clear h
      go_wp2_with fail
      refine (K9.out _).mono ?_
      rintro r w1 ⟨rfl, h⟩
      replace g := Lib.hid (g.out.trans h)
      clear h
      go_wp2_with fail
      refine (K93.out _).mono ?_
      rintro r w1 ⟨rfl, h⟩
      replace g := Lib.hid (g.out.trans h)
      clear h
      go_wp2_with fail
      refine (K20.out _).mono ?_
      rintro r w1 ⟨rfl, rfl⟩
      go_wp2_with fail
      refine (K8.out _).mono ?_
      rintro r w1 ⟨rfl, h⟩
      replace g := Lib.hid (g.out.trans h)
      clear h
      go_wp2_with fail
      refine (K20.out _).mono ?_
      rintro r w1 ⟨rfl, rfl⟩
      go_wp2
      go_ret
      exact ⟨congrArg (fun b => Ending.returned (.bool b)) (by simp [hne]), g.out⟩
    · have hp0 : ¬ p = 0 := fun h => by
        rw [hp] at h
        rcases no_zero_int a b h with h1 | h1 <;> omega
      have KS := Lib.hid small_any
      have g := Lib.hid (Drew.refl w)
      have K1 := Lib.hid k1
      have K2 := Lib.hid k2
      have K3 := Lib.hid k3
      have K4 := Lib.hid k4
      have K5 := Lib.hid k5
      have K6 := Lib.hid k6
      have K7 := Lib.hid k7
      have K8 := Lib.hid k8
      have K9 := Lib.hid k9
      have K10 := Lib.hid k10
      have K11 := Lib.hid k11
      have K12 := Lib.hid k12
      have K13 := Lib.hid k13
      have K14 := Lib.hid k14
      have K15 := Lib.hid k15
      have K16 := Lib.hid k16
      have K17 := Lib.hid k17
      have K18 := Lib.hid k18
      have K19 := Lib.hid k19
      have K20 := Lib.hid k20
      have K90 := Lib.hid k90
      clear k1 k2 k3 k4 k5 k6 k7 k8 k9 k10 k11 k12 k13 k14 k15 k16 k17 k18 k19 k20 k90 hx ix hbx ibx hab iab hbc ibc habc iabc hp ip hq iq hpc ipc hac iac habac iabac
      go_enter Try.func4, Try.ntmps4
      go_wp2_with fail
      refine (KS.out _).mono ?_
      rintro r w1 ⟨rfl, h⟩
      replace g := Lib.hid (g.out.trans h)
      clear h
      go_wp2_with fail
      refine (K1.out _).mono ?_
      rintro r w1 ⟨rfl, rfl⟩
      go_wp2_with fail
      refine (K90.out _).mono ?_
      rintro r w1 ⟨rfl, rfl⟩
      go_wp2_with fail
      refine (K2.out _).mono ?_
      rintro r w1 ⟨rfl, h⟩
      replace g := Lib.hid (g.out.trans h)
      clear h
      go_wp2_with fail
      refine (K3.out _).mono ?_
      rintro r w1 ⟨rfl, rfl⟩
      go_wp2_with fail
      refine (K4.out _).mono ?_
      rintro r w1 ⟨rfl, rfl⟩
      go_wp2_with fail
      refine (K5.out _).mono ?_
      rintro r w1 ⟨rfl, rfl⟩
      go_wp2_with fail
      refine (K6.out _).mono ?_
      rintro r w1 ⟨rfl, rfl⟩
      go_wp2_with fail
      refine (K7.out _).mono ?_
      rintro r w1 ⟨rfl, rfl⟩
      go_wp2_with fail
      refine (K8.out _).mono ?_
      rintro r w1 ⟨rfl, h⟩
      replace g := Lib.hid (g.out.trans h)
      clear h
      go_wp2_with fail
      refine (K9.out _).mono ?_
      rintro r w1 ⟨rfl, h⟩
      replace g := Lib.hid (g.out.trans h)
      clear h
      go_wp2_with fail
      refine (K6.out _).mono ?_
      rintro r w1 ⟨rfl, rfl⟩
      go_wp2_with fail
      refine (K10.out _).mono ?_
      rintro r w1 ⟨rfl, rfl⟩
      go_wp2_with fail
      refine (K6.out _).mono ?_
      rintro r w1 ⟨rfl, rfl⟩
      go_wp2_with fail
      refine (K11.out _).mono ?_
      rintro r w1 ⟨rfl, rfl⟩
      go_wp2_with fail
      refine (K12.out _).mono ?_
      rintro r w1 ⟨rfl, rfl⟩
      go_wp2_with fail
      refine (K13.out _).mono ?_
      rintro r w1 ⟨rfl, rfl⟩
      go_wp2_with fail
      refine (K8.out _).mono ?_
      rintro r w1 ⟨rfl, h⟩
      replace g := Lib.hid (g.out.trans h)
      clear h
      go_wp2_with fail
      refine (K14.out _).mono ?_
      rintro r w1 ⟨rfl, h⟩
      replace g := Lib.hid (g.out.trans h)
      clear h
      go_wp2_with fail
      refine (K15.out _).mono ?_
      rintro r w1 ⟨rfl, h⟩
      replace g := Lib.hid (g.out.trans h)
      clear h
      go_wp2_with fail
      refine (K16.out _).mono ?_
      rintro r w1 ⟨rfl, h⟩
      replace g := Lib.hid (g.out.trans h)
      clear h
      go_wp2_with fail
      refine (K12.out _).mono ?_
      rintro r w1 ⟨rfl, rfl⟩
      go_wp2_with fail
      refine (K17.out _).mono ?_
      rintro r w1 ⟨rfl, h⟩
      replace g := Lib.hid (g.out.trans h)
      clear h
      go_wp2_with fail
      refine (K8.out _).mono ?_
      rintro r w1 ⟨rfl, h⟩
      replace g := Lib.hid (g.out.trans h)
      clear h
      go_wp2_with fail
      refine (K18.out _).mono ?_
      rintro r w1 ⟨rfl, h⟩
      replace g := Lib.hid (g.out.trans h)
      clear h
      go_wp2_with fail
      refine (K19.out _).mono ?_
      rintro r w1 ⟨rfl, rfl⟩
      go_wp2_with fail
      refine (KI.out _).mono ?_
      rintro r w1 ⟨rfl, h⟩
      replace g := Lib.hid (g.out.trans h)
      clear h
      go_wp2_with fail
      refine (K91.out _).mono ?_
      rintro r w1 ⟨rfl, rfl⟩
      go_wp2_with fail
      refine (K92.out _).mono ?_
      rintro r w1 ⟨rfl, h⟩
      replace g := Lib.hid (g.out.trans h)
      clear h
      go_wp2_with fail
      refine (K9.out _).mono ?_
      rintro r w1 ⟨rfl, h⟩
      replace g := Lib.hid (g.out.trans h)
      clear h
      go_wp2_with fail
      refine (K93.out _).mono ?_
      rintro r w1 ⟨rfl, h⟩
      replace g := Lib.hid (g.out.trans h)
      clear h
      go_wp2_with fail
      refine (K20.out _).mono ?_
      rintro r w1 ⟨rfl, rfl⟩
      go_wp2_with fail
      refine (K8.out _).mono ?_
      rintro r w1 ⟨rfl, h⟩
      replace g := Lib.hid (g.out.trans h)
      clear h
      go_wp2_with fail
      refine (K20.out _).mono ?_
      rintro r w1 ⟨rfl, rfl⟩
      go_wp2
      go_ret
      exact ⟨congrArg (fun b => Ending.returned (.bool b)) (by rw [beq_eq_false_iff_ne.2 hp0, beq_eq_false_iff_ne.2 hb0, beq_eq_false_iff_ne.2 hne, bne_iff_ne.2 hne]; rfl), g.out⟩
end Go.Proofs.Ytfldbddjpdbmpaa
