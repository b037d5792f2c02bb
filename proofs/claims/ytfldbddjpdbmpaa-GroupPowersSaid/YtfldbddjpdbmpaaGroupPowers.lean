/-
  Layer 4: GroupPowers' walk.
-/
import Derived.Test.YtfldbddjpdbmpaaGroupPow
namespace Go.Proofs.Ytfldbddjpdbmpaa
open Go.RowKit

set_option maxHeartbeats 8000000 in
set_option maxRecDepth 100000 in
theorem powers_walk (a b d e : Int) (w : World) (ia : isI64 a) (ib : isI64 b) (id : isI64 d) (ie : isI64 e) :
    Calls Try.prog 5 #[.int .i64 a, .int .i64 b, .int .i64 d, .int .i64 e] w fun r w' => r = .returned (.bool true) ∧ Drew w w' := by
  have KS := Lib.hid small_any
  have g := Lib.hid (Drew.refl w)
  obtain ⟨U, hU⟩ : ∃ z : Int, z = (powP a d : Nat) := ⟨_, rfl⟩
  obtain ⟨V, hV⟩ : ∃ z : Int, z = (powP a e : Nat) := ⟨_, rfl⟩
  obtain ⟨Z, hZ⟩ : ∃ z : Int, z = (powP b d : Nat) := ⟨_, rfl⟩
  have iU : isI64 U := by have := powP_lt a d; unfold isI64; omega
  have iV : isI64 V := by have := powP_lt a e; unfold isI64; omega
  have iZ : isI64 Z := by have := powP_lt b d; unfold isI64; omega
  obtain ⟨x, hx⟩ : ∃ z : Int, z = (a + 0) % 2305843009213693951 := ⟨_, rfl⟩
  obtain ⟨y, hy⟩ : ∃ z : Int, z = (b + 0) % 2305843009213693951 := ⟨_, rfl⟩
  obtain ⟨s, hs⟩ : ∃ z : Int, z = a * a % 2305843009213693951 := ⟨_, rfl⟩
  have k1 : ∀ w, Calls Try.prog 17 #[.int .i64 a, .int .i64 0] w fun e w' => e = .returned (.int .i64 1) ∧ Drew w w' := fun w => by
    have := exp_any a 0 w ia (by unfold isI64; omega); rw [pow_0] at this; exact this
  have k2 : ∀ w, Calls Try.prog 17 #[.int .i64 a, .int .i64 1] w fun e w' => e = .returned (.int .i64 x) ∧ Drew w w' := fun w => by
    have := exp_any a 1 w ia (by unfold isI64; omega); rw [pow_1, ← hx] at this; exact this
  have k3 : ∀ w, Calls Try.prog 11 #[.int .i64 a, .int .i64 0] w fun e w' => e = .returned (.int .i64 x) ∧ w' = w := fun w => by
    rw [hx]; exact add_any a 0 w ia (by unfold isI64; omega)
  have k4 : ∀ w, Calls Try.prog 17 #[.int .i64 a, .int .i64 2] w fun e w' => e = .returned (.int .i64 s) ∧ Drew w w' := fun w => by
    have := exp_any a 2 w ia (by unfold isI64; omega); rw [pow_2, ← hs] at this; exact this
  have k5 : ∀ w, Calls Try.prog 15 #[.int .i64 a, .int .i64 a] w fun e w' => e = .returned (.int .i64 s) ∧ Drew w w' := fun w => by
    rw [hs]; exact mul_any a a w ia ia
  have k6 : ∀ w, Calls Try.prog 11 #[.int .i64 b, .int .i64 0] w fun e w' => e = .returned (.int .i64 y) ∧ w' = w := fun w => by
    rw [hy]; exact add_any b 0 w ib (by unfold isI64; omega)
  have K1 := Lib.hid k1
  have K2 := Lib.hid k2
  have K3 := Lib.hid k3
  have K4 := Lib.hid k4
  have K5 := Lib.hid k5
  have K6 := Lib.hid k6
  clear k1 k2 k3 k4 k5 k6
  by_cases hx0 : x = 0
  · subst hx0
    clear hU hV hZ hx hy hs iU iV iZ
    go_enter Try.func5, Try.ntmps5
    go_wp2_with fail
    refine (KS.out _).mono ?_
    rintro r w1 ⟨rfl, h⟩
    replace g := Lib.hid (g.out.trans h)
    clear h
    go_wp2_with fail
    refine (K1.out _).mono ?_
    rintro r w1 ⟨rfl, h⟩
    replace g := Lib.hid (g.out.trans h)
    clear h
    go_wp2_with fail
    refine (K2.out _).mono ?_
    rintro r w1 ⟨rfl, h⟩
    replace g := Lib.hid (g.out.trans h)
    clear h
    go_wp2_with fail
    refine (K3.out _).mono ?_
    rintro r w1 ⟨rfl, rfl⟩
    go_wp2_with fail
    refine (K4.out _).mono ?_
    rintro r w1 ⟨rfl, h⟩
    replace g := Lib.hid (g.out.trans h)
    clear h
    go_wp2_with fail
    refine (K5.out _).mono ?_
    rintro r w1 ⟨rfl, h⟩
    replace g := Lib.hid (g.out.trans h)
    clear h
    go_wp2_with fail
    refine (K3.out _).mono ?_
    rintro r w1 ⟨rfl, rfl⟩
    go_wp2
    go_ret
    exact ⟨rfl, g.out⟩
  · by_cases hy0 : y = 0
    · subst hy0
      clear hU hV hZ hx hy hs iU iV iZ
      go_enter Try.func5, Try.ntmps5
      go_wp2_with fail
      refine (KS.out _).mono ?_
      rintro r w1 ⟨rfl, h⟩
      replace g := Lib.hid (g.out.trans h)
      clear h
      go_wp2_with fail
      refine (K1.out _).mono ?_
      rintro r w1 ⟨rfl, h⟩
      replace g := Lib.hid (g.out.trans h)
      clear h
      go_wp2_with fail
      refine (K2.out _).mono ?_
      rintro r w1 ⟨rfl, h⟩
      replace g := Lib.hid (g.out.trans h)
      clear h
      go_wp2_with fail
      refine (K3.out _).mono ?_
      rintro r w1 ⟨rfl, rfl⟩
      go_wp2_with fail
      refine (K4.out _).mono ?_
      rintro r w1 ⟨rfl, h⟩
      replace g := Lib.hid (g.out.trans h)
      clear h
      go_wp2_with fail
      refine (K5.out _).mono ?_
      rintro r w1 ⟨rfl, h⟩
      replace g := Lib.hid (g.out.trans h)
      clear h
      go_wp2_with fail
      refine (K3.out _).mono ?_
      rintro r w1 ⟨rfl, rfl⟩
      go_wp2_with fail
      refine (K6.out _).mono ?_
      rintro r w1 ⟨rfl, rfl⟩
      go_wp2
      go_ret
      exact ⟨rfl, g.out⟩
    · have ha : ¬ a % 2305843009213693951 = 0 := by omega
      have hb : ¬ b % 2305843009213693951 = 0 := by omega
      obtain ⟨uv, huv⟩ : ∃ z : Int, z = U * V % 2305843009213693951 := ⟨_, rfl⟩
      obtain ⟨de, hde⟩ : ∃ z : Int, z = (d + e) % 2305843009213693950 := ⟨_, rfl⟩
      obtain ⟨dm, hdm⟩ : ∃ z : Int, z = d * e % 2305843009213693950 := ⟨_, rfl⟩
      obtain ⟨t, ht⟩ : ∃ z : Int, z = (powP U e : Nat) := ⟨_, rfl⟩
      obtain ⟨q, hq⟩ : ∃ z : Int, z = U * Z % 2305843009213693951 := ⟨_, rfl⟩
      obtain ⟨ab, hab⟩ : ∃ z : Int, z = a * b % 2305843009213693951 := ⟨_, rfl⟩
      obtain ⟨n, hn⟩ : ∃ z : Int, z = (0 - d) % 2305843009213693950 := ⟨_, rfl⟩
      obtain ⟨i, hi⟩ : ∃ z : Nat, z = powP a n := ⟨_, rfl⟩
      obtain ⟨dz, hdz⟩ : ∃ z : Int, z = (d + 0) % 2305843009213693950 := ⟨_, rfl⟩
      have ide : isI64 de := by unfold isI64; omega
      have idm : isI64 dm := by unfold isI64; omega
      have iab : isI64 ab := by unfold isI64; omega
      have inn : isI64 n := by unfold isI64; omega
      have idz : isI64 dz := by unfold isI64; omega
      have bx0 : (x == 0) = false := beq_eq_false_iff_ne.2 hx0
      have by0 : (y == 0) = false := beq_eq_false_iff_ne.2 hy0
      have k7 : ∀ w, Calls Try.prog 17 #[.int .i64 a, .int .i64 d] w fun e w' => e = .returned (.int .i64 U) ∧ Drew w w' := fun w => by
        rw [hU]; exact exp_any a d w ia id
      have k8 : ∀ w, Calls Try.prog 17 #[.int .i64 a, .int .i64 e] w fun e w' => e = .returned (.int .i64 V) ∧ Drew w w' := fun w => by
        rw [hV]; exact exp_any a e w ia ie
      have k9 : ∀ w, Calls Try.prog 15 #[.int .i64 U, .int .i64 V] w fun e w' => e = .returned (.int .i64 uv) ∧ Drew w w' := fun w => by
        rw [huv]; exact mul_any U V w iU iV
      have k10 : ∀ w, Calls Try.prog 19 #[.int .i64 d, .int .i64 e] w fun e w' => e = .returned (.int .i64 de) ∧ w' = w := fun w => by
        rw [hde]; exact addN_any d e w id ie
      have k11 : ∀ w, Calls Try.prog 17 #[.int .i64 a, .int .i64 de] w fun e w' => e = .returned (.int .i64 uv) ∧ Drew w w' := fun w => by
        rw [huv, hU, hV, pow_sum a d e ha, ← hde]; exact exp_any a de w ia ide
      have k12 : ∀ w, Calls Try.prog 17 #[.int .i64 U, .int .i64 e] w fun e w' => e = .returned (.int .i64 t) ∧ Drew w w' := fun w => by
        rw [ht]; exact exp_any U e w iU ie
      have k13 : ∀ w, Calls Try.prog 23 #[.int .i64 d, .int .i64 e] w fun e w' => e = .returned (.int .i64 dm) ∧ Drew w w' := fun w => by
        rw [hdm]; exact mulN_any d e w id ie
      have k14 : ∀ w, Calls Try.prog 17 #[.int .i64 a, .int .i64 dm] w fun e w' => e = .returned (.int .i64 t) ∧ Drew w w' := fun w => by
        rw [ht, hU, pow_pow a d e ha, ← hdm]; exact exp_any a dm w ia idm
      have k15 : ∀ w, Calls Try.prog 17 #[.int .i64 b, .int .i64 d] w fun e w' => e = .returned (.int .i64 Z) ∧ Drew w w' := fun w => by
        rw [hZ]; exact exp_any b d w ib id
      have k16 : ∀ w, Calls Try.prog 15 #[.int .i64 U, .int .i64 Z] w fun e w' => e = .returned (.int .i64 q) ∧ Drew w w' := fun w => by
        rw [hq]; exact mul_any U Z w iU iZ
      have k17 : ∀ w, Calls Try.prog 15 #[.int .i64 a, .int .i64 b] w fun e w' => e = .returned (.int .i64 ab) ∧ Drew w w' := fun w => by
        rw [hab]; exact mul_any a b w ia ib
      have k18 : ∀ w, Calls Try.prog 17 #[.int .i64 ab, .int .i64 d] w fun e w' => e = .returned (.int .i64 q) ∧ Drew w w' := fun w => by
        rw [hq, hU, hZ, pow_prod a b d ha hb, ← hab]; exact exp_any ab d w iab id
      have k19 : ∀ w, Calls Try.prog 9 #[.int .i64 U] w fun e w' => e = .returned (.tuple #[.int .i64 (i : Nat), .bool true]) ∧ Drew w w' := fun w => by
        have := inv_any U w iU
        rw [show invV U = (i, true) by rw [hU, pow_inv a d ha, ← hn, ← hi]] at this
        exact this
      have k20 : ∀ w, Calls Try.prog 21 #[.int .i64 0, .int .i64 d] w fun e w' => e = .returned (.int .i64 n) ∧ w' = w := fun w => by
        rw [hn]; exact subN_any 0 d w (by unfold isI64; omega) id
      have k21 : ∀ w, Calls Try.prog 17 #[.int .i64 a, .int .i64 n] w fun e w' => e = .returned (.int .i64 (i : Nat)) ∧ Drew w w' := fun w => by
        rw [hi]; exact exp_any a n w ia inn
      have k22 : ∀ w, Calls Try.prog 19 #[.int .i64 d, .int .i64 0] w fun e w' => e = .returned (.int .i64 dz) ∧ w' = w := fun w => by
        rw [hdz]; exact addN_any d 0 w id (by unfold isI64; omega)
      have k23 : ∀ w, Calls Try.prog 17 #[.int .i64 a, .int .i64 dz] w fun e w' => e = .returned (.int .i64 U) ∧ Drew w w' := fun w => by
        rw [hU, pow_same a d dz ha (by omega)]; exact exp_any a dz w ia idz
      have K7 := Lib.hid k7
      have K8 := Lib.hid k8
      have K9 := Lib.hid k9
      have K10 := Lib.hid k10
      have K11 := Lib.hid k11
      have K12 := Lib.hid k12
      have K13 := Lib.hid k13
      have K14 := Lib.hid k14
      have K15 := Lib.hid k15
      have K16 := Lib.hid k16
      have K17 := Lib.hid k17
      have K18 := Lib.hid k18
      have K19 := Lib.hid k19
      have K20 := Lib.hid k20
      have K21 := Lib.hid k21
      have K22 := Lib.hid k22
      have K23 := Lib.hid k23
      clear k7 k8 k9 k10 k11 k12 k13 k14 k15 k16 k17 k18 k19 k20 k21 k22 k23 hU hV hZ hx hy hs iU iV iZ ha hb huv hde hdm ht hq hab hn hi hdz ide idm iab inn idz
      go_enter Try.func5, Try.ntmps5
      go_wp2_with fail
      refine (KS.out _).mono ?_
      rintro r w1 ⟨rfl, h⟩
      replace g := Lib.hid (g.out.trans h)
      clear h
      go_wp2_with fail
      refine (K1.out _).mono ?_
      rintro r w1 ⟨rfl, h⟩
      replace g := Lib.hid (g.out.trans h)
      clear h
      go_wp2_with fail
      refine (K2.out _).mono ?_
      rintro r w1 ⟨rfl, h⟩
      replace g := Lib.hid (g.out.trans h)
      clear h
      go_wp2_with fail
      refine (K3.out _).mono ?_
      rintro r w1 ⟨rfl, rfl⟩
      go_wp2_with fail
      refine (K4.out _).mono ?_
      rintro r w1 ⟨rfl, h⟩
      replace g := Lib.hid (g.out.trans h)
      clear h
      go_wp2_with fail
      refine (K5.out _).mono ?_
      rintro r w1 ⟨rfl, h⟩
      replace g := Lib.hid (g.out.trans h)
      clear h
      go_wp2_with fail
      refine (K3.out _).mono ?_
      rintro r w1 ⟨rfl, rfl⟩
      go_wp2_with fail
      refine (K6.out _).mono ?_
      rintro r w1 ⟨rfl, rfl⟩
      go_wp2_with fail
      refine (K7.out _).mono ?_
      rintro r w1 ⟨rfl, h⟩
      replace g := Lib.hid (g.out.trans h)
      clear h
      go_wp2_with fail
      refine (K8.out _).mono ?_
      rintro r w1 ⟨rfl, h⟩
      replace g := Lib.hid (g.out.trans h)
      clear h
      go_wp2_with fail
      refine (K9.out _).mono ?_
      rintro r w1 ⟨rfl, h⟩
      replace g := Lib.hid (g.out.trans h)
      clear h
      go_wp2_with fail
      refine (K10.out _).mono ?_
      rintro r w1 ⟨rfl, rfl⟩
      go_wp2_with fail
      refine (K11.out _).mono ?_
      rintro r w1 ⟨rfl, h⟩
      replace g := Lib.hid (g.out.trans h)
      clear h
      go_wp2_with fail
      refine (K7.out _).mono ?_
      rintro r w1 ⟨rfl, h⟩
      replace g := Lib.hid (g.out.trans h)
      clear h
      go_wp2_with fail
      refine (K12.out _).mono ?_
      rintro r w1 ⟨rfl, h⟩
      replace g := Lib.hid (g.out.trans h)
      clear h
      go_wp2_with fail
      refine (K13.out _).mono ?_
      rintro r w1 ⟨rfl, h⟩
      replace g := Lib.hid (g.out.trans h)
      clear h
      go_wp2_with fail
      refine (K14.out _).mono ?_
      rintro r w1 ⟨rfl, h⟩
      replace g := Lib.hid (g.out.trans h)
      clear h
      go_wp2_with fail
      refine (K7.out _).mono ?_
      rintro r w1 ⟨rfl, h⟩
      replace g := Lib.hid (g.out.trans h)
      clear h
      go_wp2_with fail
      refine (K15.out _).mono ?_
      rintro r w1 ⟨rfl, h⟩
      replace g := Lib.hid (g.out.trans h)
      clear h
      go_wp2_with fail
      refine (K16.out _).mono ?_
      rintro r w1 ⟨rfl, h⟩
      replace g := Lib.hid (g.out.trans h)
      clear h
      go_wp2_with fail
      refine (K17.out _).mono ?_
      rintro r w1 ⟨rfl, h⟩
      replace g := Lib.hid (g.out.trans h)
      clear h
      go_wp2_with fail
      refine (K18.out _).mono ?_
      rintro r w1 ⟨rfl, h⟩
      replace g := Lib.hid (g.out.trans h)
      clear h
      go_wp2_with fail
      refine (K7.out _).mono ?_
      rintro r w1 ⟨rfl, h⟩
      replace g := Lib.hid (g.out.trans h)
      clear h
      go_wp2_with fail
      refine (K19.out _).mono ?_
      rintro r w1 ⟨rfl, h⟩
      replace g := Lib.hid (g.out.trans h)
      clear h
      go_wp2_with fail
      refine (K20.out _).mono ?_
      rintro r w1 ⟨rfl, rfl⟩
      go_wp2_with fail
      refine (K21.out _).mono ?_
      rintro r w1 ⟨rfl, h⟩
      replace g := Lib.hid (g.out.trans h)
      clear h
      go_wp2_with fail
      refine (K7.out _).mono ?_
      rintro r w1 ⟨rfl, h⟩
      replace g := Lib.hid (g.out.trans h)
      clear h
      go_wp2_with fail
      refine (K22.out _).mono ?_
      rintro r w1 ⟨rfl, rfl⟩
      go_wp2_with fail
      refine (K23.out _).mono ?_
      rintro r w1 ⟨rfl, h⟩
      replace g := Lib.hid (g.out.trans h)
      clear h
      go_wp2
      go_ret
      exact ⟨rfl, g.out⟩
end Go.Proofs.Ytfldbddjpdbmpaa
