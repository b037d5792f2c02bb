/-
  Layer 4: GroupTells' walk.
-/
import Derived.Test.YtfldbddjpdbmpaaGroupSmall
namespace Go.Proofs.Ytfldbddjpdbmpaa
open Go.RowKit

set_option maxHeartbeats 8000000 in
set_option maxRecDepth 100000 in
theorem tells_walk (a b : Int) (w : World) (ia : isI64 a) (ib : isI64 b) :
    Calls Try.prog 3 #[.int .i64 a, .int .i64 b] w fun e w' => e = .returned (.bool true) ∧ Drew w w' := by
  have KS := Lib.hid small_any
  have g := Lib.hid (Drew.refl w)
  have ki := fun w => inv_any a w ia
  have kj := fun w => refInv_pair a w
  obtain ⟨I, hI⟩ : ∃ I, I = (invV a).1 := ⟨_, rfl⟩
  obtain ⟨J, hJ⟩ : ∃ I, I = (invV a).2 := ⟨_, rfl⟩
  rw [← hI, ← hJ] at ki kj
  clear hI hJ
  obtain ⟨radd, hradd⟩ : ∃ z : Int, z = (a + b) % 2305843009213693951 := ⟨_, rfl⟩
  obtain ⟨rsub, hrsub⟩ : ∃ z : Int, z = (a - b) % 2305843009213693951 := ⟨_, rfl⟩
  obtain ⟨rmul, hrmul⟩ : ∃ z : Int, z = (a * b) % 2305843009213693951 := ⟨_, rfl⟩
  obtain ⟨re, hre⟩ : ∃ z : Nat, z = powP a b := ⟨_, rfl⟩
  obtain ⟨raddN, hraddN⟩ : ∃ z : Int, z = (a + b) % 2305843009213693950 := ⟨_, rfl⟩
  obtain ⟨rsubN, hrsubN⟩ : ∃ z : Int, z = (a - b) % 2305843009213693950 := ⟨_, rfl⟩
  obtain ⟨rmulN, hrmulN⟩ : ∃ z : Int, z = (a * b) % 2305843009213693950 := ⟨_, rfl⟩
  have k1 : ∀ w, Calls Try.prog 9 #[.int .i64 a] w fun e w' => e = .returned (.tuple #[.int .i64 (I : Nat), .bool J]) ∧ Drew w w' := fun w => by
    exact ki w
  have k2 : ∀ w, Calls Try.prog 10 #[.int .i64 a] w fun e w' => e = .returned (.tuple #[.int .i64 (I : Nat), .bool J]) ∧ w' = w := fun w => by
    exact kj w
  have k3 : ∀ w, Calls Try.prog 11 #[.int .i64 a, .int .i64 b] w fun e w' => e = .returned (.int .i64 radd) ∧ w' = w := fun w => by
    rw [hradd]; exact add_any a b w ia ib
  have k4 : ∀ w, Calls Try.prog 12 #[.int .i64 a, .int .i64 b] w fun e w' => e = .returned (.int .i64 radd) ∧ w' = w := fun w => by
    rw [hradd]; exact refAdd_any a b w
  have k5 : ∀ w, Calls Try.prog 13 #[.int .i64 a, .int .i64 b] w fun e w' => e = .returned (.int .i64 rsub) ∧ w' = w := fun w => by
    rw [hrsub]; exact sub_any a b w ia ib
  have k6 : ∀ w, Calls Try.prog 14 #[.int .i64 a, .int .i64 b] w fun e w' => e = .returned (.int .i64 rsub) ∧ w' = w := fun w => by
    rw [hrsub]; exact refSub_any a b w
  have k7 : ∀ w, Calls Try.prog 15 #[.int .i64 a, .int .i64 b] w fun e w' => e = .returned (.int .i64 rmul) ∧ Drew w w' := fun w => by
    rw [hrmul]; exact mul_any a b w ia ib
  have k8 : ∀ w, Calls Try.prog 16 #[.int .i64 a, .int .i64 b] w fun e w' => e = .returned (.int .i64 rmul) ∧ w' = w := fun w => by
    rw [hrmul]; exact refMul_any a b w
  have k9 : ∀ w, Calls Try.prog 17 #[.int .i64 a, .int .i64 b] w fun e w' => e = .returned (.int .i64 (re : Nat)) ∧ Drew w w' := fun w => by
    rw [hre]; exact exp_any a b w ia ib
  have k10 : ∀ w, Calls Try.prog 18 #[.int .i64 a, .int .i64 b] w fun e w' => e = .returned (.int .i64 (re : Nat)) ∧ w' = w := fun w => by
    rw [hre]; exact refExp_any a b w ib
  have k11 : ∀ w, Calls Try.prog 19 #[.int .i64 a, .int .i64 b] w fun e w' => e = .returned (.int .i64 raddN) ∧ w' = w := fun w => by
    rw [hraddN]; exact addN_any a b w ia ib
  have k12 : ∀ w, Calls Try.prog 20 #[.int .i64 a, .int .i64 b] w fun e w' => e = .returned (.int .i64 raddN) ∧ w' = w := fun w => by
    rw [hraddN]; exact refAddN_any a b w
  have k13 : ∀ w, Calls Try.prog 21 #[.int .i64 a, .int .i64 b] w fun e w' => e = .returned (.int .i64 rsubN) ∧ w' = w := fun w => by
    rw [hrsubN]; exact subN_any a b w ia ib
  have k14 : ∀ w, Calls Try.prog 22 #[.int .i64 a, .int .i64 b] w fun e w' => e = .returned (.int .i64 rsubN) ∧ w' = w := fun w => by
    rw [hrsubN]; exact refSubN_any a b w
  have k15 : ∀ w, Calls Try.prog 23 #[.int .i64 a, .int .i64 b] w fun e w' => e = .returned (.int .i64 rmulN) ∧ Drew w w' := fun w => by
    rw [hrmulN]; exact mulN_any a b w ia ib
  have k16 : ∀ w, Calls Try.prog 24 #[.int .i64 a, .int .i64 b] w fun e w' => e = .returned (.int .i64 rmulN) ∧ w' = w := fun w => by
    rw [hrmulN]; exact refMulN_any a b w
  have K1 := Lib.hid k1
  have K2 := Lib.hid k2
  have K3 := Lib.hid k3
  have K4 := Lib.hid k4
  have K5 := Lib.hid k5
  have K6 := Lib.hid k6
  have K7 := Lib.hid k7
  have K8 := Lib.hid k8
  have K9 := Lib.hid k9
  have K10 := Lib.hid k10
  have K11 := Lib.hid k11
  have K12 := Lib.hid k12
  have K13 := Lib.hid k13
  have K14 := Lib.hid k14
  have K15 := Lib.hid k15
  have K16 := Lib.hid k16
  clear k1 k2 k3 k4 k5 k6 k7 k8 k9 k10 k11 k12 k13 k14 k15 k16 ki kj hradd hrsub hrmul hre hraddN hrsubN hrmulN
  go_enter Try.func3, Try.ntmps3
  go_wp2_with fail
  refine (KS.out _).mono ?_
  rintro r w1 ⟨rfl, h⟩
  replace g := Lib.hid (g.out.trans h)
  clear h
  go_wp2_with fail
  refine (K1.out _).mono ?_
  rintro r w1 ⟨rfl, h⟩
  replace g := Lib.hid (g.out.trans h)
  clear h
  go_wp2_with fail
  refine (K2.out _).mono ?_
  rintro r w1 ⟨rfl, rfl⟩
  go_wp2_with fail
  refine (K3.out _).mono ?_
  rintro r w1 ⟨rfl, rfl⟩
  go_wp2_with fail
  refine (K4.out _).mono ?_
  rintro r w1 ⟨rfl, rfl⟩
  go_wp2_with fail
  refine (K5.out _).mono ?_
  rintro r w1 ⟨rfl, rfl⟩
  go_wp2_with fail
  refine (K6.out _).mono ?_
  rintro r w1 ⟨rfl, rfl⟩
  go_wp2_with fail
  refine (K7.out _).mono ?_
  rintro r w1 ⟨rfl, h⟩
  replace g := Lib.hid (g.out.trans h)
  clear h
  go_wp2_with fail
  refine (K8.out _).mono ?_
  rintro r w1 ⟨rfl, rfl⟩
  go_wp2_with fail
  refine (K9.out _).mono ?_
  rintro r w1 ⟨rfl, h⟩
  replace g := Lib.hid (g.out.trans h)
  clear h
  go_wp2_with fail
  refine (K10.out _).mono ?_
  rintro r w1 ⟨rfl, rfl⟩
  go_wp2_with fail
  refine (K11.out _).mono ?_
  rintro r w1 ⟨rfl, rfl⟩
  go_wp2_with fail
  refine (K12.out _).mono ?_
  rintro r w1 ⟨rfl, rfl⟩
  go_wp2_with fail
  refine (K13.out _).mono ?_
  rintro r w1 ⟨rfl, rfl⟩
  go_wp2_with fail
  refine (K14.out _).mono ?_
  rintro r w1 ⟨rfl, rfl⟩
  go_wp2_with fail
  refine (K15.out _).mono ?_
  rintro r w1 ⟨rfl, h⟩
  replace g := Lib.hid (g.out.trans h)
  clear h
  go_wp2_with fail
  refine (K16.out _).mono ?_
  rintro r w1 ⟨rfl, rfl⟩
  go_wp2
  go_ret
  exact ⟨rfl, g.out⟩
end Go.Proofs.Ytfldbddjpdbmpaa
