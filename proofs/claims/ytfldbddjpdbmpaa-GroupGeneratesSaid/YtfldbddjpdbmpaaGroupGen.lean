/-
  Layer 4: GroupGenerates' walk.
-/
import Derived.Test.YtfldbddjpdbmpaaGroupPow
namespace Go.Proofs.Ytfldbddjpdbmpaa
open Go.RowKit

set_option maxHeartbeats 8000000 in
set_option maxRecDepth 100000 in
theorem gen_walk (d e : Int) (w : World) (id : isI64 d) (ie : isI64 e) :
    Calls Try.prog 7 #[.int .i64 d, .int .i64 e] w fun r w' => r = .returned (.bool true) ∧ Drew w w' := by
  have KS := Lib.hid small_any
  have g := Lib.hid (Drew.refl w)
  have hgs := gen_same d e
  have hX1 := powP_lt 37 d
  have hX2 := powP_ne 37 d (by decide)
  have i37 : isI64 37 := by unfold isI64; omega
  obtain ⟨X, hX⟩ : ∃ z : Int, z = (powP 37 d : Nat) := ⟨_, rfl⟩
  obtain ⟨Y, hY⟩ : ∃ z : Int, z = (powP 37 e : Nat) := ⟨_, rfl⟩
  obtain ⟨z, hz⟩ : ∃ z : Int, z = (d - e) % 2305843009213693950 := ⟨_, rfl⟩
  have k1 : ∀ w, Calls Try.prog 17 #[.int .i64 37, .int .i64 d] w fun e w' => e = .returned (.int .i64 X) ∧ Drew w w' := fun w => by
    rw [hX]; exact exp_any 37 d w i37 id
  have k2 : ∀ w, Calls Try.prog 17 #[.int .i64 37, .int .i64 e] w fun e w' => e = .returned (.int .i64 Y) ∧ Drew w w' := fun w => by
    rw [hY]; exact exp_any 37 e w i37 ie
  have k3 : ∀ w, Calls Try.prog 21 #[.int .i64 d, .int .i64 e] w fun e w' => e = .returned (.int .i64 z) ∧ w' = w := fun w => by
    rw [hz]; exact subN_any d e w id ie
  have K1 := Lib.hid k1
  have K2 := Lib.hid k2
  have K3 := Lib.hid k3
  clear k1 k2 k3 
  rw [← hz] at hgs
  have hXY : X = Y ↔ z = 0 := by rw [← hgs, hX, hY]; exact Int.ofNat_inj
  have b1 : decide ((1 : Int) ≤ X) = true := decide_eq_true (by omega)
  have b2 : decide ((X : Int) < 2305843009213693951) = true := decide_eq_true (by omega)
  by_cases h0 : z = 0
  · obtain rfl := hXY.2 h0
    subst h0
    clear hXY hgs hX hY hz hX1 hX2 i37
    go_enter Try.func7, Try.ntmps7
    go_wp2_with fail
    refine (KS.out _).mono ?_
    rintro r w1 ⟨rfl, h⟩
    replace g := Lib.hid (g.out.trans h)
    clear h
    go_wp2_with fail
    refine (K1.out _).mono ?_
    rintro r w1 ⟨rfl, h⟩
    replace g := Lib.hid (g.out.trans h)
    clear h
    go_wp2_with fail
    refine (K2.out _).mono ?_
    rintro r w1 ⟨rfl, h⟩
    replace g := Lib.hid (g.out.trans h)
    clear h
    go_wp2_with fail
    refine (K3.out _).mono ?_
    rintro r w1 ⟨rfl, rfl⟩
    go_wp2
    go_ret
    exact ⟨rfl, g.out⟩
  · have hne : (X == Y) = false := beq_eq_false_iff_ne.2 fun h => h0 (hXY.1 h)
    have hz0 : (z == 0) = false := beq_eq_false_iff_ne.2 h0
    clear hXY hgs hX hY hz hX1 hX2 i37
    go_enter Try.func7, Try.ntmps7
    go_wp2_with fail
    refine (KS.out _).mono ?_
    rintro r w1 ⟨rfl, h⟩
    replace g := Lib.hid (g.out.trans h)
    clear h
    go_wp2_with fail
    refine (K1.out _).mono ?_
    rintro r w1 ⟨rfl, h⟩
    replace g := Lib.hid (g.out.trans h)
    clear h
    go_wp2_with fail
    refine (K2.out _).mono ?_
    rintro r w1 ⟨rfl, h⟩
    replace g := Lib.hid (g.out.trans h)
    clear h
    go_wp2_with fail
    refine (K3.out _).mono ?_
    rintro r w1 ⟨rfl, rfl⟩
    go_wp2
    go_ret
    exact ⟨rfl, g.out⟩
end Go.Proofs.Ytfldbddjpdbmpaa
