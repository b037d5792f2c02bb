/-
  NumSaturates: the walk of the law, and the arithmetic that it wants.
-/
import Derived.Test.YtecoieacgjkkpaaDoorNumLaw
namespace Go.Proofs.YtecoieacgjkkpaaDoor
open Go.RowKit

/-- The least of x and the limit: what 'lim' is on numbers that are not negative. -/
theorem lim_nn (x : Int) (h : 0 ≤ x) : lim x = if 1125899906842624 < x then 1125899906842624 else x := by unfold lim; rw [if_neg (by omega)]
theorem lim_i64 (x : Int) : isI64 (lim x) := by unfold lim isI64; repeat' split
                                                all_goals omega
theorem lim_range (x : Int) : -1125899906842624 ≤ lim x ∧ lim x ≤ 1125899906842624 := by unfold lim; repeat' split
                                                                                         all_goals omega
theorem lim_pos (x : Int) (h : 0 ≤ x) : 0 ≤ lim x ∧ lim x ≤ x := by rw [lim_nn x h]; split <;> omega
theorem lim_self (x : Int) (h : 0 ≤ x) (h1 : x ≤ 1125899906842624) : lim x = x := by rw [lim_nn x h, if_neg (by omega)]
theorem lim_top (x : Int) (h1 : 1125899906842624 ≤ x) : lim x = 1125899906842624 := by rw [lim_nn x (by omega)]; split <;> omega

/-- Limiting one factor first changes nothing. -/
theorem lim_mul_left (x y : Int) (hx : 0 ≤ x) (hy : 0 ≤ y) : lim (lim x * y) = lim (x * y) := by
  by_cases h : x ≤ 1125899906842624
  · rw [lim_self x hx h]
  · by_cases hy0 : y = 0
    · subst hy0; simp
    · have e : lim x = 1125899906842624 := lim_top x (by omega)
      have h1 : 1125899906842624 * 1 ≤ 1125899906842624 * y := Int.mul_le_mul_of_nonneg_left (by omega) (by omega)
      have h2 : 1125899906842624 * y ≤ x * y := Int.mul_le_mul_of_nonneg_right (by omega) hy
      rw [e, lim_top _ (by omega), lim_top _ (by omega)]
theorem lim_mul_right (x y : Int) (hx : 0 ≤ x) (hy : 0 ≤ y) : lim (x * lim y) = lim (x * y) := by
  rw [Int.mul_comm, lim_mul_left y x hy hx, Int.mul_comm]
theorem lim_add_left (x y : Int) (hx : 0 ≤ x) (hy : 0 ≤ y) : lim (lim x + y) = lim (x + y) := by
  rw [lim_nn x hx]
  split
  · rw [lim_top _ (by omega), lim_top _ (by omega)]
  · rfl
theorem lim_add_right (x y : Int) (hx : 0 ≤ x) (hy : 0 ≤ y) : lim (x + lim y) = lim (x + y) := by
  rw [Int.add_comm, lim_add_left y x hy hx, Int.add_comm]
theorem clamp_lim (x : Int) (h : 0 ≤ x) : clampN x 0 1125899906842624 = lim x := by
  unfold clampN lim; rw [if_neg (by omega), if_neg (c := x < -1125899906842624) (by omega)]

set_option maxHeartbeats 1000000 in
theorem sat_walk (a b c : Int) (w : World) (hl : Laid w) (ha : isI64 a) (hb : isI64 b) (hc : isI64 c) (a0 : 0 ≤ a) (b0 : 0 ≤ b) (c0 : 0 ≤ c) :
    Calls Tryd.prog 5 #[.int .i64 a, .int .i64 b, .int .i64 c] w fun e w' => e = .returned (.bool true) ∧ Good w w' := by
  have g0 : Good w w := Good.refl hl
  have iab := lim_i64 (a + b)
  have ibc := lim_i64 (b + c)
  have jab := lim_i64 (a * b)
  have jbc := lim_i64 (b * c)
  have jac := lim_i64 (a * c)
  have ia := lim_i64 a
  have ib := lim_i64 b
  have sA := lim_add_left (a + b) c (by omega) c0
  have sB := lim_add_right a (b + c) a0 (by omega)
  have mab : 0 ≤ a * b := Int.mul_nonneg a0 b0
  have mbc : 0 ≤ b * c := Int.mul_nonneg b0 c0
  have mac : 0 ≤ a * c := Int.mul_nonneg a0 c0
  have mA := lim_mul_left (a * b) c mab c0
  have mB := lim_mul_right a (b * c) a0 mbc
  have dA := lim_mul_right a (b + c) a0 (by omega)
  have dB : lim (lim (a * b) + lim (a * c)) = lim (a * b + a * c) := by rw [lim_add_left _ _ mab (lim_pos _ mac).1, lim_add_right _ _ mab mac]
  have xA := lim_add_left a (lim b) a0 (lim_pos b b0).1
  have xB := lim_add_right a b a0 b0
  have yA := lim_mul_left a (lim b) a0 (lim_pos b b0).1
  have yB := lim_mul_right a b a0 b0
  have e1 : lim (b + a) = lim (a + b) := by rw [Int.add_comm]
  have e2 : lim (b * a) = lim (a * b) := by rw [Int.mul_comm]
  have e3 : lim (a + lim (b + c)) = lim (lim (a + b) + c) := by rw [sA, sB, Int.add_assoc]
  have e4 : lim (a * lim (b * c)) = lim (lim (a * b) * c) := by rw [mA, mB, Int.mul_assoc]
  have e5 : lim (lim (a * b) + lim (a * c)) = lim (a * lim (b + c)) := by rw [dA, dB, Int.mul_add]
  have e6 : lim (a + 0) = lim a := by simp
  have e7 : lim (a * 1) = lim a := by simp
  have e8 : lim (a * 0) = 0 := by simp [lim]
  have e9 : lim (lim a + lim b) = lim (a + b) := by rw [xA, xB]
  have e10 : lim (lim a * lim b) = lim (a * b) := by rw [yA, yB]
  have E := Lib.hid (And.intro e1 (And.intro e2 (And.intro e3 (And.intro e4 (And.intro e5 (And.intro e6 (And.intro e7 (And.intro e8 (And.intro e9 e10)))))))))
  have P := Lib.hid (And.intro iab (And.intro ibc (And.intro jab (And.intro jbc (And.intro jac (And.intro ia ib))))))
  clear iab ibc jab jbc jac ia ib sA sB mab mbc mac mA mB dA dB xA xB yA yB e1 e2 e3 e4 e5 e6 e7 e8 e9 e10
  go_enter Tryd.func5, Tryd.ntmps5
  go_wp2_with fail
  refine (small_any w _ g0).mono ?_
  rintro e w1 ⟨rfl, g1⟩
  go_wp2_with fail
  refine (add_g a b _ g1 ha hb rfl).mono ?_
  rintro e w2 ⟨rfl, g2⟩
  go_wp2_with fail
  refine (add_g b a _ g2 hb ha E.out.1).mono ?_
  rintro e w3 ⟨rfl, g3⟩
  go_wp2_with fail
  refine (mul_g a b _ g3 ha hb rfl).mono ?_
  rintro e w4 ⟨rfl, g4⟩
  go_wp2_with fail
  refine (mul_g b a _ g4 hb ha E.out.2.1).mono ?_
  rintro e w5 ⟨rfl, g5⟩
  go_wp2_with fail
  refine (add_g a b _ g5 ha hb rfl).mono ?_
  rintro e w6 ⟨rfl, g6⟩
  go_wp2_with fail
  refine (add_g _ c _ g6 (lim_i64 _) hc rfl).mono ?_
  rintro e w7 ⟨rfl, g7⟩
  go_wp2_with fail
  refine (add_g b c _ g7 hb hc rfl).mono ?_
  rintro e w8 ⟨rfl, g8⟩
  go_wp2_with fail
  refine (add_g a _ _ g8 ha (lim_i64 _) E.out.2.2.1).mono ?_
  rintro e w9 ⟨rfl, g9⟩
  go_wp2_with fail
  refine (mul_g a b _ g9 ha hb rfl).mono ?_
  rintro e w10 ⟨rfl, g10⟩
  go_wp2_with fail
  refine (mul_g _ c _ g10 (lim_i64 _) hc rfl).mono ?_
  rintro e w11 ⟨rfl, g11⟩
  go_wp2_with fail
  refine (mul_g b c _ g11 hb hc rfl).mono ?_
  rintro e w12 ⟨rfl, g12⟩
  go_wp2_with fail
  refine (mul_g a _ _ g12 ha (lim_i64 _) E.out.2.2.2.1).mono ?_
  rintro e w13 ⟨rfl, g13⟩
  go_wp2_with fail
  refine (add_g b c _ g13 hb hc rfl).mono ?_
  rintro e w14 ⟨rfl, g14⟩
  go_wp2_with fail
  refine (mul_g a _ _ g14 ha (lim_i64 _) rfl).mono ?_
  rintro e w15 ⟨rfl, g15⟩
  go_wp2_with fail
  refine (mul_g a b _ g15 ha hb rfl).mono ?_
  rintro e w16 ⟨rfl, g16⟩
  go_wp2_with fail
  refine (mul_g a c _ g16 ha hc rfl).mono ?_
  rintro e w17 ⟨rfl, g17⟩
  go_wp2_with fail
  refine (add_g _ _ _ g17 (lim_i64 _) (lim_i64 _) E.out.2.2.2.2.1).mono ?_
  rintro e w18 ⟨rfl, g18⟩
  go_wp2_with fail
  refine (clamp_g a 0 1125899906842624 _ g18 (clamp_lim a a0)).mono ?_
  rintro e w19 ⟨rfl, g19⟩
  go_wp2_with fail
  refine (clamp_g b 0 1125899906842624 _ g19 (clamp_lim b b0)).mono ?_
  rintro e w20 ⟨rfl, g20⟩
  go_wp2_with fail
  refine (add_g a 0 _ g20 ha (by unfold isI64; decide) E.out.2.2.2.2.2.1).mono ?_
  rintro e w21 ⟨rfl, g21⟩
  go_wp2_with fail
  refine (mul_g a 1 _ g21 ha (by unfold isI64; decide) E.out.2.2.2.2.2.2.1).mono ?_
  rintro e w22 ⟨rfl, g22⟩
  go_wp2_with fail
  refine (mul_g a 0 _ g22 ha (by unfold isI64; decide) E.out.2.2.2.2.2.2.2.1).mono ?_
  rintro e w23 ⟨rfl, g23⟩
  go_wp2_with fail
  refine (add_g _ _ _ g23 (lim_i64 _) (lim_i64 _) E.out.2.2.2.2.2.2.2.2.1).mono ?_
  rintro e w24 ⟨rfl, g24⟩
  go_wp2_with fail
  refine (add_g a b _ g24 ha hb rfl).mono ?_
  rintro e w25 ⟨rfl, g25⟩
  go_wp2_with fail
  refine (mul_g _ _ _ g25 (lim_i64 _) (lim_i64 _) E.out.2.2.2.2.2.2.2.2.2).mono ?_
  rintro e w26 ⟨rfl, g26⟩
  go_wp2_with fail
  refine (mul_g a b _ g26 ha hb rfl).mono ?_
  rintro e w27 ⟨rfl, g27⟩
  go_wp2
  go_ret
  exact ⟨rfl, g27⟩
set_option maxHeartbeats 400000 in
theorem sat_else (a b c : Int) (w : World) (hl : Laid w) (h : a < 0 ∨ b < 0 ∨ c < 0) :
    Calls Tryd.prog 5 #[.int .i64 a, .int .i64 b, .int .i64 c] w fun e w' => e = .returned (.bool true) ∧ Good w w' := by
  have g0 : Good w w := Good.refl hl
  have hs := fun W => small_any w W
  have Hs := Lib.hid hs
  clear hs
  by_cases h1 : a < 0
  · go_enter Tryd.func5, Tryd.ntmps5
    go_wp2_with (go_at_call 8; refine (Hs.out _ g0).mono ?_; rintro e w1 ⟨rfl, g1⟩)
    go_ret
    exact ⟨rfl, by assumption⟩
  · by_cases h2 : b < 0
    · go_enter Tryd.func5, Tryd.ntmps5
      go_wp2_with (go_at_call 8; refine (Hs.out _ g0).mono ?_; rintro e w1 ⟨rfl, g1⟩)
      go_ret
      exact ⟨rfl, by assumption⟩
    · have h3 : c < 0 := by omega
      go_enter Tryd.func5, Tryd.ntmps5
      go_wp2_with (go_at_call 8; refine (Hs.out _ g0).mono ?_; rintro e w1 ⟨rfl, g1⟩)
      go_ret
      exact ⟨rfl, by assumption⟩
theorem numSaturates_walk (a b c : Int) (w : World) (hl : Laid w) (ha : isI64 a) (hb : isI64 b) (hc : isI64 c) :
    Calls Tryd.prog 5 #[.int .i64 a, .int .i64 b, .int .i64 c] w fun e w' => e = .returned (.bool true) ∧ Good w w' := by
  by_cases h : a < 0 ∨ b < 0 ∨ c < 0
  · exact sat_else a b c w hl h
  · exact sat_walk a b c w hl ha hb hc (by omega) (by omega) (by omega)
end Go.Proofs.YtecoieacgjkkpaaDoor
