/-
  NumOrders: the walk of the law, and the arithmetic that it wants.
-/
import Derived.Test.YtecoieacgjkkpaaDoorNumDiv
namespace Go.Proofs.YtecoieacgjkkpaaDoor
open Go.RowKit

theorem lim_mono (x y : Int) (h : x ≤ y) : lim x ≤ lim y := by
  unfold lim
  repeat' split
  all_goals omega
theorem lim_neg (x : Int) : lim (-x) = -lim x := by
  unfold lim
  repeat' split
  all_goals omega
theorem ret_bool {x : Bool} (h : x = true) : Ending.returned (.bool x) = .returned (.bool true) := by rw [h]
/-- The facts on the sums, differences and products of a, b and c. -/
def OrdE (a b c s1 s2 d1 d2 m1 : Int) : Prop :=
  lim (a + c) = s1 ∧ lim (b + c) = s2 ∧ lim (a - c) = d1 ∧ lim (b - c) = d2 ∧ lim (c - a) = -d1 ∧ lim (c - b) = -d2 ∧ lim (a * c) = m1 ∧ lim (c * a) = m1 ∧ lim (c + a) = s1
theorem ordE (a b c : Int) : OrdE a b c (lim (a + c)) (lim (b + c)) (lim (a - c)) (lim (b - c)) (lim (a * c)) := by
  refine ⟨rfl, rfl, rfl, rfl, ?_, ?_, rfl, by rw [Int.mul_comm], by rw [Int.add_comm]⟩
  · rw [← lim_neg]; congr 1; omega
  · rw [← lim_neg]; congr 1; omega
theorem clampN_in (c a b : Int) (h : a ≤ b) : a ≤ clampN c a b ∧ clampN c a b ≤ b := by
  unfold clampN
  repeat' split
  all_goals omega
theorem clampN_again (c a b : Int) (h : a ≤ b) : clampN (clampN c a b) a b = clampN c a b := by
  have := clampN_in c a b h
  rw [show clampN (clampN c a b) a b = if clampN c a b < a then a else if b < clampN c a b then b else clampN c a b from rfl, if_neg (by omega), if_neg (by omega)]
theorem clampN_same (c a b : Int) (h1 : a ≤ c) (h2 : c ≤ b) : clampN c a b = c := by unfold clampN; rw [if_neg (by omega), if_neg (by omega)]


set_option maxHeartbeats 2000000 in
set_option maxRecDepth 100000 in
theorem ord_pos (a b c s1 s2 d1 d2 m1 x q1 q2 m2 : Int) (la lb : List UInt8) (w : World) (hl : Laid w) (ha : isI64 a) (hb : isI64 b) (hc : isI64 c) (hab : a ≤ b) (E : Hid (OrdE a b c s1 s2 d1 d2 m1))
    (hs : s1 ≤ s2) (hd : d1 ≤ d2) (d10 : -1125899906842624 ≤ d1) (d11 : d1 ≤ 1125899906842624) (m10 : -1125899906842624 ≤ m1) (m11 : m1 ≤ 1125899906842624)
    (X : Hid (clampN c a b = x ∧ clampN x a b = x)) (x0 : a ≤ x) (x1 : x ≤ b) (xc : Hid ((decide (c < a) || decide (b < c) || x == c) = true)) (T : Hid (Lib.itoa a = la ∧ Lib.itoa b = lb ∧ ((a == b) == (la == lb)) = true)) (c0 : 0 < c) (Q : Hid (lim (a.tdiv c) = q1 ∧ lim (b.tdiv c) = q2 ∧ lim (b * c) = m2)) (hq : q1 ≤ q2) (hm : m1 ≤ m2) (q10 : -1125899906842624 ≤ q1) (q11 : q1 ≤ 1125899906842624) :
    Calls Tryd.prog 7 #[.int .i64 a, .int .i64 b, .int .i64 c] w fun e w' => e = .returned (.bool true) ∧ Good w w' := by
  have g0 : Good w w := Good.refl hl
  go_enter Tryd.func7, Tryd.ntmps7
  go_wp2_with fail
  refine (small_any w _ g0).mono ?_
  rintro e w1 ⟨rfl, g1⟩
  go_wp2_with fail
  refine (add_g a c s1 g1 ha hc E.out.1).mono ?_
  rintro e w2 ⟨rfl, g2⟩
  go_wp2_with fail
  refine (add_g b c s2 g2 hb hc E.out.2.1).mono ?_
  rintro e w3 ⟨rfl, g3⟩
  go_wp2_with fail
  refine (sub_g a c d1 g3 ha hc E.out.2.2.1).mono ?_
  rintro e w4 ⟨rfl, g4⟩
  go_wp2_with fail
  refine (sub_g b c d2 g4 hb hc E.out.2.2.2.1).mono ?_
  rintro e w5 ⟨rfl, g5⟩
  go_wp2_with fail
  refine (sub_g c a (-d1) g5 hc ha E.out.2.2.2.2.1).mono ?_
  rintro e w6 ⟨rfl, g6⟩
  go_wp2_with fail
  refine (sub_g c b (-d2) g6 hc hb E.out.2.2.2.2.2.1).mono ?_
  rintro e w7 ⟨rfl, g7⟩
  go_wp2_with fail
  refine (sub_g a c d1 g7 ha hc E.out.2.2.1).mono ?_
  rintro e w8 ⟨rfl, g8⟩
  go_wp2_with fail
  refine (sub_g c a (-d1) g8 hc ha E.out.2.2.2.2.1).mono ?_
  rintro e w9 ⟨rfl, g9⟩
  go_wp2_with fail
  refine (mul_g a c m1 g9 ha hc E.out.2.2.2.2.2.2.1).mono ?_
  rintro e w10 ⟨rfl, g10⟩
  go_wp2_with fail
  refine (mul_g c a m1 g10 hc ha E.out.2.2.2.2.2.2.2.1).mono ?_
  rintro e w11 ⟨rfl, g11⟩
  go_wp2_with fail
  refine (add_g a c s1 g11 ha hc E.out.1).mono ?_
  rintro e w12 ⟨rfl, g12⟩
  go_wp2_with fail
  refine (add_g c a s1 g12 hc ha E.out.2.2.2.2.2.2.2.2).mono ?_
  rintro e w13 ⟨rfl, g13⟩
  go_wp2_with fail
  refine (clamp_g c a b x g13 X.out.1).mono ?_
  rintro e w14 ⟨rfl, g14⟩
  go_wp2_with fail
  refine (clamp_g x a b x g14 X.out.2).mono ?_
  rintro e w15 ⟨rfl, g15⟩
  go_wp2_with fail
  all_goals
    refine (div_g a c q1 g15 ha hc (by omega) Q.out.1).mono ?_
    rintro e w16 ⟨rfl, g16⟩
    go_wp2_with fail
    refine (div_g b c q2 g16 hb hc (by omega) Q.out.2.1).mono ?_
    rintro e w17 ⟨rfl, g17⟩
    go_wp2_with fail
    refine (mul_g a c m1 g17 ha hc E.out.2.2.2.2.2.2.1).mono ?_
    rintro e w18 ⟨rfl, g18⟩
    go_wp2_with fail
    refine (mul_g b c m2 g18 hb hc Q.out.2.2).mono ?_
    rintro e w19 ⟨rfl, g19⟩
    go_wp2_with fail
    refine (mul_g a c m1 g19 ha hc E.out.2.2.2.2.2.2.1).mono ?_
    rintro e w20 ⟨rfl, g20⟩
    go_wp2_with fail
    refine (text_g a la g20 ha T.out.1).mono ?_
    rintro e w21 ⟨rfl, g21⟩
    go_wp2_with fail
    refine (text_g b lb g21 hb T.out.2.1).mono ?_
    rintro e w22 ⟨rfl, g22⟩
  all_goals go_wp2
  all_goals go_ret
  all_goals first | exact ⟨ret_bool T.out.2.2, by assumption⟩ | exact ⟨ret_bool (by rw [xc.out, T.out.2.2]; rfl), by assumption⟩ | (exfalso; have hx := xc.out; simp at hx; omega)

set_option maxHeartbeats 2000000 in
set_option maxRecDepth 100000 in
theorem ord_neg (a b c s1 s2 d1 d2 m1 x q1 q2 : Int) (la lb : List UInt8) (w : World) (hl : Laid w) (ha : isI64 a) (hb : isI64 b) (hc : isI64 c) (hab : a ≤ b) (E : Hid (OrdE a b c s1 s2 d1 d2 m1))
    (hs : s1 ≤ s2) (hd : d1 ≤ d2) (d10 : -1125899906842624 ≤ d1) (d11 : d1 ≤ 1125899906842624) (m10 : -1125899906842624 ≤ m1) (m11 : m1 ≤ 1125899906842624)
    (X : Hid (clampN c a b = x ∧ clampN x a b = x)) (x0 : a ≤ x) (x1 : x ≤ b) (xc : Hid ((decide (c < a) || decide (b < c) || x == c) = true)) (T : Hid (Lib.itoa a = la ∧ Lib.itoa b = lb ∧ ((a == b) == (la == lb)) = true)) (c0 : c < 0) (Q : Hid (lim (a.tdiv c) = q1 ∧ lim (b.tdiv c) = q2)) (q10 : -1125899906842624 ≤ q1) (q11 : q1 ≤ 1125899906842624) :
    Calls Tryd.prog 7 #[.int .i64 a, .int .i64 b, .int .i64 c] w fun e w' => e = .returned (.bool true) ∧ Good w w' := by
  have g0 : Good w w := Good.refl hl
  go_enter Tryd.func7, Tryd.ntmps7
  go_wp2_with fail
  refine (small_any w _ g0).mono ?_
  rintro e w1 ⟨rfl, g1⟩
  go_wp2_with fail
  refine (add_g a c s1 g1 ha hc E.out.1).mono ?_
  rintro e w2 ⟨rfl, g2⟩
  go_wp2_with fail
  refine (add_g b c s2 g2 hb hc E.out.2.1).mono ?_
  rintro e w3 ⟨rfl, g3⟩
  go_wp2_with fail
  refine (sub_g a c d1 g3 ha hc E.out.2.2.1).mono ?_
  rintro e w4 ⟨rfl, g4⟩
  go_wp2_with fail
  refine (sub_g b c d2 g4 hb hc E.out.2.2.2.1).mono ?_
  rintro e w5 ⟨rfl, g5⟩
  go_wp2_with fail
  refine (sub_g c a (-d1) g5 hc ha E.out.2.2.2.2.1).mono ?_
  rintro e w6 ⟨rfl, g6⟩
  go_wp2_with fail
  refine (sub_g c b (-d2) g6 hc hb E.out.2.2.2.2.2.1).mono ?_
  rintro e w7 ⟨rfl, g7⟩
  go_wp2_with fail
  refine (sub_g a c d1 g7 ha hc E.out.2.2.1).mono ?_
  rintro e w8 ⟨rfl, g8⟩
  go_wp2_with fail
  refine (sub_g c a (-d1) g8 hc ha E.out.2.2.2.2.1).mono ?_
  rintro e w9 ⟨rfl, g9⟩
  go_wp2_with fail
  refine (mul_g a c m1 g9 ha hc E.out.2.2.2.2.2.2.1).mono ?_
  rintro e w10 ⟨rfl, g10⟩
  go_wp2_with fail
  refine (mul_g c a m1 g10 hc ha E.out.2.2.2.2.2.2.2.1).mono ?_
  rintro e w11 ⟨rfl, g11⟩
  go_wp2_with fail
  refine (add_g a c s1 g11 ha hc E.out.1).mono ?_
  rintro e w12 ⟨rfl, g12⟩
  go_wp2_with fail
  refine (add_g c a s1 g12 hc ha E.out.2.2.2.2.2.2.2.2).mono ?_
  rintro e w13 ⟨rfl, g13⟩
  go_wp2_with fail
  refine (clamp_g c a b x g13 X.out.1).mono ?_
  rintro e w14 ⟨rfl, g14⟩
  go_wp2_with fail
  refine (clamp_g x a b x g14 X.out.2).mono ?_
  rintro e w15 ⟨rfl, g15⟩
  go_wp2_with fail
  all_goals
    refine (div_g a c q1 g15 ha hc (by omega) Q.out.1).mono ?_
    rintro e w16 ⟨rfl, g16⟩
    go_wp2_with fail
    refine (div_g b c q2 g16 hb hc (by omega) Q.out.2).mono ?_
    rintro e w17 ⟨rfl, g17⟩
    go_wp2_with fail
    refine (mul_g a c m1 g17 ha hc E.out.2.2.2.2.2.2.1).mono ?_
    rintro e w18 ⟨rfl, g18⟩
    go_wp2_with fail
    refine (text_g a la g18 ha T.out.1).mono ?_
    rintro e w19 ⟨rfl, g19⟩
    go_wp2_with fail
    refine (text_g b lb g19 hb T.out.2.1).mono ?_
    rintro e w20 ⟨rfl, g20⟩
  all_goals go_wp2
  all_goals go_ret
  all_goals first | exact ⟨ret_bool T.out.2.2, by assumption⟩ | exact ⟨ret_bool (by rw [xc.out, T.out.2.2]; rfl), by assumption⟩ | (exfalso; have hx := xc.out; simp at hx; omega)
theorem isI64_zero : isI64 0 := by unfold isI64; decide

set_option maxHeartbeats 2000000 in
set_option maxRecDepth 100000 in
theorem ord_zero (a b s1 s2 d1 d2 m1 x : Int) (la lb : List UInt8) (w : World) (hl : Laid w) (ha : isI64 a) (hb : isI64 b) (hab : a ≤ b) (E : Hid (OrdE a b 0 s1 s2 d1 d2 m1))
    (hs : s1 ≤ s2) (hd : d1 ≤ d2) (d10 : -1125899906842624 ≤ d1) (d11 : d1 ≤ 1125899906842624) (m10 : -1125899906842624 ≤ m1) (m11 : m1 ≤ 1125899906842624)
    (X : Hid (clampN 0 a b = x ∧ clampN x a b = x)) (x0 : a ≤ x) (x1 : x ≤ b) (xc : Hid ((decide (0 < a) || decide (b < 0) || x == 0) = true)) (T : Hid (Lib.itoa a = la ∧ Lib.itoa b = lb ∧ ((a == b) == (la == lb)) = true))  :
    Calls Tryd.prog 7 #[.int .i64 a, .int .i64 b, .int .i64 0] w fun e w' => e = .returned (.bool true) ∧ Good w w' := by
  have g0 : Good w w := Good.refl hl
  go_enter Tryd.func7, Tryd.ntmps7
  go_wp2_with fail
  refine (small_any w _ g0).mono ?_
  rintro e w1 ⟨rfl, g1⟩
  go_wp2_with fail
  refine (add_g a 0 s1 g1 ha isI64_zero E.out.1).mono ?_
  rintro e w2 ⟨rfl, g2⟩
  go_wp2_with fail
  refine (add_g b 0 s2 g2 hb isI64_zero E.out.2.1).mono ?_
  rintro e w3 ⟨rfl, g3⟩
  go_wp2_with fail
  refine (sub_g a 0 d1 g3 ha isI64_zero E.out.2.2.1).mono ?_
  rintro e w4 ⟨rfl, g4⟩
  go_wp2_with fail
  refine (sub_g b 0 d2 g4 hb isI64_zero E.out.2.2.2.1).mono ?_
  rintro e w5 ⟨rfl, g5⟩
  go_wp2_with fail
  refine (sub_g 0 a (-d1) g5 isI64_zero ha E.out.2.2.2.2.1).mono ?_
  rintro e w6 ⟨rfl, g6⟩
  go_wp2_with fail
  refine (sub_g 0 b (-d2) g6 isI64_zero hb E.out.2.2.2.2.2.1).mono ?_
  rintro e w7 ⟨rfl, g7⟩
  go_wp2_with fail
  refine (sub_g a 0 d1 g7 ha isI64_zero E.out.2.2.1).mono ?_
  rintro e w8 ⟨rfl, g8⟩
  go_wp2_with fail
  refine (sub_g 0 a (-d1) g8 isI64_zero ha E.out.2.2.2.2.1).mono ?_
  rintro e w9 ⟨rfl, g9⟩
  go_wp2_with fail
  refine (mul_g a 0 m1 g9 ha isI64_zero E.out.2.2.2.2.2.2.1).mono ?_
  rintro e w10 ⟨rfl, g10⟩
  go_wp2_with fail
  refine (mul_g 0 a m1 g10 isI64_zero ha E.out.2.2.2.2.2.2.2.1).mono ?_
  rintro e w11 ⟨rfl, g11⟩
  go_wp2_with fail
  refine (add_g a 0 s1 g11 ha isI64_zero E.out.1).mono ?_
  rintro e w12 ⟨rfl, g12⟩
  go_wp2_with fail
  refine (add_g 0 a s1 g12 isI64_zero ha E.out.2.2.2.2.2.2.2.2).mono ?_
  rintro e w13 ⟨rfl, g13⟩
  go_wp2_with fail
  refine (clamp_g 0 a b x g13 X.out.1).mono ?_
  rintro e w14 ⟨rfl, g14⟩
  go_wp2_with fail
  refine (clamp_g x a b x g14 X.out.2).mono ?_
  rintro e w15 ⟨rfl, g15⟩
  go_wp2_with fail
  all_goals
    refine (div_z a g15).mono ?_
    rintro e w16 ⟨rfl, g16⟩
    go_wp2_with fail
    refine (div_z b g16).mono ?_
    rintro e w17 ⟨rfl, g17⟩
    go_wp2_with fail
    refine (mul_g a 0 m1 g17 ha isI64_zero E.out.2.2.2.2.2.2.1).mono ?_
    rintro e w18 ⟨rfl, g18⟩
    go_wp2_with fail
    refine (text_g a la g18 ha T.out.1).mono ?_
    rintro e w19 ⟨rfl, g19⟩
    go_wp2_with fail
    refine (text_g b lb g19 hb T.out.2.1).mono ?_
    rintro e w20 ⟨rfl, g20⟩
  all_goals go_wp2
  all_goals go_ret
  all_goals first | exact ⟨ret_bool T.out.2.2, by assumption⟩ | exact ⟨ret_bool (by rw [xc.out, T.out.2.2]; rfl), by assumption⟩ | (exfalso; have hx := xc.out; simp at hx; omega)

theorem lim_tdiv_mono (a b c : Int) (h : a ≤ b) (hc : 0 < c) : lim (a.tdiv c) ≤ lim (b.tdiv c) := by
  refine lim_mono _ _ ?_
  by_cases ha : 0 ≤ a
  · rw [Int.tdiv_eq_ediv_of_nonneg ha, Int.tdiv_eq_ediv_of_nonneg (by omega)]
    exact Int.ediv_le_ediv hc h
  · by_cases hb : 0 ≤ b
    · have h1 : 0 ≤ b.tdiv c := Int.tdiv_nonneg hb (by omega)
      have h2 : 0 ≤ (-a).tdiv c := Int.tdiv_nonneg (by omega) (by omega)
      rw [Int.neg_tdiv] at h2
      omega
    · have h1 : (-b).tdiv c ≤ (-a).tdiv c := by
        rw [Int.tdiv_eq_ediv_of_nonneg (by omega), Int.tdiv_eq_ediv_of_nonneg (by omega)]
        exact Int.ediv_le_ediv hc (by omega)
      rw [Int.neg_tdiv, Int.neg_tdiv] at h1
      omega
theorem lim_in (x : Int) : -1125899906842624 ≤ lim x ∧ lim x ≤ 1125899906842624 := by
  unfold lim
  repeat' split
  all_goals omega
theorem itoa_beq (a b : Int) (ha : isI64 a) (hb : isI64 b) : ((a == b) == (Lib.itoa a == Lib.itoa b)) = true := by
  by_cases h : a = b
  · subst h; simp
  · have h2 : ¬ Lib.itoa a = Lib.itoa b := fun e => h (Dec.itoa_inj ha hb e)
    rw [beq_eq_false_iff_ne.2 h, beq_eq_false_iff_ne.2 h2]; rfl
theorem clamp_where (a b c : Int) : (decide (c < a) || decide (b < c) || clampN c a b == c) = true := by
  by_cases h1 : c < a
  · simp [h1]
  · by_cases h2 : b < c
    · simp [h2]
    · rw [clampN_same c a b (by omega) (by omega)]; simp

set_option maxHeartbeats 400000 in
set_option maxRecDepth 100000 in
theorem ord_else (a b c : Int) (w : World) (hl : Laid w) (h : b < a) :
    Calls Tryd.prog 7 #[.int .i64 a, .int .i64 b, .int .i64 c] w fun e w' => e = .returned (.bool true) ∧ Good w w' := by
  have g0 : Good w w := Good.refl hl
  go_enter Tryd.func7, Tryd.ntmps7
  go_wp2_with fail
  refine (small_any w _ g0).mono ?_
  rintro e w1 ⟨rfl, g1⟩
  go_wp2
  go_ret
  exact ⟨rfl, g1⟩

theorem numOrders_walk (a b c : Int) (w : World) (hl : Laid w) (ha : isI64 a) (hb : isI64 b) (hc : isI64 c) :
    Calls Tryd.prog 7 #[.int .i64 a, .int .i64 b, .int .i64 c] w fun e w' => e = .returned (.bool true) ∧ Good w w' := by
  by_cases hab : a ≤ b
  · have hx := clampN_in c a b hab
    rcases Int.lt_trichotomy c 0 with h | h | h
    · exact ord_neg a b c _ _ _ _ _ _ _ _ _ _ w hl ha hb hc hab (Lib.hid (ordE a b c)) (lim_mono _ _ (by omega)) (lim_mono _ _ (by omega)) (lim_in _).1 (lim_in _).2 (lim_in _).1 (lim_in _).2 (Lib.hid ⟨rfl, clampN_again c a b hab⟩) hx.1 hx.2 (Lib.hid (clamp_where a b c)) (Lib.hid ⟨rfl, rfl, itoa_beq a b ha hb⟩) h (Lib.hid ⟨rfl, rfl⟩) (lim_in _).1 (lim_in _).2
    · subst h
      exact ord_zero a b _ _ _ _ _ _ _ _ w hl ha hb hab (Lib.hid (ordE a b 0)) (lim_mono _ _ (by omega)) (lim_mono _ _ (by omega)) (lim_in _).1 (lim_in _).2 (lim_in _).1 (lim_in _).2 (Lib.hid ⟨rfl, clampN_again 0 a b hab⟩) hx.1 hx.2 (Lib.hid (clamp_where a b 0)) (Lib.hid ⟨rfl, rfl, itoa_beq a b ha hb⟩)
    · exact ord_pos a b c _ _ _ _ _ _ _ _ _ _ _ w hl ha hb hc hab (Lib.hid (ordE a b c)) (lim_mono _ _ (by omega)) (lim_mono _ _ (by omega)) (lim_in _).1 (lim_in _).2 (lim_in _).1 (lim_in _).2 (Lib.hid ⟨rfl, clampN_again c a b hab⟩) hx.1 hx.2 (Lib.hid (clamp_where a b c)) (Lib.hid ⟨rfl, rfl, itoa_beq a b ha hb⟩) h (Lib.hid ⟨rfl, rfl, rfl⟩) (lim_tdiv_mono a b c hab h) (lim_mono _ _ (Int.mul_le_mul_of_nonneg_right hab (by omega))) (lim_in _).1 (lim_in _).2
  · exact ord_else a b c w hl (by omega)
end Go.Proofs.YtecoieacgjkkpaaDoor
