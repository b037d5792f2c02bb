/-
  NumDivides: the walk of the law, and the arithmetic that it wants.
-/
import Derived.Test.YtecoieacgjkkpaaDoorNumLaw
namespace Go.Proofs.YtecoieacgjkkpaaDoor
open Go.RowKit

theorem lim_id (x : Int) (h0 : -1125899906842624 ≤ x) (h1 : x ≤ 1125899906842624) : lim x = x := by unfold lim; rw [if_neg (by omega), if_neg (by omega)]
theorem tdiv_small (a b : Int) : (a.tdiv b).natAbs ≤ a.natAbs := by
  rw [Int.natAbs_tdiv]; exact Nat.div_le_self _ _
theorem tmod_small (a b : Int) : (a.tmod b).natAbs ≤ a.natAbs := by
  rw [Int.natAbs_tmod]; exact Nat.mod_le _ _
theorem tmod_lt (a b : Int) (h : b ≠ 0) : (a.tmod b).natAbs < b.natAbs := by
  rw [Int.natAbs_tmod]; exact Nat.mod_lt _ (by omega)
theorem tmod_sign (a b : Int) : (0 ≤ a → 0 ≤ a.tmod b) ∧ (a ≤ 0 → a.tmod b ≤ 0) := by
  refine ⟨fun h => Int.tmod_nonneg b h, fun h => ?_⟩
  have := Int.tmod_nonneg b (show 0 ≤ -a by omega)
  rw [Int.neg_tmod] at this
  omega

/-- What is known of the quotient q and the remainder r of a by b. -/
structure DivFacts (a b q r : Int) : Prop where
  div : lim (a.tdiv b) = q
  mod : lim (a.tmod b) = r
  ndiv : lim ((-a).tdiv b) = -q
  nmod : lim ((-a).tmod b) = -r
  divn : lim (a.tdiv (-b)) = -q
  sum : b * q + r = a
  q0 : -1125899906842624 ≤ q
  q1 : q ≤ 1125899906842624
  r0 : -1125899906842624 ≤ r
  r1 : r ≤ 1125899906842624
  lt : r.natAbs < b.natAbs
  pos : 0 ≤ a → 0 ≤ r
  neg : a ≤ 0 → r ≤ 0
theorem divFacts (a b : Int) (a0 : -1125899906842624 ≤ a) (a1 : a ≤ 1125899906842624) (hb0 : b ≠ 0) : DivFacts a b (a.tdiv b) (a.tmod b) := by
  have h1 := tdiv_small a b
  have h2 := tmod_small a b
  have h3 := tmod_lt a b hb0
  have h4 := tmod_sign a b
  refine ⟨lim_id _ (by omega) (by omega), lim_id _ (by omega) (by omega), ?_, ?_, ?_, Int.mul_tdiv_add_tmod a b, by omega, by omega, by omega, by omega, h3, h4.1, h4.2⟩
  · rw [Int.neg_tdiv, lim_id _ (by omega) (by omega)]
  · rw [Int.neg_tmod, lim_id _ (by omega) (by omega)]
  · rw [Int.tdiv_neg, lim_id _ (by omega) (by omega)]

set_option maxHeartbeats 1000000 in
set_option maxRecDepth 100000 in
theorem div_walk (a b q r : Int) (w : World) (hl : Laid w) (a0 : -1125899906842624 ≤ a) (a1 : a ≤ 1125899906842624) (b0 : -1125899906842624 ≤ b) (b1 : b ≤ 1125899906842624) (hbz : (b == 0) = false)
    (E : Hid (lim (a.tdiv b) = q ∧ lim (a.tmod b) = r ∧ lim ((-a).tdiv b) = -q ∧ lim ((-a).tmod b) = -r ∧ lim (a.tdiv (-b)) = -q)) (q0 : -1125899906842624 ≤ q) (q1 : q ≤ 1125899906842624) (r0 : -1125899906842624 ≤ r) (r1 : r ≤ 1125899906842624)
    (hm : wrap64 (b * q) = b * q) (hs : wrap64 (b * q + r) = a) (l0 : -max b (-b) < r) (l1 : r < max b (-b)) (hr : (r == 0) = true ∨ ((r == 0) = false ∧ (decide (r < 0) == decide (a < 0)) = true)) :
    Calls Tryd.prog 6 #[.int .i64 a, .int .i64 b] w fun e w' => e = .returned (.bool true) ∧ Good w w' := by
  have g0 : Good w w := Good.refl hl
  have ha : isI64 a := by unfold isI64; omega
  have hb : isI64 b := by unfold isI64; omega
  have hna : isI64 (-a) := by unfold isI64; omega
  have hnb : isI64 (-b) := by unfold isI64; omega
  have hb0 : b ≠ 0 := by simpa using hbz
  have hnb0 : -b ≠ 0 := by omega
  have HR := Lib.hid hr
  clear hr
  go_enter Tryd.func6, Tryd.ntmps6
  go_wp2_with fail
  refine (small_any w _ g0).mono ?_
  rintro e w1 ⟨rfl, g1⟩
  go_wp2_with fail
  refine (div_z a g1).mono ?_
  rintro e w2 ⟨rfl, g2⟩
  go_wp2_with fail
  refine (mod_z a g2).mono ?_
  rintro e w3 ⟨rfl, g3⟩
  go_wp2_with fail
  refine (div_g a b q g3 ha hb hb0 E.out.1).mono ?_
  rintro e w4 ⟨rfl, g4⟩
  go_wp2_with fail
  refine (mod_g a b r g4 ha hb hb0 E.out.2.1).mono ?_
  rintro e w5 ⟨rfl, g5⟩
  go_wp2_with fail
  refine (div_g (-a) b (-q) g5 hna hb hb0 E.out.2.2.1).mono ?_
  rintro e w6 ⟨rfl, g6⟩
  go_wp2_with fail
  refine (mod_g (-a) b (-r) g6 hna hb hb0 E.out.2.2.2.1).mono ?_
  rintro e w7 ⟨rfl, g7⟩
  go_wp2_with fail
  refine (div_g a (-b) (-q) g7 ha hnb hnb0 E.out.2.2.2.2).mono ?_
  rintro e w8 ⟨rfl, g8⟩
  go_wp2
  all_goals go_ret
  all_goals first | exact ⟨rfl, by assumption⟩ | (exfalso; have hr := HR.out; simp at hr; omega)

set_option maxHeartbeats 1000000 in
set_option maxRecDepth 100000 in
theorem div_else (a b : Int) (w : World) (hl : Laid w) (h : a < -1125899906842624 ∨ 1125899906842624 < a ∨ b < -1125899906842624 ∨ 1125899906842624 < b ∨ b = 0) :
    Calls Tryd.prog 6 #[.int .i64 a, .int .i64 b] w fun e w' => e = .returned (.bool true) ∧ Good w w' := by
  have g0 : Good w w := Good.refl hl
  have H := Lib.hid h
  clear h
  go_enter Tryd.func6, Tryd.ntmps6
  go_wp2_with fail
  refine (small_any w _ g0).mono ?_
  rintro e w1 ⟨rfl, g1⟩
  go_wp2_with fail
  refine (div_z a g1).mono ?_
  rintro e w2 ⟨rfl, g2⟩
  go_wp2_with fail
  refine (mod_z a g2).mono ?_
  rintro e w3 ⟨rfl, g3⟩
  by_cases h1 : a < -1125899906842624
  · go_wp2
    go_ret
    exact ⟨rfl, g3⟩
  · by_cases h2 : 1125899906842624 < a
    · go_wp2
      go_ret
      exact ⟨rfl, g3⟩
    · by_cases h3 : b < -1125899906842624
      · go_wp2
        go_ret
        exact ⟨rfl, g3⟩
      · by_cases h4 : 1125899906842624 < b
        · go_wp2
          go_ret
          exact ⟨rfl, g3⟩
        · have h5 : b = 0 := by have := H.out; omega
          subst h5
          go_wp2
          go_ret
          exact ⟨rfl, g3⟩

theorem numDivides_walk (a b : Int) (w : World) (hl : Laid w) (_ : isI64 a) (_ : isI64 b) :
    Calls Tryd.prog 6 #[.int .i64 a, .int .i64 b] w fun e w' => e = .returned (.bool true) ∧ Good w w' := by
  by_cases h : a < -1125899906842624 ∨ 1125899906842624 < a ∨ b < -1125899906842624 ∨ 1125899906842624 < b ∨ b = 0
  · exact div_else a b w hl h
  · have hb0 : b ≠ 0 := by omega
    have f := divFacts a b (by omega) (by omega) hb0
    have hsum := f.sum
    have hlt := f.lt
    have hp := f.pos
    have hn := f.neg
    have hr0 := f.r0
    have hr1 := f.r1
    refine div_walk a b _ _ w hl (by omega) (by omega) (by omega) (by omega) (by simpa using hb0) (Lib.hid ⟨f.div, f.mod, f.ndiv, f.nmod, f.divn⟩) f.q0 f.q1 f.r0 f.r1 (IntWalk.wrap64_in _ (by omega)) (by rw [IntWalk.wrap64_in _ (by omega)]; exact hsum) (by omega) (by omega) ?_
    by_cases hz : a.tmod b = 0
    · exact .inl (by simpa using hz)
    · refine .inr ⟨by simpa using hz, ?_⟩
      rw [beq_iff_eq, decide_eq_decide]
      omega
end Go.Proofs.YtecoieacgjkkpaaDoor
