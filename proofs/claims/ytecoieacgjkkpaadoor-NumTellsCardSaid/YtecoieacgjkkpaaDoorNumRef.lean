/-
  The document's own answer for layer 1 (agoraref01): the walks of its functions.
-/
import Derived.Test.YtecoieacgjkkpaaDoorNumLaw
namespace Go.Proofs.YtecoieacgjkkpaaDoor
open Go.RowKit

theorem lim_hi (x : Int) (h : 1125899906842624 ≤ x) : lim x = 1125899906842624 := by unfold lim; rw [if_neg (by omega)]; split <;> omega
theorem lim_lo (x : Int) (h : x ≤ -1125899906842624) : lim x = -1125899906842624 := by unfold lim; rw [if_neg (c := 1125899906842624 < x) (by omega)]; split <;> omega
theorem lim_mid (x : Int) (h0 : -1125899906842624 ≤ x) (h1 : x ≤ 1125899906842624) : lim x = x := by unfold lim; rw [if_neg (by omega), if_neg (by omega)]

set_option maxHeartbeats 400000 in
theorem sizeR_any (n : Int) (w : World) (h : isI64 n) :
    Calls Tryd.prog 30 #[.int .i64 n] w fun e w' => e = .returned (.int .u64 (mg n)) ∧ w' = w := by
  obtain ⟨h0, h1⟩ := h
  by_cases hn : n < 0
  all_goals
    go_enter Tryd.func30, Tryd.ntmps30
    go_wp2
    go_ret
    exact ⟨ret_int (by unfold mg; omega), rfl⟩

set_option maxHeartbeats 400000 in
theorem signedR_any (n : Int) (s : Bool) (w : World) (h : isU64 n) :
    Calls Tryd.prog 29 #[.int .u64 n, .bool s] w fun e w' => e = .returned (.int .i64 (lim (if s = true then -n else n))) ∧ w' = w := by
  obtain ⟨h0, h1⟩ := h
  cases s
  all_goals
    go_enter Tryd.func29, Tryd.ntmps29
    go_wp2
    go_ret
    refine ⟨ret_int ?_, rfl⟩
    unfold lim
    repeat' split
    all_goals omega

set_option maxHeartbeats 400000 in
theorem clampR_any (n low high : Int) (w : World) :
    Calls Tryd.prog 18 #[.int .i64 n, .int .i64 low, .int .i64 high] w fun e w' => e = .returned (.int .i64 (clampN n low high)) ∧ w' = w := by
  go_enter Tryd.func18, Tryd.ntmps18
  go_wp2
  all_goals
    go_ret
    refine ⟨ret_int ?_, rfl⟩
    unfold clampN; first | rw [if_pos (by omega)] | rw [if_neg (by omega), if_pos (by omega)] | rw [if_neg (by omega), if_neg (by omega)]

set_option maxHeartbeats 400000 in
theorem addR_any (a b : Int) (w : World) (ha : isI64 a) (hb : isI64 b) :
    Calls Tryd.prog 20 #[.int .i64 a, .int .i64 b] w fun e w' => e = .returned (.int .i64 (lim (a + b))) ∧ w' = w := by
  obtain ⟨a0, a1⟩ := ha
  obtain ⟨b0, b1⟩ := hb
  go_enter Tryd.func20, Tryd.ntmps20
  go_wp2
  all_goals
    go_ret
    refine ⟨ret_int ?_, rfl⟩
    first | exact (lim_hi _ (by omega)).symm | exact (lim_lo _ (by omega)).symm | exact (lim_mid _ (by omega) (by omega)).symm
set_option maxHeartbeats 400000 in
theorem subR_any (a b : Int) (w : World) (ha : isI64 a) (hb : isI64 b) :
    Calls Tryd.prog 22 #[.int .i64 a, .int .i64 b] w fun e w' => e = .returned (.int .i64 (lim (a - b))) ∧ w' = w := by
  obtain ⟨a0, a1⟩ := ha
  obtain ⟨b0, b1⟩ := hb
  go_enter Tryd.func22, Tryd.ntmps22
  go_wp2
  all_goals
    go_ret
    refine ⟨ret_int ?_, rfl⟩
    first | exact (lim_hi _ (by omega)).symm | exact (lim_lo _ (by omega)).symm | exact (lim_mid _ (by omega) (by omega)).symm

theorem mg_nn (n : Int) : 0 ≤ mg n := by unfold mg; omega
theorem mg_zero (n : Int) : mg n = 0 ↔ n = 0 := by unfold mg; omega
theorem lim_big (s : Bool) (p : Int) (h : 1125899906842624 < p) : lim (if s = true then -1125899906842624 else 1125899906842624) = lim (if s = true then -p else p) := by
  cases s
  · simp only [Bool.false_eq_true, if_false]; rw [lim_hi _ (by omega), lim_hi _ (by omega)]
  · simp only [if_true]; rw [lim_lo _ (by omega), lim_lo _ (by omega)]
set_option maxHeartbeats 400000 in
theorem mulR_zero (a b : Int) (w : World) (ha : isI64 a) (hb : isI64 b) (h : a = 0 ∨ b = 0) :
    Calls Tryd.prog 24 #[.int .i64 a, .int .i64 b] w fun e w' => e = .returned (.int .i64 0) ∧ w' = w := by
  have h0 := mg_zero a
  have h1 := mg_zero b
  have hs1 := Lib.hid (sizeR_any a w ha)
  have hs2 := Lib.hid (sizeR_any b w hb)
  generalize mg a = x at *
  generalize mg b = y at *
  by_cases hx : x = 0
  · have hxb : (x == 0) = true := by simpa using hx
    clear h h0 h1 hx
    go_enter Tryd.func24, Tryd.ntmps24
    go_wp2_with fail
    refine hs1.out.mono ?_
    rintro e w1 ⟨rfl, rfl⟩
    go_wp2_with fail
    refine hs2.out.mono ?_
    rintro e w2 ⟨rfl, rfl⟩
    go_wp2
    go_ret
    exact ⟨rfl, rfl⟩
  · have hxb : (x == 0) = false := by simpa using hx
    have hyb : (y == 0) = true := by simpa using h1.2 (by rcases h with h | h; exact absurd (h0.2 h) hx; exact h)
    clear h h0 h1 hx
    go_enter Tryd.func24, Tryd.ntmps24
    go_wp2_with fail
    refine hs1.out.mono ?_
    rintro e w1 ⟨rfl, rfl⟩
    go_wp2_with fail
    refine hs2.out.mono ?_
    rintro e w2 ⟨rfl, rfl⟩
    go_wp2
    go_ret
    exact ⟨rfl, rfl⟩
set_option maxHeartbeats 400000 in
theorem mulR_pos (a b x y : Int) (w : World) (hx : isU64 x) (hy : isU64 y) (hs1 : Hid (Calls Tryd.prog 30 #[.int .i64 a] w fun e w' => e = .returned (.int .u64 x) ∧ w' = w)) (hs2 : Hid (Calls Tryd.prog 30 #[.int .i64 b] w fun e w' => e = .returned (.int .u64 y) ∧ w' = w))
    (hxb : (x == 0) = false) (hyb : (y == 0) = false) :
    Calls Tryd.prog 24 #[.int .i64 a, .int .i64 b] w fun e w' => e = .returned (.int .i64 (lim (if (sg a != sg b) = true then -(x * y) else x * y))) ∧ w' = w := by
  obtain ⟨x0, x1⟩ := hx
  obtain ⟨y0, y1⟩ := hy
  have hy1 : 1 ≤ y := by have : y ≠ 0 := by simpa using hyb
                         omega
  have hq := Int.mul_ediv_add_emod 1125899906842624 y
  have hr0 := Int.emod_nonneg 1125899906842624 (show y ≠ 0 by omega)
  have hr1 := Int.emod_lt_of_pos 1125899906842624 (show 0 < y by omega)
  have hb0 := Int.ediv_nonneg (show (0 : Int) ≤ 1125899906842624 by omega) (show 0 ≤ y by omega)
  have hb1 := Int.ediv_le_self y (show (0 : Int) ≤ 1125899906842624 by omega)
  have hw : IntKind.u64.wrap (1125899906842624 / y) = 1125899906842624 / y := by rw [IntKind.wrap_u64]; omega
  by_cases hc : 1125899906842624 / y < x
  · have hp : 1125899906842624 < x * y := by
      have h1 : (1125899906842624 / y + 1) * y ≤ x * y := Int.mul_le_mul_of_nonneg_right (by omega) y0
      have h2 : (1125899906842624 / y + 1) * y = y * (1125899906842624 / y) + y := by rw [Int.add_mul, Int.mul_comm]; simp
      omega
    rw [← lim_big (sg a != sg b) _ hp]
    have hsg := Lib.hid (signedR_any 1125899906842624 (sg a != sg b) w (by unfold isU64; omega))
    generalize lim (if (sg a != sg b) = true then -1125899906842624 else 1125899906842624) = res at *
    clear hp hq hr0 hr1 hb0 hb1
    go_enter Tryd.func24, Tryd.ntmps24
    go_wp2_with fail
    refine hs1.out.mono ?_
    rintro e w1 ⟨rfl, rfl⟩
    go_wp2_with fail
    refine hs2.out.mono ?_
    rintro e w2 ⟨rfl, rfl⟩
    go_wp2_with fail
    refine hsg.out.mono ?_
    rintro e w3 ⟨rfl, rfl⟩
    go_wp2
    go_ret
    exact ⟨rfl, rfl⟩
  · have hp : x * y ≤ 1125899906842624 := by
      have h1 : x * y ≤ (1125899906842624 / y) * y := Int.mul_le_mul_of_nonneg_right (by omega) y0
      have h2 : (1125899906842624 / y) * y = y * (1125899906842624 / y) := by rw [Int.mul_comm]
      omega
    have hp0 : 0 ≤ x * y := Int.mul_nonneg x0 y0
    have hm : IntKind.u64.wrap (x * y) = x * y := by rw [IntKind.wrap_u64]; omega
    have hsg := Lib.hid (signedR_any (x * y) (sg a != sg b) w (by unfold isU64; omega))
    generalize lim (if (sg a != sg b) = true then -(x * y) else x * y) = res at *
    clear hp hq hr0 hr1 hb0 hb1
    go_enter Tryd.func24, Tryd.ntmps24
    go_wp2_with fail
    refine hs1.out.mono ?_
    rintro e w1 ⟨rfl, rfl⟩
    go_wp2_with fail
    refine hs2.out.mono ?_
    rintro e w2 ⟨rfl, rfl⟩
    go_wp2_with fail
    refine hsg.out.mono ?_
    rintro e w3 ⟨rfl, rfl⟩
    go_wp2
    go_ret
    exact ⟨rfl, rfl⟩
theorem mulR_any (a b : Int) (w : World) (ha : isI64 a) (hb : isI64 b) :
    Calls Tryd.prog 24 #[.int .i64 a, .int .i64 b] w fun e w' => e = .returned (.int .i64 (lim (a * b))) ∧ w' = w := by
  by_cases h : a = 0 ∨ b = 0
  · refine (mulR_zero a b w ha hb h).mono fun e w' hh => ⟨?_, hh.2⟩
    rw [hh.1]
    rcases h with h | h <;> rw [h] <;> simp [lim]
  · rw [mul_signed a b]
    exact mulR_pos a b (mg a) (mg b) w (mg_u64 a ha) (mg_u64 b hb) (Lib.hid (sizeR_any a w ha)) (Lib.hid (sizeR_any b w hb)) (by rw [beq_eq_false_iff_ne]; exact fun e => h (.inl ((mg_zero a).1 e))) (by rw [beq_eq_false_iff_ne]; exact fun e => h (.inr ((mg_zero b).1 e)))

set_option maxHeartbeats 400000 in
theorem divR_any (a b : Int) (w : World) (ha : isI64 a) (hb : isI64 b) (h0 : b ≠ 0) :
    Calls Tryd.prog 12 #[.int .i64 a, .int .i64 b] w fun e w' => e = .returned (.tuple #[.int .i64 (lim (a.tdiv b)), .bool true]) ∧ w' = w := by
  have hs1 := Lib.hid (sizeR_any a w ha)
  have hs2 := Lib.hid (sizeR_any b w hb)
  have hsg := Lib.hid (signedR_any (mg a / mg b) (sg a != sg b) w (mg_div a b ha))
  rw [tdiv_signed a b]
  generalize lim (if (sg a != sg b) = true then -(mg a / mg b) else mg a / mg b) = res at *
  have hbz : (b == 0) = false := by simpa using h0
  have hw : IntKind.u64.wrap (mg a / mg b) = mg a / mg b := by have := mg_div a b ha; unfold isU64 at this; rw [IntKind.wrap_u64]; omega
  have hmz : (mg b == 0) = false := by rw [beq_eq_false_iff_ne]; exact fun e => h0 ((mg_zero b).1 e)
  have hm1 : 1 ≤ mg b := by have := mg_nn b; have : mg b ≠ 0 := fun e => h0 ((mg_zero b).1 e)
                            omega
  have hm2 := mg_nn a
  have hm3 : mg a ≤ 18446744073709551615 := (mg_u64 a ha).2
  generalize mg a = x at *
  generalize mg b = y at *
  clear h0
  go_enter Tryd.func12, Tryd.ntmps12
  go_wp2_with fail
  refine hs1.out.mono ?_
  rintro e w1 ⟨rfl, rfl⟩
  go_wp2_with fail
  refine hs2.out.mono ?_
  rintro e w2 ⟨rfl, rfl⟩
  go_wp2_with fail
  refine hsg.out.mono ?_
  rintro e w3 ⟨rfl, rfl⟩
  go_wp2
  go_ret2
  exact ⟨rfl, rfl⟩
set_option maxHeartbeats 400000 in
theorem modR_any (a b : Int) (w : World) (ha : isI64 a) (hb : isI64 b) (h0 : b ≠ 0) :
    Calls Tryd.prog 14 #[.int .i64 a, .int .i64 b] w fun e w' => e = .returned (.tuple #[.int .i64 (lim (a.tmod b)), .bool true]) ∧ w' = w := by
  have hs1 := Lib.hid (sizeR_any a w ha)
  have hs2 := Lib.hid (sizeR_any b w hb)
  have hsg := Lib.hid (signedR_any (mg a % mg b) (sg a) w (mg_mod a b hb h0))
  rw [tmod_signed a b]
  generalize lim (if sg a = true then -(mg a % mg b) else mg a % mg b) = res at *
  have hbz : (b == 0) = false := by simpa using h0
  have hw : IntKind.u64.wrap (mg a % mg b) = mg a % mg b := by have := mg_mod a b hb h0; unfold isU64 at this; rw [IntKind.wrap_u64]; omega
  have hmz : (mg b == 0) = false := by rw [beq_eq_false_iff_ne]; exact fun e => h0 ((mg_zero b).1 e)
  have hm1 : 1 ≤ mg b := by have := mg_nn b; have : mg b ≠ 0 := fun e => h0 ((mg_zero b).1 e)
                            omega
  have hm2 := mg_nn a
  have hm3 : mg a ≤ 18446744073709551615 := (mg_u64 a ha).2
  generalize mg a = x at *
  generalize mg b = y at *
  clear h0
  go_enter Tryd.func14, Tryd.ntmps14
  go_wp2_with fail
  refine hs1.out.mono ?_
  rintro e w1 ⟨rfl, rfl⟩
  go_wp2_with fail
  refine hs2.out.mono ?_
  rintro e w2 ⟨rfl, rfl⟩
  go_wp2_with fail
  refine hsg.out.mono ?_
  rintro e w3 ⟨rfl, rfl⟩
  go_wp2
  go_ret2
  exact ⟨rfl, rfl⟩
set_option maxHeartbeats 400000 in
theorem divR_zero (a : Int) (w : World) :
    Calls Tryd.prog 12 #[.int .i64 a, .int .i64 0] w fun e w' => e = .returned (.tuple #[.int .i64 0, .bool false]) ∧ w' = w := by
  go_enter Tryd.func12, Tryd.ntmps12
  go_wp2
  go_ret2
  exact ⟨rfl, rfl⟩
set_option maxHeartbeats 400000 in
theorem modR_zero (a : Int) (w : World) :
    Calls Tryd.prog 14 #[.int .i64 a, .int .i64 0] w fun e w' => e = .returned (.tuple #[.int .i64 0, .bool false]) ∧ w' = w := by
  go_enter Tryd.func14, Tryd.ntmps14
  go_wp2
  go_ret2
  exact ⟨rfl, rfl⟩
end Go.Proofs.YtecoieacgjkkpaaDoor
