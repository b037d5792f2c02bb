/-
  The words of layer 1 (num) in plain Lean, and the walks of the small functions: size, sum, limited.
-/
import Derived.Test.YtecoieacgjkkpaaDoorRows
import Derived.Test.YtecoieacgjkkpaaDoorNumDec
import Derived.WalkKit
import Derived.WalkSpells
import Derived.WalkLawsBesides
import Derived.Lib.Hide
import Derived.PlainAid
import Derived.Handy
import Derived.Deep.QuietTactic
import Derived.BigQuiet
import Derived.Shelf.Spec.BitsCarry
import Derived.Test.YtecoieacgjkkpaaDoorShelf
namespace Go.Proofs.YtecoieacgjkkpaaDoor
open Go.RowKit

/-- The sign, the high word and the low word of the sum of two integers given by sign and size. -/
def sumS (s : Bool) (x : Int) (t : Bool) (y : Int) : Bool := if s = t then s else if x < y then t else s
def sumH (s : Bool) (x : Int) (t : Bool) (y : Int) : Int := if s = t then (x + y) / 18446744073709551616 else 0
def sumL (s : Bool) (x : Int) (t : Bool) (y : Int) : Int := if s = t then (x + y) % 18446744073709551616 else if x < y then y - x else x - y
/-- What 'limited' makes of a sign, a high and a low word. -/
def limW (s : Bool) (h l : Int) : Int := if h ≠ 0 ∨ 1125899906842624 < l then (if s then -1125899906842624 else 1125899906842624) else (if s then -l else l)

theorem size_wneg (n : Int) (h : isI64 n) (h1 : n < 0) : IntKind.u64.wrap (-IntKind.u64.wrap n) = (n.natAbs : Int) := by
  unfold isI64 at h
  simp only [IntKind.wrap_u64]; omega
theorem size_wpos (n : Int) (h : isI64 n) (h1 : 0 ≤ n) : IntKind.u64.wrap n = (n.natAbs : Int) := by
  unfold isI64 at h
  simp only [IntKind.wrap_u64]; omega

set_option maxHeartbeats 400000 in
theorem size_any (n : Int) (w : World) (h : isI64 n) :
    Calls Tryd.prog 28 #[.int .i64 n] w fun e w' => e = .returned (.int .u64 (n.natAbs : Int)) ∧ w' = w := by
  by_cases h1 : n < 0
  · go_enter Tryd.func28, Tryd.ntmps28
    go_wp2
    go_ret
    exact ⟨by simp [size_wneg n h h1], rfl⟩
  · have h2 : 0 ≤ n := by omega
    go_enter Tryd.func28, Tryd.ntmps28
    go_wp2
    go_ret
    exact ⟨by simp [size_wpos n h h2], rfl⟩

theorem add64_0 (x y : Int) (hx : isU64 x) (hy : isU64 y) (w : World) : (callFunc 43 #[.int .u64 x, .int .u64 y, .int .u64 0]).run Tryd.prog w =
    .ok (.value (.tuple #[.int .u64 ((x + y) % 18446744073709551616), .int .u64 ((x + y) / 18446744073709551616)])) w := by
  obtain ⟨hx0, hx1⟩ := hx
  obtain ⟨hy0, hy1⟩ := hy
  obtain ⟨x, rfl⟩ := Int.eq_ofNat_of_zero_le hx0
  obtain ⟨y, rfl⟩ := Int.eq_ofNat_of_zero_le hy0
  rw [run_callFunc_extern Tryd.func43 (by kernel_rfl) (by kernel_rfl) (by kernel_rfl) (e := add64Entry) (by kernel_rfl), run_add64 x y 0 (by omega) (by omega) (by omega) (by omega)]
  simp only [Result.andThen]
  congr 5 <;> omega

theorem sub_u64 (x y : Int) (hx : isU64 x) (hy : isU64 y) (h : y ≤ x) : IntKind.u64.wrap (x - y) = x - y := by
  unfold isU64 at hx hy
  rw [IntKind.wrap_u64]; omega

set_option maxHeartbeats 400000 in
theorem sum_any (s : Bool) (x : Int) (t : Bool) (y : Int) (hx : isU64 x) (hy : isU64 y) (w : World) :
    Calls Tryd.prog 35 #[.bool s, .int .u64 x, .bool t, .int .u64 y] w fun e w' => e = .returned (.tuple #[.bool (sumS s x t y), .int .u64 (sumH s x t y), .int .u64 (sumL s x t y)]) ∧ w' = w := by
  by_cases hst : s = t
  · subst hst
    have ha := fun w => add64_0 x y hx hy w
    have hb : (s == s) = true := by simp
    have e1 : sumS s x s y = s := by simp [sumS]
    have e2 : sumH s x s y = (x + y) / 18446744073709551616 := by simp [sumH]
    have e3 : sumL s x s y = (x + y) % 18446744073709551616 := by simp [sumL]
    rw [e1, e2, e3]
    clear e1 e2 e3
    go_enter Tryd.func35, Tryd.ntmps35
    go_wp2
    go_ret3
    exact ⟨rfl, rfl⟩
  · have hb : (s == t) = false := by simp [hst]
    by_cases hxy : x < y
    · have hw := sub_u64 y x hy hx (by omega)
      have e1 : sumS s x t y = t := by simp [sumS, hst, hxy]
      have e2 : sumH s x t y = 0 := by simp [sumH, hst]
      have e3 : sumL s x t y = y - x := by simp [sumL, hst, hxy]
      rw [e1, e2, e3]
      clear e1 e2 e3
      go_enter Tryd.func35, Tryd.ntmps35
      go_wp2
      go_ret3
      exact ⟨rfl, rfl⟩
    · have hw := sub_u64 x y hx hy (by omega)
      have e1 : sumS s x t y = s := by simp [sumS, hst, hxy]
      have e2 : sumH s x t y = 0 := by simp [sumH, hst]
      have e3 : sumL s x t y = x - y := by simp [sumL, hst, hxy]
      rw [e1, e2, e3]
      clear e1 e2 e3
      go_enter Tryd.func35, Tryd.ntmps35
      go_wp2
      go_ret3
      exact ⟨rfl, rfl⟩

def sg (a : Int) : Bool := decide (a < 0)
def mg (a : Int) : Int := (a.natAbs : Int)


/-- What a closure of num gives: a sign and two words; it only reads. -/
def Gives (w : World) (s : Bool) (h l : Int) (e : Ending) (w' : World) : Prop := e = .returned (.tuple #[.bool s, .int .u64 h, .int .u64 l]) ∧ ∃ n, w' = w.drewN n

set_option maxHeartbeats 400000 in
theorem addC_any (a b : Int) (p q : Addr) (w : World) (ha : isI64 a) (hb : isI64 b) (hp : w.cell? p = some (.int .i64 a)) (hq : w.cell? q = some (.int .i64 b)) :
    Calls Tryd.prog 34 #[.pointer (some p), .pointer (some q)] w (Gives w (sumS (sg a) (mg a) (sg b) (mg b)) (sumH (sg a) (mg a) (sg b) (mg b)) (sumL (sg a) (mg a) (sg b) (mg b))) := by
  go_enter Tryd.func34, Tryd.ntmps34
  go_wp2
  go_quiet ((first | (go_at_call 28; exact Calls.quiet_of_same (size_any _ _ (by assumption))) | (go_at_call 35; exact Calls.quiet_of_same (sum_any _ _ _ _ (by unfold isU64 isI64 at *; omega) (by unfold isU64 isI64 at *; omega) _))))
  go_wp2
  go_ret3
  exact ⟨rfl, _, rfl⟩

set_option maxHeartbeats 400000 in
theorem subC_any (a b : Int) (p q : Addr) (w : World) (ha : isI64 a) (hb : isI64 b) (hp : w.cell? p = some (.int .i64 a)) (hq : w.cell? q = some (.int .i64 b)) :
    Calls Tryd.prog 37 #[.pointer (some p), .pointer (some q)] w (Gives w (sumS (sg a) (mg a) (!sg b) (mg b)) (sumH (sg a) (mg a) (!sg b) (mg b)) (sumL (sg a) (mg a) (!sg b) (mg b))) := by
  have hs : (!sg b) = decide (0 ≤ b) := by unfold sg; rw [Bool.eq_iff_iff]; simp
  rw [hs]
  clear hs
  go_enter Tryd.func37, Tryd.ntmps37
  go_wp2
  go_quiet ((first | (go_at_call 28; exact Calls.quiet_of_same (size_any _ _ (by assumption))) | (go_at_call 35; exact Calls.quiet_of_same (sum_any _ _ _ _ (by unfold isU64 isI64 at *; omega) (by unfold isU64 isI64 at *; omega) _))))
  go_wp2
  go_ret3
  exact ⟨rfl, _, rfl⟩

theorem mul64_any (x y : Int) (hx : isU64 x) (hy : isU64 y) (w : World) :
    Calls Tryd.prog 39 #[.int .u64 x, .int .u64 y] w fun e w' => e = .returned (.tuple #[.int .u64 (x * y / 18446744073709551616), .int .u64 (x * y % 18446744073709551616)]) ∧ w' = w := by
  obtain ⟨hx0, hx1⟩ := hx
  obtain ⟨hy0, hy1⟩ := hy
  obtain ⟨x, rfl⟩ := Int.eq_ofNat_of_zero_le hx0
  obtain ⟨y, rfl⟩ := Int.eq_ofNat_of_zero_le hy0
  exact Tryd.bits_Mul64 x y (by omega) (by omega) w

def mulH (x y : Int) : Int := x * y / 18446744073709551616
def mulL (x y : Int) : Int := x * y % 18446744073709551616
set_option maxHeartbeats 400000 in
theorem mulC_any (a b : Int) (p q : Addr) (w : World) (ha : isI64 a) (hb : isI64 b) (hp : w.cell? p = some (.int .i64 a)) (hq : w.cell? q = some (.int .i64 b)) :
    Calls Tryd.prog 38 #[.pointer (some p), .pointer (some q)] w (Gives w (sg a != sg b) (mulH (mg a) (mg b)) (mulL (mg a) (mg b))) := by
  have hm : ∀ (x y : Int) (w : World), isU64 x → isU64 y → Calls Tryd.prog 39 #[.int .u64 x, .int .u64 y] w fun e w' => e = .returned (.tuple #[.int .u64 (mulH x y), .int .u64 (mulL x y)]) ∧ w' = w := fun x y w hx hy => mul64_any x y hx hy w
  have Hm := Lib.hid hm
  clear hm
  go_enter Tryd.func38, Tryd.ntmps38
  go_wp2
  go_quiet ((first | (go_at_call 28; exact Calls.quiet_of_same (size_any _ _ (by assumption))) | (go_at_call 39; exact Calls.quiet_of_same (Hm.out _ _ _ (by unfold isU64 isI64 at *; omega) (by unfold isU64 isI64 at *; omega)))))
  go_wp2
  go_ret3
  exact ⟨rfl, _, rfl⟩

set_option maxHeartbeats 400000 in
theorem divC_any (a b : Int) (p q : Addr) (w : World) (ha : isI64 a) (hb : isI64 b) (hb0 : b ≠ 0) (hp : w.cell? p = some (.int .i64 a)) (hq : w.cell? q = some (.int .i64 b)) :
    Calls Tryd.prog 27 #[.pointer (some p), .pointer (some q)] w (Gives w (sg a != sg b) 0 (mg a / mg b)) := by
  have hn : 1 ≤ (b.natAbs : Int) := by omega
  have hl : (a.natAbs : Int) ≤ 18446744073709551615 := by unfold isI64 at ha; omega
  have hz : ((b.natAbs : Int) == 0) = false := by simp; omega
  have hw : IntKind.u64.wrap ((a.natAbs : Int) / (b.natAbs : Int)) = (a.natAbs : Int) / (b.natAbs : Int) := by
    have h1 := Int.ediv_le_self (b.natAbs : Int) (show 0 ≤ (a.natAbs : Int) by omega)
    have h2 := Int.ediv_nonneg (show 0 ≤ (a.natAbs : Int) by omega) (show 0 ≤ (b.natAbs : Int) by omega)
    rw [IntKind.wrap_u64]; omega
  go_enter Tryd.func27, Tryd.ntmps27
  go_wp2
  go_quiet ((go_at_call 28; exact Calls.quiet_of_same (size_any _ _ (by assumption))))
  go_wp2
  go_ret3
  exact ⟨rfl, _, rfl⟩

set_option maxHeartbeats 400000 in
theorem modC_any (a b : Int) (p q : Addr) (w : World) (ha : isI64 a) (hb : isI64 b) (hb0 : b ≠ 0) (hp : w.cell? p = some (.int .i64 a)) (hq : w.cell? q = some (.int .i64 b)) :
    Calls Tryd.prog 31 #[.pointer (some p), .pointer (some q)] w (Gives w (sg a) 0 (mg a % mg b)) := by
  have hn : 1 ≤ (b.natAbs : Int) := by omega
  have hl : (a.natAbs : Int) ≤ 18446744073709551615 := by unfold isI64 at ha; omega
  have hz : ((b.natAbs : Int) == 0) = false := by simp; omega
  go_enter Tryd.func31, Tryd.ntmps31
  go_wp2
  go_quiet ((go_at_call 28; exact Calls.quiet_of_same (size_any _ _ (by assumption))))
  go_wp2
  go_ret3
  exact ⟨rfl, _, rfl⟩

/-- num.limited, called with a closure that gives a sign and two words. -/
theorem wrap_small (l : Int) (h0 : 0 ≤ l) (h1 : l ≤ 1125899906842624) : wrap64 l = l := by unfold wrap64; omega
theorem wrap_small' (l : Int) (h0 : 0 ≤ l) (h1 : l ≤ 1125899906842624) : wrap64 (-l) = -l := by unfold wrap64; omega
theorem lim_t (s : Bool) (h l : Int) (hl : isU64 l) (h0 : h = 0) (h1 : l ≤ 1125899906842624) (hs : s = true) : wrap64 (-wrap64 l) = limW s h l := by
  subst h0; subst hs
  rw [wrap_small l hl.1 h1, wrap_small' l hl.1 h1]
  unfold limW
  rw [if_neg (by omega)]; rfl
theorem lim_f (s : Bool) (h l : Int) (hl : isU64 l) (h0 : h = 0) (h1 : l ≤ 1125899906842624) (hs : s = false) : wrap64 l = limW s h l := by
  subst h0; subst hs
  rw [wrap_small l hl.1 h1]
  unfold limW
  rw [if_neg (by omega)]; rfl
theorem ret_int {k : IntKind} {a b : Int} (h : a = b) : Ending.returned (.int k a) = .returned (.int k b) := by rw [h]
set_option maxHeartbeats 400000 in
theorem limited_any (k : FuncId) (p q : Addr) (s : Bool) (h l : Int) (w : World) (hl : isU64 l)
    (he : ∀ args w, (callFunc k args).run Tryd.prog w = .ok (.enter k args) w)
    (hk : Calls Tryd.prog k #[.pointer (some p), .pointer (some q)] w (Gives w s h l)) :
    Calls Tryd.prog 26 #[.func (.func k) #[] #[.pointer (some p), .pointer (some q)]] w fun e w' => e = .returned (.int .i64 (limW s h l)) ∧ ∃ n, w' = w.drewN n := by
  have Hk := Lib.hid hk
  clear hk
  go_enter Tryd.func26, Tryd.ntmps26
  go_wp2_with (go_at_fn k; refine Hk.out.mono ?_; rintro e w' ⟨rfl, n, rfl⟩)
  all_goals
    go_ret
    refine ⟨ret_int ?_, _, rfl⟩
    first | (simp [limW, *]; done) | exact lim_t s h l hl (by assumption) (by assumption) (by assumption) | exact lim_f s h l hl (by assumption) (by assumption) (by assumption)

/-! ### num.Add, Sub, Mul, Div, Mod -/
def lim (x : Int) : Int := if x < -1125899906842624 then -1125899906842624 else if 1125899906842624 < x then 1125899906842624 else x

/-- The world in which a closure of num runs: its two captured ints in blocks of their own. -/
def two (w : World) (a b : Int) : World := (w.alloc (.cells #[.int .i64 a] 3)).alloc (.cells #[.int .i64 b] 3)
theorem two_cells (w : World) (a b : Int) : (two w a b).cell? ⟨w.heap.size, 0, none⟩ = some (.int .i64 a) ∧ (two w a b).cell? ⟨w.heap.size + 1, 0, none⟩ = some (.int .i64 b) := by
  unfold two
  constructor <;> simp [go_sem]
theorem two_below (w : World) (a b : Int) (n : Nat) : Below w.heap.size w ((two w a b).drewN n) := by
  have h : Below w.heap.size w (two w a b) := ((Below.refl _ _).alloc (Nat.le_refl _) _).alloc (by simp) _
  exact ⟨h.os, h.tape, h.output, h.size, h.block⟩

theorem lim_sum (a b : Int) (ha : isI64 a) (hb : isI64 b) : limW (sumS (sg a) (mg a) (sg b) (mg b)) (sumH (sg a) (mg a) (sg b) (mg b)) (sumL (sg a) (mg a) (sg b) (mg b)) = lim (a + b) := by
  unfold limW sumS sumH sumL sg mg lim isI64 at *
  by_cases h1 : a < 0 <;> by_cases h2 : b < 0 <;> simp [h1, h2] <;> (repeat' split) <;> first | omega | simp_all
theorem lim_dif (a b : Int) (ha : isI64 a) (hb : isI64 b) : limW (sumS (sg a) (mg a) (!sg b) (mg b)) (sumH (sg a) (mg a) (!sg b) (mg b)) (sumL (sg a) (mg a) (!sg b) (mg b)) = lim (a - b) := by
  unfold limW sumS sumH sumL sg mg lim isI64 at *
  by_cases h1 : a < 0 <;> by_cases h2 : b < 0 <;> simp [h1, h2] <;> (repeat' split) <;> first | omega | simp_all
theorem sumL_u64 (s t : Bool) (x y : Int) (hx : isU64 x) (hy : isU64 y) : isU64 (sumL s x t y) := by
  unfold sumL isU64 at *; repeat' split
  all_goals omega
theorem mg_u64 (a : Int) (ha : isI64 a) : isU64 (mg a) := by unfold isI64 isU64 mg at *; omega

set_option maxHeartbeats 400000 in
theorem add_any (a b : Int) (w : World) (ha : isI64 a) (hb : isI64 b) :
    Calls Tryd.prog 19 #[.int .i64 a, .int .i64 b] w fun e w' => e = .returned (.int .i64 (lim (a + b))) ∧ Below w.heap.size w w' := by
  have hmf : ∀ (fn : Fn) (first cap : Array Value) (w : World), (Instr.makeFunc fn first cap).run Tryd.prog w = .ok (.func fn first cap) w := fun _ _ _ _ => rfl
  have hl := limited_any 34 ⟨w.heap.size, 0, none⟩ ⟨w.heap.size + 1, 0, none⟩ _ _ _ (two w a b) (sumL_u64 _ _ _ _ (mg_u64 a ha) (mg_u64 b hb)) (enters_of Tryd.func34 (by kernel_rfl) rfl) (addC_any a b _ _ (two w a b) ha hb (two_cells w a b).1 (two_cells w a b).2)
  rw [lim_sum a b ha hb] at hl
  have Hl := Lib.hid hl
  clear hl
  go_enter Tryd.func19, Tryd.ntmps19
  go_wp2_with fail
  refine Hl.out.mono ?_
  rintro e w' ⟨rfl, n, rfl⟩
  go_wp2
  go_ret
  exact ⟨rfl, two_below w a b n⟩

theorem sub_any (a b : Int) (w : World) (ha : isI64 a) (hb : isI64 b) :
    Calls Tryd.prog 21 #[.int .i64 a, .int .i64 b] w fun e w' => e = .returned (.int .i64 (lim (a - b))) ∧ Below w.heap.size w w' := by
  have hmf : ∀ (fn : Fn) (first cap : Array Value) (w : World), (Instr.makeFunc fn first cap).run Tryd.prog w = .ok (.func fn first cap) w := fun _ _ _ _ => rfl
  have hl := limited_any 37 ⟨w.heap.size, 0, none⟩ ⟨w.heap.size + 1, 0, none⟩ _ _ _ (two w a b) (sumL_u64 _ _ _ _ (mg_u64 a ha) (mg_u64 b hb)) (enters_of Tryd.func37 (by kernel_rfl) rfl) (subC_any a b _ _ (two w a b) ha hb (two_cells w a b).1 (two_cells w a b).2)
  rw [lim_dif a b ha hb] at hl
  have Hl := Lib.hid hl
  clear hl
  go_enter Tryd.func21, Tryd.ntmps21
  go_wp2_with fail
  refine Hl.out.mono ?_
  rintro e w' ⟨rfl, n, rfl⟩
  go_wp2
  go_ret
  exact ⟨rfl, two_below w a b n⟩

theorem mul_signed (a b : Int) : a * b = if (sg a != sg b) = true then -(mg a * mg b) else mg a * mg b := by
  unfold sg mg
  by_cases h1 : a < 0 <;> by_cases h2 : b < 0 <;> simp only [h1, h2, decide_true, decide_false]
  · rw [show (a.natAbs : Int) = -a by omega, show (b.natAbs : Int) = -b by omega]; simp [Int.neg_mul_neg]
  · rw [show (a.natAbs : Int) = -a by omega, show (b.natAbs : Int) = b by omega]; simp [Int.neg_mul]
  · rw [show (a.natAbs : Int) = a by omega, show (b.natAbs : Int) = -b by omega]; simp [Int.mul_neg]
  · rw [show (a.natAbs : Int) = a by omega, show (b.natAbs : Int) = b by omega]; simp
theorem limW_of (s : Bool) (p : Int) (h : 0 ≤ p) : limW s (p / 18446744073709551616) (p % 18446744073709551616) = lim (if s = true then -p else p) := by
  unfold limW lim
  cases s <;> simp <;> (repeat' split) <;> first | omega | simp_all
theorem lim_mul (a b : Int) : limW (sg a != sg b) (mulH (mg a) (mg b)) (mulL (mg a) (mg b)) = lim (a * b) := by
  unfold mulH mulL
  rw [limW_of _ _ (Int.mul_nonneg (by unfold mg; omega) (by unfold mg; omega)), mul_signed a b]
theorem mulL_u64 (x y : Int) : isU64 (mulL x y) := by unfold mulL isU64; omega
theorem tdiv_signed (a b : Int) : a.tdiv b = if (sg a != sg b) = true then -(mg a / mg b) else mg a / mg b := by
  unfold sg mg
  by_cases h1 : a < 0 <;> by_cases h2 : b < 0 <;> simp only [h1, h2, decide_true, decide_false]
  · rw [show (a.natAbs : Int) = -a by omega, show (b.natAbs : Int) = -b by omega, ← Int.tdiv_eq_ediv_of_nonneg (by omega)]; simp
  · rw [show (a.natAbs : Int) = -a by omega, show (b.natAbs : Int) = b by omega, ← Int.tdiv_eq_ediv_of_nonneg (by omega)]; simp
  · rw [show (a.natAbs : Int) = a by omega, show (b.natAbs : Int) = -b by omega, ← Int.tdiv_eq_ediv_of_nonneg (by omega)]; simp
  · rw [show (a.natAbs : Int) = a by omega, show (b.natAbs : Int) = b by omega, ← Int.tdiv_eq_ediv_of_nonneg (by omega)]; simp
theorem tmod_signed (a b : Int) : a.tmod b = if sg a = true then -(mg a % mg b) else mg a % mg b := by
  unfold sg mg
  by_cases h1 : a < 0 <;> by_cases h2 : b < 0 <;> simp only [h1, decide_true, decide_false]
  · rw [show (a.natAbs : Int) = -a by omega, show (b.natAbs : Int) = -b by omega, ← Int.tmod_eq_emod_of_nonneg (by omega)]; simp
  · rw [show (a.natAbs : Int) = -a by omega, show (b.natAbs : Int) = b by omega, ← Int.tmod_eq_emod_of_nonneg (by omega)]; simp
  · rw [show (a.natAbs : Int) = a by omega, show (b.natAbs : Int) = -b by omega, ← Int.tmod_eq_emod_of_nonneg (by omega)]; simp
  · rw [show (a.natAbs : Int) = a by omega, show (b.natAbs : Int) = b by omega, ← Int.tmod_eq_emod_of_nonneg (by omega)]; simp
theorem limW_zero (s : Bool) (p : Int) (h : 0 ≤ p) : limW s 0 p = lim (if s = true then -p else p) := by
  unfold limW lim
  cases s <;> simp <;> (repeat' split) <;> first | omega | simp_all
theorem mg_div (a b : Int) (ha : isI64 a) : isU64 (mg a / mg b) := by
  have h0 : 0 ≤ mg a := by unfold mg; omega
  have h1 := Int.ediv_le_self (mg b) h0
  have h2 := Int.ediv_nonneg h0 (show 0 ≤ mg b by unfold mg; omega)
  unfold isU64 isI64 mg at *; omega
theorem mg_mod (a b : Int) (hb : isI64 b) (h0 : b ≠ 0) : isU64 (mg a % mg b) := by
  have h1 := Int.emod_nonneg (mg a) (show mg b ≠ 0 by unfold mg; omega)
  have h2 := Int.emod_lt_of_pos (mg a) (show 0 < mg b by unfold mg; omega)
  unfold isU64 isI64 at *; unfold mg at *; omega
theorem lim_div (a b : Int) (ha : isI64 a) : limW (sg a != sg b) 0 (mg a / mg b) = lim (a.tdiv b) := by
  rw [limW_zero _ _ (mg_div a b ha).1, tdiv_signed a b]
theorem lim_mod (a b : Int) (hb : isI64 b) (h0 : b ≠ 0) : limW (sg a) 0 (mg a % mg b) = lim (a.tmod b) := by
  rw [limW_zero _ _ (mg_mod a b hb h0).1, tmod_signed a b]

set_option maxHeartbeats 400000 in
theorem mul_any (a b : Int) (w : World) (ha : isI64 a) (hb : isI64 b) :
    Calls Tryd.prog 23 #[.int .i64 a, .int .i64 b] w fun e w' => e = .returned (.int .i64 (lim (a * b))) ∧ Below w.heap.size w w' := by
  have hmf : ∀ (fn : Fn) (first cap : Array Value) (w : World), (Instr.makeFunc fn first cap).run Tryd.prog w = .ok (.func fn first cap) w := fun _ _ _ _ => rfl
  have hl := limited_any 38 ⟨w.heap.size, 0, none⟩ ⟨w.heap.size + 1, 0, none⟩ _ _ _ (two w a b) (mulL_u64 _ _) (enters_of Tryd.func38 (by kernel_rfl) rfl) (mulC_any a b _ _ (two w a b) ha hb (two_cells w a b).1 (two_cells w a b).2)
  rw [lim_mul a b] at hl
  have Hl := Lib.hid hl
  clear hl
  go_enter Tryd.func23, Tryd.ntmps23
  go_wp2_with fail
  refine Hl.out.mono ?_
  rintro e w' ⟨rfl, n, rfl⟩
  go_wp2
  go_ret
  exact ⟨rfl, two_below w a b n⟩

set_option maxHeartbeats 400000 in
theorem div_any (a b : Int) (w : World) (ha : isI64 a) (hb : isI64 b) (h0 : b ≠ 0) :
    Calls Tryd.prog 11 #[.int .i64 a, .int .i64 b] w fun e w' => e = .returned (.tuple #[.int .i64 (lim (a.tdiv b)), .bool true]) ∧ Below w.heap.size w w' := by
  have hmf : ∀ (fn : Fn) (first cap : Array Value) (w : World), (Instr.makeFunc fn first cap).run Tryd.prog w = .ok (.func fn first cap) w := fun _ _ _ _ => rfl
  have hl := limited_any 27 ⟨w.heap.size, 0, none⟩ ⟨w.heap.size + 1, 0, none⟩ _ _ _ (two w a b) (mg_div a b ha) (enters_of Tryd.func27 (by kernel_rfl) rfl) (divC_any a b _ _ (two w a b) ha hb h0 (two_cells w a b).1 (two_cells w a b).2)
  rw [lim_div a b ha] at hl
  have Hl := Lib.hid hl
  clear hl
  have hz : (b == 0) = false := by simp [h0]
  go_enter Tryd.func11, Tryd.ntmps11
  go_wp2_with fail
  refine Hl.out.mono ?_
  rintro e w' ⟨rfl, n, rfl⟩
  go_wp2
  go_ret2
  exact ⟨rfl, two_below w a b n⟩

set_option maxHeartbeats 400000 in
theorem mod_any (a b : Int) (w : World) (ha : isI64 a) (hb : isI64 b) (h0 : b ≠ 0) :
    Calls Tryd.prog 13 #[.int .i64 a, .int .i64 b] w fun e w' => e = .returned (.tuple #[.int .i64 (lim (a.tmod b)), .bool true]) ∧ Below w.heap.size w w' := by
  have hmf : ∀ (fn : Fn) (first cap : Array Value) (w : World), (Instr.makeFunc fn first cap).run Tryd.prog w = .ok (.func fn first cap) w := fun _ _ _ _ => rfl
  have hl := limited_any 31 ⟨w.heap.size, 0, none⟩ ⟨w.heap.size + 1, 0, none⟩ _ _ _ (two w a b) (mg_mod a b hb h0) (enters_of Tryd.func31 (by kernel_rfl) rfl) (modC_any a b _ _ (two w a b) ha hb h0 (two_cells w a b).1 (two_cells w a b).2)
  rw [lim_mod a b hb h0] at hl
  have Hl := Lib.hid hl
  clear hl
  have hz : (b == 0) = false := by simp [h0]
  go_enter Tryd.func13, Tryd.ntmps13
  go_wp2_with fail
  refine Hl.out.mono ?_
  rintro e w' ⟨rfl, n, rfl⟩
  go_wp2
  go_ret2
  exact ⟨rfl, two_below w a b n⟩

set_option maxHeartbeats 400000 in
theorem div_zero (a : Int) (w : World) :
    Calls Tryd.prog 11 #[.int .i64 a, .int .i64 0] w fun e w' => e = .returned (.tuple #[.int .i64 0, .bool false]) ∧ Below w.heap.size w w' := by
  go_enter Tryd.func11, Tryd.ntmps11
  go_wp2
  go_ret2
  exact ⟨rfl, by go_grown⟩
set_option maxHeartbeats 400000 in
theorem mod_zero (a : Int) (w : World) :
    Calls Tryd.prog 13 #[.int .i64 a, .int .i64 0] w fun e w' => e = .returned (.tuple #[.int .i64 0, .bool false]) ∧ Below w.heap.size w w' := by
  go_enter Tryd.func13, Tryd.ntmps13
  go_wp2
  go_ret2
  exact ⟨rfl, by go_grown⟩

end Go.Proofs.YtecoieacgjkkpaaDoor
