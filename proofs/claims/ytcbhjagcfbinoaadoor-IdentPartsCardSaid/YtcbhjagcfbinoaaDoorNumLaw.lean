/-
  NumDec, NumBase, NumText, NumLaw: joined.
-/
import Derived.Lib.AtoiAll
import Derived.Lib.AtoiTie
import Derived.Lib.ItoaLen
import Derived.Test.YtcbhjagcfbinoaaDoorRows
import Derived.WalkKit
import Derived.WalkSpells
import Derived.WalkLawsBesides
import Derived.Lib.Hide
import Derived.PlainAid
import Derived.Handy
import Derived.Deep.QuietTactic
import Derived.BigQuiet
import Derived.Shelf.Spec.BitsCarry
import Derived.Test.YtcbhjagcfbinoaaDoorShelf
import Derived.Lib.SmallJoins
import Derived.Lib.AppendIntMem
import Derived.Lib.AtoiErrMem
/-
  Plain Lean on decimal numerals (no program): every int is read back from its numeral; numerals of different ints differ.
-/
namespace Go.Proofs.YtcbhjagcfbinoaaDoor.S1
open Go.Lib
def isI64 (n : Int) : Prop := -9223372036854775808 ≤ n ∧ n ≤ 9223372036854775807
def isU64 (n : Int) : Prop := 0 ≤ n ∧ n ≤ 18446744073709551615
namespace Dec

theorem dig_toNat (d : Nat) (h : d < 10) : (UInt8.ofNat (48 + d)).toNat = 48 + d := by
  simp [UInt8.toNat_ofNat']; omega

theorem decDigits_ne (u : Nat) : decDigits u ≠ [] := by
  rw [decDigits]; split <;> simp

theorem parse_app : ∀ (l : List UInt8) (acc u : Nat) (c : UInt8), parseUint10 acc l = .ok u → 48 ≤ c.toNat ∧ c.toNat ≤ 57 → u * 10 + (c.toNat - 48) < 18446744073709551616 → parseUint10 acc (l ++ [c]) = .ok (u * 10 + (c.toNat - 48))
  | [], acc, u, c, h, hc, hu => by
    simp only [parseUint10] at h
    injection h with h
    subst h
    simp only [List.nil_append, parseUint10]
    rw [if_pos hc, if_neg (by omega), if_neg (by omega)]
  | b :: r, acc, u, c, h, hc, hu => by
    simp only [parseUint10] at h
    simp only [List.cons_append, parseUint10]
    split at h
    · rename_i hb
      rw [if_pos hb]
      split at h
      · cases h
      · rename_i h1
        rw [if_neg h1]
        split at h
        · cases h
        · rename_i h2
          rw [if_neg h2]
          exact parse_app r _ u c h hc hu
    · cases h

theorem parse_dec (u : Nat) (h : u < 18446744073709551616) : parseUint10 0 (decDigits u) = .ok u := by
  induction u using Nat.strongRecOn with
  | ind u ih =>
    rw [decDigits]
    split
    · rename_i hu
      simp only [parseUint10, dig_toNat u hu]
      rw [if_pos (by omega), if_neg (by omega), if_neg (by omega)]
      congr 1; omega
    · rename_i hu
      have e := parse_app (decDigits (u / 10)) 0 (u / 10) (UInt8.ofNat (48 + u % 10)) (ih (u / 10) (by omega) (by omega)) (by rw [dig_toNat _ (by omega)]; omega) (by rw [dig_toNat _ (by omega)]; omega)
      rw [e, dig_toNat _ (by omega)]
      congr 1; omega

theorem dec_head (u : Nat) : ∃ c r, decDigits u = c :: r ∧ 48 ≤ c.toNat ∧ c.toNat ≤ 57 := by
  induction u using Nat.strongRecOn with
  | ind u ih =>
    rw [decDigits]
    split
    · rename_i hu
      exact ⟨_, _, rfl, by rw [dig_toNat u hu]; omega, by rw [dig_toNat u hu]; omega⟩
    · obtain ⟨c, r, h1, h2⟩ := ih (u / 10) (by omega)
      exact ⟨c, r ++ [_], by rw [h1]; rfl, h2⟩

theorem atoiAll_itoa (n : Int) (hn : isI64 n) : atoiAll (itoa n) = .ok n := by
  obtain ⟨h0, h1⟩ := hn
  by_cases hneg : n < 0
  · obtain ⟨u, rfl⟩ : ∃ u : Nat, n = -(u : Int) := ⟨n.natAbs, by omega⟩
    rw [itoa_neg u (by omega)]
    unfold atoiAll
    have e : parseMag (decDigits u) = .ok u := by
      unfold parseMag; rw [if_neg (decDigits_ne u)]; exact parse_dec u (by omega)
    simp [e]
    omega
  · obtain ⟨u, rfl⟩ : ∃ u : Nat, n = u := ⟨n.toNat, by omega⟩
    rw [itoa_nonneg]
    obtain ⟨c, r, h2, h3⟩ := dec_head u
    have e : parseMag (decDigits u) = .ok u := by
      unfold parseMag; rw [if_neg (decDigits_ne u)]; exact parse_dec u (by omega)
    rw [h2] at e ⊢
    have g1 : ¬ (c.toNat = 43 ∨ c.toNat = 45) := by omega
    have g2 : ¬ c.toNat = 45 := by omega
    unfold atoiAll
    simp only [if_neg g1, e, if_neg g2]
    rw [if_neg (by omega), if_neg (by omega)]

theorem itoa_inj {m n : Int} (hm : isI64 m) (hn : isI64 n) (h : itoa m = itoa n) : m = n := by
  have h1 := atoiAll_itoa m hm
  rw [h, atoiAll_itoa n hn] at h1
  injection h1 with h1
  exact h1.symm

theorem atoiAll_i64 {l : List UInt8} {v : Int} (h : atoiAll l = .ok v) : isI64 v := by
  unfold atoiAll at h
  split at h
  · cases h
  · simp only at h
    split at h
    · cases h
    · cases h
    · rename_i u hu
      split at h
      · cases h
      · split at h
        · cases h
        · injection h with h
          unfold isI64
          split at h <;> omega
end Dec
end Go.Proofs.YtcbhjagcfbinoaaDoor.S1

/-
  The words of layer 1 (num) in plain Lean, and the walks of the small functions: size, sum, limited.
-/
namespace Go.Proofs.YtcbhjagcfbinoaaDoor.S1
open Go.RowKit

/-- The sign, the high word and the low word of the sum of two integers given by sign and size. -/
def sumS (s : Bool) (x : Int) (t : Bool) (y : Int) : Bool := if s = t then s else if x < y then t else s
def sumH (s : Bool) (x : Int) (t : Bool) (y : Int) : Int := if s = t then (x + y) / 18446744073709551616 else 0
def sumL (s : Bool) (x : Int) (t : Bool) (y : Int) : Int := if s = t then (x + y) % 18446744073709551616 else if x < y then y - x else x - y
/-- What 'limited' makes of a sign, a high and a low word. -/
def limW (s : Bool) (h l : Int) : Int := if h ≠ 0 ∨ 1125899906842624 < l then (if s then -1125899906842624 else 1125899906842624) else (if s then -l else l)

theorem size_wneg (n : Int) (h : isI64 n) (h1 : n < 0) : IntKind.u64.wrap (-IntKind.u64.wrap n) = (n.natAbs : Int) := by
  unfold isI64 at h
  simp only [IntKind.wrap_u64]; omega
theorem size_wpos (n : Int) (h : isI64 n) (h1 : 0 ≤ n) : IntKind.u64.wrap n = (n.natAbs : Int) := by
  unfold isI64 at h
  simp only [IntKind.wrap_u64]; omega

theorem sub_u64 (x y : Int) (hx : isU64 x) (hy : isU64 y) (h : y ≤ x) : IntKind.u64.wrap (x - y) = x - y := by
  unfold isU64 at hx hy
  rw [IntKind.wrap_u64]; omega

def sg (a : Int) : Bool := decide (a < 0)
def mg (a : Int) : Int := (a.natAbs : Int)


/-- What a closure of num gives: a sign and two words; it only reads. -/
def Gives (w : World) (s : Bool) (h l : Int) (e : Ending) (w' : World) : Prop := e = .returned (.tuple #[.bool s, .int .u64 h, .int .u64 l]) ∧ ∃ n, w' = w.drewN n

def mulH (x y : Int) : Int := x * y / 18446744073709551616
def mulL (x y : Int) : Int := x * y % 18446744073709551616
/-- num.limited, called with a closure that gives a sign and two words. -/
theorem wrap_small (l : Int) (h0 : 0 ≤ l) (h1 : l ≤ 1125899906842624) : wrap64 l = l := by unfold wrap64; omega
theorem wrap_small' (l : Int) (h0 : 0 ≤ l) (h1 : l ≤ 1125899906842624) : wrap64 (-l) = -l := by unfold wrap64; omega
theorem lim_t (s : Bool) (h l : Int) (hl : isU64 l) (h0 : h = 0) (h1 : l ≤ 1125899906842624) (hs : s = true) : wrap64 (-wrap64 l) = limW s h l := by
  subst h0; subst hs
  rw [wrap_small l hl.1 h1, wrap_small' l hl.1 h1]
  unfold limW
  rw [if_neg (by omega)]; rfl
theorem lim_f (s : Bool) (h l : Int) (hl : isU64 l) (h0 : h = 0) (h1 : l ≤ 1125899906842624) (hs : s = false) : wrap64 l = limW s h l := by
  subst h0; subst hs
  rw [wrap_small l hl.1 h1]
  unfold limW
  rw [if_neg (by omega)]; rfl
theorem ret_int {k : IntKind} {a b : Int} (h : a = b) : Ending.returned (.int k a) = .returned (.int k b) := by rw [h]
/-! ### num.Add, Sub, Mul, Div, Mod -/
def lim (x : Int) : Int := if x < -1125899906842624 then -1125899906842624 else if 1125899906842624 < x then 1125899906842624 else x

/-- The world in which a closure of num runs: its two captured ints in blocks of their own. -/
def two (w : World) (a b : Int) : World := (w.alloc (.cells #[.int .i64 a] 3)).alloc (.cells #[.int .i64 b] 3)
theorem two_cells (w : World) (a b : Int) : (two w a b).cell? ⟨w.heap.size, 0, none⟩ = some (.int .i64 a) ∧ (two w a b).cell? ⟨w.heap.size + 1, 0, none⟩ = some (.int .i64 b) := by
  unfold two
  constructor <;> simp [go_sem]
theorem two_below (w : World) (a b : Int) (n : Nat) : Below w.heap.size w ((two w a b).drewN n) := by
  have h : Below w.heap.size w (two w a b) := ((Below.refl _ _).alloc (Nat.le_refl _) _).alloc (by simp) _
  exact ⟨h.os, h.tape, h.output, h.size, h.block⟩

theorem lim_sum (a b : Int) (ha : isI64 a) (hb : isI64 b) : limW (sumS (sg a) (mg a) (sg b) (mg b)) (sumH (sg a) (mg a) (sg b) (mg b)) (sumL (sg a) (mg a) (sg b) (mg b)) = lim (a + b) := by
  unfold limW sumS sumH sumL sg mg lim isI64 at *
  by_cases h1 : a < 0 <;> by_cases h2 : b < 0 <;> simp [h1, h2] <;> (repeat' split) <;> first | omega | simp_all
theorem lim_dif (a b : Int) (ha : isI64 a) (hb : isI64 b) : limW (sumS (sg a) (mg a) (!sg b) (mg b)) (sumH (sg a) (mg a) (!sg b) (mg b)) (sumL (sg a) (mg a) (!sg b) (mg b)) = lim (a - b) := by
  unfold limW sumS sumH sumL sg mg lim isI64 at *
  by_cases h1 : a < 0 <;> by_cases h2 : b < 0 <;> simp [h1, h2] <;> (repeat' split) <;> first | omega | simp_all
theorem sumL_u64 (s t : Bool) (x y : Int) (hx : isU64 x) (hy : isU64 y) : isU64 (sumL s x t y) := by
  unfold sumL isU64 at *; repeat' split
  all_goals omega
theorem mg_u64 (a : Int) (ha : isI64 a) : isU64 (mg a) := by unfold isI64 isU64 mg at *; omega

theorem mul_signed (a b : Int) : a * b = if (sg a != sg b) = true then -(mg a * mg b) else mg a * mg b := by
  unfold sg mg
  by_cases h1 : a < 0 <;> by_cases h2 : b < 0 <;> simp only [h1, h2, decide_true, decide_false]
  · rw [show (a.natAbs : Int) = -a by omega, show (b.natAbs : Int) = -b by omega]; simp [Int.neg_mul_neg]
  · rw [show (a.natAbs : Int) = -a by omega, show (b.natAbs : Int) = b by omega]; simp [Int.neg_mul]
  · rw [show (a.natAbs : Int) = a by omega, show (b.natAbs : Int) = -b by omega]; simp [Int.mul_neg]
  · rw [show (a.natAbs : Int) = a by omega, show (b.natAbs : Int) = b by omega]; simp
theorem limW_of (s : Bool) (p : Int) (h : 0 ≤ p) : limW s (p / 18446744073709551616) (p % 18446744073709551616) = lim (if s = true then -p else p) := by
  unfold limW lim
  cases s <;> simp <;> (repeat' split) <;> first | omega | simp_all
theorem lim_mul (a b : Int) : limW (sg a != sg b) (mulH (mg a) (mg b)) (mulL (mg a) (mg b)) = lim (a * b) := by
  unfold mulH mulL
  rw [limW_of _ _ (Int.mul_nonneg (by unfold mg; omega) (by unfold mg; omega)), mul_signed a b]
theorem mulL_u64 (x y : Int) : isU64 (mulL x y) := by unfold mulL isU64; omega
theorem tdiv_signed (a b : Int) : a.tdiv b = if (sg a != sg b) = true then -(mg a / mg b) else mg a / mg b := by
  unfold sg mg
  by_cases h1 : a < 0 <;> by_cases h2 : b < 0 <;> simp only [h1, h2, decide_true, decide_false]
  · rw [show (a.natAbs : Int) = -a by omega, show (b.natAbs : Int) = -b by omega, ← Int.tdiv_eq_ediv_of_nonneg (by omega)]; simp
  · rw [show (a.natAbs : Int) = -a by omega, show (b.natAbs : Int) = b by omega, ← Int.tdiv_eq_ediv_of_nonneg (by omega)]; simp
  · rw [show (a.natAbs : Int) = a by omega, show (b.natAbs : Int) = -b by omega, ← Int.tdiv_eq_ediv_of_nonneg (by omega)]; simp
  · rw [show (a.natAbs : Int) = a by omega, show (b.natAbs : Int) = b by omega, ← Int.tdiv_eq_ediv_of_nonneg (by omega)]; simp
theorem tmod_signed (a b : Int) : a.tmod b = if sg a = true then -(mg a % mg b) else mg a % mg b := by
  unfold sg mg
  by_cases h1 : a < 0 <;> by_cases h2 : b < 0 <;> simp only [h1, decide_true, decide_false]
  · rw [show (a.natAbs : Int) = -a by omega, show (b.natAbs : Int) = -b by omega, ← Int.tmod_eq_emod_of_nonneg (by omega)]; simp
  · rw [show (a.natAbs : Int) = -a by omega, show (b.natAbs : Int) = b by omega, ← Int.tmod_eq_emod_of_nonneg (by omega)]; simp
  · rw [show (a.natAbs : Int) = a by omega, show (b.natAbs : Int) = -b by omega, ← Int.tmod_eq_emod_of_nonneg (by omega)]; simp
  · rw [show (a.natAbs : Int) = a by omega, show (b.natAbs : Int) = b by omega, ← Int.tmod_eq_emod_of_nonneg (by omega)]; simp
theorem limW_zero (s : Bool) (p : Int) (h : 0 ≤ p) : limW s 0 p = lim (if s = true then -p else p) := by
  unfold limW lim
  cases s <;> simp <;> (repeat' split) <;> first | omega | simp_all
theorem mg_div (a b : Int) (ha : isI64 a) : isU64 (mg a / mg b) := by
  have h0 : 0 ≤ mg a := by unfold mg; omega
  have h1 := Int.ediv_le_self (mg b) h0
  have h2 := Int.ediv_nonneg h0 (show 0 ≤ mg b by unfold mg; omega)
  unfold isU64 isI64 mg at *; omega
theorem mg_mod (a b : Int) (hb : isI64 b) (h0 : b ≠ 0) : isU64 (mg a % mg b) := by
  have h1 := Int.emod_nonneg (mg a) (show mg b ≠ 0 by unfold mg; omega)
  have h2 := Int.emod_lt_of_pos (mg a) (show 0 < mg b by unfold mg; omega)
  unfold isU64 isI64 at *; unfold mg at *; omega
theorem lim_div (a b : Int) (ha : isI64 a) : limW (sg a != sg b) 0 (mg a / mg b) = lim (a.tdiv b) := by
  rw [limW_zero _ _ (mg_div a b ha).1, tdiv_signed a b]
theorem lim_mod (a b : Int) (hb : isI64 b) (h0 : b ≠ 0) : limW (sg a) 0 (mg a % mg b) = lim (a.tmod b) := by
  rw [limW_zero _ _ (mg_mod a b hb h0).1, tmod_signed a b]

end Go.Proofs.YtcbhjagcfbinoaaDoor.S1

/-
  Layer 1 (num): Text, Parse and Clamp; what the laid package-level variables give.
-/
namespace Go.Proofs.YtcbhjagcfbinoaaDoor.S1
open Go.RowKit

/-- What the listed variables of the library hold. -/
structure Laid (w : World) : Prop where
  tab : Lib.TabIs Tryd.prog w "internal/strconv.uint64pow10" .u64 Lib.pow10Tab
  syn : ∃ tp p, w.var? Tryd.prog "strconv.ErrSyntax" = some #[.iface tp p]
  ran : ∃ tp p, w.var? Tryd.prog "strconv.ErrRange" = some #[.iface tp p]

theorem gTab : Tryd.prog.globalNamed "internal/strconv.uint64pow10" = some 5 := by kernel_rfl
theorem gSyn : Tryd.prog.globalNamed "strconv.ErrSyntax" = some 3 := by kernel_rfl
theorem gRan : Tryd.prog.globalNamed "strconv.ErrRange" = some 4 := by kernel_rfl

theorem Laid.below {w w' : World} (h : Laid w) (hb : Below w.heap.size w w') : Laid w' := by
  obtain ⟨h1, ⟨tp, p, h2⟩, ⟨tq, q, h3⟩⟩ := h
  exact ⟨Joins.tab_stays gTab h1 hb (Nat.le_refl _), ⟨tp, p, Joins.var_stays gSyn h2 hb (Nat.le_refl _)⟩, ⟨tq, q, Joins.var_stays gRan h3 hb (Nat.le_refl _)⟩⟩

set_option maxHeartbeats 400000 in
theorem text_any (n : Int) (w : World) (hl : Laid w) (hn : isI64 n) :
    Calls Tryd.prog 37 #[.int .i64 n] w fun e w' => e = .returned (.string ⟨(Lib.itoa n).toArray⟩) ∧ Below w.heap.size w w' := by
  have ht := Tryd.strconv_Itoa n hn.1 hn.2 w hl.tab
  have Ht := Lib.hid ht
  clear ht
  go_enter Tryd.func37, Tryd.ntmps37
  go_wp2_with fail
  refine Ht.out.mono ?_
  rintro e w' ⟨rfl, k, os, rfl⟩
  go_wp2
  go_ret
  exact ⟨rfl, Lib.below_grow _ _ (Nat.le_refl _) _ _⟩

/-- What num.Clamp gives. -/
def clampN (n low high : Int) : Int := if n < low then low else if high < n then high else n

/-- What num.Parse gives: a number and whether there is one. -/
def ParseIs (s : List UInt8) (low high x : Int) (ok : Bool) : Prop :=
  (ok = true ∧ isI64 x ∧ Lib.itoa x = s ∧ low ≤ x ∧ x ≤ high) ∨ (ok = false ∧ x = 0 ∧ ¬ ∃ n, isI64 n ∧ Lib.itoa n = s ∧ low ≤ n ∧ n ≤ high)

theorem toList_data (s : ByteArray) : s.toList = s.data.toList := ByteArray.toList_eq s

/-- strconv.Atoi at every string, in the three ways in which it ends. -/
theorem atoi_ok (s : ByteArray) (v : Int) (w : World) (hs : s.size ≤ 281474976710656) (h : Lib.atoiAll s.data.toList = .ok v) :
    Calls Tryd.prog 43 #[.string s] w fun e w' => e = .returned (.tuple #[.int .i64 v, .nilIface]) ∧ Below w.heap.size w w' :=
  (Tryd.strconv_Atoi_ok s (by omega) v h w).mono fun e w' hh => ⟨hh.1, by
    rcases hh.2 with h | ⟨t, h⟩
    · rw [h]; exact Below.refl _ _
    · rw [h]; exact Lib.bytesWorld_below _ _ _⟩
theorem atoi_no (s : ByteArray) (w : World) (hs : s.size ≤ 281474976710656) (hl : Laid w) (h : ∀ v, Lib.atoiAll s.data.toList ≠ .ok v) :
    Calls Tryd.prog 43 #[.string s] w fun e w' => (∃ x t p, e = .returned (.tuple #[.int .i64 x, .iface t (.pointer (some p))])) ∧ Below w.heap.size w w' := by
  obtain ⟨_, ⟨tp, p, h2⟩, ⟨tq, q, h3⟩⟩ := hl
  cases hh : Lib.atoiAll s.data.toList
  · exact absurd hh (h _)
  · exact (Any.strconv_Atoi_syntax_var Tryd.laysC172 s hs hh tp p w h2).mono fun e w' ⟨N, h1, _, _, h4⟩ => ⟨⟨_, _, _, h1⟩, h4⟩
  · exact (Tryd.strconv_Atoi_range_var s hs hh tq q w h3).mono fun e w' ⟨N, h1, _, _, h4⟩ => ⟨⟨_, _, _, h1⟩, h4⟩

/-- Both answers of num.Parse, behind a definition (the walk takes a disjunction apart). -/
def ParseOk (l : List UInt8) (low high v : Int) (e : Ending) : Prop :=
  (e = .returned (.tuple #[.int .i64 v, .bool true]) ∧ Lib.itoa v = l ∧ low ≤ v ∧ v ≤ high) ∨ (e = .returned (.tuple #[.int .i64 0, .bool false]) ∧ ¬ (Lib.itoa v = l ∧ low ≤ v ∧ v ≤ high))
theorem ParseOk.yes {l : List UInt8} {low high v : Int} (h1 : Lib.itoa v = l) (h2 : low ≤ v) (h3 : v ≤ high) : ParseOk l low high v (.returned (.tuple #[.int .i64 v, .bool true])) := .inl ⟨rfl, h1, h2, h3⟩
theorem ParseOk.no {l : List UInt8} {low high v : Int} (h : ¬ (Lib.itoa v = l ∧ low ≤ v ∧ v ≤ high)) : ParseOk l low high v (.returned (.tuple #[.int .i64 0, .bool false])) := .inr ⟨rfl, h⟩

set_option maxHeartbeats 400000 in
theorem parse_ok (s : ByteArray) (low high v : Int) (w : World) (hl : Laid w) (hs : s.size ≤ 281474976710656) (hv : isI64 v) (h : Lib.atoiAll s.data.toList = .ok v) :
    Calls Tryd.prog 26 #[.string s, .int .i64 low, .int .i64 high] w fun e w' => ParseOk s.data.toList low high v e ∧ Below w.heap.size w w' := by
  have ha := atoi_ok s v w hs h
  have Ha := Lib.hid ha
  clear ha h
  go_enter Tryd.func26, Tryd.ntmps26
  go_wp2_with fail
  refine Ha.out.mono ?_
  rintro e w1 ⟨rfl, hb⟩
  have Ht := Lib.hid (text_any v w1 (hl.below hb) hv)
  have Hb := Lib.hid hb
  clear hb Ha
  go_wp2_with fail
  refine Ht.out.mono ?_
  rintro e w2 ⟨rfl, hb2⟩
  have Hb2 := Lib.hid hb2
  clear hb2 Ht
  go_wp2
  all_goals
    go_ret2
    refine ⟨?_, Hb.out.trans (Hb2.out.mono Hb.out.size)⟩
    first | exact ParseOk.yes (by rw [← toList_data]; assumption) (by omega) (by omega) | exact ParseOk.no (by omega) | exact ParseOk.no (fun hh => absurd hh.1 (by rw [← toList_data]; assumption))

set_option maxHeartbeats 400000 in
theorem parse_no (s : ByteArray) (low high : Int) (w : World) (hl : Laid w) (hs : s.size ≤ 281474976710656) (h : ∀ v, Lib.atoiAll s.data.toList ≠ .ok v) :
    Calls Tryd.prog 26 #[.string s, .int .i64 low, .int .i64 high] w fun e w' => e = .returned (.tuple #[.int .i64 0, .bool false]) ∧ Below w.heap.size w w' := by
  have ha := atoi_no s w hs hl h
  have Ha := Lib.hid ha
  clear ha h
  go_enter Tryd.func26, Tryd.ntmps26
  go_wp2_with fail
  refine Ha.out.mono ?_
  rintro e w1 ⟨⟨x, t, p, rfl⟩, hb⟩
  clear Ha
  go_wp2
  go_ret2
  exact ⟨rfl, hb⟩

/-- num.Parse: what it answers, at every string. -/
theorem parse_any (s : ByteArray) (low high : Int) (w : World) (hl : Laid w) (hs : s.size ≤ 281474976710656) :
    Calls Tryd.prog 26 #[.string s, .int .i64 low, .int .i64 high] w fun e w' => (∃ x ok, ParseIs s.data.toList low high x ok ∧ e = .returned (.tuple #[.int .i64 x, .bool ok])) ∧ Below w.heap.size w w' := by
  by_cases h : ∃ v, Lib.atoiAll s.data.toList = .ok v
  · obtain ⟨v, h⟩ := h
    have hv := Dec.atoiAll_i64 h
    refine (parse_ok s low high v w hl hs hv h).mono fun e w' ⟨hp, hb⟩ => ⟨?_, hb⟩
    rcases hp with ⟨rfl, h1, h2, h3⟩ | ⟨rfl, h1⟩
    · exact ⟨v, true, .inl ⟨rfl, hv, h1, h2, h3⟩, rfl⟩
    · refine ⟨0, false, .inr ⟨rfl, rfl, ?_⟩, rfl⟩
      rintro ⟨n, hn, he, h2, h3⟩
      have := Dec.atoiAll_itoa n hn
      rw [he, h] at this
      injection this with this
      subst this
      exact h1 ⟨he, h2, h3⟩
  · have hno : ∀ v, Lib.atoiAll s.data.toList ≠ .ok v := fun v hv => h ⟨v, hv⟩
    refine (parse_no s low high w hl hs hno).mono fun e w' ⟨he, hb⟩ => ⟨⟨0, false, .inr ⟨rfl, rfl, ?_⟩, he⟩, hb⟩
    rintro ⟨n, hn, he, _⟩
    exact hno n (he ▸ Dec.atoiAll_itoa n hn)
end Go.Proofs.YtcbhjagcfbinoaaDoor.S1

/-
  Layer 1 (num): the contracts over worlds that have grown since a first one, and the law's own 'small'.
-/
namespace Go.Proofs.YtcbhjagcfbinoaaDoor.S1
open Go.RowKit

/-- w has grown out of W, and the listed variables hold what they held. -/
def Good (W w : World) : Prop := Laid w ∧ Below W.heap.size W w
theorem Good.refl {w : World} (h : Laid w) : Good w w := ⟨h, Below.refl _ _⟩
theorem Good.step {W w w' : World} (h : Good W w) (hb : Below w.heap.size w w') : Good W w' := ⟨h.1.below hb, h.2.trans (hb.mono h.2.size)⟩

theorem text_g {W w : World} (n : Int) (l : List UInt8) (hg : Good W w) (hn : isI64 n) (hl : Lib.itoa n = l) :
    Calls Tryd.prog 37 #[.int .i64 n] w fun e w' => e = .returned (.string ⟨l.toArray⟩) ∧ Good W w' :=
  (text_any n w hg.1 hn).mono fun _ _ ⟨h1, h2⟩ => ⟨by rw [h1, hl], hg.step h2⟩
theorem parse_g {W w : World} (s : ByteArray) (low high : Int) (hg : Good W w) (hs : s.size ≤ 281474976710656) :
    Calls Tryd.prog 26 #[.string s, .int .i64 low, .int .i64 high] w fun e w' => (∃ x ok, ParseIs s.data.toList low high x ok ∧ e = .returned (.tuple #[.int .i64 x, .bool ok])) ∧ Good W w' :=
  (parse_any s low high w hg.1 hs).mono fun _ _ ⟨h1, h2⟩ => ⟨h1, hg.step h2⟩
theorem parse_yes {W w : World} (s : ByteArray) (low high n : Int) (hg : Good W w) (hs : s.size ≤ 281474976710656) (hn : isI64 n) (he : Lib.itoa n = s.data.toList) (h1 : low ≤ n) (h2 : n ≤ high) :
    Calls Tryd.prog 26 #[.string s, .int .i64 low, .int .i64 high] w fun e w' => e = .returned (.tuple #[.int .i64 n, .bool true]) ∧ Good W w' := by
  refine (parse_g s low high hg hs).mono fun e w' ⟨⟨x, ok, hp, h⟩, hg'⟩ => ⟨?_, hg'⟩
  rcases hp with ⟨rfl, hx, e1, _, _⟩ | ⟨_, _, hno⟩
  · rw [h, Dec.itoa_inj hx hn (e1.trans he.symm)]
  · exact absurd ⟨n, hn, he, h1, h2⟩ hno
theorem parse_none {W w : World} (s : ByteArray) (low high : Int) (hg : Good W w) (hs : s.size ≤ 281474976710656) (hno : ∀ n, isI64 n → Lib.itoa n = s.data.toList → low ≤ n → n ≤ high → False) :
    Calls Tryd.prog 26 #[.string s, .int .i64 low, .int .i64 high] w fun e w' => e = .returned (.tuple #[.int .i64 0, .bool false]) ∧ Good W w' := by
  refine (parse_g s low high hg hs).mono fun e w' ⟨⟨x, ok, hp, h⟩, hg'⟩ => ⟨?_, hg'⟩
  rcases hp with ⟨rfl, hx, e1, h1, h2⟩ | ⟨rfl, rfl, _⟩
  · exact (hno x hx e1 h1 h2).elim
  · exact h
theorem none_of {l : List UInt8} {v : Int} (h : Lib.atoiAll l = .ok v) (h' : Lib.itoa v ≠ l) : ∀ n, isI64 n → Lib.itoa n = l → False := by
  intro n hn he
  have := Dec.atoiAll_itoa n hn
  rw [he, h] at this
  injection this with this
  subst this
  exact h' he
theorem k07 : ∀ n, isI64 n → Lib.itoa n = [48, 55] → False := none_of (v := 7) (by decide +kernel) (by decide +kernel)
theorem km0 : ∀ n, isI64 n → Lib.itoa n = [45, 48] → False := none_of (v := 0) (by decide +kernel) (by decide +kernel)
theorem km7 : Lib.itoa (-7) = [45, 55] := by decide +kernel

end Go.Proofs.YtcbhjagcfbinoaaDoor.S1
