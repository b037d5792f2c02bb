/-
  Layer 1 (num): Text, Parse and Clamp; what the laid package-level variables give.
-/
import Derived.Test.YtecoieacgjkkpaaDoorNumBase
import Derived.Test.YtecoieacgjkkpaaDoorNumDec
import Derived.Lib.SmallJoins
import Derived.Lib.AppendIntMem
import Derived.Lib.ItoaLen
import Derived.Lib.AtoiErrMem
namespace Go.Proofs.YtecoieacgjkkpaaDoor
open Go.RowKit

/-- What the listed variables of the library hold. -/
structure Laid (w : World) : Prop where
  tab : Lib.TabIs Tryd.prog w "internal/strconv.uint64pow10" .u64 Lib.pow10Tab
  syn : ∃ tp p, w.var? Tryd.prog "strconv.ErrSyntax" = some #[.iface tp p]
  ran : ∃ tp p, w.var? Tryd.prog "strconv.ErrRange" = some #[.iface tp p]

theorem gTab : Tryd.prog.globalNamed "internal/strconv.uint64pow10" = some 2 := by kernel_rfl
theorem gSyn : Tryd.prog.globalNamed "strconv.ErrSyntax" = some 0 := by kernel_rfl
theorem gRan : Tryd.prog.globalNamed "strconv.ErrRange" = some 1 := by kernel_rfl

theorem Laid.below {w w' : World} (h : Laid w) (hb : Below w.heap.size w w') : Laid w' := by
  obtain ⟨h1, ⟨tp, p, h2⟩, ⟨tq, q, h3⟩⟩ := h
  exact ⟨Joins.tab_stays gTab h1 hb (Nat.le_refl _), ⟨tp, p, Joins.var_stays gSyn h2 hb (Nat.le_refl _)⟩, ⟨tq, q, Joins.var_stays gRan h3 hb (Nat.le_refl _)⟩⟩

set_option maxHeartbeats 400000 in
theorem text_any (n : Int) (w : World) (hl : Laid w) (hn : isI64 n) :
    Calls Tryd.prog 15 #[.int .i64 n] w fun e w' => e = .returned (.string ⟨(Lib.itoa n).toArray⟩) ∧ Below w.heap.size w w' := by
  have ht := Tryd.strconv_Itoa n hn.1 hn.2 w hl.tab
  have Ht := Lib.hid ht
  clear ht
  go_enter Tryd.func15, Tryd.ntmps15
  go_wp2_with fail
  refine Ht.out.mono ?_
  rintro e w' ⟨rfl, k, os, rfl⟩
  go_wp2
  go_ret
  exact ⟨rfl, Lib.below_grow _ _ (Nat.le_refl _) _ _⟩

/-- What num.Clamp gives. -/
def clampN (n low high : Int) : Int := if n < low then low else if high < n then high else n

set_option maxHeartbeats 400000 in
theorem clamp_any (n low high : Int) (w : World) :
    Calls Tryd.prog 17 #[.int .i64 n, .int .i64 low, .int .i64 high] w fun e w' => e = .returned (.int .i64 (clampN n low high)) ∧ w' = w := by
  go_enter Tryd.func17, Tryd.ntmps17
  go_wp2
  all_goals
    go_ret
    refine ⟨ret_int ?_, rfl⟩
    unfold clampN; first | rw [if_pos (by omega)] | rw [if_neg (by omega), if_pos (by omega)] | rw [if_neg (by omega), if_neg (by omega)]

/-- What num.Parse gives: a number and whether there is one. -/
def ParseIs (s : List UInt8) (low high x : Int) (ok : Bool) : Prop :=
  (ok = true ∧ isI64 x ∧ Lib.itoa x = s ∧ low ≤ x ∧ x ≤ high) ∨ (ok = false ∧ x = 0 ∧ ¬ ∃ n, isI64 n ∧ Lib.itoa n = s ∧ low ≤ n ∧ n ≤ high)

theorem toList_data (s : ByteArray) : s.toList = s.data.toList := ByteArray.toList_eq s

/-- strconv.Atoi at every string, in the three ways in which it ends. -/
theorem atoi_ok (s : ByteArray) (v : Int) (w : World) (hs : s.size ≤ 281474976710656) (h : Lib.atoiAll s.data.toList = .ok v) :
    Calls Tryd.prog 25 #[.string s] w fun e w' => e = .returned (.tuple #[.int .i64 v, .nilIface]) ∧ Below w.heap.size w w' :=
  (Tryd.strconv_Atoi_ok s (by omega) v h w).mono fun e w' hh => ⟨hh.1, by
    rcases hh.2 with h | ⟨t, h⟩
    · rw [h]; exact Below.refl _ _
    · rw [h]; exact Lib.bytesWorld_below _ _ _⟩
theorem atoi_no (s : ByteArray) (w : World) (hs : s.size ≤ 281474976710656) (hl : Laid w) (h : ∀ v, Lib.atoiAll s.data.toList ≠ .ok v) :
    Calls Tryd.prog 25 #[.string s] w fun e w' => (∃ x t p, e = .returned (.tuple #[.int .i64 x, .iface t (.pointer (some p))])) ∧ Below w.heap.size w w' := by
  obtain ⟨_, ⟨tp, p, h2⟩, ⟨tq, q, h3⟩⟩ := hl
  cases hh : Lib.atoiAll s.data.toList
  · exact absurd hh (h _)
  · exact (Any.strconv_Atoi_syntax_var Tryd.laysC172 s hs hh tp p w h2).mono fun e w' ⟨N, h1, _, _, h4⟩ => ⟨⟨_, _, _, h1⟩, h4⟩
  · exact (Tryd.strconv_Atoi_range_var s hs hh tq q w h3).mono fun e w' ⟨N, h1, _, _, h4⟩ => ⟨⟨_, _, _, h1⟩, h4⟩

/-- Both answers of num.Parse, behind a definition (the walk takes a disjunction apart). -/
def ParseOk (l : List UInt8) (low high v : Int) (e : Ending) : Prop :=
  (e = .returned (.tuple #[.int .i64 v, .bool true]) ∧ Lib.itoa v = l ∧ low ≤ v ∧ v ≤ high) ∨ (e = .returned (.tuple #[.int .i64 0, .bool false]) ∧ ¬ (Lib.itoa v = l ∧ low ≤ v ∧ v ≤ high))
theorem ParseOk.yes {l : List UInt8} {low high v : Int} (h1 : Lib.itoa v = l) (h2 : low ≤ v) (h3 : v ≤ high) : ParseOk l low high v (.returned (.tuple #[.int .i64 v, .bool true])) := .inl ⟨rfl, h1, h2, h3⟩
theorem ParseOk.no {l : List UInt8} {low high v : Int} (h : ¬ (Lib.itoa v = l ∧ low ≤ v ∧ v ≤ high)) : ParseOk l low high v (.returned (.tuple #[.int .i64 0, .bool false])) := .inr ⟨rfl, h⟩

set_option maxHeartbeats 400000 in
theorem parse_ok (s : ByteArray) (low high v : Int) (w : World) (hl : Laid w) (hs : s.size ≤ 281474976710656) (hv : isI64 v) (h : Lib.atoiAll s.data.toList = .ok v) :
    Calls Tryd.prog 9 #[.string s, .int .i64 low, .int .i64 high] w fun e w' => ParseOk s.data.toList low high v e ∧ Below w.heap.size w w' := by
  have ha := atoi_ok s v w hs h
  have Ha := Lib.hid ha
  clear ha h
  go_enter Tryd.func9, Tryd.ntmps9
  go_wp2_with fail
  refine Ha.out.mono ?_
  rintro e w1 ⟨rfl, hb⟩
  have Ht := Lib.hid (text_any v w1 (hl.below hb) hv)
  have Hb := Lib.hid hb
  clear hb Ha
  go_wp2_with fail
  refine Ht.out.mono ?_
  rintro e w2 ⟨rfl, hb2⟩
  have Hb2 := Lib.hid hb2
  clear hb2 Ht
  go_wp2
  all_goals
    go_ret2
    refine ⟨?_, Hb.out.trans (Hb2.out.mono Hb.out.size)⟩
    first | exact ParseOk.yes (by rw [← toList_data]; assumption) (by omega) (by omega) | exact ParseOk.no (by omega) | exact ParseOk.no (fun hh => absurd hh.1 (by rw [← toList_data]; assumption))

set_option maxHeartbeats 400000 in
theorem parse_no (s : ByteArray) (low high : Int) (w : World) (hl : Laid w) (hs : s.size ≤ 281474976710656) (h : ∀ v, Lib.atoiAll s.data.toList ≠ .ok v) :
    Calls Tryd.prog 9 #[.string s, .int .i64 low, .int .i64 high] w fun e w' => e = .returned (.tuple #[.int .i64 0, .bool false]) ∧ Below w.heap.size w w' := by
  have ha := atoi_no s w hs hl h
  have Ha := Lib.hid ha
  clear ha h
  go_enter Tryd.func9, Tryd.ntmps9
  go_wp2_with fail
  refine Ha.out.mono ?_
  rintro e w1 ⟨⟨x, t, p, rfl⟩, hb⟩
  clear Ha
  go_wp2
  go_ret2
  exact ⟨rfl, hb⟩

/-- num.Parse: what it answers, at every string. -/
theorem parse_any (s : ByteArray) (low high : Int) (w : World) (hl : Laid w) (hs : s.size ≤ 281474976710656) :
    Calls Tryd.prog 9 #[.string s, .int .i64 low, .int .i64 high] w fun e w' => (∃ x ok, ParseIs s.data.toList low high x ok ∧ e = .returned (.tuple #[.int .i64 x, .bool ok])) ∧ Below w.heap.size w w' := by
  by_cases h : ∃ v, Lib.atoiAll s.data.toList = .ok v
  · obtain ⟨v, h⟩ := h
    have hv := Dec.atoiAll_i64 h
    refine (parse_ok s low high v w hl hs hv h).mono fun e w' ⟨hp, hb⟩ => ⟨?_, hb⟩
    rcases hp with ⟨rfl, h1, h2, h3⟩ | ⟨rfl, h1⟩
    · exact ⟨v, true, .inl ⟨rfl, hv, h1, h2, h3⟩, rfl⟩
    · refine ⟨0, false, .inr ⟨rfl, rfl, ?_⟩, rfl⟩
      rintro ⟨n, hn, he, h2, h3⟩
      have := Dec.atoiAll_itoa n hn
      rw [he, h] at this
      injection this with this
      subst this
      exact h1 ⟨he, h2, h3⟩
  · have hno : ∀ v, Lib.atoiAll s.data.toList ≠ .ok v := fun v hv => h ⟨v, hv⟩
    refine (parse_no s low high w hl hs hno).mono fun e w' ⟨he, hb⟩ => ⟨⟨0, false, .inr ⟨rfl, rfl, ?_⟩, he⟩, hb⟩
    rintro ⟨n, hn, he, _⟩
    exact hno n (he ▸ Dec.atoiAll_itoa n hn)
end Go.Proofs.YtecoieacgjkkpaaDoor
