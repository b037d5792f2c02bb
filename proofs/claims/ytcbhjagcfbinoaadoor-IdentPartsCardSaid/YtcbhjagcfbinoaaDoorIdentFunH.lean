/-
  Layer 11: the package's Handle and Parse.
-/
import Derived.Test.YtcbhjagcfbinoaaDoorIdentFunN
import Derived.Test.YtcbhjagcfbinoaaDoorNumLaw
import Derived.Test.YtcbhjagcfbinoaaDoorShelf
import Derived.Test.YtcbhjagcfbinoaaDoorIdentRefI
namespace Go.Proofs.YtcbhjagcfbinoaaDoor
open Go.RowKit
namespace Idt
attribute [local go_sem] S2.B_size S2.B_drop' S2.B_take S2.B_list S2.B_app
set_option maxHeartbeats 1000000 in
set_option maxRecDepth 100000 in
theorem handle_any (a : Str) (n : Int) (w : World) (hW : S1.Laid w) (ha : a.length ≤ 1099511627776) (hn : -9223372036854775808 ≤ n ∧ n ≤ 9223372036854775807) :
    Calls Tryd.prog 18 #[.string (S2.B a), .int .i64 n] w fun e w' => e = .returned (.string (S2.B (handle a n))) ∧ Below w.heap.size w w' := by
  have KN := Lib.hid (name_any a w ha)
  have ha3 : (a.length : Int) ≤ 1099511627776 := by omega
  by_cases h : isName a = true ∧ 0 ≤ n ∧ n ≤ 19
  · obtain ⟨h1, h2, h3⟩ := h
    have HH := Lib.hid (show handle a n = a ++ 64 :: Lib.itoa n from if_pos ⟨h1, h2, h3⟩)
    have KT := Lib.hid fun w hW => (show Calls Tryd.prog 37 #[.int .i64 n] w fun e w' => e = .returned (.string (S2.B (Lib.itoa n))) ∧ Below w.heap.size w w' from S1.text_any n w hW hn)
    have hle := itoa_le n.toNat (by omega)
    rw [Int.toNat_of_nonneg h2] at hle
    obtain ⟨t, ht⟩ : ∃ t, t = Lib.itoa n := ⟨_, rfl⟩
    rw [← ht] at HH KT hle
    have hle3 : (t.length : Int) ≤ 2 := by omega
    rw [h1] at KN
    have HW := Lib.hid hW
    clear ha hn h1 ht hle hW
    go_enter Tryd.func18, Tryd.ntmps18
    go_wp2_with fail
    refine KN.out.mono ?_
    rintro e w1 ⟨rfl, hb⟩
    have HB := Lib.hid hb
    have HW1 := Lib.hid (HW.out.below hb)
    clear hb KN HW
    go_wp2_with fail
    refine (KT.out _ HW1.out).mono ?_
    rintro e w2 ⟨rfl, hb⟩
    have HB2 := Lib.hid (HB.out.trans (hb.mono HB.out.size))
    clear hb HB HW1 KT
    go_wp2
    go_ret
    rw [HH.out]
    exact ⟨by rw [← at_app]; rfl, HB2.out⟩
  · have HH := Lib.hid (show handle a n = [] from if_neg h)
    cases h1 : isName a with
    | false =>
      rw [h1] at KN
      clear h h1 ha hn hW
      go_enter Tryd.func18, Tryd.ntmps18
      go_wp2_with fail
      refine KN.out.mono ?_
      rintro e w1 ⟨rfl, hb⟩
      go_wp2
      go_ret
      rw [HH.out]
      exact ⟨rfl, hb⟩
    | true =>
      rw [h1] at KN
      have hor : n < 0 ∨ 19 < n := by
        by_cases h2 : 0 ≤ n
        · exact .inr (by by_cases h3 : n ≤ 19
                         · exact absurd ⟨h1, h2, h3⟩ h
                         · omega)
        · exact .inl (by omega)
      rcases hor with hor | hor
      · clear h h1 ha hn hW
        go_enter Tryd.func18, Tryd.ntmps18
        go_wp2_with fail
        refine KN.out.mono ?_
        rintro e w1 ⟨rfl, hb⟩
        go_wp2
        go_ret
        rw [HH.out]
        exact ⟨rfl, hb⟩
      · have h0 : ¬ n < 0 := by omega
        clear h h1 ha hn hW
        go_enter Tryd.func18, Tryd.ntmps18
        go_wp2_with fail
        refine KN.out.mono ?_
        rintro e w1 ⟨rfl, hb⟩
        go_wp2
        go_ret
        rw [HH.out]
        exact ⟨rfl, hb⟩
/-- The string cut at its first '@'. -/
theorem cut_any {s a x : Str} {f : Bool} (hc : Lib.cut s [64] = (a, x, f)) (w : World) (hs : s.length ≤ 1000000) (hm : ∃ m, w.cell? ⟨2, 0, none⟩ = some (.int .i64 m)) :
    Calls Tryd.prog 25 #[.string (S2.B s), .string ⟨#[64]⟩] w fun e w' => e = .returned (.tuple #[.string (S2.B a), .string (S2.B x), .bool f]) ∧ Below w.heap.size w w' := by
  obtain ⟨m, hm⟩ := hm
  have h := Tryd.strings_Cut (S2.B s) ⟨#[64]⟩ m w (by rw [S2.B_size]; omega) hm
  have e : Lib.cut (S2.B s).data.toList (⟨#[64]⟩ : ByteArray).data.toList = (a, x, f) := hc
  rw [e] at h
  exact h.mono fun e w' ⟨h1, n, h2⟩ => ⟨h1, by rw [h2]; exact drewN_below' w n⟩
theorem cut_len {s a x : Str} {f : Bool} (hc : Lib.cut s [64] = (a, x, f)) : a.length ≤ s.length ∧ x.length ≤ s.length := by
  rcases cut_at s with ⟨a', x', h1, h2, h3⟩ | ⟨h1, h3⟩
  · rw [h3] at hc
    simp only [Prod.mk.injEq] at hc
    obtain ⟨rfl, rfl, rfl⟩ := hc
    have hl := congrArg List.length h1
    rw [List.length_append, List.length_cons] at hl
    omega
  · rw [h3] at hc
    simp only [Prod.mk.injEq] at hc
    obtain ⟨rfl, rfl, rfl⟩ := hc
    exact ⟨Nat.le_refl _, Nat.zero_le _⟩
/-- What Parse ends in: one of the answers that the string allows. -/
def NumAns (x : Str) (e : Ending) : Prop := ∃ v ok, S1.ParseIs x 0 19 v ok ∧ e = .returned (.tuple #[.int .i64 v, .bool ok])
theorem num_ans {x : Str} {w : World} (hW : S1.Laid w) (hx : x.length ≤ 1000000) :
    Calls Tryd.prog 26 #[.string (S2.B x), .int .i64 0, .int .i64 19] w fun e w' => NumAns x e ∧ Below w.heap.size w w' :=
  S1.parse_any (S2.B x) 0 19 w hW (by rw [S2.B_size]; omega)
set_option maxHeartbeats 2000000 in
set_option maxRecDepth 100000 in
theorem parse_any (s : Str) (w : World) (hW : S1.Laid w) (hm : ∃ m, w.cell? ⟨2, 0, none⟩ = some (.int .i64 m)) (hs : s.length ≤ 1000000) :
    Calls Tryd.prog 10 #[.string (S2.B s)] w fun e w' => ParseAns s e ∧ Below w.heap.size w w' := by
  obtain ⟨a, x, f, hc⟩ : ∃ a x f, Lib.cut s [64] = (a, x, f) := ⟨_, _, _, rfl⟩
  have KC := Lib.hid (cut_any hc w hs hm)
  obtain ⟨hla, hlx⟩ := cut_len hc
  have KP := Lib.hid fun w hW => num_ans (x := x) (w := w) hW (by omega)
  have KN := Lib.hid fun w => name_any a w (by omega)
  have HC := Lib.hid hc
  have HW := Lib.hid hW
  clear hc hm hW hs hla hlx
  go_enter Tryd.func10, Tryd.ntmps10
  go_wp2_with fail
  refine KC.out.mono ?_
  rintro e w1 ⟨rfl, hb⟩
  have HB := Lib.hid hb
  replace HW := Lib.hid (HW.out.below hb)
  clear hb KC
  go_wp2_with fail
  refine (KP.out _ HW.out).mono ?_
  rintro e w2 ⟨⟨v, ok, hp, rfl⟩, hb⟩
  replace HB := Lib.hid (HB.out.trans (hb.mono HB.out.size))
  have HP := Lib.hid (parse_is HC.out hp)
  clear hb hp KP HC HW
  cases ok with
  | false =>
    have E := Lib.hid (HP.out.2.1 rfl)
    clear HP KN
    go_wp2
    go_ret3
    exact ⟨ParseAns.of E.out, HB.out⟩
  | true =>
    cases hn : isName a with
    | false =>
      rw [hn] at KN
      have E := Lib.hid (HP.out.2.2 hn)
      clear HP hn
      go_wp2_with fail
      refine (KN.out _).mono ?_
      rintro e w3 ⟨rfl, hb⟩
      replace HB := Lib.hid (HB.out.trans (hb.mono HB.out.size))
      clear hb KN
      go_wp2
      go_ret3
      exact ⟨ParseAns.of E.out, HB.out⟩
    | true =>
      rw [hn] at KN
      have E := Lib.hid (HP.out.1 rfl hn)
      clear HP hn
      go_wp2_with fail
      refine (KN.out _).mono ?_
      rintro e w3 ⟨rfl, hb⟩
      replace HB := Lib.hid (HB.out.trans (hb.mono HB.out.size))
      clear hb KN
      go_wp2
      go_ret3
      exact ⟨ParseAns.of E.out, HB.out⟩
end Idt
end Go.Proofs.YtcbhjagcfbinoaaDoor
