/-
  Layer 11: the document's own handles (agoraref11).
-/
import Derived.Test.YtcbhjagcfbinoaaDoorIdentRefN
import Derived.Test.YtcbhjagcfbinoaaDoorNumRefText
namespace Go.Proofs.YtcbhjagcfbinoaaDoor
open Go.RowKit
namespace Idt
attribute [local go_sem] S2.B_size S2.B_drop' S2.B_take S2.B_list S2.B_app
theorem at_app (a t : Str) : S2.B a ++ (⟨#[64]⟩ : ByteArray) ++ S2.B t = S2.B (a ++ 64 :: t) := by
  rw [show (⟨#[64]⟩ : ByteArray) = S2.B [64] from rfl, S2.B_app, S2.B_app, List.append_assoc]
  rfl
theorem itoa_le : ∀ n : Nat, n < 20 → (Lib.itoa (n : Int)).length ≤ 2 := by decide +kernel
set_option maxHeartbeats 1000000 in
set_option maxRecDepth 100000 in
theorem refHandle_any (a : Str) (n : Int) (w : World) (ha : a.length ≤ 1099511627776) (hn : -9223372036854775808 ≤ n ∧ n ≤ 9223372036854775807) :
    Calls Tryd.prog 19 #[.string (S2.B a), .int .i64 n] w fun e w' => e = .returned (.string (S2.B (handle a n))) ∧ w = w' := by
  have KN := Lib.hid (refName_any a w ha)
  have ha3 : (a.length : Int) ≤ 1099511627776 := by omega
  by_cases h : isName a = true ∧ 0 ≤ n ∧ n ≤ 19
  · obtain ⟨h1, h2, h3⟩ := h
    have HH := Lib.hid (show handle a n = a ++ 64 :: Lib.itoa n from if_pos ⟨h1, h2, h3⟩)
    have KT := Lib.hid (show Calls Tryd.prog 27 #[.int .i64 n] w fun e w' => e = .returned (.string (S2.B (Lib.itoa n))) ∧ w' = w from S1.textR_any n w hn)
    have hle := itoa_le n.toNat (by omega)
    rw [Int.toNat_of_nonneg h2] at hle
    obtain ⟨t, ht⟩ : ∃ t, t = Lib.itoa n := ⟨_, rfl⟩
    rw [← ht] at HH KT hle
    have hle3 : (t.length : Int) ≤ 2 := by omega
    rw [h1] at KN
    clear ha hn h1 ht hle
    go_enter Tryd.func19, Tryd.ntmps19
    go_wp2_with fail
    refine KN.out.mono ?_
    rintro e w1 ⟨rfl, rfl⟩
    go_wp2_with fail
    refine KT.out.mono ?_
    rintro e w1 ⟨rfl, rfl⟩
    go_wp2
    go_ret
    rw [HH.out]
    exact ⟨by rw [← at_app]; rfl, rfl⟩
  · have HH := Lib.hid (show handle a n = [] from if_neg h)
    cases h1 : isName a with
    | false =>
      rw [h1] at KN
      clear h h1 ha hn
      go_enter Tryd.func19, Tryd.ntmps19
      go_wp2_with fail
      refine KN.out.mono ?_
      rintro e w1 ⟨rfl, rfl⟩
      go_wp2
      go_ret
      rw [HH.out]
      exact ⟨rfl, rfl⟩
    | true =>
      rw [h1] at KN
      have hor : n < 0 ∨ 19 < n := by
        by_cases h2 : 0 ≤ n
        · exact .inr (by by_cases h3 : n ≤ 19
                         · exact absurd ⟨h1, h2, h3⟩ h
                         · omega)
        · exact .inl (by omega)
      rcases hor with hor | hor
      · clear h h1 ha hn
        go_enter Tryd.func19, Tryd.ntmps19
        go_wp2_with fail
        refine KN.out.mono ?_
        rintro e w1 ⟨rfl, rfl⟩
        go_wp2
        go_ret
        rw [HH.out]
        exact ⟨rfl, rfl⟩
      · have h0 : ¬ n < 0 := by omega
        clear h h1 ha hn
        go_enter Tryd.func19, Tryd.ntmps19
        go_wp2_with fail
        refine KN.out.mono ?_
        rintro e w1 ⟨rfl, rfl⟩
        go_wp2
        go_ret
        rw [HH.out]
        exact ⟨rfl, rfl⟩
end Idt
end Go.Proofs.YtcbhjagcfbinoaaDoor
