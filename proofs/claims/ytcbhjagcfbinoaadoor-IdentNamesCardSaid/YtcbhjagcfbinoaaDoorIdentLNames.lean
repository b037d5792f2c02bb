/-
  Layer 11: IdentNames' walk, against the package's contracts.
-/
import Derived.Test.YtcbhjagcfbinoaaDoorIdentPk
namespace Go.Proofs.YtcbhjagcfbinoaaDoor
open Go.RowKit
namespace Idt
attribute [local go_sem] S2.B_size S2.B_drop' S2.B_take S2.B_list S2.B_app
theorem handle_len (s : Str) (n : Int) : (handle s n).length ≤ s.length + 3 := by
  unfold handle
  split
  · rename_i h
    have := itoa_le n.toNat (by omega)
    rw [Int.toNat_of_nonneg h.2.1] at this
    simp
    omega
  · simp
set_option maxHeartbeats 2000000 in
set_option maxRecDepth 100000 in
theorem names_walk {idf : Int → Str} {W : World} (P : Pk idf W) (s : Str) (n m : Int) (hs : s.length ≤ 281474976710656) (hn : -9223372036854775808 ≤ n ∧ n ≤ 9223372036854775807) (hm : -9223372036854775808 ≤ m ∧ m ≤ 9223372036854775807) :
    Calls Tryd.prog 8 #[.string (S2.B s), .int .i64 n, .int .i64 m] W fun e w' => e = .returned (.bool true) ∧ Below W.heap.size W w' := by
  have KS := Lib.hid (small_any P W (Below.refl _ _))
  have hs3 : (s.length : Int) ≤ 281474976710656 := by omega
  by_cases h1 : 1000 < s.length
  · have h1I : (1000 : Int) < (s.length : Int) := by omega
    clear h1 hs
    go_enter Tryd.func8, Tryd.ntmps8
    go_wp2_with fail
    refine KS.out.mono ?_
    rintro e w1 ⟨rfl, hb⟩
    clear KS
    go_wp2
    go_ret
    exact ⟨rfl, hb⟩
  have h1I : ¬ (1000 : Int) < (s.length : Int) := by omega
  have h1000 : s.length ≤ 1000 := by omega
  have KN := Lib.hid (P.name s (by omega))
  cases hna : isName s with
  | false =>
    rw [hna] at KN
    clear h1 hs hna h1000
    go_enter Tryd.func8, Tryd.ntmps8
    go_wp2_with fail
    refine KS.out.mono ?_
    rintro e w1 ⟨rfl, hb⟩
    go_wp2_with fail
    refine (KN.out _ hb).mono ?_
    rintro e w2 ⟨rfl, hb2⟩
    clear KS KN
    go_wp2
    go_ret
    exact ⟨rfl, hb2⟩
  | true =>
    rw [hna] at KN
    have hpos := name_pos hna
    have KP := Lib.hid (P.parse_no (s := s) (by omega) fun b k h => name_no_hd hna h)
    have hl := handle_len s m
    have KH := Lib.hid (P.handle s m (by omega) hm)
    have KX := P.name (handle s m) (by omega)
    rw [handle_no_name] at KX
    obtain ⟨h, hh⟩ : ∃ h, h = handle s m := ⟨_, rfl⟩
    rw [← hh] at KH KX
    have KX' := Lib.hid KX
    have hne : (s == []) = false := by
      cases s with
      | nil => simp at hpos
      | cons => rfl
    have key : ∀ k : Nat, 1 ≤ k → k ≤ s.length → Ok W 16 #[.string (S2.B (s.take k))] (.bool true) := fun k h1 h2 => by
      have := P.name (s.take k) (by rw [List.length_take]; omega)
      rwa [name_take hna h1 h2] at this
    have K1 := Lib.hid (key 1 (by omega) hpos.1)
    have hposI : (1 : Int) ≤ (s.length : Int) := by omega
    by_cases hn1 : n < 1
    · clear h1 hs hna h1000 hl KX hh key hpos
      go_enter Tryd.func8, Tryd.ntmps8
      go_wp2_with fail
      refine KS.out.mono ?_
      rintro e w1 ⟨rfl, hb⟩
      go_wp2_with fail
      refine (KN.out _ hb).mono ?_
      rintro e w2 ⟨rfl, hb⟩
      go_wp2_with fail
      refine (KP.out _ hb).mono ?_
      rintro e w3 ⟨rfl, hb⟩
      go_wp2_with fail
      refine (K1.out _ hb).mono ?_
      rintro e w4 ⟨rfl, hb⟩
      go_wp2_with fail
      refine (KH.out _ hb).mono ?_
      rintro e w5 ⟨rfl, hb⟩
      go_wp2_with fail
      refine (KX'.out _ hb).mono ?_
      rintro e w6 ⟨rfl, hb⟩
      go_wp2
      go_ret
      exact ⟨rfl, hb⟩
    by_cases hn2 : (s.length : Int) < n
    · clear h1 hs hna h1000 hl KX hh key hpos
      go_enter Tryd.func8, Tryd.ntmps8
      go_wp2_with fail
      refine KS.out.mono ?_
      rintro e w1 ⟨rfl, hb⟩
      go_wp2_with fail
      refine (KN.out _ hb).mono ?_
      rintro e w2 ⟨rfl, hb⟩
      go_wp2_with fail
      refine (KP.out _ hb).mono ?_
      rintro e w3 ⟨rfl, hb⟩
      go_wp2_with fail
      refine (K1.out _ hb).mono ?_
      rintro e w4 ⟨rfl, hb⟩
      go_wp2_with fail
      refine (KH.out _ hb).mono ?_
      rintro e w5 ⟨rfl, hb⟩
      go_wp2_with fail
      refine (KX'.out _ hb).mono ?_
      rintro e w6 ⟨rfl, hb⟩
      go_wp2
      go_ret
      exact ⟨rfl, hb⟩
    · obtain ⟨k, rfl⟩ : ∃ k : Nat, n = (k : Int) := ⟨n.toNat, by omega⟩
      have KK := Lib.hid (key k (by omega) (by omega))
      have hk1 : (1 : Int) ≤ (k : Int) := by omega
      have hk2 : (k : Int) ≤ (s.length : Int) := by omega
      clear h1 hs hna h1000 hl KX hh key hpos K1
      go_enter Tryd.func8, Tryd.ntmps8
      go_wp2_with fail
      refine KS.out.mono ?_
      rintro e w1 ⟨rfl, hb⟩
      go_wp2_with fail
      refine (KN.out _ hb).mono ?_
      rintro e w2 ⟨rfl, hb⟩
      go_wp2_with fail
      refine (KP.out _ hb).mono ?_
      rintro e w3 ⟨rfl, hb⟩
      go_wp2_with fail
      refine (KK.out _ hb).mono ?_
      rintro e w4 ⟨rfl, hb⟩
      go_wp2_with fail
      refine (KH.out _ hb).mono ?_
      rintro e w5 ⟨rfl, hb⟩
      go_wp2_with fail
      refine (KX'.out _ hb).mono ?_
      rintro e w6 ⟨rfl, hb⟩
      go_wp2
      go_ret
      exact ⟨rfl, hb⟩
end Idt
end Go.Proofs.YtcbhjagcfbinoaaDoor
