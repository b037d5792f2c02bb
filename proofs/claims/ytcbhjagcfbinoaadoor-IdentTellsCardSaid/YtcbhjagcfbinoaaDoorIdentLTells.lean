/-
  Layer 11: IdentTells' walk, against the package's contracts.
-/
import Derived.Test.YtcbhjagcfbinoaaDoorIdentPk
import Derived.Test.YtcbhjagcfbinoaaDoorIdentRefO
namespace Go.Proofs.YtcbhjagcfbinoaaDoor
open Go.RowKit
namespace Idt
attribute [local go_sem] S2.B_size S2.B_drop' S2.B_take S2.B_list S2.B_app
theorem refParse_is {s a : Str} {n : Int} {ok : Bool} (hs : s.length ≤ 1099511627776) (h : IsParse s a n ok) (w : World) :
    Calls Tryd.prog 11 #[.string (S2.B s)] w fun e w' => e = .returned (.tuple #[.string (S2.B a), .int .i64 n, .bool ok]) ∧ w = w' := by
  refine (refParse_any s w hs).mono ?_
  rintro e w' ⟨⟨b, m, x, h', rfl⟩, rfl⟩
  obtain ⟨rfl, rfl, rfl⟩ := parse_uniq h h'
  exact ⟨rfl, rfl⟩
set_option maxHeartbeats 4000000 in
set_option maxRecDepth 100000 in
theorem tells_walk {W : World} (P : Pk idOf W) (k : Int) (s : Str) (m : Int) (hk : -9223372036854775808 ≤ k ∧ k ≤ 9223372036854775807) (hs : s.length ≤ 281474976710656) (hm : -9223372036854775808 ≤ m ∧ m ≤ 9223372036854775807) :
    Calls Tryd.prog 3 #[.int .i64 k, .string (S2.B s), .int .i64 m] W fun e w' => e = .returned (.bool true) ∧ Below W.heap.size W w' := by
  have KS := Lib.hid (small_any P W (Below.refl _ _))
  have hs3 : (s.length : Int) ≤ 281474976710656 := by omega
  by_cases h1 : 1000 < s.length
  · have h1I : (1000 : Int) < (s.length : Int) := by omega
    clear h1 hs
    go_enter Tryd.func3, Tryd.ntmps3
    go_wp2_with fail
    refine KS.out.mono ?_
    rintro e w1 ⟨rfl, hb⟩
    clear KS
    go_wp2
    go_ret
    exact ⟨rfl, hb⟩
  have h1I : ¬ (1000 : Int) < (s.length : Int) := by omega
  obtain ⟨a, n, ok, hp, P1⟩ := P.parse s (by omega)
  have Q1 := Lib.hid P1
  have Q2 := Lib.hid (Ok.same (W := W) (refParse_is (by omega) hp))
  have Q3 := Lib.hid (P.of k hk)
  have Q4 := Lib.hid (Ok.below (W := W) fun w => refOf_any k w hk.2)
  have Q5 := Lib.hid (P.right s (by omega))
  have Q6 := Lib.hid (Ok.same (W := W) fun w => refRight_any s w (by omega))
  have Q7 := Lib.hid (P.name s (by omega))
  have Q8 := Lib.hid (Ok.same (W := W) fun w => refName_any s w (by omega))
  have Q9 := Lib.hid (P.handle s m (by omega) hm)
  have Q0 := Lib.hid (Ok.same (W := W) fun w => refHandle_any s m w (by omega) hm)
  obtain ⟨x, hx⟩ : ∃ x, x = idOf k := ⟨_, rfl⟩
  obtain ⟨h, hh⟩ : ∃ h, h = handle s m := ⟨_, rfl⟩
  obtain ⟨r, hr⟩ : ∃ r, r = isId s := ⟨_, rfl⟩
  obtain ⟨q, hq⟩ : ∃ q, q = isName s := ⟨_, rfl⟩
  rw [← hx] at Q3 Q4
  rw [← hh] at Q9 Q0
  rw [← hr] at Q5 Q6
  rw [← hq] at Q7 Q8
  clear h1 hs hp P1 hx hh hr hq P
  go_enter Tryd.func3, Tryd.ntmps3
  go_wp2_with fail
  refine KS.out.mono ?_
  rintro e w1 ⟨rfl, hb⟩
  clear KS
  go_wp2_with fail
  refine (Q1.out _ hb).mono ?_
  rintro e w2 ⟨rfl, hb⟩
  clear Q1
  go_wp2_with fail
  refine (Q2.out _ hb).mono ?_
  rintro e w2 ⟨rfl, hb⟩
  clear Q2
  go_wp2_with fail
  refine (Q3.out _ hb).mono ?_
  rintro e w2 ⟨rfl, hb⟩
  clear Q3
  go_wp2_with fail
  refine (Q4.out _ hb).mono ?_
  rintro e w2 ⟨rfl, hb⟩
  clear Q4
  go_wp2_with fail
  refine (Q5.out _ hb).mono ?_
  rintro e w2 ⟨rfl, hb⟩
  clear Q5
  go_wp2_with fail
  refine (Q6.out _ hb).mono ?_
  rintro e w2 ⟨rfl, hb⟩
  clear Q6
  go_wp2_with fail
  refine (Q7.out _ hb).mono ?_
  rintro e w2 ⟨rfl, hb⟩
  clear Q7
  go_wp2_with fail
  refine (Q8.out _ hb).mono ?_
  rintro e w2 ⟨rfl, hb⟩
  clear Q8
  go_wp2_with fail
  refine (Q9.out _ hb).mono ?_
  rintro e w2 ⟨rfl, hb⟩
  clear Q9
  go_wp2_with fail
  refine (Q0.out _ hb).mono ?_
  rintro e w2 ⟨rfl, hb⟩
  clear Q0
  go_wp2
  go_ret
  exact ⟨rfl, hb⟩
end Idt
end Go.Proofs.YtcbhjagcfbinoaaDoor
