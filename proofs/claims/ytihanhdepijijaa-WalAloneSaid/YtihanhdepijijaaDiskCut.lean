/-
  Layer 9 (disk): Cut.
-/
import Derived.Test.YtihanhdepijijaaDiskFlush
import Derived.Deep.RegionHeld3
namespace Go.Proofs.Ytihanhdepijijaa.S9
open Go.RowKit
namespace Dk
set_option maxHeartbeats 4000000 in
set_option maxRecDepth 100000 in
theorem Cut_any (X : Nat → Prop) (p : Nat) (D : MD) (f n : Int) (w : World) (h : Dk X w p D) :
    Calls Try.prog 49 #[ptr p, .int .i64 f, .int .i64 n] w fun e w' => e = .returned (.int .i64 (D.cut f n).1) ∧ Dk X w' p (D.cut f n).2 ∧ Fr X w w' := by
  have hok := tick_ok h.ok
  have HI := Lib.hid (interrupted_any X p D w h)
  clear h
  have R := Lib.hid (show D.cut f n = if D.hit then (8, D.tick) else D.tick.cut1 f n from rfl)
  generalize D.tick = T at *
  cases hh : D.hit with
  | true =>
    rw [hh] at HI R
    clear hh
    go_enter Try.func49, Try.ntmps49
    go_wp2_with fail
    refine HI.out.mono ?_
    rintro e w1 ⟨rfl, h1, f1⟩
    have H1 := Lib.hid h1
    have F1 := Lib.hid f1
    clear h1 f1
    go_wp2
    go_ret
    exact ⟨by rw [R.out]; rfl, by rw [R.out]; exact H1.out, F1.out⟩
  | false =>
    rw [hh] at HI R
    replace R := Lib.hid (show _ = T.cut1 f n from R.out)
    clear hh
    cases hd : T.down with
    | true =>
      have HC := Lib.hid (show T.chk1 f = 8 by simp [MD.chk1, hd])
      replace R := Lib.hid (R.out.trans (show T.cut1 f n = (8, T) by unfold MD.cut1; rw [HC.out]; rfl))
      clear hd hok
      go_enter Try.func49, Try.ntmps49
      go_wp2_with fail
      refine HI.out.mono ?_
      rintro e w1 ⟨rfl, h1, f1⟩
      have KC := Lib.hid (check1_any f h1)
      have HL := Lib.hid h1.lt
      have HA := Lib.hid (fun o => h1.alloc o)
      have F1 := Lib.hid f1
      clear h1 f1 HI
      go_wp2_with fail
      refine KC.out.mono ?_
      rintro e w2 ⟨rfl, hq⟩
      have H2 := Lib.hid (show Dk X w2 p T by rw [← hq]; exact HA.out _)
      have F2 := Lib.hid (show Fr X w w2 by rw [← hq]; exact F1.out.alloc HL.out _)
      clear hq KC HA HL F1
      rw [HC.out]
      go_wp2
      go_ret
      exact ⟨by rw [R.out]; rfl, by rw [R.out]; exact H2.out, F2.out⟩
    | false =>
      cases hf : (isF f) with
      | false =>
        have HC := Lib.hid (show T.chk1 f = 1 by simp only [MD.chk1, hd, hf]; rfl)
        replace R := Lib.hid (R.out.trans (show T.cut1 f n = (1, T) by unfold MD.cut1; rw [HC.out]; rfl))
        clear hd hok hf
        go_enter Try.func49, Try.ntmps49
        go_wp2_with fail
        refine HI.out.mono ?_
        rintro e w1 ⟨rfl, h1, f1⟩
        have KC := Lib.hid (check1_any f h1)
        have HL := Lib.hid h1.lt
        have HA := Lib.hid (fun o => h1.alloc o)
        have F1 := Lib.hid f1
        clear h1 f1 HI
        go_wp2_with fail
        refine KC.out.mono ?_
        rintro e w2 ⟨rfl, hq⟩
        have H2 := Lib.hid (show Dk X w2 p T by rw [← hq]; exact HA.out _)
        have F2 := Lib.hid (show Fr X w w2 by rw [← hq]; exact F1.out.alloc HL.out _)
        clear hq KC HA HL F1
        rw [HC.out]
        go_wp2
        go_ret
        exact ⟨by rw [R.out]; rfl, by rw [R.out]; exact H2.out, F2.out⟩
      | true =>
        have HC := Lib.hid (show T.chk1 f = 0 by simp only [MD.chk1, hd, hf]; rfl)
        clear hd
        by_cases hneg : n < 0
        · replace R := Lib.hid (R.out.trans (show T.cut1 f n = (1, T) by unfold MD.cut1; rw [HC.out, if_neg (by simp), if_pos (.inl hneg)]))
          clear hok hf
          go_enter Try.func49, Try.ntmps49
          go_wp2_with fail
          refine HI.out.mono ?_
          rintro e w1 ⟨rfl, h1, f1⟩
          have KC := Lib.hid (check1_any f h1)
          have HL := Lib.hid h1.lt
          have HA := Lib.hid (fun o => h1.alloc o)
          have F1 := Lib.hid f1
          clear h1 f1 HI
          go_wp2_with fail
          refine KC.out.mono ?_
          rintro e w2 ⟨rfl, hq⟩
          have H2 := Lib.hid (show Dk X w2 p T by rw [← hq]; exact HA.out _)
          have F2 := Lib.hid (show Fr X w w2 by rw [← hq]; exact F1.out.alloc HL.out _)
          clear hq KC HA HL F1
          rw [HC.out]
          go_wp2
          go_ret
          exact ⟨by rw [R.out]; rfl, by rw [R.out]; exact H2.out, F2.out⟩
        · obtain ⟨k, hk, rfl⟩ : ∃ k : Nat, k < 8 ∧ f = (k : Int) := ⟨f.toNat, isF_nat hf⟩
          obtain ⟨j, rfl⟩ : ∃ j : Nat, n = (j : Int) := ⟨n.toNat, by omega⟩
          have hkk : (k : Int) < 8 := by omega
          have hs : T.size (k : Int) = (T.text k).length := by unfold MD.size; rw [if_pos hf]; rfl
          by_cases hgt : (T.text k).length < j
          · replace R := Lib.hid (R.out.trans (show T.cut1 (k : Int) (j : Int) = (1, T) by unfold MD.cut1; rw [HC.out, if_neg (by simp), if_pos (.inr (by rw [hs]; omega))]))
            have hgI : ((T.text k).length : Int) < j := by omega
            have HS := Lib.hid hs
            clear hok hf hk hgt hs hneg
            go_enter Try.func49, Try.ntmps49
            go_wp2_with fail
            refine HI.out.mono ?_
            rintro e w1 ⟨rfl, h1, f1⟩
            have KC := Lib.hid (check1_any (k : Int) h1)
            have HL := Lib.hid h1.lt
            have HA := Lib.hid (fun o => h1.alloc o)
            have F1 := Lib.hid f1
            clear h1 f1 HI
            go_wp2_with fail
            refine KC.out.mono ?_
            rintro e w2 ⟨rfl, hq⟩
            have H2 := Lib.hid (show Dk X w2 p T by rw [← hq]; exact HA.out _)
            have F2 := Lib.hid (show Fr X w w2 by rw [← hq]; exact F1.out.alloc HL.out _)
            clear hq KC HA HL F1
            rw [HC.out]
            go_wp2_with fail
            refine (size_any X p T (k : Int) w2 H2.out).mono ?_
            rintro e w3 ⟨rfl, rfl⟩
            rw [HS.out]
            go_wp2
            go_ret
            exact ⟨by rw [R.out]; rfl, by rw [R.out]; exact H2.out, F2.out⟩
          · replace R := Lib.hid (R.out.trans (show T.cut1 (k : Int) (j : Int) = (0, T.trunc k j) by unfold MD.cut1; rw [HC.out, if_neg (by simp), if_neg (by rw [hs]; omega)]; rfl))
            have hle : (j : Int) ≤ ((T.text k).length : Int) := by omega
            have HS := Lib.hid hs
            have HK8 := Lib.hid hk
            have HJ := Lib.hid (show j ≤ (T.text k).length by omega)
            clear hok hf hk hgt hs hneg
            go_enter Try.func49, Try.ntmps49
            go_wp2_with fail
            refine HI.out.mono ?_
            rintro e w1 ⟨rfl, h1, f1⟩
            have KC := Lib.hid (check1_any (k : Int) h1)
            have HL := Lib.hid h1.lt
            have HA := Lib.hid (fun o => h1.alloc o)
            have F1 := Lib.hid f1
            clear h1 f1 HI
            go_wp2_with fail
            refine KC.out.mono ?_
            rintro e w2 ⟨rfl, hq⟩
            have H2 := Lib.hid (show Dk X w2 p T by rw [← hq]; exact HA.out _)
            have F2 := Lib.hid (show Fr X w w2 by rw [← hq]; exact F1.out.alloc HL.out _)
            clear hq KC HA HL F1
            rw [HC.out]
            go_wp2_with fail
            refine (size_any X p T (k : Int) w2 H2.out).mono ?_
            rintro e w3 ⟨rfl, rfl⟩
            rw [HS.out]
            go_wp2_with fail
            refine (truncate_any X p T k j HK8.out HJ.out w2 H2.out).mono ?_
            rintro e w4 ⟨rfl, h4, f4⟩
            have H4 := Lib.hid h4
            have F4 := Lib.hid (F2.out.trans f4)
            clear h4 f4
            go_wp2
            go_ret
            exact ⟨by rw [R.out]; rfl, by rw [R.out]; exact H4.out, F4.out⟩
end Dk
end Go.Proofs.Ytihanhdepijijaa.S9
