/-
  Layer 9 (disk): Flush.
-/
import Derived.Test.YtihanhdepijijaaDiskAppend
import Derived.Deep.RegionHeld3
namespace Go.Proofs.Ytihanhdepijijaa.S9
open Go.RowKit
namespace Dk
set_option maxHeartbeats 4000000 in
set_option maxRecDepth 100000 in
theorem Flush_any (X : Nat → Prop) (p : Nat) (D : MD) (f : Int) (w : World) (h : Dk X w p D) :
    Calls Try.prog 31 #[ptr p, .int .i64 f] w fun e w' => e = .returned (.int .i64 (D.flush f).1) ∧ Dk X w' p (D.flush f).2 ∧ Fr X w w' := by
  have hok := tick_ok h.ok
  have HI := Lib.hid (interrupted_any X p D w h)
  clear h
  have R := Lib.hid (show D.flush f = if D.hit then (8, D.tick) else D.tick.flush1 f from rfl)
  generalize D.tick = T at *
  cases hh : D.hit with
  | true =>
    rw [hh] at HI R
    clear hh
    go_enter Try.func31, Try.ntmps31
    go_wp2_with fail
    refine HI.out.mono ?_
    rintro e w1 ⟨rfl, h1, f1⟩
    have H1 := Lib.hid h1
    have F1 := Lib.hid f1
    clear h1 f1
    go_wp2
    go_ret
    exact ⟨by rw [R.out]; rfl, by rw [R.out]; exact H1.out, F1.out⟩
  | false =>
    rw [hh] at HI R
    replace R := Lib.hid (show _ = T.flush1 f from R.out)
    clear hh
    cases hd : T.down with
    | true =>
      have HC := Lib.hid (show T.chk1 f = 8 by simp [MD.chk1, hd])
      replace R := Lib.hid (R.out.trans (show T.flush1 f = (8, T) by unfold MD.flush1; rw [HC.out]; rfl))
      clear hd hok
      go_enter Try.func31, Try.ntmps31
      go_wp2_with fail
      refine HI.out.mono ?_
      rintro e w1 ⟨rfl, h1, f1⟩
      have KC := Lib.hid (check1_any f h1)
      have HL := Lib.hid h1.lt
      have HA := Lib.hid (fun o => h1.alloc o)
      have F1 := Lib.hid f1
      clear h1 f1 HI
      go_wp2_with fail
      refine KC.out.mono ?_
      rintro e w2 ⟨rfl, hq⟩
      have H2 := Lib.hid (show Dk X w2 p T by rw [← hq]; exact HA.out _)
      have F2 := Lib.hid (show Fr X w w2 by rw [← hq]; exact F1.out.alloc HL.out _)
      clear hq KC HA HL F1
      rw [HC.out]
      go_wp2
      go_ret
      exact ⟨by rw [R.out]; rfl, by rw [R.out]; exact H2.out, F2.out⟩
    | false =>
      cases hf : (isF f) with
      | false =>
        have HC := Lib.hid (show T.chk1 f = 1 by simp only [MD.chk1, hd, hf]; rfl)
        replace R := Lib.hid (R.out.trans (show T.flush1 f = (1, T) by unfold MD.flush1; rw [HC.out]; rfl))
        clear hd hok hf
        go_enter Try.func31, Try.ntmps31
        go_wp2_with fail
        refine HI.out.mono ?_
        rintro e w1 ⟨rfl, h1, f1⟩
        have KC := Lib.hid (check1_any f h1)
        have HL := Lib.hid h1.lt
        have HA := Lib.hid (fun o => h1.alloc o)
        have F1 := Lib.hid f1
        clear h1 f1 HI
        go_wp2_with fail
        refine KC.out.mono ?_
        rintro e w2 ⟨rfl, hq⟩
        have H2 := Lib.hid (show Dk X w2 p T by rw [← hq]; exact HA.out _)
        have F2 := Lib.hid (show Fr X w w2 by rw [← hq]; exact F1.out.alloc HL.out _)
        clear hq KC HA HL F1
        rw [HC.out]
        go_wp2
        go_ret
        exact ⟨by rw [R.out]; rfl, by rw [R.out]; exact H2.out, F2.out⟩
      | true =>
        have HC := Lib.hid (show T.chk1 f = 0 by simp only [MD.chk1, hd, hf]; rfl)
        clear hd
        have hlb := hok.lost
        by_cases hl : 0 < T.lost
        · replace R := Lib.hid (R.out.trans (show T.flush1 f = (18, { T with lost := T.lost - 1 }) by unfold MD.flush1; rw [HC.out, if_neg (by simp), if_pos hl]))
          have HO := Lib.hid (show ({ T with lost := T.lost - 1 } : MD).Ok from ⟨hok.dur, hok.len, by simp only; omega, hok.calls, hok.keep⟩)
          clear hok hf
          go_enter Try.func31, Try.ntmps31
          go_wp2_with fail
          refine HI.out.mono ?_
          rintro e w1 ⟨rfl, h1, f1⟩
          have KC := Lib.hid (check1_any f h1)
          have HL := Lib.hid h1.lt
          have HA := Lib.hid (fun o => h1.alloc o)
          have F1 := Lib.hid f1
          clear h1 f1 HI
          go_wp2_with fail
          refine KC.out.mono ?_
          rintro e w2 ⟨rfl, hq⟩
          have H2 := Lib.hid (show Dk X w2 p T by rw [← hq]; exact HA.out _)
          have F2 := Lib.hid (show Fr X w w2 by rw [← hq]; exact F1.out.alloc HL.out _)
          clear hq KC HA HL F1
          rw [HC.out]
          obtain ⟨_, vs, hv⟩ := H2.out
          have c1 := hv.c_lost
          have f1 := hv.free 17
          have H3 := Lib.hid (show Dk X _ p _ from ⟨HO.out, vs, hv.set_lost (T.lost - 1)⟩)
          have F3 := Lib.hid (F2.out.set ⟨p, 17, none⟩ (.int .i64 (T.lost - 1)) hv.pX)
          clear hv
          go_wp2
          go_ret
          exact ⟨by rw [R.out]; rfl, by rw [R.out]; exact H3.out, F3.out⟩
        · obtain ⟨k, hk, rfl⟩ : ∃ k : Nat, k < 8 ∧ f = (k : Int) := ⟨f.toNat, isF_nat hf⟩
          replace R := Lib.hid (R.out.trans (show T.flush1 (k : Int) = (0, T.settle k) by unfold MD.flush1; rw [HC.out, if_neg (by simp), if_neg hl]; rfl))
          have hl0 : T.lost = 0 := by omega
          have hkk : (k : Int) < 8 := by omega
          have HS := Lib.hid (show T.size (k : Int) = (T.text k).length by unfold MD.size; rw [if_pos hf]; rfl)
          have HO := Lib.hid (settle_ok hok k)
          have HK8 := Lib.hid hk
          have HL0 := Lib.hid hl0
          clear hok hf hk hl hlb hl0
          go_enter Try.func31, Try.ntmps31
          go_wp2_with fail
          refine HI.out.mono ?_
          rintro e w1 ⟨rfl, h1, f1⟩
          have KC := Lib.hid (check1_any (k : Int) h1)
          have HL := Lib.hid h1.lt
          have HA := Lib.hid (fun o => h1.alloc o)
          have F1 := Lib.hid f1
          clear h1 f1 HI
          go_wp2_with fail
          refine KC.out.mono ?_
          rintro e w2 ⟨rfl, hq⟩
          have H2 := Lib.hid (show Dk X w2 p T by rw [← hq]; exact HA.out _)
          have F2 := Lib.hid (show Fr X w w2 by rw [← hq]; exact F1.out.alloc HL.out _)
          clear hq KC HA HL F1
          rw [HC.out]
          obtain ⟨_, vs, hv⟩ := H2.out
          have c1 := hv.c_lost
          rw [HL0.out] at c1
          have HV := Lib.hid hv
          clear hv
          go_wp2
          have c2 := HV.out.drew.c_d HK8.out
          have f2 := HV.out.drew.free (k * 2 + 1)
          have HX := Lib.hid (show Dk X w2.drew p T from H2.out.drew)
          have HV2 := Lib.hid HV.out.drew
          have FD := Lib.hid F2.out.drew
          clear H2 c1 HV
          refine wp_region_held_drew (S := (fun _ => True)) (by kernel_rfl) trivial (fun hHeld => ?_)
          generalize w2.drew = wd at *
          refine wpAnyH_take (i := 0) (oi := ⟨_, _, _, _, _, _⟩) (v := ?_) rfl (by kernel_rfl) (by kernel_rfl) (by kernel_rfl) (fun _ _ _ h => h) (Or.inl ⟨by rfl, ?_⟩) (by assumption) ?_
          rotate_left
          · intro wz hSw
            try dsimp only at hSw
            go_simp
            try with_reducible rfl
          try simp only [Act.put, List.setIfInBounds_toArray, List.set_cons_zero, List.set_cons_succ]
          refine wpAnyH_take (i := 1) (oi := ⟨_, _, _, _, _, _⟩) (v := ?_) rfl (by kernel_rfl) (by kernel_rfl) (by kernel_rfl) (fun _ _ _ h => h) (Or.inl ⟨by rfl, ?_⟩) (by assumption) ?_
          rotate_left
          · intro wz hSw
            try dsimp only at hSw
            go_simp
            try with_reducible rfl
          try simp only [Act.put, List.setIfInBounds_toArray, List.set_cons_zero, List.set_cons_succ]
          refine wpAnyH_take (i := 2) (oi := ⟨_, _, _, _, _, _⟩) (v := ?_) rfl (by kernel_rfl) (by kernel_rfl) (by kernel_rfl) (fun _ _ _ h => h) (Or.inl ⟨by rfl, ?_⟩) (by assumption) ?_
          rotate_left
          · intro wz hSw
            try dsimp only at hSw
            go_simp
            try with_reducible rfl
          try simp only [Act.put, List.setIfInBounds_toArray, List.set_cons_zero, List.set_cons_succ]
          refine wpAnyH_take (i := 3) (oi := ⟨_, _, _, _, _, _⟩) (v := ?_) rfl (by kernel_rfl) (by kernel_rfl) (by kernel_rfl) (fun _ _ _ h => h) (Or.inl ⟨by rfl, ?_⟩) (by assumption) ?_
          rotate_left
          · intro wz hSw
            try dsimp only at hSw
            go_simp
            try with_reducible rfl
          try simp only [Act.put, List.setIfInBounds_toArray, List.set_cons_zero, List.set_cons_succ]
          refine wpAnyH_take (i := 5) (oi := ⟨_, _, _, _, _, _⟩) (v := ?_) rfl (by kernel_rfl) (by kernel_rfl) (by kernel_rfl) (fun _ _ _ h => h) (Or.inl ⟨by rfl, ?_⟩) (by assumption) ?_
          rotate_left
          · intro wz hSw
            try dsimp only at hSw
            go_simp
            try with_reducible rfl
          try simp only [Act.put, List.setIfInBounds_toArray, List.set_cons_zero, List.set_cons_succ]
          refine wpAnyH_take (i := 6) (oi := ⟨_, _, _, _, _, _⟩) (v := ?_) rfl (by kernel_rfl) (by kernel_rfl) (by kernel_rfl) (fun _ _ _ h => h) (Or.inl ⟨by rfl, ?_⟩) (by assumption) ?_
          rotate_left
          · intro wz hSw
            try dsimp only at hSw
            go_simp
            try with_reducible rfl
          try simp only [Act.put, List.setIfInBounds_toArray, List.set_cons_zero, List.set_cons_succ]
          refine wpAnyH_ready (rs := [4]) (by kernel_rfl) (by simp) ?_
          refine AllReadyH.cons (o := ⟨_, _, _, _, _, _⟩) rfl (fun K hK => ?_) AllReadyH.nil
          go_simp
          refine (size_any X p T (k : Int) wd HX.out).mono ?_
          rintro e wq ⟨rfl, hq⟩
          obtain rfl := hq
          rw [HS.out]
          clear hHeld
          refine hK.out _ _ trivial (fun hHeld => ?_)
          clear hK K
          try simp only [Act.put, List.setIfInBounds_toArray, List.set_cons_zero, List.set_cons_succ]
          refine wpAnyH_take (i := 7) (oi := ⟨_, _, _, _, _, _⟩) (v := ?_) rfl (by kernel_rfl) (by kernel_rfl) (by kernel_rfl) (fun _ _ _ h => h) (Or.inl ⟨by rfl, ?_⟩) (by assumption) ?_
          rotate_left
          · intro wz hSw
            try dsimp only at hSw
            go_simp
            try with_reducible rfl
          try simp only [Act.put, List.setIfInBounds_toArray, List.set_cons_zero, List.set_cons_succ]
          refine wpAnyH_take (i := 8) (oi := ⟨_, _, _, _, _, _⟩) (v := ?_) rfl (by kernel_rfl) (by kernel_rfl) (by kernel_rfl) (fun _ _ _ h => h) (Or.inl ⟨by rfl, ?_⟩) (by assumption) ?_
          rotate_left
          · intro wz hSw
            try dsimp only at hSw
            go_simp
            try with_reducible rfl
          try simp only [Act.put, List.setIfInBounds_toArray, List.set_cons_zero, List.set_cons_succ]
          refine wpAnyH_ready (rs := [9]) (by kernel_rfl) (by simp) ?_
          refine AllReadyH.cons (o := ⟨_, _, _, _, _, _⟩) rfl (fun K hK => ?_) AllReadyH.nil
          go_simp
          clear hHeld
          refine hK.out _ _ trivial (fun hHeld => ?_)
          clear hK K
          try simp only [Act.put, List.setIfInBounds_toArray, List.set_cons_zero, List.set_cons_succ]
          refine wpAnyH_done (by kernel_rfl) ?_ _
          clear hHeld
          have H3 := Lib.hid (show Dk X _ p (T.settle k) from ⟨HO.out, vs, HV2.out.set_dur HK8.out (T.text k).length⟩)
          have F3 := Lib.hid (FD.out.set ⟨p, k * 2 + 1, none⟩ (.int .i64 ((T.text k).length : Nat)) HV2.out.pX)
          go_wp2
          go_ret
          exact ⟨by rw [R.out]; rfl, by rw [R.out]; exact H3.out, F3.out⟩
end Dk
end Go.Proofs.Ytihanhdepijijaa.S9
