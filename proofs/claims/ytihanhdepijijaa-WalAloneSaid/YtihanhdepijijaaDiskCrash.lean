/-
  Layer 9 (disk): crash, interrupted, Crash.
-/
import Derived.Test.YtihanhdepijijaaDiskTrunc
namespace Go.Proofs.Ytihanhdepijijaa.S9
open Go.RowKit
namespace Dk
/-- The first j files as a crash leaves them, the others as they were. -/
def MD.part (D : MD) (k : Nat → Int) (j : Nat) : MD := { D with text := fun i => if i < j then (D.text i).take (D.cutAt k i) else D.text i, dur := fun i => if i < j then D.cutAt k i else D.dur i }
theorem part_ok {D : MD} (h : D.Ok) (k : Nat → Int) (j : Nat) : (D.part k j).Ok := by
  refine ⟨fun i hi => ?_, fun i hi => ?_, h.lost, h.calls, h.keep⟩
  · have := cutAt_le D h k hi
    have := h.dur i hi
    simp only [MD.part]
    split
    · simp only [List.length_take]; omega
    · assumption
  · have := h.len i hi
    simp only [MD.part]
    split
    · simp only [List.length_take]; omega
    · assumption
theorem part_step (D : MD) (h : D.Ok) (k : Nat → Int) {j : Nat} (hj : j < 8) : (((D.part k j).trunc j (D.cutAt k j)).settle j) = D.part k (j + 1) := by
  have hc := cutAt_le D h k hj
  unfold MD.settle MD.trunc MD.part
  simp only [MD.mk.injEq, and_true]
  constructor
  · funext i
    by_cases e : i = j
    · subst e; simp [upd]
    · have : (i < j + 1) ↔ i < j := by omega
      simp [upd, e, this]
  · funext i
    by_cases e : i = j
    · subst e
      simp only [upd, if_true, Nat.lt_irrefl, if_false, List.length_take, Nat.lt_succ_self]
      omega
    · have : (i < j + 1) ↔ i < j := by omega
      simp [upd, e, this]
set_option maxHeartbeats 4000000 in
set_option maxRecDepth 100000 in
theorem crash_any (X : Nat → Prop) (p : Nat) (D : MD) (k : Nat → Int) (hk : ∀ i, i < 8 → isI (k i)) (w : World) (h : Dk X w p D) :
    Calls Try.prog 35 #[ptr p, .agg (KV k).toArray] w fun e w' => e = .returned (.tuple #[]) ∧ Dk X w' p (D.crash k) ∧ Fr X w w' := by
  have h0 := h.ok
  obtain ⟨b, hb⟩ : ∃ b, b = w.heap.size := ⟨_, rfl⟩
  obtain ⟨w1, hw1⟩ : ∃ w1, w1 = w.alloc (.cells (KV k).toArray 63) := ⟨_, rfl⟩
  obtain ⟨Y, hY⟩ : ∃ Y, Y = fun q => X q ∨ q = w.heap.size := ⟨_, rfl⟩
  have hsz : w1.heap.size = w.heap.size + 1 := by rw [hw1]; simp
  have hbel : Below w.heap.size w w1 := by rw [hw1]; exact (Below.refl _ _).alloc (Nat.le_refl _) _
  have hdk : Dk Y w1 p (D.part k 0) := by
    obtain ⟨ho, vs, hv⟩ := h
    refine ⟨part_ok ho k 0, vs, ?_⟩
    exact (hv.more hbel (fun q hq => by rw [hY] at hq; rcases hq with hq | hq; exact .inl hq; exact .inr (by omega))).congr (fun i _ => by simp [MD.part]) (fun i _ => by simp [MD.part]) rfl rfl rfl (fun _ _ => rfl)
  have hbox : ∀ i, i < 8 → w1.cell? ⟨b, i, none⟩ = some (.int .i64 (k i)) := fun i hi => by
    rw [hw1, hb, cell_of_row _ _ _ _ _ _ (heap_alloc_new w _), List.getElem?_toArray, KV_get k hi]
  have hfr : Fr X w w1 := Fr.of_below hbel h.lt
  have hYb : Y b := by rw [hY, hb]; exact .inr rfl
  have hXY : ∀ q, X q → Y q := fun q hq => by rw [hY]; exact .inl hq
  have HS := Lib.hid hsz
  have HDK := Lib.hid hdk
  have HBOX := Lib.hid hbox
  have HFR := Lib.hid hfr
  have HYB := Lib.hid hYb
  have HXY := Lib.hid hXY
  have HK := Lib.hid hk
  have H0 := Lib.hid h0
  have HW1 := Lib.hid hw1
  have HB := Lib.hid hb
  clear h hk h0 hw1 hY hsz hbel hdk hbox hfr hYb hXY hb
  go_enter Try.func35, Try.ntmps35
  go_wp2
  rw [← HW1.out, ← HB.out]
  go_loopw [7] (fun v wr => ∃ j : Nat, v = .int .i64 (j : Int) ∧ j ≤ 8 ∧ Dk Y wr p (D.part k j) ∧ Fr Y w1 wr) (fun v _ => 8 - (intOf v).toNat)
  case atStart => exact ⟨0, rfl, by omega, HDK.out, Fr.refl _ _⟩
  case round =>
    obtain ⟨j, rfl, hj, hdk, hfw⟩ := hrel
    by_cases hlt : j < 8
    · have hltI : (j : Int) < 8 := by omega
      obtain ⟨hok, vs, hv⟩ := hdk
      have HDV := Lib.hid hv
      obtain ⟨A, L, c, he, hL, hLc⟩ := (hv.own j hlt).sl
      have c1 := hv.c_v hlt
      rw [he] at c1
      have c2 := hv.c_d hlt
      have c3 : wr.cell? ⟨b, j, none⟩ = some (.int .i64 (k j)) := (hfw.cell (p := ⟨b, j, none⟩) HYB.out).trans (HBOX.out j hlt)
      have hdl := hok.dur j hlt
      have hll := hok.len j hlt
      rw [← hL] at hdl hll
      have e1 : (D.part k j).dur j = D.dur j := by simp [MD.part]
      have e2 : (D.part k j).text j = D.text j := by simp [MD.part]
      have hcut : D.cutAt k j = D.dur j + min (k j).toNat (L - D.dur j) := by unfold MD.cutAt; rw [hL, e2]
      have hcl : D.cutAt k j ≤ ((D.part k j).text j).length := by rw [e2]; exact (cutAt_le D H0.out k hlt).2
      rw [e1] at c2 hdl
      have R := fun w2 (hb : Below wr.heap.size wr w2) => truncate_any Y p (D.part k j) j (D.cutAt k j) hlt hcl w2 ⟨hok, vs, hv.step hb⟩
      rw [hcut] at R
      have hkI := HK.out j hlt
      generalize D.dur j = d at *
      generalize k j = K at *
      have hdL : (d : Int) ≤ L := by omega
      have hLI : (L : Int) ≤ 16777216 := by omega
      have hr0 : (0 : Int) ≤ (L : Int) - d := by omega
      unfold isI at hkI
      have HFW := Lib.hid hfw
      have HL := Lib.hid hL
      have HE := Lib.hid he
      have HLT := Lib.hid hlt
      have HOK := Lib.hid hok
      clear hv hok he hL hlt hfw hcl e1 e2 hll hdl
      obtain ⟨q, hq⟩ : ∃ q, q = d + min K.toNat (L - d) := ⟨_, rfl⟩
      rw [← hq] at R hcut
      have HC := Lib.hid hcut.symm
      clear hcut
      rcases Int.lt_or_le K 0 with hK | hK
      · have R1 := R wr.drew.drew (Below.refl _ _).drew.drew
        rw [show (q : Int) = (d : Int) by omega] at R1
        replace R1 := Lib.hid R1
        have c2d : wr.drew.cell? ⟨p, j * 2 + 1, none⟩ = some (.int .i64 (d : Int)) := c2
        have c3d : wr.drew.cell? ⟨b, j, none⟩ = some (.int .i64 K) := c3
        clear R
        go_wp2
        go_region
        go_wp2
        have HFW2 := Lib.hid (show Fr Y w1 wr.drew.drew from HFW.out.drew.drew)
        generalize wr.drew = wd at *
        go_still_tail 12, (by kernel_rfl)
        show wpList _ _ _ _ _ wd.drew
        generalize wd.drew = we at *
        go_wp2_with fail
        refine R1.out.mono ?_
        rintro e5 w5 ⟨rfl, ⟨ho5, vs5, hv5⟩, hf5⟩
        obtain ⟨A5, n5, cc5, he5, hn5, hl5⟩ := (hv5.own j HLT.out).sl
        have d1 := hv5.c_v HLT.out
        rw [he5] at d1
        have d2 := hv5.c_d HLT.out
        have d3 := hv5.free (j * 2 + 1)
        have d4 : (D.part k (j + 1)).Ok ∧ Dv Y (w5.setCell ⟨p, j * 2 + 1, none⟩ (.int .i64 (n5 : Nat))) p (D.part k (j + 1)) vs5 := by
          refine ⟨part_ok H0.out k _, ?_⟩
          rw [← part_step D H0.out k HLT.out, ← HC.out]
          have := hv5.set_dur HLT.out n5
          rw [hn5] at this ⊢
          exact this
        have d5 : Fr Y w1 (w5.setCell ⟨p, j * 2 + 1, none⟩ (.int .i64 (n5 : Nat))) := (HFW2.out.trans hf5).set _ _ hv5.pX
        have D4 := Lib.hid d4
        have D5 := Lib.hid d5
        clear d4 d5 hv5 ho5 hf5 he5 hn5
        go_wp2
        go_roundw
        case rel => exact ⟨j + 1, by go_num, by have := HLT.out; omega, ⟨D4.out.1, _, D4.out.2⟩, D5.out⟩
        case measure => simp [intOf]; have := HLT.out; omega
      · rcases Int.lt_or_le ((L : Int) - d) K with hK2 | hK2
        · have R1 := R wr.drew.drew (Below.refl _ _).drew.drew
          rw [show (q : Int) = (d : Int) + ((L : Int) - d) by omega] at R1
          replace R1 := Lib.hid R1
          have c2d : wr.drew.cell? ⟨p, j * 2 + 1, none⟩ = some (.int .i64 (d : Int)) := c2
          have c3d : wr.drew.cell? ⟨b, j, none⟩ = some (.int .i64 K) := c3
          clear R
          go_wp2
          go_region
          go_wp2
          have HFW2 := Lib.hid (show Fr Y w1 wr.drew.drew from HFW.out.drew.drew)
          generalize wr.drew = wd at *
          go_still_tail 12, (by kernel_rfl)
          show wpList _ _ _ _ _ wd.drew
          generalize wd.drew = we at *
          go_wp2_with fail
          refine R1.out.mono ?_
          rintro e5 w5 ⟨rfl, ⟨ho5, vs5, hv5⟩, hf5⟩
          obtain ⟨A5, n5, cc5, he5, hn5, hl5⟩ := (hv5.own j HLT.out).sl
          have d1 := hv5.c_v HLT.out
          rw [he5] at d1
          have d2 := hv5.c_d HLT.out
          have d3 := hv5.free (j * 2 + 1)
          have d4 : (D.part k (j + 1)).Ok ∧ Dv Y (w5.setCell ⟨p, j * 2 + 1, none⟩ (.int .i64 (n5 : Nat))) p (D.part k (j + 1)) vs5 := by
            refine ⟨part_ok H0.out k _, ?_⟩
            rw [← part_step D H0.out k HLT.out, ← HC.out]
            have := hv5.set_dur HLT.out n5
            rw [hn5] at this ⊢
            exact this
          have d5 : Fr Y w1 (w5.setCell ⟨p, j * 2 + 1, none⟩ (.int .i64 (n5 : Nat))) := (HFW2.out.trans hf5).set _ _ hv5.pX
          have D4 := Lib.hid d4
          have D5 := Lib.hid d5
          clear d4 d5 hv5 ho5 hf5 he5 hn5
          go_wp2
          go_roundw
          case rel => exact ⟨j + 1, by go_num, by have := HLT.out; omega, ⟨D4.out.1, _, D4.out.2⟩, D5.out⟩
          case measure => simp [intOf]; have := HLT.out; omega
        · have R1 := R wr.drew.drew (Below.refl _ _).drew.drew
          rw [show (q : Int) = (d : Int) + K by omega] at R1
          replace R1 := Lib.hid R1
          have c2d : wr.drew.cell? ⟨p, j * 2 + 1, none⟩ = some (.int .i64 (d : Int)) := c2
          have c3d : wr.drew.cell? ⟨b, j, none⟩ = some (.int .i64 K) := c3
          clear R
          go_wp2
          go_region
          go_wp2
          have HFW2 := Lib.hid (show Fr Y w1 wr.drew.drew from HFW.out.drew.drew)
          generalize wr.drew = wd at *
          go_still_tail 12, (by kernel_rfl)
          show wpList _ _ _ _ _ wd.drew
          generalize wd.drew = we at *
          go_wp2_with fail
          refine R1.out.mono ?_
          rintro e5 w5 ⟨rfl, ⟨ho5, vs5, hv5⟩, hf5⟩
          obtain ⟨A5, n5, cc5, he5, hn5, hl5⟩ := (hv5.own j HLT.out).sl
          have d1 := hv5.c_v HLT.out
          rw [he5] at d1
          have d2 := hv5.c_d HLT.out
          have d3 := hv5.free (j * 2 + 1)
          have d4 : (D.part k (j + 1)).Ok ∧ Dv Y (w5.setCell ⟨p, j * 2 + 1, none⟩ (.int .i64 (n5 : Nat))) p (D.part k (j + 1)) vs5 := by
            refine ⟨part_ok H0.out k _, ?_⟩
            rw [← part_step D H0.out k HLT.out, ← HC.out]
            have := hv5.set_dur HLT.out n5
            rw [hn5] at this ⊢
            exact this
          have d5 : Fr Y w1 (w5.setCell ⟨p, j * 2 + 1, none⟩ (.int .i64 (n5 : Nat))) := (HFW2.out.trans hf5).set _ _ hv5.pX
          have D4 := Lib.hid d4
          have D5 := Lib.hid d5
          clear d4 d5 hv5 ho5 hf5 he5 hn5
          go_wp2
          go_roundw
          case rel => exact ⟨j + 1, by go_num, by have := HLT.out; omega, ⟨D4.out.1, _, D4.out.2⟩, D5.out⟩
          case measure => simp [intOf]; have := HLT.out; omega
    · obtain rfl : j = 8 := by omega
      obtain ⟨hok, vs, hv⟩ := hdk
      have hX := hv.weaken HXY.out
      have s1 := hX.set_down true
      have c1 := hv.c_down
      have f1 := hv.free 16
      have F1 := (hfw.weaken HXY.out).set ⟨p, 16, none⟩ (.bool true) hX.pX
      have S1 := Lib.hid s1
      have FF := Lib.hid (HFR.out.trans F1)
      clear hv hX s1 hfw F1 hok
      go_wp2_with (refine wpList_store_plan rfl _ _ rfl 0 (fun _ => 0) rfl rfl S1.out ?_)
      intro w6 h6 h7
      have d6 : Dk X w6 p (D.crash k) := ⟨crash_ok H0.out k, _, h6.congr (fun i hi => by simp [MD.crash, MD.part, hi]) (fun i hi => by simp [MD.crash, MD.part, hi]) rfl rfl rfl (fun _ _ => rfl)⟩
      have D6 := Lib.hid d6
      have F6 := Lib.hid (FF.out.trans h7)
      clear h6 h7 d6
      go_wp2
      go_end0
      exact ⟨rfl, D6.out, F6.out⟩
end Dk
end Go.Proofs.Ytihanhdepijijaa.S9
