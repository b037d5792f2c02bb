/-
  Layer 9 (disk): DiskLoses.
-/
import Derived.Test.YtbappmnaaeihfaaDiskMove
import Derived.Deep.RegionHeld3
namespace Go.Proofs.Ytbappmnaaeihfaa
open Go.RowKit
namespace Dk
attribute [local go_sem] S2.B_size S2.B_list
/-- The machine of DiskLoses: s in file 0, nothing durable, k flushes to be lost. -/
def lm (s : Str) (k : Int) : MD := { text := upd (fun _ => []) 0 s, dur := fun _ => 0, down := false, lost := k, calls := 0, keep := fun _ => 0 }
theorem lm_app (s : Str) (n : Int) (hs : s.length ≤ 50000) : ((MD.new.lose n).app 0 s) = (0, lm s (max n 0)) := by
  have hE : (MD.new.lose n).appE 0 s = 0 := by
    unfold MD.appE
    rw [show (MD.new.lose n).chk1 0 = 0 from rfl, if_neg (by decide), if_neg]
    rw [show (MD.new.lose n).size 0 = 0 from rfl]
    omega
  unfold MD.app MD.app1
  rw [hE]
  rfl
theorem lm_flush (s : Str) (k : Int) (hk : 0 < k) : (lm s k).flush 0 = (18, lm s (k - 1)) := by
  show (lm s k).flush1 0 = _
  unfold MD.flush1
  rw [show (lm s k).chk1 0 = 0 from rfl, if_neg (by decide), if_pos (show 0 < (lm s k).lost from hk)]
  rfl
theorem lm_crash (s : Str) (k : Int) : ((lm s k).Crash []).start.read 0 = ([], 0) := by
  show (((lm s k).text 0).take ((lm s k).cutAt (kof []) 0), (0 : Int)) = _
  rw [show (lm s k).cutAt (kof []) 0 = 0 from by simp [MD.cutAt, lm, kof]]
  rfl
theorem lm_last (s : Str) (k : Int) (hk : k ≤ 0) : ((lm s k).flush 0).1 = 0 ∧ ((((lm s k).flush 0).2.Crash []).start.read 0) = (s, 0) := by
  have h : (lm s k).flush 0 = (0, (lm s k).settle 0) := by
    show (lm s k).flush1 0 = _
    unfold MD.flush1
    rw [show (lm s k).chk1 0 = 0 from rfl, if_neg (by decide), if_neg (show ¬ 0 < (lm s k).lost by show ¬ 0 < k; omega)]
    rfl
  rw [h]
  refine ⟨rfl, ?_⟩
  show ((((lm s k).settle 0).text 0).take (((lm s k).settle 0).cutAt (kof []) 0), (0 : Int)) = _
  have e : ((lm s k).settle 0).cutAt (kof []) 0 = s.length := by
    simp [MD.cutAt, MD.settle, lm, kof, upd]
  rw [e]
  show (s.take s.length, (0 : Int)) = _
  rw [List.take_length]
set_option maxHeartbeats 4000000 in
set_option maxRecDepth 100000 in
theorem loses_walk (s : Str) (n : Int) (hs : s.length ≤ maxLen) (hn : isI n) (W : World) : Calls Try.prog 6 #[.string (S2.B s), .int .i64 n] W fun e w' => e = .returned (.bool true) ∧ Below W.heap.size W w' := by
  unfold maxLen at hs
  have HN := Lib.hid hn
  unfold isI at hn
  have hsI : (s.length : Int) ≤ 9223372036854775807 := by omega
  by_cases h1 : s.length ≤ 50000
  · by_cases hn20 : n ≤ 20
    · have h1I : (s.length : Int) ≤ 50000 := by omega
      have HS := Lib.hid h1
      clear h1 hs hsI
      go_enter Try.func6, Try.ntmps6
      go_wp2_with fail
      refine (small_any W).mono ?_
      rintro e w1 ⟨rfl, hb1⟩
      have HB1 := Lib.hid hb1
      clear hb1
      go_wp2_with fail
      refine (New_any w1).mono ?_
      rintro e w2 ⟨rfl, h, hb⟩
      obtain ⟨X, hX⟩ : ∃ X, X = fun k => k < W.heap.size := ⟨_, rfl⟩
      have HX := Lib.hid hX
      have hsz := HB1.out.size
      have H := Lib.hid (show Dk X w2 w1.heap.size MD.new from h.weaken (fun k hk => by rw [hX] at hk; omega))
      have FR := Lib.hid (show Fr X W w2 from Fr.of_below (HB1.out.trans (hb.mono hsz)) (fun k hk => by rw [hX] at hk; exact hk))
      clear h hb hX hsz HB1
      generalize w1.heap.size = p at *
      go_wp2_with fail
      refine (lose_any X p MD.new n HN.out _ H.out).mono ?_
      rintro e w3 ⟨rfl, h, f⟩
      replace H := Lib.hid (show Dk _ w3 _ (MD.new.lose n) from h)
      replace FR := Lib.hid (FR.out.trans f)
      clear h f
      go_wp2_with fail
      refine (Append_any X p (MD.new.lose n) 0 s (by have := HS.out; omega) _ H.out).mono ?_
      rintro e w4 ⟨rfl, h, f⟩
      rw [lm_app s n HS.out] at h
      replace H := Lib.hid (show Dk _ w4 _ (lm s (max n 0)) from h)
      replace FR := Lib.hid (FR.out.trans f)
      clear h f
      rw [lm_app s n HS.out]
      go_wp2
      go_loopw [7] (fun vi wr => ∃ i : Int, vi = .int .i64 i ∧ 0 ≤ i ∧ i ≤ max n 0 ∧ Dk X wr p (lm s (max n 0 - i)) ∧ Fr X W wr) (fun vi _ => (n - intOf vi).toNat)
      case atStart => exact ⟨0, rfl, by omega, by omega, by rw [Int.sub_zero]; exact H.out, FR.out⟩
      case round =>
        clear H FR
        obtain ⟨i, rfl, hi0, hin, h, f⟩ := hrel
        have H := Lib.hid h
        have FR := Lib.hid f
        clear h f
        by_cases hlt : i < n
        · have hpos : 0 < max n 0 - i := by omega
          have hn20' := hn20
          obtain ⟨k, hk⟩ : ∃ k, k = max n 0 - i := ⟨_, rfl⟩
          have hk1 : k - 1 = max n 0 - (i + 1) := by omega
          rw [← hk] at H hpos
          have HK1 := Lib.hid hk1
          have HPOS := Lib.hid hpos
          clear hk hk1 hpos hin
          go_wp2_with fail
          refine (Copy_any X p (lm s k) wr H.out).mono ?_
          rintro e w5 ⟨rfl, hc, hb5⟩
          obtain ⟨n0, hn0⟩ : ∃ n0, n0 = wr.heap.size := ⟨_, rfl⟩
          rw [← hn0] at hc hb5 ⊢
          obtain ⟨n1, hn1⟩ : ∃ n1, n1 = w5.heap.size := ⟨_, rfl⟩
          have hlt0 := H.out.lt
          have hd5 : Dk (fun q => X q ∨ (n0 ≤ q ∧ q < n1)) w5 p (lm s k) := H.out.more (by rw [← hn0]; exact hb5) (fun q hq => by rw [← hn0, ← hn1]; exact hq)
          have f5 : Fr X W w5 := FR.out.trans (Fr.of_below hb5 (fun q hq => by rw [hn0]; exact hlt0 q hq))
          have HC := Lib.hid hc
          have HD := Lib.hid hd5
          have F5 := Lib.hid f5
          have HN1 := Lib.hid hn1
          have HWN := Lib.hid (show W.heap.size ≤ n0 by rw [hn0]; exact FR.out.size)
          clear hc hd5 f5 hn1 hb5 hn0 hlt0 H FR
          go_wp2_with fail
          refine (Flush_any _ p (lm s k) 0 w5 HD.out).mono ?_
          rintro e w6 ⟨rfl, h6, f6⟩
          rw [lm_flush s k HPOS.out] at h6 ⊢
          have hc6 : Dk (fun q => q < w6.heap.size ∧ ¬ (n0 ≤ q ∧ q < n1)) w6 n0 (lm s k) := HC.out.move (fun q hq hx => f6.block q (.inr ⟨by omega, by rw [HN1.out]; exact hq⟩)) (fun q hq => hq.1) (fun q hq => by rw [← HN1.out]; by_cases h : q < n0; exact .inl h; exact .inr (by omega))
          obtain ⟨Z, hZ⟩ : ∃ Z, Z = fun q => q < w6.heap.size ∧ ¬ (n0 ≤ q ∧ q < n1) := ⟨_, rfl⟩
          rw [← hZ] at hc6
          have H6 := Lib.hid h6
          have F6 := Lib.hid (F5.out.trans (f6.weaken (fun q hq => .inl hq)))
          have HC6 := Lib.hid hc6
          have HZ := Lib.hid hZ
          have FZ := Lib.hid (Fr.refl Z w6)
          clear h6 f6 hc6 HC HD F5 hZ HN1
          go_wp2_with fail
          refine (Flush_any Z n0 (lm s k) 0 _ HC6.out).mono ?_
          rintro e w7 ⟨rfl, h, f⟩
          rw [lm_flush s k HPOS.out] at h
          replace HC6 := Lib.hid (show Dk _ w7 _ (lm s (k - 1)) from h)
          replace FZ := Lib.hid (FZ.out.trans f)
          clear h f
          rw [lm_flush s k HPOS.out]
          go_wp2_with fail
          refine (Crash_any Z n0 (lm s (k - 1)) [] none 0 0 rfl (fun x hx => by cases hx) _ (Rz.nil _ _ _) HC6.out).mono ?_
          rintro e w8 ⟨rfl, h, f⟩
          replace HC6 := Lib.hid (show Dk _ w8 _ ((lm s (k - 1)).Crash []) from h)
          replace FZ := Lib.hid (FZ.out.trans f)
          clear h f
          go_wp2_with fail
          refine (start_any Z n0 ((lm s (k - 1)).Crash []) _ HC6.out).mono ?_
          rintro e w9 ⟨rfl, h, f⟩
          replace HC6 := Lib.hid (show Dk _ w9 _ ((lm s (k - 1)).Crash []).start from h)
          replace FZ := Lib.hid (FZ.out.trans f)
          clear h f
          go_wp2_with fail
          refine (Read_any Z n0 ((lm s (k - 1)).Crash []).start 0 _ HC6.out).mono ?_
          rintro e w10 ⟨rfl, h, f⟩
          replace HC6 := Lib.hid (show Dk _ w10 _ ((lm s (k - 1)).Crash []).start from h)
          replace FZ := Lib.hid (FZ.out.trans f)
          clear h f
          rw [lm_crash]
          have hd10 : Dk (fun q => X q ∨ (n0 ≤ q ∧ q < n1)) w10 p (lm s (k - 1)) := H6.out.move (fun q hq hx => FZ.out.block q (by rw [HZ.out]; exact ⟨hq, fun h => hx (.inr h)⟩)) (fun q hq => Nat.lt_of_lt_of_le (H6.out.lt q hq) FZ.out.size) (fun q hq => .inl hq)
          have hx10 : Dk X w10 p (lm s (k - 1)) := hd10.weaken (fun q hq => .inl hq)
          have f10 : Fr X W w10 := F6.out.trans ⟨FZ.out.os, FZ.out.tape, FZ.out.output, FZ.out.size, fun q hq => FZ.out.block q (by
            rw [HZ.out]
            rw [HX.out] at hq
            have h1 := HWN.out
            have h2 := F6.out.size
            exact ⟨by omega, by omega⟩)⟩
          have HX10 := Lib.hid hx10
          have F10 := Lib.hid f10
          clear hd10 hx10 f10 HC6 FZ H6 F6
          go_wp2
          go_roundw
          case rel => exact ⟨i + 1, by go_num, by omega, by omega, by rw [← HK1.out]; exact HX10.out, F10.out⟩
          case measure => simp [intOf]; omega
        · have HLE := Lib.hid (show max n 0 - i ≤ 0 by omega)
          go_wp2_with fail
          refine (Flush_any X p (lm s (max n 0 - i)) 0 _ H.out).mono ?_
          rintro e w5 ⟨rfl, h, f⟩
          replace H := Lib.hid (show Dk _ w5 _ ((lm s (max n 0 - i)).flush 0).2 from h)
          replace FR := Lib.hid (FR.out.trans f)
          clear h f
          rw [(lm_last s _ HLE.out).1]
          go_wp2_with fail
          refine (Crash_any X p _ [] none 0 0 rfl (fun x hx => by cases hx) _ (Rz.nil _ _ _) H.out).mono ?_
          rintro e w6 ⟨rfl, h, f⟩
          replace H := Lib.hid (show Dk _ w6 _ (((lm s (max n 0 - i)).flush 0).2.Crash []) from h)
          replace FR := Lib.hid (FR.out.trans f)
          clear h f
          go_wp2_with fail
          refine (start_any X p _ _ H.out).mono ?_
          rintro e w7 ⟨rfl, h, f⟩
          replace H := Lib.hid (show Dk _ w7 _ (((lm s (max n 0 - i)).flush 0).2.Crash []).start from h)
          replace FR := Lib.hid (FR.out.trans f)
          clear h f
          go_wp2_with fail
          refine (Read_any X p _ 0 _ H.out).mono ?_
          rintro e w8 ⟨rfl, h, f⟩
          replace H := Lib.hid (show Dk _ w8 _ (((lm s (max n 0 - i)).flush 0).2.Crash []).start from h)
          replace FR := Lib.hid (FR.out.trans f)
          clear h f
          rw [(lm_last s _ HLE.out).2]
          go_wp2
          go_ret
          exact ⟨rfl, FR.out.below (fun k hk => by rw [HX.out]; exact hk)⟩
    · have hn20' : (20 : Int) < n := by omega
      have h1I : (s.length : Int) ≤ 50000 := by omega
      go_enter Try.func6, Try.ntmps6
      go_wp2_with fail
      refine (small_any W).mono ?_
      rintro e w1 ⟨rfl, hb1⟩
      have HB1 := Lib.hid hb1
      clear hb1
      go_wp2_with fail
      refine (New_any w1).mono ?_
      rintro e w2 ⟨rfl, h, hb⟩
      obtain ⟨X, hX⟩ : ∃ X, X = fun k => k < W.heap.size := ⟨_, rfl⟩
      have HX := Lib.hid hX
      have hsz := HB1.out.size
      have H := Lib.hid (show Dk X w2 w1.heap.size MD.new from h.weaken (fun k hk => by rw [hX] at hk; omega))
      have FR := Lib.hid (show Fr X W w2 from Fr.of_below (HB1.out.trans (hb.mono hsz)) (fun k hk => by rw [hX] at hk; exact hk))
      clear h hb hX hsz HB1
      generalize w1.heap.size = p at *
      go_wp2
      go_ret
      exact ⟨rfl, FR.out.below (fun k hk => by rw [HX.out]; exact hk)⟩
  · have h1I : (50000 : Int) < s.length := by omega
    go_enter Try.func6, Try.ntmps6
    go_wp2_with fail
    refine (small_any W).mono ?_
    rintro e w1 ⟨rfl, hb1⟩
    have HB1 := Lib.hid hb1
    clear hb1
    go_wp2_with fail
    refine (New_any w1).mono ?_
    rintro e w2 ⟨rfl, h, hb⟩
    obtain ⟨X, hX⟩ : ∃ X, X = fun k => k < W.heap.size := ⟨_, rfl⟩
    have HX := Lib.hid hX
    have hsz := HB1.out.size
    have H := Lib.hid (show Dk X w2 w1.heap.size MD.new from h.weaken (fun k hk => by rw [hX] at hk; omega))
    have FR := Lib.hid (show Fr X W w2 from Fr.of_below (HB1.out.trans (hb.mono hsz)) (fun k hk => by rw [hX] at hk; exact hk))
    clear h hb hX hsz HB1
    generalize w1.heap.size = p at *
    go_wp2
    go_ret
    exact ⟨rfl, FR.out.below (fun k hk => by rw [HX.out]; exact hk)⟩
end Dk
end Go.Proofs.Ytbappmnaaeihfaa
