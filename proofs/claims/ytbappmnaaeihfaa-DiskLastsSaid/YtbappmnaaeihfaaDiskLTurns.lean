/-
  Layer 9 (disk): DiskTurns.
-/
import Derived.Test.YtbappmnaaeihfaaDiskMove
import Derived.Deep.RegionHeld3
namespace Go.Proofs.Ytbappmnaaeihfaa
open Go.RowKit
namespace Dk
attribute [local go_sem] S2.B_size S2.B_list
/-- What DiskTurns knows of the machine: it is up, no crash is planned, no flush is to be lost; files 3 and 4. -/
structure St (D : MD) (e : Str) (d : Nat) (x : Str) (y : Nat) : Prop where
  down : D.down = false
  lost : D.lost = 0
  calls : D.calls = 0
  t3 : D.text 3 = e
  d3 : D.dur 3 = d
  t4 : D.text 4 = x
  d4 : D.dur 4 = y
theorem up_hit {D : MD} (h : D.calls = 0) : D.hit = false := by simp [MD.hit, h]
theorem up_tick {D : MD} (h : D.calls = 0) : D.tick = D := by unfold MD.tick; rw [if_pos (.inr h)]
theorem up_flush {D : MD} (h : D.calls = 0) (f : Int) : D.flush f = D.flush1 f := by unfold MD.flush; rw [up_hit h, up_tick h]; rfl
theorem up_turn {D : MD} (h : D.calls = 0) (f g : Int) : D.turn f g = D.turn1 f g := by unfold MD.turn; rw [up_hit h, up_tick h]; rfl
theorem up_chk {D : MD} (h : D.down = false) {f : Int} (hf : isF f = true) : D.chk1 f = 0 := by simp [MD.chk1, h, hf]
theorem up_app {D : MD} (h : D.down = false) (hc : D.calls = 0) {f : Int} (hf : isF f = true) {s : Str} (hl : (D.text f.toNat).length + s.length ≤ 16777216) : D.app f s = (0, D.put f.toNat s) := by
  have hE : D.appE f s = 0 := by
    unfold MD.appE
    rw [up_chk h hf, if_neg (by decide), if_neg]
    unfold MD.size
    rw [if_pos hf]
    omega
  unfold MD.app MD.app1
  rw [hE, up_hit hc, if_pos rfl, up_tick (show (D.put f.toNat s).calls = 0 from hc)]
  rfl
theorem up_settle {D : MD} (h : D.down = false) (hc : D.calls = 0) (hl : D.lost = 0) {f : Int} (hf : isF f = true) : D.flush f = (0, D.settle f.toNat) := by
  rw [up_flush hc]
  unfold MD.flush1
  rw [up_chk h hf, if_neg (by decide), if_neg (by rw [hl]; decide)]
theorem st_new : St MD.new [] 0 [] 0 := ⟨rfl, rfl, rfl, rfl, rfl, rfl, rfl⟩
theorem st_app3 {D : MD} {x s : Str} {y : Nat} (h : St D [] 0 x y) (hs : s.length ≤ 50000) : (D.app 3 s).1 = 0 ∧ St (D.app 3 s).2 s 0 x y := by
  rw [up_app h.down h.calls (f := 3) (s := s) rfl (show (D.text 3).length + s.length ≤ 16777216 by rw [h.t3]; simp; omega)]
  refine ⟨rfl, h.down, h.lost, h.calls, ?_, h.d3, ?_, h.d4⟩
  · show upd D.text 3 (D.text 3 ++ s) 3 = s
    rw [upd_same, h.t3]; rfl
  · show upd D.text 3 (D.text 3 ++ s) 4 = x
    rw [upd_other _ _ (by decide)]; exact h.t4
theorem st_app4 {D : MD} {e s : Str} {d y : Nat} (h : St D e d [] y) (hs : s.length ≤ 50000) : (D.app 4 s).1 = 0 ∧ St (D.app 4 s).2 e d s y := by
  rw [up_app h.down h.calls (f := 4) (s := s) rfl (show (D.text 4).length + s.length ≤ 16777216 by rw [h.t4]; simp; omega)]
  refine ⟨rfl, h.down, h.lost, h.calls, ?_, h.d3, ?_, h.d4⟩
  · show upd D.text 4 (D.text 4 ++ s) 3 = e
    rw [upd_other _ _ (by decide)]; exact h.t3
  · show upd D.text 4 (D.text 4 ++ s) 4 = s
    rw [upd_same, h.t4]; rfl
theorem st_flush3 {D : MD} {e x : Str} {d y : Nat} (h : St D e d x y) : (D.flush 3).1 = 0 ∧ St (D.flush 3).2 e e.length x y := by
  rw [up_settle h.down h.calls h.lost rfl]
  refine ⟨rfl, h.down, h.lost, h.calls, h.t3, ?_, h.t4, ?_⟩
  · show upd D.dur 3 (D.text 3).length 3 = _
    rw [upd_same, h.t3]
  · show upd D.dur 3 (D.text 3).length 4 = _
    rw [upd_other _ _ (by decide)]; exact h.d4
theorem st_flush4 {D : MD} {e x : Str} {d y : Nat} (h : St D e d x y) : (D.flush 4).1 = 0 ∧ St (D.flush 4).2 e d x x.length := by
  rw [up_settle h.down h.calls h.lost rfl]
  refine ⟨rfl, h.down, h.lost, h.calls, h.t3, ?_, h.t4, ?_⟩
  · show upd D.dur 4 (D.text 4).length 3 = _
    rw [upd_other _ _ (by decide)]; exact h.d3
  · show upd D.dur 4 (D.text 4).length 4 = _
    rw [upd_same, h.t4]
theorem st_turn {D : MD} {e x : Str} {d : Nat} (h : St D e d x x.length) : (D.turn 3 4).1 = 0 ∧ St (D.turn 3 4).2 x x.length [] 0 := by
  have e1 : D.turn 3 4 = (0, D.swap 3 4) := by
    rw [up_turn h.calls]
    unfold MD.turn1
    rw [show D.chk2 3 4 = 0 by simp [MD.chk2, h.down, isF], if_neg (by decide), if_neg (by decide), if_neg (show ¬ D.dur (Int.toNat 4) < (D.text (Int.toNat 4)).length by show ¬ D.dur 4 < (D.text 4).length; rw [h.t4, h.d4]; omega)]
    rfl
  rw [e1]
  refine ⟨rfl, h.down, h.lost, h.calls, ?_, ?_, ?_, ?_⟩
  · show upd (upd D.text 3 (D.text 4)) 4 [] 3 = x
    rw [upd_other _ _ (by decide), upd_same, h.t4]
  · show upd (upd D.dur 3 (D.dur 4)) 4 0 3 = _
    rw [upd_other _ _ (by decide), upd_same, h.d4]
  · show upd (upd D.text 3 (D.text 4)) 4 [] 4 = _
    rw [upd_same]
  · show upd (upd D.dur 3 (D.dur 4)) 4 0 4 = _
    rw [upd_same]
theorem st_stay {D : MD} {e x : Str} {d y : Nat} (h : St D e d x y) (hy : y < x.length) : (D.turn 3 4).1 = 9 ∧ St (D.turn 3 4).2 e d x y := by
  have e1 : D.turn 3 4 = (9, D) := by
    rw [up_turn h.calls]
    unfold MD.turn1
    rw [show D.chk2 3 4 = 0 by simp [MD.chk2, h.down, isF], if_neg (by decide), if_neg (by decide), if_pos (show D.dur (Int.toNat 4) < (D.text (Int.toNat 4)).length by show D.dur 4 < (D.text 4).length; rw [h.t4, h.d4]; exact hy)]
  rw [e1]
  exact ⟨rfl, h⟩
theorem st_end {D : MD} {e x : Str} {y : Nat} (h : St D e e.length x y) (ks : List Int) : (D.Crash ks).start.read 3 = (e, 0) ∧ (D.Crash ks).start.size 4 ≤ x.length := by
  unfold MD.Crash
  rw [h.down, if_neg (by decide)]
  constructor
  · show ((D.text 3).take (D.cutAt (kof ks) 3), (0 : Int)) = _
    rw [show D.cutAt (kof ks) 3 = e.length by unfold MD.cutAt; rw [h.t3, h.d3]; omega, h.t3, List.take_length]
  · show ((D.text 4).take (D.cutAt (kof ks) 4)).length ≤ _
    rw [List.length_take, h.t4]
    omega
theorem St.down_ {D : MD} {e x : Str} {d y : Nat} (h : St D e d x y) : D.down = false := h.down
set_option maxHeartbeats 4000000 in
set_option maxRecDepth 100000 in
theorem turns_walk (elder newer : Str) (step : Int) (ks : List Int) (A : Option Addr) (n c : Nat) (hs1 : elder.length ≤ maxLen) (hs2 : newer.length ≤ maxLen) (hn : n = ks.length) (hk : ∀ x ∈ ks, isI x) (W : World) (hr : Rz (fun k => k < W.heap.size) W A ks) :
    Calls Try.prog 5 #[.string (S2.B elder), .string (S2.B newer), .int .i64 step, .slice A n c] W fun e w' => e = .returned (.bool true) ∧ Below W.heap.size W w' := by
  unfold maxLen at hs1 hs2
  have HN := Lib.hid hn
  have HK := Lib.hid hk
  have HR0 := Lib.hid hr
  clear hn hk hr
  have g1 : (elder.length : Int) ≤ 9223372036854775807 := by omega
  have g2 : (newer.length : Int) ≤ 9223372036854775807 := by omega
  by_cases h1 : elder.length ≤ 50000
  · have h1I : (elder.length : Int) ≤ 50000 := by omega
    by_cases h2 : newer.length ≤ 50000
    · have h2I : (newer.length : Int) ≤ 50000 := by omega
      have HS1 := Lib.hid h1
      have HS2 := Lib.hid h2
      clear h1 h2 hs1 hs2 g1 g2
      by_cases s0 : step = 0
      · subst s0
        go_enter Try.func5, Try.ntmps5
        go_wp2_with fail
        refine (small_any W).mono ?_
        rintro e w1 ⟨rfl, hb1⟩
        have HB1 := Lib.hid hb1
        clear hb1
        go_wp2_with fail
        refine (New_any w1).mono ?_
        rintro e w2 ⟨rfl, h, hb⟩
        obtain ⟨X, hX⟩ : ∃ X, X = fun k => k < W.heap.size := ⟨_, rfl⟩
        have HX := Lib.hid hX
        have hsz := HB1.out.size
        have H := Lib.hid (show Dk X w2 w1.heap.size MD.new from h.weaken (fun k hk => by rw [hX] at hk; omega))
        have FR := Lib.hid (show Fr X W w2 from Fr.of_below (HB1.out.trans (hb.mono hsz)) (fun k hk => by rw [hX] at hk; exact hk))
        clear h hb hX hsz HB1
        generalize w1.heap.size = p at *
        have ST := Lib.hid st_new
        have HR := Lib.hid (show Rz X W A ks by rw [HX.out]; exact HR0.out)
        go_wp2_with fail
        refine (Append_any X p MD.new 3 elder (by have := HS1.out; omega) _ H.out).mono ?_
        rintro e w3 ⟨rfl, h, f⟩
        obtain ⟨e1, st⟩ := st_app3 ST.out HS1.out
        obtain ⟨D1, hD⟩ : ∃ D', D' = (MD.new.app 3 elder).2 := ⟨_, rfl⟩
        rw [e1]
        rw [← hD] at h st
        replace H := Lib.hid h
        replace ST := Lib.hid st
        replace FR := Lib.hid (FR.out.trans f)
        clear h f st hD e1
        go_wp2_with fail
        refine (Flush_any X p D1 3 _ H.out).mono ?_
        rintro e w4 ⟨rfl, h, f⟩
        obtain ⟨e1, st⟩ := st_flush3 ST.out
        obtain ⟨D2, hD⟩ : ∃ D', D' = (D1.flush 3).2 := ⟨_, rfl⟩
        rw [e1]
        rw [← hD] at h st
        replace H := Lib.hid h
        replace ST := Lib.hid st
        replace FR := Lib.hid (FR.out.trans f)
        clear h f st hD e1
        go_wp2_with fail
        refine (Turn_any X p D2 3 4 _ H.out).mono ?_
        rintro e w7 ⟨rfl, h, f⟩
        obtain ⟨e1, st⟩ := st_turn ST.out
        obtain ⟨D5, hD⟩ : ∃ D', D' = (D2.turn 3 4).2 := ⟨_, rfl⟩
        rw [e1]
        rw [← hD] at h st
        replace H := Lib.hid h
        replace ST := Lib.hid st
        replace FR := Lib.hid (FR.out.trans f)
        clear h f st hD e1
        go_wp2_with fail
        refine (Crash_any X p D5 ks A n c HN.out HK.out _ (HR.out.fr FR.out) H.out).mono ?_
        rintro e w8 ⟨rfl, h, f⟩
        replace H := Lib.hid h
        replace FR := Lib.hid (FR.out.trans f)
        clear h f
        go_wp2_with fail
        refine (start_any X p _ _ H.out).mono ?_
        rintro e w9 ⟨rfl, h, f⟩
        replace H := Lib.hid h
        replace FR := Lib.hid (FR.out.trans f)
        clear h f
        go_wp2_with fail
        refine (Read_any X p _ 3 _ H.out).mono ?_
        rintro e w10 ⟨rfl, h, f⟩
        replace H := Lib.hid h
        replace FR := Lib.hid (FR.out.trans f)
        clear h f
        rw [(st_end ST.out ks).1]
        go_wp2
        go_ret
        exact ⟨rfl, FR.out.below (fun k hk => by rw [HX.out]; exact hk)⟩
      · by_cases s1 : step = 1
        · subst s1
          cases newer with
          | nil =>
            go_enter Try.func5, Try.ntmps5
            go_wp2_with fail
            refine (small_any W).mono ?_
            rintro e w1 ⟨rfl, hb1⟩
            have HB1 := Lib.hid hb1
            clear hb1
            go_wp2_with fail
            refine (New_any w1).mono ?_
            rintro e w2 ⟨rfl, h, hb⟩
            obtain ⟨X, hX⟩ : ∃ X, X = fun k => k < W.heap.size := ⟨_, rfl⟩
            have HX := Lib.hid hX
            have hsz := HB1.out.size
            have H := Lib.hid (show Dk X w2 w1.heap.size MD.new from h.weaken (fun k hk => by rw [hX] at hk; omega))
            have FR := Lib.hid (show Fr X W w2 from Fr.of_below (HB1.out.trans (hb.mono hsz)) (fun k hk => by rw [hX] at hk; exact hk))
            clear h hb hX hsz HB1
            generalize w1.heap.size = p at *
            have ST := Lib.hid st_new
            have HR := Lib.hid (show Rz X W A ks by rw [HX.out]; exact HR0.out)
            go_wp2_with fail
            refine (Append_any X p MD.new 3 elder (by have := HS1.out; omega) _ H.out).mono ?_
            rintro e w3 ⟨rfl, h, f⟩
            obtain ⟨e1, st⟩ := st_app3 ST.out HS1.out
            obtain ⟨D1, hD⟩ : ∃ D', D' = (MD.new.app 3 elder).2 := ⟨_, rfl⟩
            rw [e1]
            rw [← hD] at h st
            replace H := Lib.hid h
            replace ST := Lib.hid st
            replace FR := Lib.hid (FR.out.trans f)
            clear h f st hD e1
            go_wp2_with fail
            refine (Flush_any X p D1 3 _ H.out).mono ?_
            rintro e w4 ⟨rfl, h, f⟩
            obtain ⟨e1, st⟩ := st_flush3 ST.out
            obtain ⟨D2, hD⟩ : ∃ D', D' = (D1.flush 3).2 := ⟨_, rfl⟩
            rw [e1]
            rw [← hD] at h st
            replace H := Lib.hid h
            replace ST := Lib.hid st
            replace FR := Lib.hid (FR.out.trans f)
            clear h f st hD e1
            go_wp2_with fail
            refine (Append_any X p D2 4 [] (by have := HS2.out; omega) _ H.out).mono ?_
            rintro e w5 ⟨rfl, h, f⟩
            obtain ⟨e1, st⟩ := st_app4 ST.out HS2.out
            obtain ⟨D3, hD⟩ : ∃ D', D' = (D2.app 4 []).2 := ⟨_, rfl⟩
            rw [e1]
            rw [← hD] at h st
            replace H := Lib.hid h
            replace ST := Lib.hid st
            replace FR := Lib.hid (FR.out.trans f)
            clear h f st hD e1
            go_wp2_with fail
            refine (Turn_any X p D3 3 4 _ H.out).mono ?_
            rintro e w7 ⟨rfl, h, f⟩
            obtain ⟨e1, st⟩ := st_turn ST.out
            obtain ⟨D5, hD⟩ : ∃ D', D' = (D3.turn 3 4).2 := ⟨_, rfl⟩
            rw [e1]
            rw [← hD] at h st
            replace H := Lib.hid h
            replace ST := Lib.hid st
            replace FR := Lib.hid (FR.out.trans f)
            clear h f st hD e1
            go_wp2_with fail
            refine (Crash_any X p D5 ks A n c HN.out HK.out _ (HR.out.fr FR.out) H.out).mono ?_
            rintro e w8 ⟨rfl, h, f⟩
            replace H := Lib.hid h
            replace FR := Lib.hid (FR.out.trans f)
            clear h f
            go_wp2_with fail
            refine (start_any X p _ _ H.out).mono ?_
            rintro e w9 ⟨rfl, h, f⟩
            replace H := Lib.hid h
            replace FR := Lib.hid (FR.out.trans f)
            clear h f
            go_wp2_with fail
            refine (Read_any X p _ 3 _ H.out).mono ?_
            rintro e w10 ⟨rfl, h, f⟩
            replace H := Lib.hid h
            replace FR := Lib.hid (FR.out.trans f)
            clear h f
            rw [(st_end ST.out ks).1]
            go_wp2_with fail
            refine (size_any X p _ 4 _ H.out).mono ?_
            rintro e w11 ⟨rfl, hq⟩
            obtain rfl := hq
            have hz := (st_end ST.out ks).2
            rw [show (D5.Crash ks).start.size 4 = 0 from Nat.le_zero.1 hz]
            clear hz
            go_wp2
            go_ret
            exact ⟨rfl, FR.out.below (fun k hk => by rw [HX.out]; exact hk)⟩
          | cons b rest =>
            obtain ⟨newer, hnw⟩ : ∃ x, x = b :: rest := ⟨_, rfl⟩
            rw [← hnw] at h2I HS2 ⊢
            have hne1 : newer.isEmpty = false := by rw [hnw]; rfl
            have HPOS := Lib.hid (show 0 < newer.length by rw [hnw]; simp)
            clear hnw
            go_enter Try.func5, Try.ntmps5
            go_wp2_with fail
            refine (small_any W).mono ?_
            rintro e w1 ⟨rfl, hb1⟩
            have HB1 := Lib.hid hb1
            clear hb1
            go_wp2_with fail
            refine (New_any w1).mono ?_
            rintro e w2 ⟨rfl, h, hb⟩
            obtain ⟨X, hX⟩ : ∃ X, X = fun k => k < W.heap.size := ⟨_, rfl⟩
            have HX := Lib.hid hX
            have hsz := HB1.out.size
            have H := Lib.hid (show Dk X w2 w1.heap.size MD.new from h.weaken (fun k hk => by rw [hX] at hk; omega))
            have FR := Lib.hid (show Fr X W w2 from Fr.of_below (HB1.out.trans (hb.mono hsz)) (fun k hk => by rw [hX] at hk; exact hk))
            clear h hb hX hsz HB1
            generalize w1.heap.size = p at *
            have ST := Lib.hid st_new
            have HR := Lib.hid (show Rz X W A ks by rw [HX.out]; exact HR0.out)
            go_wp2_with fail
            refine (Append_any X p MD.new 3 elder (by have := HS1.out; omega) _ H.out).mono ?_
            rintro e w3 ⟨rfl, h, f⟩
            obtain ⟨e1, st⟩ := st_app3 ST.out HS1.out
            obtain ⟨D1, hD⟩ : ∃ D', D' = (MD.new.app 3 elder).2 := ⟨_, rfl⟩
            rw [e1]
            rw [← hD] at h st
            replace H := Lib.hid h
            replace ST := Lib.hid st
            replace FR := Lib.hid (FR.out.trans f)
            clear h f st hD e1
            go_wp2_with fail
            refine (Flush_any X p D1 3 _ H.out).mono ?_
            rintro e w4 ⟨rfl, h, f⟩
            obtain ⟨e1, st⟩ := st_flush3 ST.out
            obtain ⟨D2, hD⟩ : ∃ D', D' = (D1.flush 3).2 := ⟨_, rfl⟩
            rw [e1]
            rw [← hD] at h st
            replace H := Lib.hid h
            replace ST := Lib.hid st
            replace FR := Lib.hid (FR.out.trans f)
            clear h f st hD e1
            go_wp2_with fail
            refine (Append_any X p D2 4 newer (by have := HS2.out; omega) _ H.out).mono ?_
            rintro e w5 ⟨rfl, h, f⟩
            obtain ⟨e1, st⟩ := st_app4 ST.out HS2.out
            obtain ⟨D3, hD⟩ : ∃ D', D' = (D2.app 4 newer).2 := ⟨_, rfl⟩
            rw [e1]
            rw [← hD] at h st
            replace H := Lib.hid h
            replace ST := Lib.hid st
            replace FR := Lib.hid (FR.out.trans f)
            clear h f st hD e1
            go_wp2_with fail
            refine (Turn_any X p D3 3 4 _ H.out).mono ?_
            rintro e w7 ⟨rfl, h, f⟩
            obtain ⟨e1, st⟩ := st_stay ST.out HPOS.out
            obtain ⟨D5, hD⟩ : ∃ D', D' = (D3.turn 3 4).2 := ⟨_, rfl⟩
            rw [e1]
            rw [← hD] at h st
            replace H := Lib.hid h
            replace ST := Lib.hid st
            replace FR := Lib.hid (FR.out.trans f)
            clear h f st hD e1
            go_wp2_with fail
            refine (Crash_any X p D5 ks A n c HN.out HK.out _ (HR.out.fr FR.out) H.out).mono ?_
            rintro e w8 ⟨rfl, h, f⟩
            replace H := Lib.hid h
            replace FR := Lib.hid (FR.out.trans f)
            clear h f
            go_wp2_with fail
            refine (start_any X p _ _ H.out).mono ?_
            rintro e w9 ⟨rfl, h, f⟩
            replace H := Lib.hid h
            replace FR := Lib.hid (FR.out.trans f)
            clear h f
            go_wp2_with fail
            refine (Read_any X p _ 3 _ H.out).mono ?_
            rintro e w10 ⟨rfl, h, f⟩
            replace H := Lib.hid h
            replace FR := Lib.hid (FR.out.trans f)
            clear h f
            rw [(st_end ST.out ks).1]
            go_wp2_with fail
            refine (size_any X p _ 4 _ H.out).mono ?_
            rintro e w11 ⟨rfl, hq⟩
            obtain rfl := hq
            have hz := (st_end ST.out ks).2
            generalize (D5.Crash ks).start.size 4 = m at *
            have hzI : (m : Int) ≤ (newer.length : Int) := by omega
            clear hz
            go_wp2
            go_ret
            exact ⟨rfl, FR.out.below (fun k hk => by rw [HX.out]; exact hk)⟩
        · have s0' : (step == 0) = false := by simpa using s0
          have s1' : (step == 1) = false := by simpa using s1
          clear s0 s1
          go_enter Try.func5, Try.ntmps5
          go_wp2_with fail
          refine (small_any W).mono ?_
          rintro e w1 ⟨rfl, hb1⟩
          have HB1 := Lib.hid hb1
          clear hb1
          go_wp2_with fail
          refine (New_any w1).mono ?_
          rintro e w2 ⟨rfl, h, hb⟩
          obtain ⟨X, hX⟩ : ∃ X, X = fun k => k < W.heap.size := ⟨_, rfl⟩
          have HX := Lib.hid hX
          have hsz := HB1.out.size
          have H := Lib.hid (show Dk X w2 w1.heap.size MD.new from h.weaken (fun k hk => by rw [hX] at hk; omega))
          have FR := Lib.hid (show Fr X W w2 from Fr.of_below (HB1.out.trans (hb.mono hsz)) (fun k hk => by rw [hX] at hk; exact hk))
          clear h hb hX hsz HB1
          generalize w1.heap.size = p at *
          have ST := Lib.hid st_new
          have HR := Lib.hid (show Rz X W A ks by rw [HX.out]; exact HR0.out)
          go_wp2_with fail
          refine (Append_any X p MD.new 3 elder (by have := HS1.out; omega) _ H.out).mono ?_
          rintro e w3 ⟨rfl, h, f⟩
          obtain ⟨e1, st⟩ := st_app3 ST.out HS1.out
          obtain ⟨D1, hD⟩ : ∃ D', D' = (MD.new.app 3 elder).2 := ⟨_, rfl⟩
          rw [e1]
          rw [← hD] at h st
          replace H := Lib.hid h
          replace ST := Lib.hid st
          replace FR := Lib.hid (FR.out.trans f)
          clear h f st hD e1
          go_wp2_with fail
          refine (Flush_any X p D1 3 _ H.out).mono ?_
          rintro e w4 ⟨rfl, h, f⟩
          obtain ⟨e1, st⟩ := st_flush3 ST.out
          obtain ⟨D2, hD⟩ : ∃ D', D' = (D1.flush 3).2 := ⟨_, rfl⟩
          rw [e1]
          rw [← hD] at h st
          replace H := Lib.hid h
          replace ST := Lib.hid st
          replace FR := Lib.hid (FR.out.trans f)
          clear h f st hD e1
          go_wp2_with fail
          refine (Append_any X p D2 4 newer (by have := HS2.out; omega) _ H.out).mono ?_
          rintro e w5 ⟨rfl, h, f⟩
          obtain ⟨e1, st⟩ := st_app4 ST.out HS2.out
          obtain ⟨D3, hD⟩ : ∃ D', D' = (D2.app 4 newer).2 := ⟨_, rfl⟩
          rw [e1]
          rw [← hD] at h st
          replace H := Lib.hid h
          replace ST := Lib.hid st
          replace FR := Lib.hid (FR.out.trans f)
          clear h f st hD e1
          go_wp2_with fail
          refine (Flush_any X p D3 4 _ H.out).mono ?_
          rintro e w6 ⟨rfl, h, f⟩
          obtain ⟨e1, st⟩ := st_flush4 ST.out
          obtain ⟨D4, hD⟩ : ∃ D', D' = (D3.flush 4).2 := ⟨_, rfl⟩
          rw [e1]
          rw [← hD] at h st
          replace H := Lib.hid h
          replace ST := Lib.hid st
          replace FR := Lib.hid (FR.out.trans f)
          clear h f st hD e1
          go_wp2_with fail
          refine (Turn_any X p D4 3 4 _ H.out).mono ?_
          rintro e w7 ⟨rfl, h, f⟩
          obtain ⟨e1, st⟩ := st_turn ST.out
          obtain ⟨D5, hD⟩ : ∃ D', D' = (D4.turn 3 4).2 := ⟨_, rfl⟩
          rw [e1]
          rw [← hD] at h st
          replace H := Lib.hid h
          replace ST := Lib.hid st
          replace FR := Lib.hid (FR.out.trans f)
          clear h f st hD e1
          go_wp2_with fail
          refine (Crash_any X p D5 ks A n c HN.out HK.out _ (HR.out.fr FR.out) H.out).mono ?_
          rintro e w8 ⟨rfl, h, f⟩
          replace H := Lib.hid h
          replace FR := Lib.hid (FR.out.trans f)
          clear h f
          go_wp2_with fail
          refine (start_any X p _ _ H.out).mono ?_
          rintro e w9 ⟨rfl, h, f⟩
          replace H := Lib.hid h
          replace FR := Lib.hid (FR.out.trans f)
          clear h f
          go_wp2_with fail
          refine (Read_any X p _ 3 _ H.out).mono ?_
          rintro e w10 ⟨rfl, h, f⟩
          replace H := Lib.hid h
          replace FR := Lib.hid (FR.out.trans f)
          clear h f
          rw [(st_end ST.out ks).1]
          go_wp2_with fail
          refine (size_any X p _ 4 _ H.out).mono ?_
          rintro e w11 ⟨rfl, hq⟩
          obtain rfl := hq
          have hz := (st_end ST.out ks).2
          rw [show (D5.Crash ks).start.size 4 = 0 from Nat.le_zero.1 hz]
          clear hz
          go_wp2
          go_ret
          exact ⟨rfl, FR.out.below (fun k hk => by rw [HX.out]; exact hk)⟩
    · have h2I : (50000 : Int) < newer.length := by omega
      go_enter Try.func5, Try.ntmps5
      go_wp2_with fail
      refine (small_any W).mono ?_
      rintro e w1 ⟨rfl, hb1⟩
      have HB1 := Lib.hid hb1
      clear hb1
      go_wp2_with fail
      refine (New_any w1).mono ?_
      rintro e w2 ⟨rfl, h, hb⟩
      obtain ⟨X, hX⟩ : ∃ X, X = fun k => k < W.heap.size := ⟨_, rfl⟩
      have HX := Lib.hid hX
      have hsz := HB1.out.size
      have H := Lib.hid (show Dk X w2 w1.heap.size MD.new from h.weaken (fun k hk => by rw [hX] at hk; omega))
      have FR := Lib.hid (show Fr X W w2 from Fr.of_below (HB1.out.trans (hb.mono hsz)) (fun k hk => by rw [hX] at hk; exact hk))
      clear h hb hX hsz HB1
      generalize w1.heap.size = p at *
      go_wp2
      go_ret
      exact ⟨rfl, FR.out.below (fun k hk => by rw [HX.out]; exact hk)⟩
  · have h1I : (50000 : Int) < elder.length := by omega
    go_enter Try.func5, Try.ntmps5
    go_wp2_with fail
    refine (small_any W).mono ?_
    rintro e w1 ⟨rfl, hb1⟩
    have HB1 := Lib.hid hb1
    clear hb1
    go_wp2_with fail
    refine (New_any w1).mono ?_
    rintro e w2 ⟨rfl, h, hb⟩
    obtain ⟨X, hX⟩ : ∃ X, X = fun k => k < W.heap.size := ⟨_, rfl⟩
    have HX := Lib.hid hX
    have hsz := HB1.out.size
    have H := Lib.hid (show Dk X w2 w1.heap.size MD.new from h.weaken (fun k hk => by rw [hX] at hk; omega))
    have FR := Lib.hid (show Fr X W w2 from Fr.of_below (HB1.out.trans (hb.mono hsz)) (fun k hk => by rw [hX] at hk; exact hk))
    clear h hb hX hsz HB1
    generalize w1.heap.size = p at *
    go_wp2
    go_ret
    exact ⟨rfl, FR.out.below (fun k hk => by rw [HX.out]; exact hk)⟩
end Dk
end Go.Proofs.Ytbappmnaaeihfaa
