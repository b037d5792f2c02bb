/-
  Layer 10: WalLasts' walk.
-/
import Derived.Test.YtihanhdepijijaaWalLastK
import Derived.Test.YtihanhdepijijaaWalAfter
import Derived.Test.YtihanhdepijijaaWalSmall
namespace Go.Proofs.Ytihanhdepijijaa
open Go.RowKit
namespace Wl
open S9.Dk (Dk Fr MD isI Rz)
attribute [local go_sem] S2.B_size S2.B_list
theorem act_cells {X : Nat → Prop} {w : World} {A : Option Addr} {l : List Ac} (h : As X w A l) {i : Nat} (hi : i < l.length) : ∃ ad, A = some ad ∧ ∀ (j : Nat) (u : Value), l[i].cells[j]? = some u → w.cell? ((ad.add (i * 5)).add j) = some u := by
  obtain ⟨ad, h1, _, h2⟩ := h.at_ hi
  exact ⟨ad, h1, h2⟩
theorem good_start {D : MD} (h : Calm D) (ht : D.text 2 = records c4 []) : Good c4 D 2 [] [] := ⟨h.down, ht, fun s hs => (by cases hs), List.prefix_refl _, Nat.zero_le _⟩
set_option maxHeartbeats 8000000 in
set_option maxRecDepth 100000 in
theorem lasts_walk (l : List Ac) (A : Option Addr) (n c : Nat) (hn : n = l.length) (hn2 : n ≤ maxLen) (ks : List Int) (A' : Option Addr) (n' c' : Nat) (hn' : n' = ks.length) (hks : ∀ z ∈ ks, isI z) (w : World) (hl : As (fun k => k < w.heap.size) w A l) (hk : Rz (fun k => k < w.heap.size) w A' ks) (hks2 : ks.length ≤ 140737488355328) :
    Calls Try.prog 3 #[.slice A n c, .slice A' n' c'] w fun e w' => e = .returned (.bool true) ∧ Below w.heap.size w w' := by
  obtain ⟨X0, hX0⟩ : ∃ X0 : Nat → Prop, X0 = fun k => k < w.heap.size := ⟨_, rfl⟩
  rw [← hX0] at hl hk
  have HX0 := Lib.hid (show ∀ k, k < w.heap.size → X0 k from fun k hk => by rw [hX0]; exact hk)
  have HXI := Lib.hid (show ∀ k, X0 k → k < w.heap.size from fun k hk => by rw [hX0] at hk; exact hk)
  have C := Lib.hid (show Ca X0 X0 w w by rw [hX0]; exact Ca.start w)
  have HA := Lib.hid hl
  have HK := Lib.hid hk
  have HN := Lib.hid hn
  have KS := Lib.hid (small_any w)
  have KF := Lib.hid fun w (h : As X0 w A l) => few_any X0 l A n c hn hn2 w h
  have hn'I : (n' : Int) ≤ 140737488355328 := by omega
  clear hl hk hn hn2 hX0
  have HN' := Lib.hid hn'
  have HKS := Lib.hid hks
  clear hn' hks hks2
  cases hf : fewB l with
  | false =>
    rw [hf] at KF
    clear hf
    go_enter Try.func3, Try.ntmps3
    go_wp2_with fail
    refine KS.out.mono ?_
    rintro e w1 ⟨rfl, hb⟩
    replace HA := Lib.hid (HA.out.fr (Fr.of_below hb C.out.lt))
    replace C := Lib.hid (C.out.below hb)
    clear hb KS
    go_wp2_with fail
    refine (S9.Dk.New_any w1).mono ?_
    rintro e w2 ⟨rfl, _, hb⟩
    replace HA := Lib.hid (HA.out.fr (Fr.of_below hb C.out.lt))
    replace C := Lib.hid (C.out.below hb)
    clear hb
    go_wp2_with fail
    refine (KF.out _ HA.out).mono ?_
    rintro e w3 ⟨rfl, rfl⟩
    clear KF
    go_wp2
    go_ret
    exact ⟨rfl, C.out.end_ HX0.out⟩
  | true =>
    rw [hf] at KF
    obtain ⟨h30, hfe⟩ := few_each hf
    have H30 := Lib.hid h30
    have HFE := Lib.hid hfe
    clear hf h30 hfe
    by_cases h8 : 8 < n'
    · have h8I : (8 : Int) < (n' : Int) := by omega
      clear h8
      go_enter Try.func3, Try.ntmps3
      go_wp2_with fail
      refine KS.out.mono ?_
      rintro e w1 ⟨rfl, hb⟩
      replace HA := Lib.hid (HA.out.fr (Fr.of_below hb C.out.lt))
      replace C := Lib.hid (C.out.below hb)
      clear hb KS
      go_wp2_with fail
      refine (S9.Dk.New_any w1).mono ?_
      rintro e w2 ⟨rfl, _, hb⟩
      replace HA := Lib.hid (HA.out.fr (Fr.of_below hb C.out.lt))
      replace C := Lib.hid (C.out.below hb)
      clear hb
      go_wp2_with fail
      refine (KF.out _ HA.out).mono ?_
      rintro e w3 ⟨rfl, rfl⟩
      clear KF
      go_wp2
      go_ret
      exact ⟨rfl, C.out.end_ HX0.out⟩
    have h8I : ¬ (8 : Int) < (n' : Int) := by omega
    have hnI : (n : Int) ≤ 30 := by have := H30.out; have := HN.out; omega
    obtain ⟨D0, he0, hp0⟩ := peace_open MD.new 2 new_calm (by omega) (fi := 2) rfl
    have hrw : (rows c4 (MD.new.text 2)).1 = [] := by decide +kernel
    rw [hrw] at he0 hp0
    have HE0 := Lib.hid he0
    have HG0 := Lib.hid (good_start hp0.calm hp0.text)
    clear h8 he0 hp0 hrw
    go_enter Try.func3, Try.ntmps3
    go_wp2_with fail
    refine KS.out.mono ?_
    rintro e w1 ⟨rfl, hb⟩
    have fb := Fr.of_below hb C.out.lt
    replace HA := Lib.hid (HA.out.fr fb)
    replace HK := Lib.hid (HK.out.fr fb)
    replace C := Lib.hid (C.out.next fb)
    clear hb KS fb
    go_wp2_with fail
    refine (S9.Dk.New_any w1).mono ?_
    rintro e w2 ⟨rfl, h, hb⟩
    have fb := Fr.of_below hb C.out.lt
    have L := Lib.hid (show Dk X0 w2 w1.heap.size MD.new from h.weaken fun k hk => C.out.lt k hk)
    replace HA := Lib.hid (HA.out.fr fb)
    replace HK := Lib.hid (HK.out.fr fb)
    replace C := Lib.hid (C.out.next fb)
    obtain ⟨p, hp⟩ : ∃ p, p = w1.heap.size := ⟨_, rfl⟩
    rw [← hp] at L ⊢
    clear h hb hp fb
    go_wp2_with fail
    refine (KF.out _ HA.out).mono ?_
    rintro e w3 ⟨rfl, rfl⟩
    clear KF
    go_wp2_with fail
    refine (Open_ok (f := 2) L.out HE0.out).mono ?_
    rintro e w3 ⟨x, rfl, h, f⟩
    have LG := Lib.hid h
    replace HA := Lib.hid (HA.out.fr f)
    replace HK := Lib.hid (HK.out.fr f)
    replace C := Lib.hid (C.out.next f)
    clear h f L HE0
    -- the box
    obtain ⟨w4, hw4⟩ : ∃ w4, w4 = w3.alloc (.cells #[.slice none 0 0, .slice none 0 0, .slice none 0 0, .bool false] 34) := ⟨_, rfl⟩
    obtain ⟨hb, hhb⟩ : ∃ hb, hb = w3.heap.size := ⟨_, rfl⟩
    have hb4 : Below w3.heap.size w3 w4 := by rw [hw4]; exact alloc_below _ _
    have hbx : w4.heap[hb]? = some (.cells #[.slice none 0 0, .slice none 0 0, .slice none 0 0, .bool false] 34 (0, 0)) := by rw [hw4, hhb]; exact heap_alloc_new w3 _
    have hbl := S2.blk_lt hbx
    have f4 := Fr.of_below hb4 C.out.lt
    obtain ⟨X1, hX1⟩ : ∃ X1 : Nat → Prop, X1 = fun k => X0 k ∨ k = hb := ⟨_, rfl⟩
    have LN := Lib.hid (show Ln X0 X1 w w4 hb x p [] D0 [] [] [] [] none 0 0 none 0 0 none 0 0 none 0 0 false from
      ⟨fun k hk => by rw [hX1]; exact .inl hk, by rw [hX1]; exact .inr rfl, fun e => by have := C.out.lt _ e; omega, LG.out.more hb4 (fun k hk => by
        rw [hX1] at hk
        rcases hk with hk | rfl
        · exact .inl hk
        · exact .inr ⟨by omega, hbl⟩), C.out.fr.trans f4, hbx, Sl.nil _ _, Sl.nil _ _, Sl.nil _ _, Sl.nil _ _, .inl HG0.out⟩)
    replace HA := Lib.hid (HA.out.fr f4)
    replace HK := Lib.hid (HK.out.fr f4)
    have HW4 := Lib.hid hw4
    have HHB := Lib.hid hhb
    clear hb4 hbx hbl f4 hX1 hw4 hhb LG HG0 C
    go_wp2_with fail
    rw [← HW4.out]
    try rw [← HHB.out]
    go_loopw [9, 11] (fun vs vi wr => ∃ (i : Nat) (X : Nat → Prop) (R : List Str) (D : MD) (sf al sf2 fr : List Str) (B : Option Addr) (m d : Nat) (A1 : Option Addr) (n1 c1 : Nat) (A2 : Option Addr) (n2 c2 : Nat) (A3 : Option Addr) (n3 c3 : Nat) (t : Bool),
      vi = .int .i64 (i : Int) ∧ vs = .slice B m d ∧ i ≤ n ∧ R.length ≤ i + 12 ∧ Ln X0 X w wr hb x p R D sf al sf2 fr B m d A1 n1 c1 A2 n2 c2 A3 n3 c3 t ∧ As X0 wr A l ∧ Rz X0 wr A' ks) (fun _ vi _ => n - (intOf vi).toNat)
    case atStart => exact ⟨0, X1, [], D0, [], [], [], [], none, 0, 0, none, 0, 0, none, 0, 0, none, 0, 0, false, rfl, rfl, by omega, by simp, LN.out, HA.out, HK.out⟩
    case round =>
      obtain ⟨i, X, R, D, sf, al, sf2, fr, B, m, d, A1, n1, c1, A2, n2, c2, A3, n3, c3, t, rfl, rfl, hin, hRl, hln, hAs, hRz⟩ := hrel
      have KD := Lib.hid hln.lg.isDown
      have LN2 := Lib.hid hln
      have HAS2 := Lib.hid hAs
      have HRZ2 := Lib.hid hRz
      have HRL := Lib.hid (show R.length ≤ 42 by have := H30.out; have := HN.out; omega)
      have HRI := Lib.hid hRl
      have hst := hln.st
      clear hln hAs hRz hRl HA HK LN
      by_cases hc : i < n
      · have hcI : (i : Int) < (n : Int) := by omega
        rcases hst with hg | hh
        · have HST := Lib.hid hg
          have hil : i < l.length := by have := HN.out; omega
          obtain ⟨ad, rfl, hcells⟩ := act_cells HAS2.out hil
          have hin2 := HAS2.out.each l[i] (List.getElem_mem hil)
          have hfw := HFE.out _ (List.getElem_mem hil)
          obtain ⟨a, ha⟩ : ∃ a, a = l[i] := ⟨_, rfl⟩
          rw [← ha] at hcells hin2 hfw
          have HCE := Lib.hid hcells
          have HIN := Lib.hid hin2
          have HFW := Lib.hid hfw
          have k0 : wr.cell? ⟨(ad.add (i * 5)).block, (ad.add (i * 5)).off, (ad.add (i * 5)).spot⟩ = some (.int .i64 a.Do) := hcells 0 _ rfl
          have hdown : D.down = false := hg.down
          clear hcells hin2 hfw ha hil hg
          go_wp2_with fail
          refine KD.out.mono ?_
          rintro e wz ⟨rfl, rfl⟩
          rw [hdown]
          clear KD hdown
          cases h4 : (bits .and .i64 a.Do 7 == 4) with
          | true =>
            have h4' : bits .and .i64 a.Do 7 = 4 := by simpa using h4
            clear h4
            go_wp2
            go_roundw
            case rel => exact ⟨i + 1, X, R, D, sf, al, sf2, fr, B, m, d, A1, n1, c1, A2, n2, c2, A3, n3, c3, t, by go_num, rfl, by omega, by have := HRI.out; omega, LN2.out, HAS2.out, HRZ2.out⟩
            case measure => simp [intOf]; omega
          | false =>
            have h4' : ¬ bits .and .i64 a.Do 7 = 4 := by simpa using h4
            go_wp2_with (refine S9.Dk.wpList_load_part rfl 36 _ rfl (ad.add (i * 5)) rfl a.cells _ HCE.out Try.underlying36 rfl (show (Try.prog.info? 36).map (·.size) = some 5 by kernel_rfl) ?_)
            clear h4 h4' k0
            go_wp2_with fail
            refine (after_any X x p R sf D a B m d wr HST.out LN2.out.lg (by have := HRL.out; omega) (HIN.out.mono LN2.out.sub) HFW.out LN2.out.s).mono ?_
            rintro e w5 ⟨X', R', D', s', al', sf', fr', Ax, nx, cx, B1, m1, d1, B2, m2, d2, B3, m3, d3, u, rfl, aft, q0, q1, q2, q3⟩
            unfold hopeC
            have hbx := (aft.fr.block hb LN2.out.xh).trans LN2.out.box
            have LN3 := Lib.hid (Ln.put (u := u) (fun k hk => aft.sub k (LN2.out.sub k hk)) (aft.sub _ LN2.out.xh) LN2.out.nh aft.lg (LN2.out.fr0.trans (aft.fr.weaken LN2.out.sub)) hbx q0 q1 q2 q3 aft.good)
            have HBX := Lib.hid hbx
            have f0 := (aft.fr.weaken LN2.out.sub).row hb #[.slice B1 m1 d1, .slice B2 m2 d2, .slice B3 m3 d3, .bool u] LN2.out.nh
            have HAS3 := Lib.hid (HAS2.out.fr f0)
            have HRZ3 := Lib.hid (HRZ2.out.fr f0)
            have HRI3 := Lib.hid (show R'.length ≤ i + 1 + 12 by have := aft.len; have := HRI.out; omega)
            clear aft q0 q1 q2 q3 hbx f0 LN2 HAS2 HRZ2 HST HIN HFW HCE HRI HRL
            go_wp2_with (refine S9.Dk.wpList_store_row rfl 34 _ _ rfl hb #[.slice B1 m1 d1, .slice B2 m2 d2, .slice B3 m3 d3, .bool u] rfl rfl 34 _ HBX.out (by kernel_rfl) rfl (hope_one _ _ _ _ _ _ _ _ _ _) ?_)
            go_wp2
            go_roundw
            case rel => exact ⟨i + 1, X', R', D', s', al', sf', fr', Ax, nx, cx, B1, m1, d1, B2, m2, d2, B3, m3, d3, u, by go_num, rfl, by omega, HRI3.out, LN3.out, HAS3.out, HRZ3.out⟩
            case measure => simp [intOf]; omega
        · have HST := Lib.hid hh
          have hdown : D.down = true := hh.down
          clear hh
          go_wp2_with fail
          refine KD.out.mono ?_
          rintro e wz ⟨rfl, rfl⟩
          rw [hdown]
          clear hdown
          go_wp2_with fail
          refine KD.out.mono ?_
          rintro e wz ⟨rfl, rfl⟩
          rw [show D.down = true from HST.out.down]
          have HC := Lib.hid (hope_cells LN2.out.box)
          have KFO := Lib.hid (found_any X p D A1 A2 A3 n1 c1 n2 c2 n3 c3 t al sf2 fr wr HST.out LN2.out.lg.drop LN2.out.s1 LN2.out.s2 LN2.out.s3)
          have FR := Lib.hid LN2.out.fr0
          have HSUB := Lib.hid LN2.out.sub
          clear KD HAS2 HRZ2 HST LN2
          go_wp2_with (refine wpList_load_part_g (by rfl) 34 _ rfl ⟨hb, 0, none⟩ rfl [.slice A1 n1 c1, .slice A2 n2 c2, .slice A3 n3 c3, .bool t] _ HC.out Try.underlying34 rfl (by kernel_rfl) ?_)
          go_wp2_with fail
          refine KFO.out.mono ?_
          rintro e wz ⟨rfl, hfz⟩
          have RR := Lib.hid ((FR.out.trans (hfz.weaken HSUB.out)).below HX0.out)
          clear hfz
          go_wp2
          go_ret
          exact ⟨rfl, RR.out⟩
      · have hcI : ¬ (i : Int) < (n : Int) := by omega
        rcases hst with hg | hh
        · have HST := Lib.hid hg
          clear hg
          go_wp2_with fail
          refine KD.out.mono ?_
          rintro e wz ⟨rfl, rfl⟩
          rw [show D.down = false from HST.out.down]
          clear KD
          go_wp2_with fail
          refine (All_new LN2.out.lg (by have := HRL.out; omega)).mono ?_
          rintro e w5 ⟨A4, n4, c4', rfl, hn4, hc4, hr4, ho4, hnew4, h4, hb4⟩
          have hf4 := Fr.of_below hb4 LN2.out.lg.lt
          obtain ⟨X2, hX2⟩ : ∃ X2, X2 = upTo X wr.heap.size w5.heap.size := ⟨_, rfl⟩
          rw [← hX2] at h4
          have hs2 : ∀ k, X k → X2 k := fun k hk => by rw [hX2]; exact .inl hk
          have hbx := (hf4.block hb LN2.out.xh).trans LN2.out.box
          have LN3 := Lib.hid (Ln.put (u := false) (fun k hk => hs2 k (LN2.out.sub k hk)) (hs2 _ LN2.out.xh) LN2.out.nh h4 (LN2.out.fr0.trans (hf4.weaken LN2.out.sub)) hbx ((LN2.out.s.fr hf4).mono hs2) (show Sl X2 w5 A4 n4 c4' R from ⟨hr4.mono (fun k hk => by rw [hX2]; exact .inr hk), hn4, by have := HRL.out; omega⟩) ((LN2.out.s.fr hf4).mono hs2) (Sl.nil X2 w5) (.inl HST.out))
          have HBX := Lib.hid hbx
          have HRZ3 := Lib.hid (HRZ2.out.fr (hf4.weaken LN2.out.sub))
          clear hn4 hc4 hr4 ho4 hnew4 h4 hb4 hf4 hX2 hs2 hbx LN2 HAS2 HRZ2
          go_wp2_with (refine S9.Dk.wpList_store_row rfl 34 _ _ rfl hb #[.slice A4 n4 c4', .slice B m d, .slice none 0 0, .bool false] rfl rfl 34 _ HBX.out (by kernel_rfl) rfl (hope_one _ _ _ _ _ _ _ _ _ _) ?_)
          obtain ⟨w6, hw6⟩ : ∃ w6, w6 = w5.setRow hb #[.slice A4 n4 c4', .slice B m d, .slice none 0 0, .bool false] := ⟨_, rfl⟩
          rw [← hw6] at LN3 ⊢
          have HRZ4 := Lib.hid (show Rz X0 w6 A' ks by rw [hw6]; exact HRZ3.out.fr ((Fr.refl _ _).row _ _ LN3.out.nh))
          clear hw6 HBX HRZ3
          go_wp2_with fail
          refine (LN3.out.lg.via (D' := D.Crash ks) (Q := fun e => e = .returned (.tuple #[])) fun Y hd hY => S9.Dk.Crash_any Y p D ks A' n' c' HN'.out HKS.out w6 (HRZ4.out.mono fun k hk => hY k (LN3.out.sub k hk)) hd).mono ?_
          rintro e w7 ⟨rfl, h7, f7⟩
          have HC := Lib.hid (hope_cells ((f7.block hb LN3.out.xh).trans LN3.out.box))
          have KFO := Lib.hid (found_any X2 p (D.Crash ks) A4 B none n4 c4' m d 0 0 false R sf [] w7 (crash_hope HST.out ks) h7.drop (LN3.out.s1.fr f7) (LN3.out.s2.fr f7) (LN3.out.s3.fr f7))
          have FR := Lib.hid (LN3.out.fr0.trans (f7.weaken LN3.out.sub))
          have HSUB := Lib.hid LN3.out.sub
          clear h7 f7 LN3 HST HRZ4
          go_wp2_with (refine wpList_load_part_g (by rfl) 34 _ rfl ⟨hb, 0, none⟩ rfl [.slice A4 n4 c4', .slice B m d, .slice none 0 0, .bool false] _ HC.out Try.underlying34 rfl (by kernel_rfl) ?_)
          go_wp2_with fail
          refine KFO.out.mono ?_
          rintro e wz ⟨rfl, hfz⟩
          have RR := Lib.hid ((FR.out.trans (hfz.weaken HSUB.out)).below HX0.out)
          clear hfz
          go_wp2
          go_ret
          exact ⟨rfl, RR.out⟩
        · have HST := Lib.hid hh
          clear hh
          go_wp2_with fail
          refine KD.out.mono ?_
          rintro e wz ⟨rfl, rfl⟩
          rw [show D.down = true from HST.out.down]
          have HC := Lib.hid (hope_cells LN2.out.box)
          have KFO := Lib.hid (found_any X p D A1 A2 A3 n1 c1 n2 c2 n3 c3 t al sf2 fr wr HST.out LN2.out.lg.drop LN2.out.s1 LN2.out.s2 LN2.out.s3)
          have FR := Lib.hid LN2.out.fr0
          have HSUB := Lib.hid LN2.out.sub
          clear KD HAS2 HRZ2 HST LN2
          go_wp2_with (refine wpList_load_part_g (by rfl) 34 _ rfl ⟨hb, 0, none⟩ rfl [.slice A1 n1 c1, .slice A2 n2 c2, .slice A3 n3 c3, .bool t] _ HC.out Try.underlying34 rfl (by kernel_rfl) ?_)
          go_wp2_with fail
          refine KFO.out.mono ?_
          rintro e wz ⟨rfl, hfz⟩
          have RR := Lib.hid ((FR.out.trans (hfz.weaken HSUB.out)).below HX0.out)
          clear hfz
          go_wp2
          go_ret
          exact ⟨rfl, RR.out⟩
end Wl
end Go.Proofs.Ytihanhdepijijaa
