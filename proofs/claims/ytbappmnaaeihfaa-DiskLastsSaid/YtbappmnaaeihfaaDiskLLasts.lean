/-
  Layer 9 (disk): DiskLasts.
-/
import Derived.Test.YtbappmnaaeihfaaDiskSb
import Derived.Deep.RegionHeld3
namespace Go.Proofs.Ytbappmnaaeihfaa
open Go.RowKit
namespace Dk
attribute [local go_sem] S2.B_size S2.B_list S2.B_take
theorem mk8 (w : World) : (Instr.makeSlice 28 (.int .i64 8) (.int .i64 8)).run Try.prog w = .ok (.slice (some ⟨w.heap.size, 0, none⟩) 8 8) (w.alloc (.cells (SV fun _ => []).toArray 9)) := by kernel_rfl
theorem infoAct : (Try.prog.info? 30).map (·.size) = some 6 := by kernel_rfl
theorem Ac.one (b : Ac) : b.cells.toArray.all (·.oneCell') = true := by
  cases b
  simp [Ac.cells, Value.oneCell']
/-- The local variable of the round, holding the operation. -/
theorem Rd.local_ {X : Nat → Prop} {W V w : World} {p gs : Nat} {D : MD} {sf : Nat → Str} (h : Rd X (fun _ => False) W V w p gs D sf) (Z : Array Value) (b : Ac) :
    let w1 := (w.alloc (.cells Z 30)).setRow w.heap.size b.cells.toArray
    Rd X (fun k => k = w.heap.size) W w1 w1 p gs D sf ∧ w1.heap[w.heap.size]? = some (.cells b.cells.toArray 30 (0, 0)) := by
  intro w1
  have h1 : (w.alloc (.cells Z 30)).heap[w.heap.size]? = some (.cells Z 30 (0, 0)) := heap_alloc_new w _
  have h2 : w1.heap[w.heap.size]? = some (.cells b.cells.toArray 30 (0, 0)) := setRow_heap _ _ _ _ _ _ h1
  have hb : Below w.heap.size w w1 := ((Below.refl _ _).alloc (Nat.le_refl _) _).trans ⟨rfl, rfl, rfl, by show _ ≤ ((w.alloc (.cells Z 30)).setRow w.heap.size b.cells.toArray).heap.size; simp [World.setRow], fun k hk => setRow_other _ _ _ _ (by omega)⟩
  exact ⟨h.open_ hb (fun k hk => ⟨by omega, by rw [hk]; exact (Array.getElem?_eq_some_iff.1 h2).1⟩), h2⟩
set_option maxHeartbeats 40000000 in
set_option maxRecDepth 100000 in
theorem lasts_walk (l : List Ac) (A : Option Addr) (m c : Nat) (hm : m = l.length) (hm2 : m ≤ maxLen) (ks : List Int) (A3 : Option Addr) (n3 c3 : Nat) (hn : n3 = ks.length) (hk : ∀ x ∈ ks, isI x) (W : World) (hl : As (fun k => k < W.heap.size) W A l) (hr : Rz (fun k => k < W.heap.size) W A3 ks) :
    Calls Try.prog 3 #[.slice A m c, .slice A3 n3 c3] W fun e w' => e = .returned (.bool true) ∧ Below W.heap.size W w' := by
  have HA := Lib.hid hl
  have HR := Lib.hid hr
  have HM := Lib.hid hm
  have HM2 := Lib.hid hm2
  have HN := Lib.hid hn
  have HK := Lib.hid hk
  unfold maxLen at hm2
  have hmI : (m : Int) ≤ 9223372036854775807 := by omega
  clear hl hr hm hm2 hn hk
  cases hf : fewB l with
  | false =>
    have HF := Lib.hid hf
    clear hf
    go_enter Try.func3, Try.ntmps3
    go_wp2_with fail
    refine (small_any W).mono ?_
    rintro e w1 ⟨rfl, hb1⟩
    have HB1 := Lib.hid hb1
    clear hb1
    go_wp2_with fail
    refine (New_any w1).mono ?_
    rintro e w2 ⟨rfl, h, hb⟩
    obtain ⟨X, hX⟩ : ∃ X, X = fun k => k < W.heap.size := ⟨_, rfl⟩
    have HX := Lib.hid hX
    have hsz := HB1.out.size
    have H := Lib.hid (show Dk X w2 w1.heap.size MD.new from h.weaken (fun k hk => by rw [hX] at hk; omega))
    have FR := Lib.hid (show Fr X W w2 from Fr.of_below (HB1.out.trans (hb.mono hsz)) (fun k hk => by rw [hX] at hk; exact hk))
    clear h hb hX hsz HB1
    generalize w1.heap.size = p at *
    have AS := Lib.hid (show As X W A l by rw [HX.out]; exact HA.out)
    have RZ := Lib.hid (show Rz X W A3 ks by rw [HX.out]; exact HR.out)
    clear HA HR
    go_wp2_with fail
    refine (few_any X l A m c HM.out HM2.out w2 (AS.out.fr FR.out)).mono ?_
    rintro e w3 ⟨rfl, k, hk⟩
    have hb3 : Below w2.heap.size w2 w3 := by rw [hk]; exact ⟨rfl, rfl, rfl, Nat.le_refl _, fun _ _ => rfl⟩
    replace FR := Lib.hid (FR.out.trans (Fr.of_below hb3 H.out.lt))
    replace H := Lib.hid (H.out.step hb3)
    clear hk hb3
    rw [HF.out]
    go_wp2
    go_ret
    exact ⟨rfl, FR.out.below (fun k hk => by rw [HX.out]; exact hk)⟩
  | true =>
    have HF := Lib.hid hf
    have hf2 := hf
    unfold fewB at hf2
    rw [Bool.and_eq_true, decide_eq_true_eq, decide_eq_true_eq] at hf2
    have HWT := Lib.hid hf2.2
    have hm200 : (m : Int) ≤ 200 := by have := HM.out; omega
    clear hf hf2 hmI
    go_enter Try.func3, Try.ntmps3
    go_wp2_with fail
    refine (small_any W).mono ?_
    rintro e w1 ⟨rfl, hb1⟩
    have HB1 := Lib.hid hb1
    clear hb1
    go_wp2_with fail
    refine (New_any w1).mono ?_
    rintro e w2 ⟨rfl, h, hb⟩
    obtain ⟨X, hX⟩ : ∃ X, X = fun k => k < W.heap.size := ⟨_, rfl⟩
    have HX := Lib.hid hX
    have hsz := HB1.out.size
    have H := Lib.hid (show Dk X w2 w1.heap.size MD.new from h.weaken (fun k hk => by rw [hX] at hk; omega))
    have FR := Lib.hid (show Fr X W w2 from Fr.of_below (HB1.out.trans (hb.mono hsz)) (fun k hk => by rw [hX] at hk; exact hk))
    clear h hb hX hsz HB1
    generalize w1.heap.size = p at *
    have AS := Lib.hid (show As X W A l by rw [HX.out]; exact HA.out)
    have RZ := Lib.hid (show Rz X W A3 ks by rw [HX.out]; exact HR.out)
    clear HA HR
    go_wp2_with fail
    refine (few_any X l A m c HM.out HM2.out w2 (AS.out.fr FR.out)).mono ?_
    rintro e w3 ⟨rfl, k, hk⟩
    have hb3 : Below w2.heap.size w2 w3 := by rw [hk]; exact ⟨rfl, rfl, rfl, Nat.le_refl _, fun _ _ => rfl⟩
    replace FR := Lib.hid (FR.out.trans (Fr.of_below hb3 H.out.lt))
    replace H := Lib.hid (H.out.step hb3)
    clear hk hb3
    rw [HF.out]
    go_wp2_with (rw [mk8])
    go_wp2
    have hbX : ∀ q, X q → q < w3.heap.size := H.out.lt
    have RD := Lib.hid (Rd.start H.out FR.out)
    obtain ⟨gs, hgs⟩ : ∃ gs, gs = w3.heap.size := ⟨_, rfl⟩
    rw [← hgs] at RD ⊢
    clear hgs hbX H FR
    go_loopw [8] (fun vi wr => ∃ (i : Nat) (D : MD) (sf : Nat → Str), vi = .int .i64 (i : Int) ∧ i ≤ m ∧ Rd X (fun _ => False) W W wr p gs D sf ∧ Safe D sf) (fun vi _ => m - (intOf vi).toNat)
    case atStart => exact ⟨0, MD.new, _, rfl, by omega, RD.out.close, fun f _ => List.nil_prefix⟩
    case round =>
      clear RD
      obtain ⟨i, D, sf, rfl, him, hrd, hsf⟩ := hrel
      have RD := Lib.hid hrd
      have HSF := Lib.hid hsf
      have HOK := Lib.hid hrd.dk.ok
      clear hrd hsf
      by_cases hlt : i < m
      · have hltI : (i : Int) < m := by omega
        have hil : i < l.length := by rw [← HM.out]; exact hlt
        obtain ⟨ad, rfl, _, hc⟩ := (AS.out.fr RD.out.fr).at_ hil
        have hin := AS.out.each l[i] (List.getElem_mem hil)
        have hw := weight_mem (List.getElem_mem hil)
        generalize l[i] = b at *
        have HC := Lib.hid hc
        have HIN := Lib.hid hin
        have HIM := Lib.hid hlt
        have HSB := Lib.hid (show b.S.length ≤ 1000000000 by have := HWT.out; omega)
        clear hc hin hw hil hlt
        cases hup : D.down with
        | false =>
          have HUP := Lib.hid hup
          clear hup
          go_wp2_with (first | (refine wpList_load_part rfl 30 _ rfl (ad.add (i * 6)) rfl b.cells _ HC.out Try.underlying30 rfl infoAct ?_) | (refine wpList_store_row rfl 30 _ _ rfl wr.heap.size _ rfl rfl 30 _ (heap_alloc_new wr _) infoAct rfl b.one ?_))
          go_wp2_with fail
          have hloc := RD.out.local_ #[.int .i64 0, .int .i64 0, .int .i64 0, .int .i64 0, .string ⟨#[]⟩, .slice none 0 0] b
          obtain ⟨w4, hw4⟩ : ∃ w4, w4 = (wr.alloc (.cells #[.int .i64 0, .int .i64 0, .int .i64 0, .int .i64 0, .string ⟨#[]⟩, .slice none 0 0] 30)).setRow wr.heap.size b.cells.toArray := ⟨_, rfl⟩
          obtain ⟨ga, hga⟩ : ∃ ga, ga = wr.heap.size := ⟨_, rfl⟩
          rw [← hw4] at hloc ⊢
          rw [← hga] at hloc ⊢
          obtain ⟨hrd, hrow⟩ := hloc
          replace RD := Lib.hid hrd
          obtain ⟨E, hE⟩ : ∃ E, E = fun k => k = ga := ⟨_, rfl⟩
          rw [← hE] at RD
          have hEg : E ga := by rw [hE]
          have HROW := Lib.hid (fun wq (hq : Fr E w4 wq) => (hq.block ga hEg).trans hrow)
          have GA := Lib.hid (fun wq (hq : Fr E w4 wq) => (⟨by rw [cell_of_row _ _ _ _ _ _ (HROW.out wq hq)]; rfl, by rw [cell_of_row _ _ _ _ _ _ (HROW.out wq hq)]; rfl, by rw [cell_of_row _ _ _ _ _ _ (HROW.out wq hq)]; rfl, by rw [cell_of_row _ _ _ _ _ _ (HROW.out wq hq)]; rfl⟩ : wq.cell? ⟨ga, 0, none⟩ = some (.int .i64 b.Do) ∧ wq.cell? ⟨ga, 1, none⟩ = some (.int .i64 b.F) ∧ wq.cell? ⟨ga, 2, none⟩ = some (.int .i64 b.G) ∧ wq.cell? ⟨ga, 3, none⟩ = some (.int .i64 b.N)))
          clear hw4 hga hrd hrow hE hEg
          have HACT := Lib.hid (act_safe HOK.out HSF.out b)
          go_wp2_with fail
          refine (down_any _ p D _ RD.out.dk).mono ?_
          rintro e z2 ⟨rfl, hq⟩
          obtain rfl := hq
          rw [HUP.out]
          go_wp2_with (refine wpList_load_row rfl 30 _ rfl ga rfl 30 _ (0, 0) _ (HROW.out _ RD.out.ef) Try.underlying30 rfl infoAct ?_)
          go_wp2_with fail
          refine (do_any _ p D b _ rfl HSB.out _ ((HIN.out.fr RD.out.fr).mono (fun k hk => .inl hk)) RD.out.dk).mono ?_
          rintro e z1 ⟨rfl, h, f⟩
          obtain ⟨D2, hD2⟩ : ∃ D2, D2 = (D.act b).2 := ⟨_, rfl⟩
          obtain ⟨ev, hev⟩ : ∃ ev, ev = (D.act b).1.2 := ⟨_, rfl⟩
          rw [← hD2] at h
          rw [← hev]
          generalize (D.act b).1.1 = es at *
          have HD2 := Lib.hid hD2
          have HEV := Lib.hid hev
          replace RD := Lib.hid (RD.out.call h f)
          clear h f hD2 hev
          obtain ⟨ga0, ga1, ga2, ga3⟩ := GA.out _ RD.out.ef
          go_wp2_with fail
          refine (pick_any b.Do _).mono ?_
          rintro e wq ⟨rfl, hq⟩
          obtain rfl := hq
          obtain ⟨kk, hkk⟩ : ∃ kk, kk = b.Do % 11 := ⟨_, rfl⟩
          rw [← hkk]
          have HKK := Lib.hid hkk
          have hok2 := RD.out.dk.ok
          have HOK2 := Lib.hid hok2
          clear hkk hok2
          by_cases he : ev = 0
          · subst he
            by_cases hk2 : kk = 2
            · subst hk2
              have h2 := (flush_safe HOK.out HSF.out b.F).2 (by have := HEV.out; rw [act_two HKK.out.symm] at this; exact this.symm)
              have e2 : D2 = (D.flush b.F).2 := by rw [HD2.out, act_two HKK.out.symm]
              rw [← e2] at h2
              obtain ⟨hf, hdd, hdn, hsafe⟩ := h2
              obtain ⟨fk, hfk, hfe⟩ : ∃ fk : Nat, fk < 8 ∧ b.F = (fk : Int) := ⟨b.F.toNat, isF_nat hf⟩
              rw [hfe] at hsafe
              rw [hfe] at ga1
              simp only [Int.toNat_natCast] at hsafe
              have hfI : (fk : Int) < 8 := by omega
              have HFK := Lib.hid hfk
              have HSAFE := Lib.hid hsafe
              have HDN := Lib.hid hdn
              have HFE := Lib.hid hfe
              have HRD := Lib.hid (show D2.read (fk : Int) = (D2.text fk, 0) by unfold MD.read; rw [show D2.chk1 (fk : Int) = 0 by simp [MD.chk1, hdn, isF]; omega, if_neg (by decide)]; rfl)
              clear hf hdd hdn hsafe hfk hfe e2
              go_wp2_with fail
              refine (Read_any _ p D2 (fk : Int) _ RD.out.dk).mono ?_
              rintro e z28 ⟨rfl, h, f⟩
              rw [HRD.out]
              replace RD := Lib.hid (RD.out.call h f)
              clear h f
              clear ga0 ga1 ga2 ga3
              obtain ⟨ga0, ga1, ga2, ga3⟩ := GA.out _ RD.out.ef
              rw [HFE.out] at ga1
              have t1 := RD.out.sb.c HFK.out
              have t2 := RD.out.sb.free fk
              have RD2 := Lib.hid (RD.out.put fk (D2.text fk))
              clear RD
              generalize D2.text fk = dt at *
              go_wp2
              go_quiet (fail)
              generalize hwn : World.drewN _ _ = wn
              have RD := Lib.hid (show Rd X E W w4 wn p gs D2 (upd sf fk dt) by rw [← hwn]; exact RD2.out.drewN _)
              clear hwn
              clear RD2
              go_wp2_with fail
              refine (down_any _ p D2 _ RD.out.dk).mono ?_
              rintro e z29 ⟨rfl, hq⟩
              obtain rfl := hq
              rw [HDN.out]
              go_wp2
              go_roundw
              case rel => exact ⟨i + 1, D2, (upd sf fk dt), by go_num, by have := HIM.out; omega, RD.out.close, HSAFE.out⟩
              case measure => simp [intOf]; have := HIM.out; omega
            · by_cases hk3 : kk = 3
              · subst hk3
                have h2 := (cut_safe HOK.out HSF.out b.F b.N).2 (by have := HEV.out; rw [act_three HKK.out.symm] at this; exact this.symm)
                have e2 : D2 = (D.cut b.F b.N).2 := by rw [HD2.out, act_three HKK.out.symm]
                rw [← e2] at h2
                obtain ⟨hf, hn0, hdd, hdn, hsafe⟩ := h2
                obtain ⟨fk, hfk, hfe⟩ : ∃ fk : Nat, fk < 8 ∧ b.F = (fk : Int) := ⟨b.F.toNat, isF_nat hf⟩
                rw [hfe] at hsafe
                rw [hfe] at ga1
                simp only [Int.toNat_natCast] at hsafe
                have hfI : (fk : Int) < 8 := by omega
                have HFK := Lib.hid hfk
                have HSAFE := Lib.hid hsafe
                have HDN := Lib.hid hdn
                obtain ⟨nk, hnk⟩ : ∃ nk : Nat, b.N = (nk : Int) := ⟨b.N.toNat, by omega⟩
                rw [hnk] at hsafe
                rw [hnk] at ga3
                simp only [Int.toNat_natCast] at hsafe
                clear HSAFE
                have t1 := RD.out.sb.c HFK.out
                have t2 := RD.out.sb.free fk
                by_cases hlen : nk < (sf fk).length
                · have hlenI : (nk : Int) < ((sf fk).length : Int) := by omega
                  have HSAFE := Lib.hid hsafe
                  have RDN := Lib.hid (fun q => (RD.out.drewN q).put fk ((sf fk).take nk))
                  clear hf hdd hdn hsafe hfk hfe e2 hn0 hlen hnk
                  generalize hsfk : sf fk = st at *
                  go_wp2
                  go_quiet (fail)
                  go_wp2
                  go_region
                  generalize hwn : World.setCell _ _ _ = wn
                  replace RD := Lib.hid (show Rd X E W w4 wn p gs D2 (upd sf fk (st.take nk)) by rw [← hwn]; exact RDN.out _)
                  clear hwn RDN
                  go_wp2_with fail
                  refine (down_any _ p D2 _ RD.out.dk).mono ?_
                  rintro e z30 ⟨rfl, hq⟩
                  obtain rfl := hq
                  rw [HDN.out]
                  go_wp2
                  go_roundw
                  case rel => exact ⟨i + 1, D2, (upd sf fk (st.take nk)), by go_num, by have := HIM.out; omega, RD.out.close, HSAFE.out⟩
                  case measure => simp [intOf]; have := HIM.out; omega
                · have hlenI : ¬ ((nk : Int) < ((sf fk).length : Int)) := by omega
                  have hsf : upd sf fk ((sf fk).take nk) = sf := by
                    funext q
                    unfold upd
                    split
                    · rename_i hq
                      rw [hq, List.take_of_length_le (by omega)]
                    · rfl
                  rw [hsf] at hsafe
                  have HSAFE := Lib.hid hsafe
                  clear hf hdd hdn hsafe hfk hfe e2 hn0 hlen hnk hsf
                  generalize sf fk = st at *
                  go_wp2
                  go_quiet (fail)
                  generalize hwn : World.drewN _ _ = wn
                  replace RD := Lib.hid (show Rd X E W w4 wn p gs D2 sf by rw [← hwn]; exact RD.out.drewN _)
                  clear hwn
                  go_wp2_with fail
                  refine (down_any _ p D2 _ RD.out.dk).mono ?_
                  rintro e z31 ⟨rfl, hq⟩
                  obtain rfl := hq
                  rw [HDN.out]
                  go_wp2
                  go_roundw
                  case rel => exact ⟨i + 1, D2, sf, by go_num, by have := HIM.out; omega, RD.out.close, HSAFE.out⟩
                  case measure => simp [intOf]; have := HIM.out; omega
              · by_cases hk4 : kk = 4
                · subst hk4
                  have h2 := (turn_safe HOK.out HSF.out b.F b.G).2 (by have := HEV.out; rw [act_four HKK.out.symm] at this; exact this.symm)
                  have e2 : D2 = (D.turn b.F b.G).2 := by rw [HD2.out, act_four HKK.out.symm]
                  rw [← e2] at h2
                  obtain ⟨hf, hg, hdd, hdn, hsafe⟩ := h2
                  obtain ⟨fk, hfk, hfe⟩ : ∃ fk : Nat, fk < 8 ∧ b.F = (fk : Int) := ⟨b.F.toNat, isF_nat hf⟩
                  obtain ⟨gk, hgk, hge⟩ : ∃ gk : Nat, gk < 8 ∧ b.G = (gk : Int) := ⟨b.G.toNat, isF_nat hg⟩
                  rw [hfe, hge] at hsafe
                  rw [hfe] at ga1
                  rw [hge] at ga2
                  simp only [Int.toNat_natCast] at hsafe
                  have hfI : (fk : Int) < 8 := by omega
                  have hgI : (gk : Int) < 8 := by omega
                  have HFK := Lib.hid hfk
                  have HGK := Lib.hid hgk
                  have HSAFE := Lib.hid hsafe
                  have HDN := Lib.hid hdn
                  have HGE := Lib.hid hge
                  clear hf hg hdd hdn hsafe hfk hgk hfe hge e2
                  have t1 := RD.out.sb.c HFK.out
                  have t2 := RD.out.sb.free fk
                  have t3 := RD.out.sb.c HGK.out
                  have RDN := Lib.hid (fun q => (RD.out.drewN q).put fk (sf gk))
                  generalize hst : sf gk = st at *
                  generalize hsu : sf fk = su at *
                  go_wp2
                  go_quiet (fail)
                  go_wp2
                  go_region
                  generalize hwn : World.setCell _ _ _ = wn
                  replace RD := Lib.hid (show Rd X E W w4 wn p gs D2 (upd sf fk st) by rw [← hwn]; exact RDN.out _)
                  clear hwn RDN t1 t2 t3 ga0 ga1 ga2 ga3
                  obtain ⟨ga0, ga1, ga2, ga3⟩ := GA.out _ RD.out.ef
                  rw [HGE.out] at ga2
                  have t1 := RD.out.sb.c HGK.out
                  have t2 := RD.out.sb.free gk
                  generalize upd sf fk st gk = sv at *
                  go_wp2_with fail
                  replace RD := Lib.hid (show Rd X E W w4 _ p gs D2 (upd (upd sf fk st) gk []) from RD.out.put gk [])
                  clear t1 t2
                  refine (down_any _ p D2 _ RD.out.dk).mono ?_
                  rintro e z32 ⟨rfl, hq⟩
                  obtain rfl := hq
                  rw [HDN.out]
                  go_wp2
                  go_roundw
                  case rel => exact ⟨i + 1, D2, (upd (upd sf fk st) gk []), by go_num, by have := HIM.out; omega, RD.out.close, HSAFE.out⟩
                  case measure => simp [intOf]; have := HIM.out; omega
                · have q2 : (kk == 2) = false := by simpa using hk2
                  have q3 : (kk == 3) = false := by simpa using hk3
                  have q4 : (kk == 4) = false := by simpa using hk4
                  have HNO := Lib.hid (show (kk = 2 ∨ kk = 3 ∨ kk = 4) → (0 : Int) ≠ 0 from fun h => by rcases h with h | h | h; exact absurd h hk2; exact absurd h hk3; exact absurd h hk4)
                  clear hk2 hk3 hk4
                  have hact := HACT.out (by rw [← HKK.out, ← HEV.out]; exact HNO.out)
                  rw [← HD2.out] at hact
                  have HSAFE := Lib.hid hact.1
                  have HFU := Lib.hid (hact.2 HUP.out)
                  clear hact
                  go_wp2
                  go_quiet (fail)
                  generalize hwn : World.drewN _ _ = wn
                  replace RD := Lib.hid (show Rd X E W w4 wn p gs D2 sf by rw [← hwn]; exact RD.out.drewN _)
                  clear hwn
                  cases hdn : D2.down with
                  | false =>
                    have HDN := Lib.hid hdn
                    clear hdn
                    go_wp2_with fail
                    refine (down_any _ p D2 _ RD.out.dk).mono ?_
                    rintro e z3 ⟨rfl, hq⟩
                    obtain rfl := hq
                    rw [HDN.out]
                    go_wp2
                    go_roundw
                    case rel => exact ⟨i + 1, D2, sf, by go_num, by have := HIM.out; omega, RD.out.close, HSAFE.out⟩
                    case measure => simp [intOf]; have := HIM.out; omega
                  | true =>
                    have HDN := Lib.hid hdn
                    have HFULL := Lib.hid (HFU.out HDN.out)
                    clear hdn
                    go_wp2_with fail
                    refine (down_any _ p D2 _ RD.out.dk).mono ?_
                    rintro e z4 ⟨rfl, hq⟩
                    obtain rfl := hq
                    rw [HDN.out]
                    go_wp2_with fail
                    refine (start_any _ p D2 _ RD.out.dk).mono ?_
                    rintro e z5 ⟨rfl, h, f⟩
                    replace RD := Lib.hid (RD.out.call h f)
                    clear h f
                    go_wp2
                    have RD0 := RD
                    go_loopw [16] (fun vj wj => ∃ j : Nat, vj = .int .i64 (j : Int) ∧ j ≤ 8 ∧ Rd X E W w4 wj p gs D2.start (mix D2.text sf j)) (fun vj _ => 8 - (intOf vj).toNat)
                    case atStart => exact ⟨0, rfl, by omega, by rw [mix_zero]; exact RD.out⟩
                    case round =>
                      clear RD RD0
                      obtain ⟨j, rfl, hj8, hr⟩ := hrel
                      have RD := Lib.hid hr
                      clear hr
                      by_cases hlt8 : j < 8
                      · have hlt8I : (j : Int) < 8 := by omega
                        have HJ8 := Lib.hid hlt8
                        go_wp2_with fail
                        refine (Read_any _ p D2.start (j : Int) _ RD.out.dk).mono ?_
                        rintro e z6 ⟨rfl, h, f⟩
                        rw [start_read D2 HJ8.out]
                        replace RD := Lib.hid (RD.out.call h f)
                        clear h f
                        have t1 := RD.out.sb.c HJ8.out
                        have t2 := RD.out.sb.free j
                        rw [mix_at] at t1
                        have hp1 := (HSAFE.out.text HJ8.out)
                        have hp2 : (sf j).isPrefixOf (D2.text j) = true := List.isPrefixOf_iff_prefix.2 hp1
                        have HP2 := Lib.hid hp2
                        have RDP := RD.out.put j (D2.text j)
                        rw [mix_step] at RDP
                        have RD2 := Lib.hid RDP
                        clear hp1 hp2 RDP RD
                        generalize D2.text j = dt at *
                        generalize sf j = st at *
                        go_wp2_with fail
                        refine (begins_any dt st _).mono ?_
                        rintro e wq ⟨rfl, hq⟩
                        obtain rfl := hq
                        rw [HP2.out]
                        go_wp2
                        go_roundw
                        case rel => exact ⟨j + 1, by go_num, by have := HJ8.out; omega, RD2.out⟩
                        case measure => simp [intOf]; have := HJ8.out; omega
                      · have hge8 : ¬ (j : Int) < 8 := by omega
                        obtain rfl : j = 8 := by omega
                        go_wp2_with fail
                        refine (Crash_any _ p D2.start [] none 0 0 rfl (fun x hx => by cases hx) _ (Rz.nil _ _ _) RD.out.dk).mono ?_
                        rintro e z7 ⟨rfl, h, f⟩
                        replace RD := Lib.hid (RD.out.call h f)
                        clear h f
                        replace RD := Lib.hid (RD.out.congr (sf' := D2.text) (fun q hq => (mix_all _ _ hq).symm))
                        go_wp2
                        go_roundw
                        case rel => exact ⟨i + 1, (D2.start.Crash []), D2.text, by go_num, by have := HIM.out; omega, RD.out.close, again_safe HFULL.out⟩
                        case measure => simp [intOf]; have := HIM.out; omega
          · have qe : (ev == 0) = false := by simpa using he
            have HNO := Lib.hid (show (kk = 2 ∨ kk = 3 ∨ kk = 4) → ev ≠ 0 from fun _ => he)
            clear he
            by_cases hk2 : kk = 2
            · subst hk2
              have hact := HACT.out (by rw [← HKK.out, ← HEV.out]; exact HNO.out)
              rw [← HD2.out] at hact
              have HSAFE := Lib.hid hact.1
              have HFU := Lib.hid (hact.2 HUP.out)
              clear hact
              go_wp2
              go_quiet (fail)
              generalize hwn : World.drewN _ _ = wn
              replace RD := Lib.hid (show Rd X E W w4 wn p gs D2 sf by rw [← hwn]; exact RD.out.drewN _)
              clear hwn
              cases hdn : D2.down with
              | false =>
                have HDN := Lib.hid hdn
                clear hdn
                go_wp2_with fail
                refine (down_any _ p D2 _ RD.out.dk).mono ?_
                rintro e z8 ⟨rfl, hq⟩
                obtain rfl := hq
                rw [HDN.out]
                go_wp2
                go_roundw
                case rel => exact ⟨i + 1, D2, sf, by go_num, by have := HIM.out; omega, RD.out.close, HSAFE.out⟩
                case measure => simp [intOf]; have := HIM.out; omega
              | true =>
                have HDN := Lib.hid hdn
                have HFULL := Lib.hid (HFU.out HDN.out)
                clear hdn
                go_wp2_with fail
                refine (down_any _ p D2 _ RD.out.dk).mono ?_
                rintro e z9 ⟨rfl, hq⟩
                obtain rfl := hq
                rw [HDN.out]
                go_wp2_with fail
                refine (start_any _ p D2 _ RD.out.dk).mono ?_
                rintro e z10 ⟨rfl, h, f⟩
                replace RD := Lib.hid (RD.out.call h f)
                clear h f
                go_wp2
                have RD0 := RD
                go_loopw [16] (fun vj wj => ∃ j : Nat, vj = .int .i64 (j : Int) ∧ j ≤ 8 ∧ Rd X E W w4 wj p gs D2.start (mix D2.text sf j)) (fun vj _ => 8 - (intOf vj).toNat)
                case atStart => exact ⟨0, rfl, by omega, by rw [mix_zero]; exact RD.out⟩
                case round =>
                  clear RD RD0
                  obtain ⟨j, rfl, hj8, hr⟩ := hrel
                  have RD := Lib.hid hr
                  clear hr
                  by_cases hlt8 : j < 8
                  · have hlt8I : (j : Int) < 8 := by omega
                    have HJ8 := Lib.hid hlt8
                    go_wp2_with fail
                    refine (Read_any _ p D2.start (j : Int) _ RD.out.dk).mono ?_
                    rintro e z11 ⟨rfl, h, f⟩
                    rw [start_read D2 HJ8.out]
                    replace RD := Lib.hid (RD.out.call h f)
                    clear h f
                    have t1 := RD.out.sb.c HJ8.out
                    have t2 := RD.out.sb.free j
                    rw [mix_at] at t1
                    have hp1 := (HSAFE.out.text HJ8.out)
                    have hp2 : (sf j).isPrefixOf (D2.text j) = true := List.isPrefixOf_iff_prefix.2 hp1
                    have HP2 := Lib.hid hp2
                    have RDP := RD.out.put j (D2.text j)
                    rw [mix_step] at RDP
                    have RD2 := Lib.hid RDP
                    clear hp1 hp2 RDP RD
                    generalize D2.text j = dt at *
                    generalize sf j = st at *
                    go_wp2_with fail
                    refine (begins_any dt st _).mono ?_
                    rintro e wq ⟨rfl, hq⟩
                    obtain rfl := hq
                    rw [HP2.out]
                    go_wp2
                    go_roundw
                    case rel => exact ⟨j + 1, by go_num, by have := HJ8.out; omega, RD2.out⟩
                    case measure => simp [intOf]; have := HJ8.out; omega
                  · have hge8 : ¬ (j : Int) < 8 := by omega
                    obtain rfl : j = 8 := by omega
                    go_wp2_with fail
                    refine (Crash_any _ p D2.start [] none 0 0 rfl (fun x hx => by cases hx) _ (Rz.nil _ _ _) RD.out.dk).mono ?_
                    rintro e z12 ⟨rfl, h, f⟩
                    replace RD := Lib.hid (RD.out.call h f)
                    clear h f
                    replace RD := Lib.hid (RD.out.congr (sf' := D2.text) (fun q hq => (mix_all _ _ hq).symm))
                    go_wp2
                    go_roundw
                    case rel => exact ⟨i + 1, (D2.start.Crash []), D2.text, by go_num, by have := HIM.out; omega, RD.out.close, again_safe HFULL.out⟩
                    case measure => simp [intOf]; have := HIM.out; omega
            · by_cases hk3 : kk = 3
              · subst hk3
                have hact := HACT.out (by rw [← HKK.out, ← HEV.out]; exact HNO.out)
                rw [← HD2.out] at hact
                have HSAFE := Lib.hid hact.1
                have HFU := Lib.hid (hact.2 HUP.out)
                clear hact
                go_wp2
                go_quiet (fail)
                generalize hwn : World.drewN _ _ = wn
                replace RD := Lib.hid (show Rd X E W w4 wn p gs D2 sf by rw [← hwn]; exact RD.out.drewN _)
                clear hwn
                cases hdn : D2.down with
                | false =>
                  have HDN := Lib.hid hdn
                  clear hdn
                  go_wp2_with fail
                  refine (down_any _ p D2 _ RD.out.dk).mono ?_
                  rintro e z13 ⟨rfl, hq⟩
                  obtain rfl := hq
                  rw [HDN.out]
                  go_wp2
                  go_roundw
                  case rel => exact ⟨i + 1, D2, sf, by go_num, by have := HIM.out; omega, RD.out.close, HSAFE.out⟩
                  case measure => simp [intOf]; have := HIM.out; omega
                | true =>
                  have HDN := Lib.hid hdn
                  have HFULL := Lib.hid (HFU.out HDN.out)
                  clear hdn
                  go_wp2_with fail
                  refine (down_any _ p D2 _ RD.out.dk).mono ?_
                  rintro e z14 ⟨rfl, hq⟩
                  obtain rfl := hq
                  rw [HDN.out]
                  go_wp2_with fail
                  refine (start_any _ p D2 _ RD.out.dk).mono ?_
                  rintro e z15 ⟨rfl, h, f⟩
                  replace RD := Lib.hid (RD.out.call h f)
                  clear h f
                  go_wp2
                  have RD0 := RD
                  go_loopw [16] (fun vj wj => ∃ j : Nat, vj = .int .i64 (j : Int) ∧ j ≤ 8 ∧ Rd X E W w4 wj p gs D2.start (mix D2.text sf j)) (fun vj _ => 8 - (intOf vj).toNat)
                  case atStart => exact ⟨0, rfl, by omega, by rw [mix_zero]; exact RD.out⟩
                  case round =>
                    clear RD RD0
                    obtain ⟨j, rfl, hj8, hr⟩ := hrel
                    have RD := Lib.hid hr
                    clear hr
                    by_cases hlt8 : j < 8
                    · have hlt8I : (j : Int) < 8 := by omega
                      have HJ8 := Lib.hid hlt8
                      go_wp2_with fail
                      refine (Read_any _ p D2.start (j : Int) _ RD.out.dk).mono ?_
                      rintro e z16 ⟨rfl, h, f⟩
                      rw [start_read D2 HJ8.out]
                      replace RD := Lib.hid (RD.out.call h f)
                      clear h f
                      have t1 := RD.out.sb.c HJ8.out
                      have t2 := RD.out.sb.free j
                      rw [mix_at] at t1
                      have hp1 := (HSAFE.out.text HJ8.out)
                      have hp2 : (sf j).isPrefixOf (D2.text j) = true := List.isPrefixOf_iff_prefix.2 hp1
                      have HP2 := Lib.hid hp2
                      have RDP := RD.out.put j (D2.text j)
                      rw [mix_step] at RDP
                      have RD2 := Lib.hid RDP
                      clear hp1 hp2 RDP RD
                      generalize D2.text j = dt at *
                      generalize sf j = st at *
                      go_wp2_with fail
                      refine (begins_any dt st _).mono ?_
                      rintro e wq ⟨rfl, hq⟩
                      obtain rfl := hq
                      rw [HP2.out]
                      go_wp2
                      go_roundw
                      case rel => exact ⟨j + 1, by go_num, by have := HJ8.out; omega, RD2.out⟩
                      case measure => simp [intOf]; have := HJ8.out; omega
                    · have hge8 : ¬ (j : Int) < 8 := by omega
                      obtain rfl : j = 8 := by omega
                      go_wp2_with fail
                      refine (Crash_any _ p D2.start [] none 0 0 rfl (fun x hx => by cases hx) _ (Rz.nil _ _ _) RD.out.dk).mono ?_
                      rintro e z17 ⟨rfl, h, f⟩
                      replace RD := Lib.hid (RD.out.call h f)
                      clear h f
                      replace RD := Lib.hid (RD.out.congr (sf' := D2.text) (fun q hq => (mix_all _ _ hq).symm))
                      go_wp2
                      go_roundw
                      case rel => exact ⟨i + 1, (D2.start.Crash []), D2.text, by go_num, by have := HIM.out; omega, RD.out.close, again_safe HFULL.out⟩
                      case measure => simp [intOf]; have := HIM.out; omega
              · by_cases hk4 : kk = 4
                · subst hk4
                  have hact := HACT.out (by rw [← HKK.out, ← HEV.out]; exact HNO.out)
                  rw [← HD2.out] at hact
                  have HSAFE := Lib.hid hact.1
                  have HFU := Lib.hid (hact.2 HUP.out)
                  clear hact
                  go_wp2
                  go_quiet (fail)
                  generalize hwn : World.drewN _ _ = wn
                  replace RD := Lib.hid (show Rd X E W w4 wn p gs D2 sf by rw [← hwn]; exact RD.out.drewN _)
                  clear hwn
                  cases hdn : D2.down with
                  | false =>
                    have HDN := Lib.hid hdn
                    clear hdn
                    go_wp2_with fail
                    refine (down_any _ p D2 _ RD.out.dk).mono ?_
                    rintro e z18 ⟨rfl, hq⟩
                    obtain rfl := hq
                    rw [HDN.out]
                    go_wp2
                    go_roundw
                    case rel => exact ⟨i + 1, D2, sf, by go_num, by have := HIM.out; omega, RD.out.close, HSAFE.out⟩
                    case measure => simp [intOf]; have := HIM.out; omega
                  | true =>
                    have HDN := Lib.hid hdn
                    have HFULL := Lib.hid (HFU.out HDN.out)
                    clear hdn
                    go_wp2_with fail
                    refine (down_any _ p D2 _ RD.out.dk).mono ?_
                    rintro e z19 ⟨rfl, hq⟩
                    obtain rfl := hq
                    rw [HDN.out]
                    go_wp2_with fail
                    refine (start_any _ p D2 _ RD.out.dk).mono ?_
                    rintro e z20 ⟨rfl, h, f⟩
                    replace RD := Lib.hid (RD.out.call h f)
                    clear h f
                    go_wp2
                    have RD0 := RD
                    go_loopw [16] (fun vj wj => ∃ j : Nat, vj = .int .i64 (j : Int) ∧ j ≤ 8 ∧ Rd X E W w4 wj p gs D2.start (mix D2.text sf j)) (fun vj _ => 8 - (intOf vj).toNat)
                    case atStart => exact ⟨0, rfl, by omega, by rw [mix_zero]; exact RD.out⟩
                    case round =>
                      clear RD RD0
                      obtain ⟨j, rfl, hj8, hr⟩ := hrel
                      have RD := Lib.hid hr
                      clear hr
                      by_cases hlt8 : j < 8
                      · have hlt8I : (j : Int) < 8 := by omega
                        have HJ8 := Lib.hid hlt8
                        go_wp2_with fail
                        refine (Read_any _ p D2.start (j : Int) _ RD.out.dk).mono ?_
                        rintro e z21 ⟨rfl, h, f⟩
                        rw [start_read D2 HJ8.out]
                        replace RD := Lib.hid (RD.out.call h f)
                        clear h f
                        have t1 := RD.out.sb.c HJ8.out
                        have t2 := RD.out.sb.free j
                        rw [mix_at] at t1
                        have hp1 := (HSAFE.out.text HJ8.out)
                        have hp2 : (sf j).isPrefixOf (D2.text j) = true := List.isPrefixOf_iff_prefix.2 hp1
                        have HP2 := Lib.hid hp2
                        have RDP := RD.out.put j (D2.text j)
                        rw [mix_step] at RDP
                        have RD2 := Lib.hid RDP
                        clear hp1 hp2 RDP RD
                        generalize D2.text j = dt at *
                        generalize sf j = st at *
                        go_wp2_with fail
                        refine (begins_any dt st _).mono ?_
                        rintro e wq ⟨rfl, hq⟩
                        obtain rfl := hq
                        rw [HP2.out]
                        go_wp2
                        go_roundw
                        case rel => exact ⟨j + 1, by go_num, by have := HJ8.out; omega, RD2.out⟩
                        case measure => simp [intOf]; have := HJ8.out; omega
                      · have hge8 : ¬ (j : Int) < 8 := by omega
                        obtain rfl : j = 8 := by omega
                        go_wp2_with fail
                        refine (Crash_any _ p D2.start [] none 0 0 rfl (fun x hx => by cases hx) _ (Rz.nil _ _ _) RD.out.dk).mono ?_
                        rintro e z22 ⟨rfl, h, f⟩
                        replace RD := Lib.hid (RD.out.call h f)
                        clear h f
                        replace RD := Lib.hid (RD.out.congr (sf' := D2.text) (fun q hq => (mix_all _ _ hq).symm))
                        go_wp2
                        go_roundw
                        case rel => exact ⟨i + 1, (D2.start.Crash []), D2.text, by go_num, by have := HIM.out; omega, RD.out.close, again_safe HFULL.out⟩
                        case measure => simp [intOf]; have := HIM.out; omega
                · have q2 : (kk == 2) = false := by simpa using hk2
                  have q3 : (kk == 3) = false := by simpa using hk3
                  have q4 : (kk == 4) = false := by simpa using hk4
                  clear hk2 hk3 hk4
                  have hact := HACT.out (by rw [← HKK.out, ← HEV.out]; exact HNO.out)
                  rw [← HD2.out] at hact
                  have HSAFE := Lib.hid hact.1
                  have HFU := Lib.hid (hact.2 HUP.out)
                  clear hact
                  go_wp2
                  go_quiet (fail)
                  generalize hwn : World.drewN _ _ = wn
                  replace RD := Lib.hid (show Rd X E W w4 wn p gs D2 sf by rw [← hwn]; exact RD.out.drewN _)
                  clear hwn
                  cases hdn : D2.down with
                  | false =>
                    have HDN := Lib.hid hdn
                    clear hdn
                    go_wp2_with fail
                    refine (down_any _ p D2 _ RD.out.dk).mono ?_
                    rintro e z23 ⟨rfl, hq⟩
                    obtain rfl := hq
                    rw [HDN.out]
                    go_wp2
                    go_roundw
                    case rel => exact ⟨i + 1, D2, sf, by go_num, by have := HIM.out; omega, RD.out.close, HSAFE.out⟩
                    case measure => simp [intOf]; have := HIM.out; omega
                  | true =>
                    have HDN := Lib.hid hdn
                    have HFULL := Lib.hid (HFU.out HDN.out)
                    clear hdn
                    go_wp2_with fail
                    refine (down_any _ p D2 _ RD.out.dk).mono ?_
                    rintro e z24 ⟨rfl, hq⟩
                    obtain rfl := hq
                    rw [HDN.out]
                    go_wp2_with fail
                    refine (start_any _ p D2 _ RD.out.dk).mono ?_
                    rintro e z25 ⟨rfl, h, f⟩
                    replace RD := Lib.hid (RD.out.call h f)
                    clear h f
                    go_wp2
                    have RD0 := RD
                    go_loopw [16] (fun vj wj => ∃ j : Nat, vj = .int .i64 (j : Int) ∧ j ≤ 8 ∧ Rd X E W w4 wj p gs D2.start (mix D2.text sf j)) (fun vj _ => 8 - (intOf vj).toNat)
                    case atStart => exact ⟨0, rfl, by omega, by rw [mix_zero]; exact RD.out⟩
                    case round =>
                      clear RD RD0
                      obtain ⟨j, rfl, hj8, hr⟩ := hrel
                      have RD := Lib.hid hr
                      clear hr
                      by_cases hlt8 : j < 8
                      · have hlt8I : (j : Int) < 8 := by omega
                        have HJ8 := Lib.hid hlt8
                        go_wp2_with fail
                        refine (Read_any _ p D2.start (j : Int) _ RD.out.dk).mono ?_
                        rintro e z26 ⟨rfl, h, f⟩
                        rw [start_read D2 HJ8.out]
                        replace RD := Lib.hid (RD.out.call h f)
                        clear h f
                        have t1 := RD.out.sb.c HJ8.out
                        have t2 := RD.out.sb.free j
                        rw [mix_at] at t1
                        have hp1 := (HSAFE.out.text HJ8.out)
                        have hp2 : (sf j).isPrefixOf (D2.text j) = true := List.isPrefixOf_iff_prefix.2 hp1
                        have HP2 := Lib.hid hp2
                        have RDP := RD.out.put j (D2.text j)
                        rw [mix_step] at RDP
                        have RD2 := Lib.hid RDP
                        clear hp1 hp2 RDP RD
                        generalize D2.text j = dt at *
                        generalize sf j = st at *
                        go_wp2_with fail
                        refine (begins_any dt st _).mono ?_
                        rintro e wq ⟨rfl, hq⟩
                        obtain rfl := hq
                        rw [HP2.out]
                        go_wp2
                        go_roundw
                        case rel => exact ⟨j + 1, by go_num, by have := HJ8.out; omega, RD2.out⟩
                        case measure => simp [intOf]; have := HJ8.out; omega
                      · have hge8 : ¬ (j : Int) < 8 := by omega
                        obtain rfl : j = 8 := by omega
                        go_wp2_with fail
                        refine (Crash_any _ p D2.start [] none 0 0 rfl (fun x hx => by cases hx) _ (Rz.nil _ _ _) RD.out.dk).mono ?_
                        rintro e z27 ⟨rfl, h, f⟩
                        replace RD := Lib.hid (RD.out.call h f)
                        clear h f
                        replace RD := Lib.hid (RD.out.congr (sf' := D2.text) (fun q hq => (mix_all _ _ hq).symm))
                        go_wp2
                        go_roundw
                        case rel => exact ⟨i + 1, (D2.start.Crash []), D2.text, by go_num, by have := HIM.out; omega, RD.out.close, again_safe HFULL.out⟩
                        case measure => simp [intOf]; have := HIM.out; omega
        | true =>
          have HUP := Lib.hid hup
          clear hup
          go_wp2_with (first | (refine wpList_load_part rfl 30 _ rfl (ad.add (i * 6)) rfl b.cells _ HC.out Try.underlying30 rfl infoAct ?_) | (refine wpList_store_row rfl 30 _ _ rfl wr.heap.size _ rfl rfl 30 _ (heap_alloc_new wr _) infoAct rfl b.one ?_))
          go_wp2_with fail
          have hloc := RD.out.local_ #[.int .i64 0, .int .i64 0, .int .i64 0, .int .i64 0, .string ⟨#[]⟩, .slice none 0 0] b
          obtain ⟨w4, hw4⟩ : ∃ w4, w4 = (wr.alloc (.cells #[.int .i64 0, .int .i64 0, .int .i64 0, .int .i64 0, .string ⟨#[]⟩, .slice none 0 0] 30)).setRow wr.heap.size b.cells.toArray := ⟨_, rfl⟩
          obtain ⟨ga, hga⟩ : ∃ ga, ga = wr.heap.size := ⟨_, rfl⟩
          rw [← hw4] at hloc ⊢
          rw [← hga] at hloc ⊢
          obtain ⟨hrd, hrow⟩ := hloc
          replace RD := Lib.hid hrd
          obtain ⟨E, hE⟩ : ∃ E, E = fun k => k = ga := ⟨_, rfl⟩
          rw [← hE] at RD
          have hEg : E ga := by rw [hE]
          have HROW := Lib.hid (fun wq (hq : Fr E w4 wq) => (hq.block ga hEg).trans hrow)
          have GA := Lib.hid (fun wq (hq : Fr E w4 wq) => (⟨by rw [cell_of_row _ _ _ _ _ _ (HROW.out wq hq)]; rfl, by rw [cell_of_row _ _ _ _ _ _ (HROW.out wq hq)]; rfl, by rw [cell_of_row _ _ _ _ _ _ (HROW.out wq hq)]; rfl, by rw [cell_of_row _ _ _ _ _ _ (HROW.out wq hq)]; rfl⟩ : wq.cell? ⟨ga, 0, none⟩ = some (.int .i64 b.Do) ∧ wq.cell? ⟨ga, 1, none⟩ = some (.int .i64 b.F) ∧ wq.cell? ⟨ga, 2, none⟩ = some (.int .i64 b.G) ∧ wq.cell? ⟨ga, 3, none⟩ = some (.int .i64 b.N)))
          clear hw4 hga hrd hrow hE hEg
          have HACT := Lib.hid (act_safe HOK.out HSF.out b)
          go_wp2_with fail
          refine (down_any _ p D _ RD.out.dk).mono ?_
          rintro e z34 ⟨rfl, hq⟩
          obtain rfl := hq
          rw [HUP.out]
          go_wp2_with (refine wpList_load_row rfl 30 _ rfl ga rfl 30 _ (0, 0) _ (HROW.out _ RD.out.ef) Try.underlying30 rfl infoAct ?_)
          go_wp2_with fail
          refine (do_any _ p D b _ rfl HSB.out _ ((HIN.out.fr RD.out.fr).mono (fun k hk => .inl hk)) RD.out.dk).mono ?_
          rintro e z33 ⟨rfl, h, f⟩
          obtain ⟨D2, hD2⟩ : ∃ D2, D2 = (D.act b).2 := ⟨_, rfl⟩
          obtain ⟨ev, hev⟩ : ∃ ev, ev = (D.act b).1.2 := ⟨_, rfl⟩
          rw [← hD2] at h
          rw [← hev]
          generalize (D.act b).1.1 = es at *
          have HD2 := Lib.hid hD2
          have HEV := Lib.hid hev
          replace RD := Lib.hid (RD.out.call h f)
          clear h f hD2 hev
          obtain ⟨ga0, ga1, ga2, ga3⟩ := GA.out _ RD.out.ef
          go_wp2_with fail
          refine (pick_any b.Do _).mono ?_
          rintro e wq ⟨rfl, hq⟩
          obtain rfl := hq
          obtain ⟨kk, hkk⟩ : ∃ kk, kk = b.Do % 11 := ⟨_, rfl⟩
          rw [← hkk]
          have HKK := Lib.hid hkk
          have hok2 := RD.out.dk.ok
          have HOK2 := Lib.hid hok2
          clear hkk hok2
          by_cases he : ev = 0
          · subst he
            by_cases hk2 : kk = 2
            · subst hk2
              have h2 := (flush_safe HOK.out HSF.out b.F).2 (by have := HEV.out; rw [act_two HKK.out.symm] at this; exact this.symm)
              have e2 : D2 = (D.flush b.F).2 := by rw [HD2.out, act_two HKK.out.symm]
              rw [← e2] at h2
              obtain ⟨hf, hdd, hdn, hsafe⟩ := h2
              exact absurd (HUP.out.symm.trans hdd) (by decide)
            · by_cases hk3 : kk = 3
              · subst hk3
                have h2 := (cut_safe HOK.out HSF.out b.F b.N).2 (by have := HEV.out; rw [act_three HKK.out.symm] at this; exact this.symm)
                have e2 : D2 = (D.cut b.F b.N).2 := by rw [HD2.out, act_three HKK.out.symm]
                rw [← e2] at h2
                obtain ⟨hf, hn0, hdd, hdn, hsafe⟩ := h2
                exact absurd (HUP.out.symm.trans hdd) (by decide)
              · by_cases hk4 : kk = 4
                · subst hk4
                  have h2 := (turn_safe HOK.out HSF.out b.F b.G).2 (by have := HEV.out; rw [act_four HKK.out.symm] at this; exact this.symm)
                  have e2 : D2 = (D.turn b.F b.G).2 := by rw [HD2.out, act_four HKK.out.symm]
                  rw [← e2] at h2
                  obtain ⟨hf, hg, hdd, hdn, hsafe⟩ := h2
                  exact absurd (HUP.out.symm.trans hdd) (by decide)
                · have q2 : (kk == 2) = false := by simpa using hk2
                  have q3 : (kk == 3) = false := by simpa using hk3
                  have q4 : (kk == 4) = false := by simpa using hk4
                  have HNO := Lib.hid (show (kk = 2 ∨ kk = 3 ∨ kk = 4) → (0 : Int) ≠ 0 from fun h => by rcases h with h | h | h; exact absurd h hk2; exact absurd h hk3; exact absurd h hk4)
                  clear hk2 hk3 hk4
                  have hact := HACT.out (by rw [← HKK.out, ← HEV.out]; exact HNO.out)
                  rw [← HD2.out] at hact
                  have HSAFE := Lib.hid hact.1
                  clear hact
                  go_wp2
                  go_quiet (fail)
                  generalize hwn : World.drewN _ _ = wn
                  replace RD := Lib.hid (show Rd X E W w4 wn p gs D2 sf by rw [← hwn]; exact RD.out.drewN _)
                  clear hwn
                  go_wp2
                  go_roundw
                  case rel => exact ⟨i + 1, D2, sf, by go_num, by have := HIM.out; omega, RD.out.close, HSAFE.out⟩
                  case measure => simp [intOf]; have := HIM.out; omega
          · have qe : (ev == 0) = false := by simpa using he
            have HNO := Lib.hid (show (kk = 2 ∨ kk = 3 ∨ kk = 4) → ev ≠ 0 from fun _ => he)
            clear he
            by_cases hk2 : kk = 2
            · subst hk2
              have hact := HACT.out (by rw [← HKK.out, ← HEV.out]; exact HNO.out)
              rw [← HD2.out] at hact
              have HSAFE := Lib.hid hact.1
              clear hact
              go_wp2
              go_quiet (fail)
              generalize hwn : World.drewN _ _ = wn
              replace RD := Lib.hid (show Rd X E W w4 wn p gs D2 sf by rw [← hwn]; exact RD.out.drewN _)
              clear hwn
              go_wp2
              go_roundw
              case rel => exact ⟨i + 1, D2, sf, by go_num, by have := HIM.out; omega, RD.out.close, HSAFE.out⟩
              case measure => simp [intOf]; have := HIM.out; omega
            · by_cases hk3 : kk = 3
              · subst hk3
                have hact := HACT.out (by rw [← HKK.out, ← HEV.out]; exact HNO.out)
                rw [← HD2.out] at hact
                have HSAFE := Lib.hid hact.1
                clear hact
                go_wp2
                go_quiet (fail)
                generalize hwn : World.drewN _ _ = wn
                replace RD := Lib.hid (show Rd X E W w4 wn p gs D2 sf by rw [← hwn]; exact RD.out.drewN _)
                clear hwn
                go_wp2
                go_roundw
                case rel => exact ⟨i + 1, D2, sf, by go_num, by have := HIM.out; omega, RD.out.close, HSAFE.out⟩
                case measure => simp [intOf]; have := HIM.out; omega
              · by_cases hk4 : kk = 4
                · subst hk4
                  have hact := HACT.out (by rw [← HKK.out, ← HEV.out]; exact HNO.out)
                  rw [← HD2.out] at hact
                  have HSAFE := Lib.hid hact.1
                  clear hact
                  go_wp2
                  go_quiet (fail)
                  generalize hwn : World.drewN _ _ = wn
                  replace RD := Lib.hid (show Rd X E W w4 wn p gs D2 sf by rw [← hwn]; exact RD.out.drewN _)
                  clear hwn
                  go_wp2
                  go_roundw
                  case rel => exact ⟨i + 1, D2, sf, by go_num, by have := HIM.out; omega, RD.out.close, HSAFE.out⟩
                  case measure => simp [intOf]; have := HIM.out; omega
                · have q2 : (kk == 2) = false := by simpa using hk2
                  have q3 : (kk == 3) = false := by simpa using hk3
                  have q4 : (kk == 4) = false := by simpa using hk4
                  clear hk2 hk3 hk4
                  have hact := HACT.out (by rw [← HKK.out, ← HEV.out]; exact HNO.out)
                  rw [← HD2.out] at hact
                  have HSAFE := Lib.hid hact.1
                  clear hact
                  go_wp2
                  go_quiet (fail)
                  generalize hwn : World.drewN _ _ = wn
                  replace RD := Lib.hid (show Rd X E W w4 wn p gs D2 sf by rw [← hwn]; exact RD.out.drewN _)
                  clear hwn
                  go_wp2
                  go_roundw
                  case rel => exact ⟨i + 1, D2, sf, by go_num, by have := HIM.out; omega, RD.out.close, HSAFE.out⟩
                  case measure => simp [intOf]; have := HIM.out; omega
      · have hge : ¬ (i : Int) < m := by omega
        go_wp2_with fail
        refine (Arm_any _ p D 0 (by unfold isI; omega) [] none 0 0 rfl (fun x hx => by cases hx) _ (Rz.nil _ _ _) RD.out.dk).mono ?_
        rintro e z35 ⟨rfl, h, f⟩
        replace RD := Lib.hid (RD.out.call h f)
        clear h f
        have HSA := Lib.hid (show Safe (D.arm 0 []) sf from HSF.out)
        generalize D.arm 0 [] = DA at *
        go_wp2_with fail
        refine (start_any _ p DA _ RD.out.dk).mono ?_
        rintro e z36 ⟨rfl, h, f⟩
        replace RD := Lib.hid (RD.out.call h f)
        clear h f
        go_wp2_with (rw [mk8])
        go_wp2
        have hbw : Below z36.heap.size z36 (z36.alloc (.cells (SV fun _ => []).toArray 9)) := (Below.refl _ _).alloc (Nat.le_refl _) _
        have hopen := RD.out.open_ (E' := fun k => k = z36.heap.size) hbw (fun k hk => ⟨by omega, by simp only [World.size_alloc]; omega⟩)
        have hwb : Sb (z36.alloc (.cells (SV fun _ => []).toArray 9)) z36.heap.size (fun _ => []) := ⟨heap_alloc_new z36 _⟩
        have hgx : ¬ X z36.heap.size := fun hx => by have := RD.out.dk.lt _ (.inl hx); omega
        obtain ⟨gw, hgw⟩ : ∃ gw, gw = z36.heap.size := ⟨_, rfl⟩
        rw [← hgw] at hopen hwb hgx ⊢
        obtain ⟨E, hE⟩ : ∃ E, E = fun k => k = gw := ⟨_, rfl⟩
        rw [← hE] at hopen
        have HEG := Lib.hid (show E gw by rw [hE])
        have HGX := Lib.hid hgx
        replace RD := Lib.hid hopen
        have WB := Lib.hid hwb
        clear hbw hopen hwb hgx hgw hE
        go_loopw [20] (fun vj wj => ∃ (j : Nat) (V : World), vj = .int .i64 (j : Int) ∧ j ≤ 8 ∧ Rd X E W V wj p gs DA.start sf ∧ Sb wj gw (mix DA.text (fun _ => []) j)) (fun vj _ => 8 - (intOf vj).toNat)
        case atStart => exact ⟨0, _, rfl, by omega, RD.out, by rw [mix_zero]; exact WB.out⟩
        case round =>
          clear RD WB
          obtain ⟨j, V, rfl, hj8, hr, hb⟩ := hrel
          have RD := Lib.hid hr
          have WB := Lib.hid hb
          clear hr hb
          by_cases hlt8 : j < 8
          · have hlt8I : (j : Int) < 8 := by omega
            have HJ8 := Lib.hid hlt8
            go_wp2_with fail
            refine (Read_any _ p DA.start (j : Int) _ RD.out.dk).mono ?_
            rintro e z37 ⟨rfl, h, f⟩
            rw [start_read DA HJ8.out]
            replace RD := Lib.hid (RD.out.call h f)
            replace WB := Lib.hid (WB.out.keep (f.block gw (.inr (.inr HEG.out))))
            clear h f
            have t1 := WB.out.c HJ8.out
            have t2 := WB.out.free j
            have RD2 := Lib.hid (RD.out.outer HEG.out HGX.out j (.string (S2.B (DA.text j))))
            have wb2 := WB.out.put j (DA.text j)
            rw [mix_step] at wb2
            have WB2 := Lib.hid wb2
            clear wb2 WB RD
            rw [mix_at] at t1
            generalize DA.text j = dt at *
            go_wp2
            go_roundw
            case rel => exact ⟨j + 1, _, by go_num, by have := HJ8.out; omega, RD2.out, WB2.out⟩
            case measure => simp [intOf]; have := HJ8.out; omega
          · have hge8 : ¬ (j : Int) < 8 := by omega
            obtain rfl : j = 8 := by omega
            have hrz := (RZ.out.fr RD.out.fr).mono (Y := fun k => X k ∨ k = gs ∨ E k) (fun k hk => .inl hk)
            have HRZ := Lib.hid hrz
            clear hrz
            have hsafe2 : ∀ q, q < 8 → sf q <+: (DA.start.Crash ks).text q := by
              intro q hq
              have h1 := crash_safe (start_ok RD.out.dk.ok) (show Safe DA.start.start sf from HSA.out) (kof ks)
              exact h1.text hq
            have HS2 := Lib.hid hsafe2
            have HP2 := Lib.hid (fun q => crash_prefix DA.start ks q)
            clear hsafe2
            go_wp2_with fail
            refine (Crash_any _ p DA.start ks A3 n3 c3 HN.out HK.out _ HRZ.out RD.out.dk).mono ?_
            rintro e z38 ⟨rfl, h, f⟩
            replace RD := Lib.hid (RD.out.call h f)
            replace WB := Lib.hid (WB.out.keep (f.block gw (.inr (.inr HEG.out))))
            clear h f
            generalize DA.start.Crash ks = D2 at *
            go_wp2_with fail
            refine (start_any _ p D2 _ RD.out.dk).mono ?_
            rintro e z39 ⟨rfl, h, f⟩
            replace RD := Lib.hid (RD.out.call h f)
            replace WB := Lib.hid (WB.out.keep (f.block gw (.inr (.inr HEG.out))))
            clear h f
            go_wp2
            go_loopw [23] (fun vq wq => ∃ q : Nat, vq = .int .i64 (q : Int) ∧ q ≤ 8 ∧ Rd X E W V wq p gs D2.start sf ∧ Sb wq gw (mix DA.text (fun _ => []) 8)) (fun vq _ => 8 - (intOf vq).toNat)
            case atStart => exact ⟨0, rfl, by omega, RD.out, WB.out⟩
            case round =>
              clear RD WB
              obtain ⟨q, rfl, hq8, hr, hb⟩ := hrel
              have RD := Lib.hid hr
              have WB := Lib.hid hb
              clear hr hb
              by_cases hltq : q < 8
              · have hltqI : (q : Int) < 8 := by omega
                have HQ8 := Lib.hid hltq
                go_wp2_with fail
                refine (Read_any _ p D2.start (q : Int) _ RD.out.dk).mono ?_
                rintro e z40 ⟨rfl, h, f⟩
                rw [start_read D2 HQ8.out]
                replace RD := Lib.hid (RD.out.call h f)
                replace WB := Lib.hid (WB.out.keep (f.block gw (.inr (.inr HEG.out))))
                clear h f
                have t1 := RD.out.sb.c HQ8.out
                have t2 := WB.out.c HQ8.out
                rw [mix_all _ _ HQ8.out] at t2
                have p1 : (sf q).isPrefixOf (D2.text q) = true := List.isPrefixOf_iff_prefix.2 (HS2.out q HQ8.out)
                have p2 : (D2.text q).isPrefixOf (DA.text q) = true := List.isPrefixOf_iff_prefix.2 (HP2.out q)
                generalize D2.text q = dt at *
                generalize DA.text q = da at *
                generalize sf q = st at *
                have P1 := Lib.hid p1
                have P2 := Lib.hid p2
                clear p1 p2
                go_wp2_with fail
                refine (begins_any dt st _).mono ?_
                rintro e wq ⟨rfl, hq⟩
                obtain rfl := hq
                rw [P1.out]
                go_wp2_with fail
                refine (begins_any da dt _).mono ?_
                rintro e wq ⟨rfl, hq⟩
                obtain rfl := hq
                rw [P2.out]
                go_wp2
                go_roundw
                case rel => exact ⟨q + 1, by go_num, by have := HQ8.out; omega, RD.out, WB.out⟩
                case measure => simp [intOf]; have := HQ8.out; omega
              · have hgeq : ¬ (q : Int) < 8 := by omega
                go_wp2
                go_ret
                exact ⟨rfl, RD.out.fr.below (fun k hk => by rw [HX.out]; exact hk)⟩
end Dk
end Go.Proofs.Ytbappmnaaeihfaa
