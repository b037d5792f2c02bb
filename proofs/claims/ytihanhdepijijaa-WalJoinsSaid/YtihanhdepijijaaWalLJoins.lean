/-
  Layer 10: WalJoins' walk.
-/
import Derived.Test.YtihanhdepijijaaWalAppG
import Derived.Test.YtihanhdepijijaaWalTornM
import Derived.Test.YtihanhdepijijaaWalSmall
namespace Go.Proofs.Ytihanhdepijijaa
open Go.RowKit
namespace Wl
open S9.Dk (Dk Fr MD By isI)
attribute [local go_sem] S2.B_size S2.B_list S2.B_take S2.B_app
/-- What the machine of the law goes through. -/
structure Join (l m : List Str) (D2 D3 : MD) : Prop where
  open_ : lopen c4 (MD.new.put 0 (records c4 l)) 0 = ((some l, 0), D2)
  rew : lrew c4 D2 0 l m = (0, m, D3)
  app : lapp c4 D3 0 m [101, 110, 100] = (0, m ++ [[101, 110, 100]], D3.put 0 (record c4 [101, 110, 100]))
  read : (D3.put 0 (record c4 [101, 110, 100])).read 0 = (records c4 (m ++ [[101, 110, 100]]), 0)
  size : (D3.put 0 (record c4 [101, 110, 100])).size 1 = 0
theorem join (l m : List Str) (hl : ∀ s ∈ l, okRow s) (hm : ∀ s ∈ m, okRow s) (h1 : (records c4 m).length ≤ 1000000) : ∃ D2 D3, Join l m D2 D3 := by
  obtain ⟨D2, e2, p2⟩ := peace_open (MD.new.put 0 (records c4 l)) 0 (put_calm new_calm 0 _) (by omega) (fi := 0) rfl
  have ht : (MD.new.put 0 (records c4 l)).text 0 = records c4 l := put_text _ _ _
  rw [ht, rows_whole c4_len hl] at e2 p2
  obtain ⟨D3, e3, p3⟩ := lrew_calm (R := l) p2.calm (f := 0) (by omega) hm (show (records c4 m).length ≤ 16777216 by omega)
  have he : (record c4 [101, 110, 100]).length ≤ 16 := record_le _
  have e4 := lapp0 (fi := 0) (f := 0) rfl p3.calm (by omega) p3.text (show okRow [101, 110, 100] by unfold okRow; simp) (show (records c4 m).length + (record c4 [101, 110, 100]).length ≤ 16777216 by omega)
  refine ⟨D2, D3, e2, e3, e4, ?_, ?_⟩
  · rw [read0 (put_calm p3.calm 0 _), put_text, p3.text, records_append, records_one]
  · have hs := Calm.size (D := D3.put 0 (record c4 [101, 110, 100])) (g := 1) (by omega)
    have ht1 : (D3.put 0 (record c4 [101, 110, 100])).text 1 = D3.text 1 := S9.Dk.upd_other D3.text (i := 0) (j := 1) (D3.text 0 ++ record c4 [101, 110, 100]) (by decide)
    rw [ht1, p3.next] at hs
    exact hs
set_option maxHeartbeats 4000000 in
set_option maxRecDepth 100000 in
theorem joins_walk (l : List Str) (Al : Option Addr) (nl cl : Nat) (hnl : nl = l.length) (hnl2 : nl ≤ 140737488355328) (hll : ∀ s ∈ l, s.length ≤ 281474976710656) (m : List Str) (Am : Option Addr) (nm cm : Nat) (hnm : nm = m.length) (hnm2 : nm ≤ 140737488355328) (hlm : ∀ s ∈ m, s.length ≤ 281474976710656)
    (w : World) (hrl : Rx (fun k => k < w.heap.size) w Al l) (hrm : Rx (fun k => k < w.heap.size) w Am m) :
    Calls Try.prog 5 #[.slice Al nl cl, .slice Am nm cm] w fun e w' => e = .returned (.bool true) ∧ Below w.heap.size w w' := by
  obtain ⟨X0, hX0⟩ : ∃ X0 : Nat → Prop, X0 = fun k => k < w.heap.size := ⟨_, rfl⟩
  rw [← hX0] at hrl hrm
  have HX0 := Lib.hid (show ∀ k, k < w.heap.size → X0 k from fun k hk => by rw [hX0]; exact hk)
  have C := Lib.hid (show Ca X0 X0 w w by rw [hX0]; exact Ca.start w)
  have Rl := Lib.hid hrl
  have Rm := Lib.hid hrm
  have Nl := Lib.hid hnl
  have Nm := Lib.hid hnm
  have KS := Lib.hid (small_any w)
  have KBl := Lib.hid fun w (hr : S2.Row w w.heap.size Al (S2.Ss l)) => bytes_any Al l nl cl w hnl hr hnl2 hll
  have KBm := Lib.hid fun w (hr : S2.Row w w.heap.size Am (S2.Ss m)) => bytes_any Am m nm cm w hnm hr hnm2 hlm
  obtain ⟨bl, hbl⟩ : ∃ bl, bl = bytesV l := ⟨_, rfl⟩
  obtain ⟨bm, hbm⟩ : ∃ bm, bm = bytesV m := ⟨_, rfl⟩
  rw [← hbl] at KBl
  rw [← hbm] at KBm
  have HBl := Lib.hid hbl
  have HBm := Lib.hid hbm
  clear hrl hrm hnl hnm hbl hbm hll hlm hnl2 hnm2 hX0
  by_cases h1 : 1500 < bl
  · have h1' : (1500 : Int) < (bl : Int) := by omega
    clear h1
    go_enter Try.func5, Try.ntmps5
    go_wp2_with fail
    refine (KS.out).mono ?_
    rintro e w1 ⟨rfl, hb⟩
    have fb := Fr.of_below hb C.out.lt
    replace C := Lib.hid (C.out.next fb)
    replace Rl := Lib.hid (Rl.out.fr fb)
    replace Rm := Lib.hid (Rm.out.fr fb)
    clear fb
    clear hb
    go_wp2_with fail
    refine (KBl.out _ (Rl.out.row C.out.lt)).mono ?_
    rintro e wz ⟨rfl, rfl⟩
    clear KS KBl KBm
    go_wp2
    go_ret
    exact ⟨rfl, C.out.end_ HX0.out⟩
  have h1' : ¬ (1500 : Int) < (bl : Int) := by omega
  by_cases h2 : 1500 < bm
  · have h2' : (1500 : Int) < (bm : Int) := by omega
    clear h1 h2
    go_enter Try.func5, Try.ntmps5
    go_wp2_with fail
    refine (KS.out).mono ?_
    rintro e w1 ⟨rfl, hb⟩
    have fb := Fr.of_below hb C.out.lt
    replace C := Lib.hid (C.out.next fb)
    replace Rl := Lib.hid (Rl.out.fr fb)
    replace Rm := Lib.hid (Rm.out.fr fb)
    clear fb
    clear hb
    go_wp2_with fail
    refine (KBl.out _ (Rl.out.row C.out.lt)).mono ?_
    rintro e wz ⟨rfl, rfl⟩
    go_wp2_with fail
    refine (KBm.out _ (Rm.out.row C.out.lt)).mono ?_
    rintro e wz ⟨rfl, rfl⟩
    clear KS KBl KBm
    go_wp2
    go_ret
    exact ⟨rfl, C.out.end_ HX0.out⟩
  have h2' : ¬ (1500 : Int) < (bm : Int) := by omega
  obtain ⟨cl1, sl⟩ := bytes_small (l := l) (by rw [← HBl.out]; omega)
  obtain ⟨cm1, sm⟩ := bytes_small (l := m) (by rw [← HBm.out]; omega)
  have KF1 := Lib.hid fun w (hr : S2.Row w w.heap.size Al (S2.Ss l)) => file_any Al nl cl l w hr Nl.out (by rw [Nl.out]; omega) sl
  have KF2 := Lib.hid fun w (hr : S2.Row w w.heap.size Am (S2.Ss m)) => file_any Am nm cm m w hr Nm.out (by rw [Nm.out]; omega) sm
  have KF3 := Lib.hid fun A n c w (hr : S2.Row w w.heap.size A (S2.Ss (l ++ m))) (hn : n = (l ++ m).length) => file_any A n c (l ++ m) w hr hn (by rw [hn, List.length_append]; omega) (fun s hs => (List.mem_append.1 hs).elim (sl s) (sm s))
  have ln1 := records_le sl
  have ln2 := records_le sm
  have len1 : (records c4 l).length ≤ 45390 := by have : l.length * (1500 + 13) ≤ 30 * 1513 := Nat.mul_le_mul cl1 (by omega); omega
  have len2 : (records c4 m).length ≤ 45390 := by have : m.length * (1500 + 13) ≤ 30 * 1513 := Nat.mul_le_mul cm1 (by omega); omega
  obtain ⟨D2, D3, hj⟩ := join l m (okRows sl) (okRows sm) (by omega)
  have hE : ∀ s ∈ m ++ [[101, 110, 100]], okRow s := fun s hs => (List.mem_append.1 hs).elim (okRows sm s) (fun h => by rw [List.mem_singleton.1 h]; unfold okRow; simp)
  have he16 : (record c4 [101, 110, 100]).length ≤ 16 := record_le _
  have hEl : (records c4 (m ++ [[101, 110, 100]])).length = (records c4 m).length + (record c4 [101, 110, 100]).length := by rw [records_append, records_one, List.length_append]
  have htk : (records c4 (m ++ [[101, 110, 100]])).take (records c4 m).length = records c4 m := by rw [records_append, List.take_left]
  have KR := fun w => rows_any (records c4 (m ++ [[101, 110, 100]])) w (by omega)
  rw [rows_whole c4_len hE] at KR
  obtain ⟨j1, j2, j3, j4, j5⟩ := hj
  have happ : MD.new.app 0 (records c4 l) = (0, MD.new.put 0 (records c4 l)) := new_calm.app (g := 0) (by omega) (by show 0 + _ ≤ _; omega)
  have e12 := records_append (c4 := c4) l m
  rw [e12] at KF3
  obtain ⟨a, ha⟩ : ∃ a, a = records c4 l := ⟨_, rfl⟩
  obtain ⟨b, hb⟩ : ∃ b, b = records c4 m := ⟨_, rfl⟩
  obtain ⟨now, hnow⟩ : ∃ q, q = records c4 (m ++ [[101, 110, 100]]) := ⟨_, rfl⟩
  have sml : ∀ s ∈ m, s.length ≤ 281474976710656 := fun s hs => Nat.le_trans (sm s hs) (by decide)
  have HLM := Lib.hid (show (records c4 m).length ≤ 1000000000 by omega)
  rw [← ha] at KF1 KF3 j1 happ len1
  rw [← hb] at KF2 KF3 hEl htk
  rw [← hnow] at KR j4 hEl htk
  have HA := Lib.hid len1
  have haI : (a.length : Int) ≤ 45390 := by omega
  have hnl : (b.length : Int) ≤ (now.length : Int) := by omega
  have hnl2 : (now.length : Int) ≤ 100000 := by rw [← hb] at len2; omega
  have hbI : (b.length : Int) ≤ 100000 := by rw [← hb] at len2; omega
  have hnb : b.length ≤ now.length := by omega
  have J1 := Lib.hid j1
  have J2 := Lib.hid j2
  have J3 := Lib.hid j3
  have J4 := Lib.hid j4
  have J5 := Lib.hid j5
  have HAPP := Lib.hid happ
  have HKR := Lib.hid KR
  have HSM := Lib.hid sml
  have C1 := Lib.hid cl1
  have C2 := Lib.hid cm1
  have SAME := Lib.hid (show same (m ++ [[101, 110, 100]]) (m ++ [[101, 110, 100]]) = true from decide_eq_true rfl)
  clear cl1 cm1 sl sm ln1 ln2 len1 len2 hE he16 hEl KR j1 j2 j3 j4 j5 happ e12 ha hb hnow sml h1 h2
  go_enter Try.func5, Try.ntmps5
  go_wp2_with fail
  refine (KS.out).mono ?_
  rintro e w1 ⟨rfl, hb⟩
  have fb := Fr.of_below hb C.out.lt
  replace C := Lib.hid (C.out.next fb)
  replace Rl := Lib.hid (Rl.out.fr fb)
  replace Rm := Lib.hid (Rm.out.fr fb)
  clear fb
  clear hb
  go_wp2_with fail
  refine (KBl.out _ (Rl.out.row C.out.lt)).mono ?_
  rintro e wz ⟨rfl, rfl⟩
  go_wp2_with fail
  refine (KBm.out _ (Rm.out.row C.out.lt)).mono ?_
  rintro e wz ⟨rfl, rfl⟩
  clear KS KBl KBm
  go_wp2_with fail
  refine (KF1.out _ (Rl.out.row C.out.lt)).mono ?_
  rintro e w2 ⟨rfl, hb⟩
  have fb := Fr.of_below hb C.out.lt
  replace C := Lib.hid (C.out.next fb)
  replace Rl := Lib.hid (Rl.out.fr fb)
  replace Rm := Lib.hid (Rm.out.fr fb)
  clear fb
  clear hb
  clear KF1
  go_wp2_with fail
  refine (KF2.out _ (Rm.out.row C.out.lt)).mono ?_
  rintro e w3 ⟨rfl, hb⟩
  have fb := Fr.of_below hb C.out.lt
  replace C := Lib.hid (C.out.next fb)
  replace Rl := Lib.hid (Rl.out.fr fb)
  replace Rm := Lib.hid (Rm.out.fr fb)
  clear fb
  clear hb
  clear KF2
  have hb0 := alloc_below w3 (.cells #[] 9)
  have fb0 := Fr.of_below hb0 C.out.lt
  have NW := Lib.hid (New.made w3)
  have SRC := Lib.hid (((Rl).out.fr fb0).row (C.out.next fb0).lt)
  have BB := Lib.hid hb0
  clear fb0 hb0
  go_wp2_with (at_builtin; refine wpList_app (lo := []) (ln := l) rfl _ _ rfl NW.out.own SRC.out rfl rfl Nl.out (by have := C1.out; have := C2.out; simp; omega) ?_)
  intro v1 w4 ho hg hpl
  replace ho : Own w4 v1 (l) := ho
  have hq := NW.out.app ho hg (by first | exact hpl | (rw [World.size_alloc]; exact hpl))
  replace NW := Lib.hid hq.1
  replace BB := Lib.hid (BB.out.trans hq.2)
  obtain ⟨A1, n1, c1, rfl, hn1, hc1⟩ := ho.sl
  clear ho hg hpl hq hc1 SRC hn1
  have SRC := Lib.hid (((Rm).out.fr (Fr.of_below BB.out C.out.lt)).row (C.out.below BB.out).lt)
  go_wp2_with (at_builtin; refine wpList_app (lo := l) (ln := m) rfl _ _ rfl NW.out.own SRC.out rfl rfl Nm.out (by have := C1.out; have := C2.out; simp; omega) ?_)
  intro v2 w5 ho hg hpl
  have hq := NW.out.app ho hg (by first | exact hpl | (rw [World.size_alloc]; exact hpl))
  have hb : Below w3.heap.size w3 w5 := BB.out.trans hq.2
  obtain ⟨A2, n2, c2, rfl, hn2, hc2⟩ := ho.sl
  have ROW := Lib.hid (ho.row hn2)
  have NN := Lib.hid hn2
  clear ho hg hpl hq hc2 SRC BB NW hn2
  have fb := Fr.of_below hb C.out.lt
  replace C := Lib.hid (C.out.next fb)
  replace Rl := Lib.hid (Rl.out.fr fb)
  replace Rm := Lib.hid (Rm.out.fr fb)
  clear fb
  clear hb
  go_wp2_with fail
  refine (KF3.out A2 n2 c2 _ ROW.out NN.out).mono ?_
  rintro e w6 ⟨rfl, hb⟩
  have fb := Fr.of_below hb C.out.lt
  replace C := Lib.hid (C.out.next fb)
  replace Rl := Lib.hid (Rl.out.fr fb)
  replace Rm := Lib.hid (Rm.out.fr fb)
  clear fb
  clear hb
  clear KF3 ROW NN
  go_wp2_with fail
  refine (S9.Dk.New_any _).mono ?_
  rintro e w7 ⟨rfl, h, hb⟩
  have L := Lib.hid (show Dk X0 w7 w6.heap.size MD.new from h.weaken fun k hk => C.out.lt k hk)
  have fb := Fr.of_below hb C.out.lt
  replace C := Lib.hid (C.out.next fb)
  replace Rl := Lib.hid (Rl.out.fr fb)
  replace Rm := Lib.hid (Rm.out.fr fb)
  clear fb
  obtain ⟨p, hp⟩ : ∃ p, p = w6.heap.size := ⟨_, rfl⟩
  rw [← hp] at L ⊢
  clear h hb hp
  go_wp2_with fail
  refine (S9.Dk.Append_any X0 p MD.new 0 a (by have := HA.out; omega) _ L.out).mono ?_
  rintro e w8 ⟨rfl, h, f⟩
  rw [HAPP.out] at h ⊢
  replace L := Lib.hid h
  replace C := Lib.hid (C.out.next f)
  replace Rl := Lib.hid (Rl.out.fr f)
  replace Rm := Lib.hid (Rm.out.fr f)
  clear h f HAPP HA
  go_wp2_with fail
  refine (Open_ok (f := 0) L.out J1.out).mono ?_
  rintro e w9 ⟨x, rfl, h, f⟩
  replace L := Lib.hid h
  replace C := Lib.hid (C.out.next f)
  replace Rl := Lib.hid (Rl.out.fr f)
  replace Rm := Lib.hid (Rm.out.fr f)
  clear h f J1
  go_wp2_with fail
  refine (Rewrite_any X0 x p 0 l D2 Am nm cm m _ L.out (by decide) Rm.out Nm.out (by rw [Nm.out]; have := C2.out; omega) HSM.out HLM.out).mono ?_
  rintro e w10 ⟨rfl, h, f⟩
  rw [J2.out] at h ⊢
  replace L := Lib.hid h
  replace C := Lib.hid (C.out.next f)
  replace Rl := Lib.hid (Rl.out.fr f)
  replace Rm := Lib.hid (Rm.out.fr f)
  clear h f J2
  go_wp2_with fail
  refine (Append_any X0 x p 0 m D3 [101, 110, 100] _ L.out (by have := C2.out; omega) (by decide)).mono ?_
  rintro e w11 ⟨rfl, h, f⟩
  rw [J3.out] at h ⊢
  replace L := Lib.hid h.drop
  replace C := Lib.hid (C.out.next f)
  replace Rl := Lib.hid (Rl.out.fr f)
  replace Rm := Lib.hid (Rm.out.fr f)
  clear h f J3
  go_wp2_with fail
  refine (S9.Dk.Read_any X0 p _ 0 _ L.out).mono ?_
  rintro e w12 ⟨rfl, h, f⟩
  rw [J4.out]
  replace L := Lib.hid h
  replace C := Lib.hid (C.out.next f)
  replace Rl := Lib.hid (Rl.out.fr f)
  replace Rm := Lib.hid (Rm.out.fr f)
  clear h f J4
  go_wp2_with fail
  refine (HKR.out _).mono ?_
  rintro e w13 ⟨Aq, nq, cq, rfl, hn, hc, hr, hb⟩
  replace L := Lib.hid (L.out.step hb)
  have fb := Fr.of_below hb C.out.lt
  replace C := Lib.hid (C.out.next fb)
  replace Rl := Lib.hid (Rl.out.fr fb)
  replace Rm := Lib.hid (Rm.out.fr fb)
  clear fb
  have Nq := Lib.hid hn
  have Rq := Lib.hid hr
  clear hn hc hr hb HKR
  go_wp2_with fail
  refine (S9.Dk.size_any X0 p _ 1 _ L.out).mono ?_
  rintro e wz ⟨rfl, rfl⟩
  rw [J5.out]
  clear J5
  replace L := Lib.hid trivial
  clear L
  have hb0 := alloc_below w13 (.cells #[] 9)
  have fb0 := Fr.of_below hb0 C.out.lt
  have NW := Lib.hid (New.made w13)
  have SRC := Lib.hid (((Rm).out.fr fb0).row (C.out.next fb0).lt)
  have BB := Lib.hid hb0
  clear fb0 hb0
  go_wp2_with (at_builtin; refine wpList_app_g (lo := []) (ln := m) rfl _ _ rfl NW.out.own SRC.out rfl rfl Nm.out (by have := C1.out; have := C2.out; simp; omega) ?_)
  intro v1 w14 ho hg hpl
  replace ho : Own w14 v1 (m) := ho
  have hq := NW.out.app ho hg (by first | exact hpl | (rw [World.size_alloc]; exact hpl))
  replace NW := Lib.hid hq.1
  replace BB := Lib.hid (BB.out.trans hq.2)
  obtain ⟨A1, n1, c1, rfl, hn1, hc1⟩ := ho.sl
  clear ho hg hpl hq hc1 SRC hn1
  have hb2 := alloc_below w14 (.cells (S2.Ss [[101, 110, 100]]).toArray 9)
  replace BB := Lib.hid (BB.out.trans (hb2.mono NW.out.le))
  replace NW := Lib.hid (NW.out.step hb2)
  have SRC := Lib.hid (row_lit w14 [[101, 110, 100]])
  clear hb2
  go_wp2_with (at_builtin; refine wpList_app_g (lo := m) (ln := [[101, 110, 100]]) rfl _ _ rfl NW.out.own SRC.out rfl rfl rfl (by have := C1.out; have := C2.out; simp; omega) ?_)
  intro v2 w15 ho hg hpl
  have hq := NW.out.app ho hg (by first | exact hpl | (rw [World.size_alloc]; exact hpl))
  have hb : Below w13.heap.size w13 w15 := BB.out.trans hq.2
  obtain ⟨A2, n2, c2, rfl, hn2, hc2⟩ := ho.sl
  have ROW := Lib.hid (ho.row hn2)
  have NN := Lib.hid hn2
  clear ho hg hpl hq hc2 SRC BB NW hn2
  have fb := Fr.of_below hb C.out.lt
  replace C := Lib.hid (C.out.next fb)
  replace Rl := Lib.hid (Rl.out.fr fb)
  replace Rm := Lib.hid (Rm.out.fr fb)
  clear fb
  replace Rq := Lib.hid ((Rq.out.below hb).more hb.size)
  clear hb
  go_wp2_with fail
  refine (same_any Aq A2 (m ++ [[101, 110, 100]]) (m ++ [[101, 110, 100]]) cq c2 nq n2 w15 Nq.out NN.out Rq.out ROW.out (by have := C2.out; rw [List.length_append]; simp; omega) (by have := C2.out; rw [List.length_append]; simp; omega)).mono ?_
  rintro e w16 ⟨rfl, hb⟩
  have fb := Fr.of_below hb C.out.lt
  replace C := Lib.hid (C.out.next fb)
  replace Rl := Lib.hid (Rl.out.fr fb)
  replace Rm := Lib.hid (Rm.out.fr fb)
  clear fb
  clear hb
  rw [SAME.out]
  go_wp2
  go_ret
  exact ⟨rfl, C.out.end_ HX0.out⟩
end Wl
end Go.Proofs.Ytihanhdepijijaa
