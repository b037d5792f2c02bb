/-
  Layer 3: the reference's next.
-/
import Derived.Test.YtcbhjagcfbinoaaDoorSumRefWordsAll
import Derived.Test.YtcbhjagcfbinoaaDoorSumAbs
namespace Go.Proofs.YtcbhjagcfbinoaaDoor.S3
open Go.RowKit Sha
attribute [local go_sem] B_size B_drop' B_take B_list B_app

theorem own_lit {w : World} {base : Nat} {l : List (BitVec 32)} (hb : base ≤ w.heap.size) (hl : l.length = 8) : (w.alloc (.cells (Ws l).toArray 44)).ownsRow base 44 1 (.slice (some ⟨w.heap.size, 0, none⟩) 8 8) 8 (Ws l) :=
  ⟨by rw [Ws_length, hl], .inr ⟨w.heap.size, 8, _, rfl, hb, heap_alloc_new w _, Nat.le_refl _, by unfold maxLen; omega, by simp [Ws_length, hl], by simp [Ws_length, hl, List.take_of_length_le]⟩⟩
theorem own_set {w : World} {base g n cap : Nat} {xs : List Value} (h : w.ownsRow base 44 1 (.slice (some ⟨g, 0, none⟩) n cap) n xs) (i : Nat) (x : Value) :
    (w.setCell ⟨g, i, none⟩ x).ownsRow base 44 1 (.slice (some ⟨g, 0, none⟩) n cap) n (xs.set i x) := by
  refine ⟨by rw [List.length_set]; exact h.1, ?_⟩
  rcases h.2 with ⟨hv, _⟩ | ⟨g', cap', cur, hv, hb, hg, hnc, hcm, hcs, ht⟩
  · cases hv
  · cases hv
    rw [setCell_eq_setRow w g i cur _ _ _ hg]
    refine .inr ⟨g, cap, _, rfl, hb, setRow_heap w g cur _ _ _ hg, hnc, hcm, by simpa using hcs, ?_⟩
    rw [Array.toList_setIfInBounds, List.take_set, ht]
theorem own_frozen {w : World} {base g n cap : Nat} {xs : List Value} (h : w.ownsRow base 44 1 (.slice (some ⟨g, 0, none⟩) n cap) n xs) (i : Nat) : w.frozen? ⟨g, i, none⟩ = false := by
  rcases h.2 with ⟨hv, _⟩ | ⟨g', cap', cur, hv, hb, hg, _⟩
  · cases hv
  · cases hv
    exact frozen_of_row _ _ _ _ _ hg
theorem own_lo {w : World} {base g n cap : Nat} {xs : List Value} (h : w.ownsRow base 44 1 (.slice (some ⟨g, 0, none⟩) n cap) n xs) : base ≤ g := (h.lt g rfl).1
theorem own_cap {w : World} {base g n cap : Nat} {xs : List Value} (h : w.ownsRow base 44 1 (.slice (some ⟨g, 0, none⟩) n cap) n xs) : n ≤ cap := by
  rcases h.2 with ⟨hv, _⟩ | ⟨g', cap', cur, hv, _, _, hnc, _⟩
  · cases hv
  · cases hv
    exact hnc
theorem own_cell {w : World} {base g n cap : Nat} {l : List (BitVec 32)} (h : w.ownsRow base 44 1 (.slice (some ⟨g, 0, none⟩) n cap) n (Ws l)) (hl : l.length = n) (j : Nat) (hj : j < n) : w.cell? ⟨g, j, none⟩ = some (.int .u32 ((l.getD j 0).toNat : Nat)) := by
  have hc := h.cells (g := g) rfl j (.int .u32 ((l.getD j 0).toNat : Nat)) (by rw [Ws, List.getElem?_map, List.getD_eq_getElem?_getD, List.getElem?_eq_getElem (by omega)]; rfl)
  have hadd : (⟨g, 0, none⟩ : Addr).add j = ⟨g, j, none⟩ := by unfold Addr.add; split <;> simp_all
  rwa [hadd] at hc
theorem own_base {w : World} {b1 b2 n : Nat} {v : Value} {xs : List Value} (h : w.ownsRow b2 44 1 v n xs) (hb : b1 ≤ b2) : w.ownsRow b1 44 1 v n xs := by
  refine ⟨h.1, ?_⟩
  rcases h.2 with hn | ⟨g, cap, cur, hv, hg, rest⟩
  · exact .inl hn
  · exact .inr ⟨g, cap, cur, hv, Nat.le_trans hb hg, rest⟩
theorem getD_mid (z vs : List (BitVec 32)) (k : Nat) (hz : z.length = 8) (_ : vs.length = 8) (hk : k < 8) : (z.take k ++ vs.drop k).getD k 0 = vs.getD k 0 := by
  have hl : (z.take k).length = k := by rw [List.length_take]; omega
  rw [List.getD_eq_getElem?_getD, List.getElem?_append_right (by omega), hl, Nat.sub_self, List.getElem?_drop, Nat.add_zero, ← List.getD_eq_getElem?_getD]
theorem mixl_set (z vs : List (BitVec 32)) (k : Nat) (hz : z.length = 8) (hv : vs.length = 8) (hk : k < 8) :
    (Ws (z.take k ++ vs.drop k)).set k (Value.int .u32 ((z.getD k 0).toNat : Nat)) = Ws (z.take (k + 1) ++ vs.drop (k + 1)) := by
  have h := congrArg Array.toList (mix_set z vs k hz hv hk)
  simpa [mix] using h
theorem ws_cells {w : World} {g : Nat} {hs : List (BitVec 32)} (h : ∀ j, j < 8 → w.cell? ⟨g, j, none⟩ = some (.int .u32 ((hs.getD j 0).toNat : Nat))) (h8 : hs.length = 8) {o : Obj} : ∀ j u, (Ws hs)[j]? = some u → (w.alloc o).cell? ((⟨g, 0, none⟩ : Addr).add j) = some u := by
  intro j u hu
  have hj : j < 8 := by
    have := (List.getElem?_eq_some_iff.1 hu).1
    rw [Ws_length, h8] at this; exact this
  have hadd : (⟨g, 0, none⟩ : Addr).add j = ⟨g, j, none⟩ := by unfold Addr.add; split <;> simp_all
  have hc := h j hj
  have hg : g < w.heap.size := World.block_lt_of_cell? w _ hc
  rw [hadd, World.cell?_of_block (w := w) (heap_alloc_old w o hg), hc]
  rw [Ws, List.getElem?_map, List.getElem?_eq_getElem (by omega)] at hu
  rw [List.getD_eq_getElem?_getD, List.getElem?_eq_getElem (by omega)]
  exact hu
theorem ws_one (l : List (BitVec 32)) : ∀ u ∈ Ws l, u.oneCell' = true := by
  intro u hu
  rw [Ws, List.mem_map] at hu
  obtain ⟨x, _, rfl⟩ := hu
  rfl
theorem cells8 {x0 x1 x2 x3 x4 x5 x6 x7 : BitVec 32} : #[Value.int .u32 (x0.toNat : Nat), .int .u32 (x1.toNat : Nat), .int .u32 (x2.toNat : Nat), .int .u32 (x3.toNat : Nat), .int .u32 (x4.toNat : Nat), .int .u32 (x5.toNat : Nat), .int .u32 (x6.toNat : Nat), .int .u32 (x7.toNat : Nat)] = (Ws [x0, x1, x2, x3, x4, x5, x6, x7]).toArray := rfl

set_option maxHeartbeats 4000000 in
set_option maxRecDepth 100000 in
theorem refNext_any (hs : List (BitVec 32)) (bs : List UInt8) (gh chh b off c : Nat) (w : World) (hh8 : hs.length = 8) (_ : 8 ≤ chh) (hgh : gh < w.heap.size) (hcell : ∀ j, j < 8 → w.cell? ⟨gh, j, none⟩ = some (.int .u32 ((hs.getD j 0).toNat : Nat)))
    (hb : BytesAt w ⟨b, off, none⟩ bs) (hbl : bs.length = 64) (hc : 64 ≤ c) :
    Calls Tryd.prog 46 #[.slice (some ⟨gh, 0, none⟩) 8 chh, .slice (some ⟨b, off, none⟩) 64 c] w fun e w' => ∃ v, e = .returned v ∧ w'.ownsRow w.heap.size 44 1 v 8 (Ws (next hs bs)) ∧ Below w.heap.size w w' := by
  obtain ⟨i0, hi, hz0, hz1, hz2⟩ := info_parts infoWord
  go_enter Tryd.func46, Tryd.ntmps46
  go_wp2_with fail
  refine (refWords_all bs b off c w hb hbl hc).mono ?_
  rintro e w1 ⟨vw, rfl, hw1, bl1⟩
  obtain ⟨gw, cw, rfl, cellsW, ltW⟩ := own_form hw1 (by decide)
  clear hw1
  go_wp2_with fail
  refine (refAdds_any w1).mono ?_
  rintro e w2 ⟨vk, rfl, hk2, bl2⟩
  obtain ⟨gk, ck, rfl, cellsK, ltK⟩ := own_form hk2 (by decide)
  clear hk2
  have b12 : Below w.heap.size w w2 := bl1.trans (bl2.mono bl1.size)
  have ltW2 : gw < w2.heap.size := Nat.lt_of_lt_of_le ltW bl2.size
  have cellsW2 : ∀ j, j < 64 → w2.cell? ⟨gw, j, none⟩ = some (.int .u32 (((sched bs 64).getD j 0).toNat : Nat)) := fun j hj => (bl2.cell (p := ⟨gw, j, none⟩) ltW).trans (cellsW j hj)
  have cellsH2 : ∀ j, j < 8 → w2.cell? ⟨gh, j, none⟩ = some (.int .u32 ((hs.getD j 0).toNat : Nat)) := fun j hj => (b12.cell (p := ⟨gh, j, none⟩) hgh).trans (hcell j hj)
  have hgh2 : gh < w2.heap.size := Nat.lt_of_lt_of_le hgh b12.size
  clear cellsW hcell bl1 bl2 ltW hb
  have HW := Lib.hid cellsW2
  have HK := Lib.hid cellsK
  have HH := Lib.hid cellsH2
  clear cellsW2 cellsK cellsH2
  go_wp2_with (at_builtin; refine wpList_append_own _ rfl _ _ 57 rfl w2.heap.size 44 i0 (.int .u32 0) 1 4 Tryd.underlying57 hi hz0 hz1 hz2 rfl (by decide) _ _ _ rfl (World.ownsRow_made w2 #[] 0 (Nat.le_refl _) (by decide) rfl) ⟨gh, 0, none⟩ 8 chh (Ws hs) rfl (by rw [Ws_length, hh8]) (ws_cells HH.out hh8) (ws_one hs) (by decide) (by decide) (by simp) ?_; intro v3 w3 hown3 hgrow3 _)
  have b3 : Below w2.heap.size w2 w3 := ((Below.refl _ _).alloc (Nat.le_refl _) _).grown hgrow3 (by simp) (fun k hk => by have h' : w2.heap.size = k := Option.some.inj hk; omega)
  clear hgrow3
  have hs0 : Hid (rounds bs hs 0 = [hs.getD 0 0, hs.getD 1 0, hs.getD 2 0, hs.getD 3 0, hs.getD 4 0, hs.getD 5 0, hs.getD 6 0, hs.getD 7 0]) := Lib.hid (by rw [rounds]; exact list8 hs hh8)
  have hown4 : w3.ownsRow w2.heap.size 44 1 v3 8 (Ws [hs.getD 0 0, hs.getD 1 0, hs.getD 2 0, hs.getD 3 0, hs.getD 4 0, hs.getD 5 0, hs.getD 6 0, hs.getD 7 0]) := own_cong hown3 (by omega) (by rw [List.nil_append, ← list8 hs hh8])
  clear hown3
  go_wp2_with fail
  go_loopw [7, 8] (fun o i wr => ∃ (k : Nat) (x0 x1 x2 x3 x4 x5 x6 x7 : BitVec 32), i = .int .i64 (k : Int) ∧ k ≤ 64 ∧ Hid (rounds bs hs k = [x0, x1, x2, x3, x4, x5, x6, x7]) ∧ wr.ownsRow w2.heap.size 44 1 o 8 (Ws [x0, x1, x2, x3, x4, x5, x6, x7]) ∧ Hid (Below w2.heap.size w2 wr)) (fun _ i _ => 64 - (intOf i).toNat)
  case atStart => exact ⟨0, _, _, _, _, _, _, _, _, rfl, by omega, hs0, hown4, Lib.hid b3⟩
  case round =>
    clear hown4 hs0 b3
    obtain ⟨k, x0, x1, x2, x3, x4, x5, x6, x7, rfl, hk, HR, hown, B_wr⟩ := hrel
    by_cases hk6 : k < 64
    · have hk7 : (k : Int) < 64 := by omega
      obtain ⟨g, cap, rfl, hcl, hlt⟩ := own_form hown (by decide)
      have d0_wr : wr.cell? ⟨g, 0, none⟩ = some (.int .u32 (x0.toNat : Nat)) := hcl 0 (by decide)
      have d1_wr : wr.cell? ⟨g, 1, none⟩ = some (.int .u32 (x1.toNat : Nat)) := hcl 1 (by decide)
      have d2_wr : wr.cell? ⟨g, 2, none⟩ = some (.int .u32 (x2.toNat : Nat)) := hcl 2 (by decide)
      have d3_wr : wr.cell? ⟨g, 3, none⟩ = some (.int .u32 (x3.toNat : Nat)) := hcl 3 (by decide)
      have d4_wr : wr.cell? ⟨g, 4, none⟩ = some (.int .u32 (x4.toNat : Nat)) := hcl 4 (by decide)
      have d5_wr : wr.cell? ⟨g, 5, none⟩ = some (.int .u32 (x5.toNat : Nat)) := hcl 5 (by decide)
      have d6_wr : wr.cell? ⟨g, 6, none⟩ = some (.int .u32 (x6.toNat : Nat)) := hcl 6 (by decide)
      have d7_wr : wr.cell? ⟨g, 7, none⟩ = some (.int .u32 (x7.toNat : Nat)) := hcl 7 (by decide)
      obtain ⟨wd, hwd⟩ : ∃ x, x = (sched bs 64).getD k 0 := ⟨_, rfl⟩
      obtain ⟨kc, hkc⟩ : ∃ x, x = adds.getD k 0 := ⟨_, rfl⟩
      have dw_wr : wr.cell? ⟨gw, k, none⟩ = some (.int .u32 (wd.toNat : Nat)) := by rw [B_wr.out.cell (p := ⟨gw, k, none⟩) ltW2, hwd]; exact HW.out k hk6
      have dk_wr : wr.cell? ⟨gk, k, none⟩ = some (.int .u32 (kc.toNat : Nat)) := by rw [B_wr.out.cell (p := ⟨gk, k, none⟩) ltK, hkc]; exact HK.out k hk6
      have HWK : Hid (wd = (sched bs 64).getD k 0 ∧ kc = adds.getD k 0) := Lib.hid ⟨hwd, hkc⟩
      clear hwd hkc hcl hlt hown
      obtain ⟨r1, hr1⟩ : ∃ x, x = rot x4 6 := ⟨_, rfl⟩
      obtain ⟨r2, hr2⟩ : ∃ x, x = rot x4 11 := ⟨_, rfl⟩
      obtain ⟨r3, hr3⟩ : ∃ x, x = rot x4 25 := ⟨_, rfl⟩
      obtain ⟨s1, hs1⟩ : ∃ x, x = r1 ^^^ r2 := ⟨_, rfl⟩
      have es1 : bits .xor .u32 (r1.toNat : Int) (r2.toNat : Int) = (s1.toNat : Int) := by rw [hs1]; exact xor_nat _ _
      obtain ⟨sg, hsg⟩ : ∃ x, x = s1 ^^^ r3 := ⟨_, rfl⟩
      have esg : bits .xor .u32 (s1.toNat : Int) (r3.toNat : Int) = (sg.toNat : Int) := by rw [hsg]; exact xor_nat _ _
      obtain ⟨p1, hp1⟩ : ∃ x, x = x7 + sg := ⟨_, rfl⟩
      have ep1 : IntKind.u32.wrap ((x7.toNat : Int) + (sg.toNat : Int)) = (p1.toNat : Int) := by rw [hp1]; exact add_nat _ _
      obtain ⟨m1, hm1⟩ : ∃ x, x = x4 &&& x5 := ⟨_, rfl⟩
      have em1 : bits .and .u32 (x4.toNat : Int) (x5.toNat : Int) = (m1.toNat : Int) := by rw [hm1]; exact and_nat _ _
      obtain ⟨n1, hn1⟩ : ∃ x, x = ~~~x4 := ⟨_, rfl⟩
      have en1 : bits .xor .u32 (if IntKind.u32.signed = true then -1 else IntKind.u32.max) (x4.toNat : Int) = (n1.toNat : Int) := by rw [hn1, if_neg (by decide)]; exact not_u32 _
      obtain ⟨m2, hm2⟩ : ∃ x, x = n1 &&& x6 := ⟨_, rfl⟩
      have em2 : bits .and .u32 (n1.toNat : Int) (x6.toNat : Int) = (m2.toNat : Int) := by rw [hm2]; exact and_nat _ _
      obtain ⟨ch, hch⟩ : ∃ x, x = m1 ^^^ m2 := ⟨_, rfl⟩
      have ech : bits .xor .u32 (m1.toNat : Int) (m2.toNat : Int) = (ch.toNat : Int) := by rw [hch]; exact xor_nat _ _
      obtain ⟨p2, hp2⟩ : ∃ x, x = p1 + ch := ⟨_, rfl⟩
      have ep2 : IntKind.u32.wrap ((p1.toNat : Int) + (ch.toNat : Int)) = (p2.toNat : Int) := by rw [hp2]; exact add_nat _ _
      obtain ⟨p3, hp3⟩ : ∃ x, x = p2 + kc := ⟨_, rfl⟩
      have ep3 : IntKind.u32.wrap ((p2.toNat : Int) + (kc.toNat : Int)) = (p3.toNat : Int) := by rw [hp3]; exact add_nat _ _
      obtain ⟨p4, hp4⟩ : ∃ x, x = p3 + wd := ⟨_, rfl⟩
      have ep4 : IntKind.u32.wrap ((p3.toNat : Int) + (wd.toNat : Int)) = (p4.toNat : Int) := by rw [hp4]; exact add_nat _ _
      obtain ⟨r4, hr4⟩ : ∃ x, x = rot x0 2 := ⟨_, rfl⟩
      obtain ⟨r5, hr5⟩ : ∃ x, x = rot x0 13 := ⟨_, rfl⟩
      obtain ⟨r6, hr6⟩ : ∃ x, x = rot x0 22 := ⟨_, rfl⟩
      obtain ⟨s2, hs2⟩ : ∃ x, x = r4 ^^^ r5 := ⟨_, rfl⟩
      have es2 : bits .xor .u32 (r4.toNat : Int) (r5.toNat : Int) = (s2.toNat : Int) := by rw [hs2]; exact xor_nat _ _
      obtain ⟨sh, hsh⟩ : ∃ x, x = s2 ^^^ r6 := ⟨_, rfl⟩
      have esh : bits .xor .u32 (s2.toNat : Int) (r6.toNat : Int) = (sh.toNat : Int) := by rw [hsh]; exact xor_nat _ _
      obtain ⟨a1, ha1⟩ : ∃ x, x = x0 &&& x1 := ⟨_, rfl⟩
      have ea1 : bits .and .u32 (x0.toNat : Int) (x1.toNat : Int) = (a1.toNat : Int) := by rw [ha1]; exact and_nat _ _
      obtain ⟨a2, ha2⟩ : ∃ x, x = x0 &&& x2 := ⟨_, rfl⟩
      have ea2 : bits .and .u32 (x0.toNat : Int) (x2.toNat : Int) = (a2.toNat : Int) := by rw [ha2]; exact and_nat _ _
      obtain ⟨a3, ha3⟩ : ∃ x, x = a1 ^^^ a2 := ⟨_, rfl⟩
      have ea3 : bits .xor .u32 (a1.toNat : Int) (a2.toNat : Int) = (a3.toNat : Int) := by rw [ha3]; exact xor_nat _ _
      obtain ⟨a4, ha4⟩ : ∃ x, x = x1 &&& x2 := ⟨_, rfl⟩
      have ea4 : bits .and .u32 (x1.toNat : Int) (x2.toNat : Int) = (a4.toNat : Int) := by rw [ha4]; exact and_nat _ _
      obtain ⟨mj, hmj⟩ : ∃ x, x = a3 ^^^ a4 := ⟨_, rfl⟩
      have emj : bits .xor .u32 (a3.toNat : Int) (a4.toNat : Int) = (mj.toNat : Int) := by rw [hmj]; exact xor_nat _ _
      obtain ⟨t2, ht2⟩ : ∃ x, x = sh + mj := ⟨_, rfl⟩
      have et2 : IntKind.u32.wrap ((sh.toNat : Int) + (mj.toNat : Int)) = (t2.toNat : Int) := by rw [ht2]; exact add_nat _ _
      obtain ⟨y0, hy0⟩ : ∃ x, x = p4 + t2 := ⟨_, rfl⟩
      have ey0 : IntKind.u32.wrap ((p4.toNat : Int) + (t2.toNat : Int)) = (y0.toNat : Int) := by rw [hy0]; exact add_nat _ _
      obtain ⟨y4, hy4⟩ : ∃ x, x = x3 + p4 := ⟨_, rfl⟩
      have ey4 : IntKind.u32.wrap ((x3.toNat : Int) + (p4.toNat : Int)) = (y4.toNat : Int) := by rw [hy4]; exact add_nat _ _
      have T1 := Lib.hid fun w => refTurn_lit x4 6 6 w rfl (by omega)
      rw [← hr1] at T1
      have T2 := Lib.hid fun w => refTurn_lit x4 11 11 w rfl (by omega)
      rw [← hr2] at T2
      have T3 := Lib.hid fun w => refTurn_lit x4 25 25 w rfl (by omega)
      rw [← hr3] at T3
      have T4 := Lib.hid fun w => refTurn_lit x0 2 2 w rfl (by omega)
      rw [← hr4] at T4
      have T5 := Lib.hid fun w => refTurn_lit x0 13 13 w rfl (by omega)
      rw [← hr5] at T5
      have T6 := Lib.hid fun w => refTurn_lit x0 22 22 w rfl (by omega)
      rw [← hr6] at T6
      have HR1 : Hid (rounds bs hs (k + 1) = [y0, x0, x1, x2, y4, x4, x5, x6]) := Lib.hid (by
        rw [rounds, HR.out, ← HWK.out.1, ← HWK.out.2]
        simp only [round, List.getD_cons_zero, List.getD_cons_succ]
        rw [hy4, hy0, ht2, hmj, ha4, ha3, ha2, ha1, hsh, hs2, hr6, hr5, hr4, hp4, hp3, hp2, hch, hm2, hn1, hm1, hp1, hsg, hs1, hr3, hr2, hr1])
      clear hr1 hr2 hr3 hs1 hsg hp1 hm1 hn1 hm2 hch hp2 hp3 hp4 hr4 hr5 hr6 hs2 hsh ha1 ha2 ha3 ha4 hmj ht2 hy0 hy4 HR HWK
      go_wp2_with fail
      refine wp_region_quiet_lit (by kernel_rfl) (by kernel_rfl) ?_
      quiet_step ((fail))
      quiet_step ((fail))
      quiet_step ((fail))
      quiet_step ((exact Calls.quiet_of (T1.out _)))
      quiet_step ((fail))
      quiet_step ((fail))
      quiet_step ((fail))
      quiet_step ((exact Calls.quiet_of (T2.out _)))
      quiet_step ((fail))
      quiet_step ((fail))
      quiet_step ((fail))
      quiet_step ((fail))
      quiet_step ((exact Calls.quiet_of (T3.out _)))
      quiet_step ((fail))
      quiet_step ((fail))
      refine wpQuiet_nil ?_
      intro _ hw'
      obtain ⟨nq, hw''⟩ := hw'
      subst hw''
      generalize hwwa : wr.drewN _ = wa
      have d0_wa : wa.cell? ⟨g, 0, none⟩ = some (.int .u32 (x0.toNat : Nat)) := by rw [← hwwa]; exact d0_wr
      have d1_wa : wa.cell? ⟨g, 1, none⟩ = some (.int .u32 (x1.toNat : Nat)) := by rw [← hwwa]; exact d1_wr
      have d2_wa : wa.cell? ⟨g, 2, none⟩ = some (.int .u32 (x2.toNat : Nat)) := by rw [← hwwa]; exact d2_wr
      have d3_wa : wa.cell? ⟨g, 3, none⟩ = some (.int .u32 (x3.toNat : Nat)) := by rw [← hwwa]; exact d3_wr
      have d4_wa : wa.cell? ⟨g, 4, none⟩ = some (.int .u32 (x4.toNat : Nat)) := by rw [← hwwa]; exact d4_wr
      have d5_wa : wa.cell? ⟨g, 5, none⟩ = some (.int .u32 (x5.toNat : Nat)) := by rw [← hwwa]; exact d5_wr
      have d6_wa : wa.cell? ⟨g, 6, none⟩ = some (.int .u32 (x6.toNat : Nat)) := by rw [← hwwa]; exact d6_wr
      have d7_wa : wa.cell? ⟨g, 7, none⟩ = some (.int .u32 (x7.toNat : Nat)) := by rw [← hwwa]; exact d7_wr
      have dk_wa : wa.cell? ⟨gk, k, none⟩ = some (.int .u32 (kc.toNat : Nat)) := by rw [← hwwa]; exact dk_wr
      have dw_wa : wa.cell? ⟨gw, k, none⟩ = some (.int .u32 (wd.toNat : Nat)) := by rw [← hwwa]; exact dw_wr
      have B_wa : Hid (Below w2.heap.size w2 wa) := by rw [← hwwa]; exact Lib.hid (below_drewN B_wr.out _)
      clear hwwa d0_wr d1_wr d2_wr d3_wr d4_wr d5_wr d6_wr d7_wr dk_wr dw_wr B_wr
      clear es1 esg T1 T2 T3
      go_wp2_with fail
      go_quiet (fail)
      generalize hwwb : wa.drewN _ = wb
      have d0_wb : wb.cell? ⟨g, 0, none⟩ = some (.int .u32 (x0.toNat : Nat)) := by rw [← hwwb]; exact d0_wa
      have d1_wb : wb.cell? ⟨g, 1, none⟩ = some (.int .u32 (x1.toNat : Nat)) := by rw [← hwwb]; exact d1_wa
      have d2_wb : wb.cell? ⟨g, 2, none⟩ = some (.int .u32 (x2.toNat : Nat)) := by rw [← hwwb]; exact d2_wa
      have d3_wb : wb.cell? ⟨g, 3, none⟩ = some (.int .u32 (x3.toNat : Nat)) := by rw [← hwwb]; exact d3_wa
      have d4_wb : wb.cell? ⟨g, 4, none⟩ = some (.int .u32 (x4.toNat : Nat)) := by rw [← hwwb]; exact d4_wa
      have d5_wb : wb.cell? ⟨g, 5, none⟩ = some (.int .u32 (x5.toNat : Nat)) := by rw [← hwwb]; exact d5_wa
      have d6_wb : wb.cell? ⟨g, 6, none⟩ = some (.int .u32 (x6.toNat : Nat)) := by rw [← hwwb]; exact d6_wa
      have B_wb : Hid (Below w2.heap.size w2 wb) := by rw [← hwwb]; exact Lib.hid (below_drewN B_wa.out _)
      clear hwwb d0_wa d1_wa d2_wa d3_wa d4_wa d5_wa d6_wa B_wa
      clear d7_wa dk_wa dw_wa ep1 em1 en1 em2 ech ep2 ep3 ep4
      go_wp2_with fail
      refine wp_region_quiet_lit (by kernel_rfl) (by kernel_rfl) ?_
      quiet_step ((fail))
      quiet_step ((fail))
      quiet_step ((fail))
      quiet_step ((exact Calls.quiet_of (T4.out _)))
      quiet_step ((fail))
      quiet_step ((fail))
      quiet_step ((fail))
      quiet_step ((exact Calls.quiet_of (T5.out _)))
      quiet_step ((fail))
      quiet_step ((fail))
      quiet_step ((fail))
      quiet_step ((fail))
      quiet_step ((exact Calls.quiet_of (T6.out _)))
      quiet_step ((fail))
      quiet_step ((fail))
      refine wpQuiet_nil ?_
      intro _ hw'
      obtain ⟨nq, hw''⟩ := hw'
      subst hw''
      generalize hwwc : wb.drewN _ = wc
      have d0_wc : wc.cell? ⟨g, 0, none⟩ = some (.int .u32 (x0.toNat : Nat)) := by rw [← hwwc]; exact d0_wb
      have d1_wc : wc.cell? ⟨g, 1, none⟩ = some (.int .u32 (x1.toNat : Nat)) := by rw [← hwwc]; exact d1_wb
      have d2_wc : wc.cell? ⟨g, 2, none⟩ = some (.int .u32 (x2.toNat : Nat)) := by rw [← hwwc]; exact d2_wb
      have d3_wc : wc.cell? ⟨g, 3, none⟩ = some (.int .u32 (x3.toNat : Nat)) := by rw [← hwwc]; exact d3_wb
      have d4_wc : wc.cell? ⟨g, 4, none⟩ = some (.int .u32 (x4.toNat : Nat)) := by rw [← hwwc]; exact d4_wb
      have d5_wc : wc.cell? ⟨g, 5, none⟩ = some (.int .u32 (x5.toNat : Nat)) := by rw [← hwwc]; exact d5_wb
      have d6_wc : wc.cell? ⟨g, 6, none⟩ = some (.int .u32 (x6.toNat : Nat)) := by rw [← hwwc]; exact d6_wb
      have B_wc : Hid (Below w2.heap.size w2 wc) := by rw [← hwwc]; exact Lib.hid (below_drewN B_wb.out _)
      clear hwwc d0_wb d1_wb d2_wb d3_wb d4_wb d5_wb d6_wb B_wb
      clear es2 esh T4 T5 T6
      go_wp2_with fail
      go_quiet (fail)
      generalize hwwd1 : wc.drewN _ = wd1
      have d0_wd1 : wd1.cell? ⟨g, 0, none⟩ = some (.int .u32 (x0.toNat : Nat)) := by rw [← hwwd1]; exact d0_wc
      have d1_wd1 : wd1.cell? ⟨g, 1, none⟩ = some (.int .u32 (x1.toNat : Nat)) := by rw [← hwwd1]; exact d1_wc
      have d2_wd1 : wd1.cell? ⟨g, 2, none⟩ = some (.int .u32 (x2.toNat : Nat)) := by rw [← hwwd1]; exact d2_wc
      have d3_wd1 : wd1.cell? ⟨g, 3, none⟩ = some (.int .u32 (x3.toNat : Nat)) := by rw [← hwwd1]; exact d3_wc
      have d4_wd1 : wd1.cell? ⟨g, 4, none⟩ = some (.int .u32 (x4.toNat : Nat)) := by rw [← hwwd1]; exact d4_wc
      have d5_wd1 : wd1.cell? ⟨g, 5, none⟩ = some (.int .u32 (x5.toNat : Nat)) := by rw [← hwwd1]; exact d5_wc
      have d6_wd1 : wd1.cell? ⟨g, 6, none⟩ = some (.int .u32 (x6.toNat : Nat)) := by rw [← hwwd1]; exact d6_wc
      have B_wd1 : Hid (Below w2.heap.size w2 wd1) := by rw [← hwwd1]; exact Lib.hid (below_drewN B_wc.out _)
      clear hwwd1 d0_wc d1_wc d2_wc d3_wc d4_wc d5_wc d6_wc B_wc
      clear ea1 ea2 ea3 ea4 emj et2
      have f0_ : wd1.drew.cell? ⟨g, 0, none⟩ = some (.int .u32 (x0.toNat : Nat)) := d0_wd1
      have f1_ : wd1.drew.cell? ⟨g, 1, none⟩ = some (.int .u32 (x1.toNat : Nat)) := d1_wd1
      have f2_ : wd1.drew.cell? ⟨g, 2, none⟩ = some (.int .u32 (x2.toNat : Nat)) := d2_wd1
      have f3_ : wd1.drew.cell? ⟨g, 3, none⟩ = some (.int .u32 (x3.toNat : Nat)) := d3_wd1
      have f4_ : wd1.drew.cell? ⟨g, 4, none⟩ = some (.int .u32 (x4.toNat : Nat)) := d4_wd1
      have f5_ : wd1.drew.cell? ⟨g, 5, none⟩ = some (.int .u32 (x5.toNat : Nat)) := d5_wd1
      have f6_ : wd1.drew.cell? ⟨g, 6, none⟩ = some (.int .u32 (x6.toNat : Nat)) := d6_wd1
      go_wp2_with fail
      go_still_tail 26, (by kernel_rfl)
      show wpList _ _ _ _ _ wd1.drew
      go_wp2
      go_roundw
      case rel => exact ⟨k + 1, y0, x0, x1, x2, y4, x4, x5, x6, by go_num, by omega, HR1, own_lit (w := wd1.drew) B_wd1.out.size rfl, Lib.hid (B_wd1.out.drew.alloc B_wd1.out.size _)⟩
      case measure => simp [intOf]; omega
    · have hk7 : k = 64 := by omega
      subst hk7
      rw [show ((64 : Nat) : Int) = 64 from rfl]
      obtain ⟨g, cap, rfl, _, _⟩ := own_form hown (by decide)
      have hlo := own_lo hown
      have hcap8 := own_cap hown
      obtain ⟨vs, hvs⟩ : ∃ vs, vs = [x0, x1, x2, x3, x4, x5, x6, x7] := ⟨_, rfl⟩
      have hv8 : vs.length = 8 := by rw [hvs]; rfl
      obtain ⟨z, hz⟩ : ∃ z, z = next hs bs := ⟨_, rfl⟩
      have hz8 : z.length = 8 := by rw [hz]; exact next_length _ _ hh8
      have hzget : ∀ j, j < 8 → z.getD j 0 = vs.getD j 0 + hs.getD j 0 := by
        intro j hj
        rw [hz, next, HR.out, ← hvs, getD_zip _ _ _ (by omega) (by omega)]
      rw [← hvs] at hown
      have HZ := Lib.hid hzget
      have HZN := Lib.hid hz
      clear hz hzget HR hvs HW HK ltK ltW2
      go_wp2_with fail
      go_loopw [13] (fun i wr => ∃ j : Nat, i = .int .i64 (j : Int) ∧ j ≤ 8 ∧ wr.ownsRow w2.heap.size 44 1 (.slice (some ⟨g, 0, none⟩) 8 cap) 8 (Ws (z.take j ++ vs.drop j)) ∧ Hid (Below w2.heap.size w2 wr)) (fun i _ => 8 - (intOf i).toNat)
      case atStart => exact ⟨0, rfl, by omega, by simpa using hown, B_wr⟩
      case round =>
        clear hown B_wr
        obtain ⟨j, rfl, hj, hown, BW⟩ := hrel
        by_cases hj6 : j < 8
        · have hj7 : (j : Int) < 8 := by omega
          have c1 := own_cell hown (by simp only [List.length_append, List.length_take, List.length_drop]; omega) j hj6
          rw [getD_mid z vs j hz8 hv8 hj6] at c1
          have c2 : wr.cell? ⟨gh, j, none⟩ = some (.int .u32 ((hs.getD j 0).toNat : Nat)) := by rw [BW.out.cell (p := ⟨gh, j, none⟩) hgh2]; exact HH.out j hj6
          have hzj := HZ.out j hj6
          have hset := own_set hown j (.int .u32 ((z.getD j 0).toNat : Nat))
          rw [mixl_set z vs j hz8 hv8 hj6] at hset
          have hfz := own_frozen hown j
          obtain ⟨xv, hxv⟩ : ∃ x, x = vs.getD j 0 := ⟨_, rfl⟩
          obtain ⟨xh, hxh⟩ : ∃ x, x = hs.getD j 0 := ⟨_, rfl⟩
          obtain ⟨xz, hxz⟩ : ∃ x, x = z.getD j 0 := ⟨_, rfl⟩
          rw [← hxv] at c1 hzj
          rw [← hxh] at c2 hzj
          rw [← hxz] at hset hzj
          have hadd : IntKind.u32.wrap ((xv.toNat : Int) + (xh.toNat : Int)) = (xz.toNat : Int) := by rw [hzj]; exact add_nat _ _
          have HSET : Hid ((wr.drew.setCell ⟨g, j, none⟩ (.int .u32 (xz.toNat : Nat))).ownsRow w2.heap.size 44 1 (.slice (some ⟨g, 0, none⟩) 8 cap) 8 (Ws (z.take (j + 1) ++ vs.drop (j + 1)))) := Lib.hid hset
          have c3 : wr.drew.cell? ⟨g, j, none⟩ = some (.int .u32 (xv.toNat : Nat)) := c1
          have c4 : wr.drew.cell? ⟨gh, j, none⟩ = some (.int .u32 (xh.toNat : Nat)) := c2
          have c5 : wr.drew.frozen? ⟨g, j, none⟩ = false := hfz
          clear hset hzj hxv hxh hxz hown
          go_wp2_with fail
          go_still_tail 11, (by kernel_rfl)
          show wpList _ _ _ _ _ wr.drew
          go_wp2
          go_roundw
          case rel => exact ⟨j + 1, by go_num, by omega, HSET.out, Lib.hid (BW.out.drew.setCell hlo _)⟩
          case measure => simp [intOf]; omega
        · have hj8 : j = 8 := by omega
          subst hj8
          rw [List.take_of_length_le (by omega), List.drop_of_length_le (by omega), List.append_nil, HZN.out] at hown
          go_wp2
          go_ret
          exact ⟨_, rfl, own_base hown b12.size, b12.trans (BW.out.mono b12.size)⟩
end Go.Proofs.YtcbhjagcfbinoaaDoor.S3
