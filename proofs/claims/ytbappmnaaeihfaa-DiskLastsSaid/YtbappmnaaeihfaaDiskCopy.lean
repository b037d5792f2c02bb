/-
  Layer 9 (disk): slices.Clone at bytes, Copy.
-/
import Derived.Test.YtbappmnaaeihfaaDiskRead
namespace Go.Proofs.Ytbappmnaaeihfaa
open Go.RowKit
namespace Dk
theorem own_base {w : World} {base base' : Nat} {e : TypeId} {s : Nat} {v : Value} {n : Nat} {xs : List Value} (h : w.ownsRow base e s v n xs) (hb : base' ≤ base) : w.ownsRow base' e s v n xs := by
  refine ⟨h.1, ?_⟩
  rcases h.2 with h1 | ⟨g, cap, cur, e, hb1, h2⟩
  · exact .inl h1
  · exact .inr ⟨g, cap, cur, e, Nat.le_trans hb hb1, h2⟩
set_option maxHeartbeats 1000000 in
theorem Clone_any (v : Value) (l : Str) (w : World) (h : By w v l) (hl : l.length ≤ 16777216) :
    Calls Try.prog 32 #[v] w fun e w' => ∃ v', e = .returned v' ∧ By w' v' l ∧ (∀ g, v'.ownBlock = some g → w.heap.size ≤ g) ∧ Below w.heap.size w w' := by
  have hnil := fun (w : World) (a : Option Addr) (n c : Nat) => Lib.run_eql_slice_nil (P := Try.prog) w 48 5 a n c 0 0 Try.underlying48
  obtain ⟨i0, hi, hz0, hz1, hz2⟩ := info_parts S2.infoByte
  have h' : w.ownsRow 0 5 1 v l.length (S2.U l) := h
  rcases h.2 with ⟨rfl, h0⟩ | ⟨g, cap, cur, rfl, _, hh, hnc, hcm, hcs, ht⟩
  · have H := Lib.hid h
    clear h h' hi hz0 hz1 hz2 h0
    go_enter Try.func32, Try.ntmps32
    go_wp2
    go_ret
    exact ⟨_, rfl, H.out, fun g hg => (by cases hg), Below.refl _ _⟩
  · have hcells := h'.cells (g := g) rfl
    have hg := h'.lt g rfl
    have hown : (w.alloc (.cells #[] 5)).ownsRow w.heap.size 5 1 (.slice (some ⟨w.heap.size, 0, none⟩) 0 0) 0 [] := World.ownsRow_made w #[] 0 (Nat.le_refl _) (Nat.zero_le _) rfl
    have hsrc : ∀ (j : Nat) (u : Value), (S2.U l)[j]? = some u → (w.alloc (.cells #[] 5)).cell? ((⟨g, 0, none⟩ : Addr).add j) = some u := fun j u hu => by
      rw [World.cell?_of_block (w := w) (a := (⟨g, 0, none⟩ : Addr).add j) (by rw [S2.add_block]; exact Below.heap_alloc _ _ _ hg.2)]
      exact hcells j u hu
    have hlen : (S2.U l).length = l.length := S2.U_length l
    have hone : ∀ u ∈ S2.U l, u.oneCell' = true := fun u hu => by
      obtain ⟨b, _, rfl⟩ := List.mem_map.1 hu
      rfl
    obtain ⟨ul, hul⟩ : ∃ ul, ul = S2.U l := ⟨_, rfl⟩
    rw [← hul] at hcells hsrc hlen hone
    have HU := Lib.hid hul
    obtain ⟨n, hn⟩ : ∃ n, n = l.length := ⟨_, rfl⟩
    rw [← hn] at hlen hl hnc ⊢
    have HS := Lib.hid hsrc
    have HL := Lib.hid (show ul.length = n * 1 by omega)
    have HO := Lib.hid hone
    have HN := Lib.hid hn
    have HL2 := Lib.hid hl
    have HW := Lib.hid hown
    clear h h' hcells hsrc hlen hone hn hg hcs hh hcm ht hl hown hul
    go_enter Try.func32, Try.ntmps32
    go_wp2_with (at_builtin; refine wpList_append_own _ rfl _ _ 48 rfl w.heap.size 5 i0 (.int .u8 0) 1 1 Try.underlying48 hi hz0 hz1 hz2 rfl (by decide) _ _ _ rfl HW.out ⟨g, 0, none⟩ n cap ul rfl HL.out HS.out HO.out (by unfold maxLen; have := HL2.out; omega) (by have := HL2.out; omega) (by simp) ?_)
    intro v' w1 hown' hgrow _
    have hby : By w1 v' l := by
      have h1 := own_base hown' (Nat.zero_le _)
      rw [HU.out, HN.out] at h1
      exact h1
    have R := Lib.hid (show By w1 v' l ∧ (∀ g, v'.ownBlock = some g → w.heap.size ≤ g) ∧ Below w.heap.size w w1 from ⟨hby, fun g hg => (hown'.lt g hg).1, (((Below.refl w.heap.size w).alloc (Nat.le_refl _) (.cells #[] 5)).grown hgrow (by simp) (fun k hk => by simp [Value.ownBlock] at hk; omega))⟩)
    clear hown' hgrow hby
    go_wp2
    go_ret
    exact ⟨_, rfl, R.out⟩
/-- The copy q of D whose first j files have slices of their own. -/
structure Half (W : World) (D : MD) (vs : Nat → Value) (j : Nat) (w : World) (us : Nat → Value) : Prop where
  blk : ∃ cur, w.heap[W.heap.size]? = some (.cells cur 57 (0, 0)) ∧ Cur cur us D
  bel : Below W.heap.size W w
  own : ∀ i, i < j → i < 8 → By w (us i) (D.text i)
  off : ∀ i, i < j → i < 8 → ∀ g, (us i).ownBlock = some g → W.heap.size < g
  old : ∀ i, j ≤ i → i < 8 → us i = vs i
  apart : ∀ i, i < j → i < 8 → ∀ k, k < j → k < 8 → i ≠ k → ∀ g, (us i).ownBlock = some g → (us k).ownBlock ≠ some g
theorem Half.step {W w w1 : World} {D : MD} {vs us : Nat → Value} {j : Nat} (h : Half W D vs j w us) (hj : j < 8) {v : Value} (hb : Below w.heap.size w w1) (hv : By w1 v (D.text j)) (hg : ∀ g, v.ownBlock = some g → w.heap.size ≤ g) :
    Half W D vs (j + 1) (w1.setCell ⟨W.heap.size, j * 2, none⟩ v) (upd us j v) := by
  obtain ⟨cur, h1, h2⟩ := h.blk
  have hq : W.heap.size < w.heap.size := (Array.getElem?_eq_some_iff.1 h1).1
  have h1' := (hb.block _ hq).trans h1
  have hset : ∀ k, k ≠ W.heap.size → (w1.setCell ⟨W.heap.size, j * 2, none⟩ v).heap[k]? = w1.heap[k]? := fun k hk => Below.heap_setCell _ _ _ _ hk
  have hlt : ∀ i, i < j → i < 8 → ∀ g, (us i).ownBlock = some g → g < w.heap.size := fun i hi h8 g e => own_lt (h.own i hi h8) e
  refine ⟨⟨_, heap_setCell_same w1 _ (j * 2) _ _ v h1', ⟨by simp [h2.size], fun i hi => ?_, fun i hi => ?_, ?_, ?_, ?_, fun i hi => ?_⟩⟩, ?_, fun i hi h8 => ?_, fun i hi h8 g e => ?_, fun i hi h8 => ?_, fun i hi h8 k hk hk8 hik g e => ?_⟩
  · by_cases e : i = j
    · subst e
      rw [Array.getElem?_setIfInBounds_self_of_lt (by rw [h2.size]; omega), upd_same]
    · rw [Array.getElem?_setIfInBounds_ne (by omega), h2.v i hi, upd_other _ _ e]
  · rw [Array.getElem?_setIfInBounds_ne (by omega)]; exact h2.d i hi
  · rw [Array.getElem?_setIfInBounds_ne (by omega)]; exact h2.down
  · rw [Array.getElem?_setIfInBounds_ne (by omega)]; exact h2.lost
  · rw [Array.getElem?_setIfInBounds_ne (by omega)]; exact h2.calls
  · rw [Array.getElem?_setIfInBounds_ne (by omega)]; exact h2.keep i hi
  · exact (h.bel.trans (hb.mono (by omega))).setCell (Nat.le_refl _) v
  · by_cases e : i = j
    · subst e
      rw [upd_same]
      exact own_keep hv (fun g hg2 => hset g (fun e => by have := hg g hg2; omega))
    · rw [upd_other _ _ e]
      refine own_keep (h.own i (by omega) h8) (fun g hg2 => ?_)
      have h3 := h.off i (by omega) h8 g hg2
      rw [hset g (by omega)]
      exact hb.block g (hlt i (by omega) h8 g hg2)
  · by_cases e2 : i = j
    · subst e2
      rw [upd_same] at e
      have := hg g e
      omega
    · rw [upd_other _ _ e2] at e
      exact h.off i (by omega) h8 g e
  · rw [upd_other _ _ (by omega)]
    exact h.old i (by omega) h8
  · by_cases e2 : i = j
    · subst e2
      rw [upd_same] at e
      rw [upd_other _ _ (by omega)]
      intro e3
      have h3 := hlt k (by omega) hk8 g e3
      have := hg g e
      omega
    · rw [upd_other _ _ e2] at e
      by_cases e3 : k = j
      · subst e3
        rw [upd_same]
        intro e4
        have h3 := hlt i (by omega) h8 g e
        have := hg g e4
        omega
      · rw [upd_other _ _ e3]
        exact h.apart i (by omega) h8 k (by omega) hk8 hik g e
theorem Half.done {W w : World} {D : MD} {vs us : Nat → Value} (h : Half W D vs 8 w us) (ho : D.Ok) : Dk (fun k => k < W.heap.size) w W.heap.size D := by
  refine ⟨ho, us, h.blk, fun i hi => h.own i hi hi, fun i hi e => ?_, fun i hi g e => ?_, fun i hi j hj hij => h.apart i hi hi j hj hj hij, by simp, fun k hk => Nat.lt_of_lt_of_le hk h.bel.size⟩
  · have := h.off i hi hi _ e
    omega
  · have := h.off i hi hi g e
    omega
theorem infoDisk {cur : Array Value} (h : cur.size = 27) : (Try.prog.info? 57).map (·.size) = some cur.size := by
  rw [h]
  kernel_rfl
theorem Cur_one {w : World} {cur : Array Value} {vs : Nat → Value} {D : MD} (h : Cur cur vs D) (hv : ∀ i, i < 8 → By w (vs i) (D.text i)) : cur.all (·.oneCell') = true := by
  refine Array.all_eq_true_iff_forall_mem.2 fun u hu => ?_
  obtain ⟨i, hi, rfl⟩ := Array.mem_iff_getElem.1 hu
  have hs := h.size
  have e : cur[i]? = some cur[i] := Array.getElem?_eq_getElem hi
  by_cases h1 : i < 16
  · by_cases h2 : i % 2 = 0
    · have h3 := h.v (i / 2) (by omega)
      rw [show i / 2 * 2 = i by omega, e] at h3
      injection h3 with h3
      rw [h3]
      obtain ⟨A, n, c, h4, _⟩ := (hv (i / 2) (by omega)).sl
      rw [h4]
      rfl
    · have h3 := h.d (i / 2) (by omega)
      rw [show i / 2 * 2 + 1 = i by omega, e] at h3
      injection h3 with h3
      rw [h3]
      rfl
  · by_cases h2 : i = 16
    · subst h2
      have h3 := h.down
      rw [e] at h3
      injection h3 with h3
      rw [h3]
      rfl
    · by_cases h3 : i = 17
      · subst h3
        have h3 := h.lost
        rw [e] at h3
        injection h3 with h3
        rw [h3]
        rfl
      · by_cases h4 : i = 18
        · subst h4
          have h3 := h.calls
          rw [e] at h3
          injection h3 with h3
          rw [h3]
          rfl
        · have h3 := h.keep (i - 19) (by omega)
          rw [show 19 + (i - 19) = i by omega, e] at h3
          injection h3 with h3
          rw [h3]
          rfl

set_option maxHeartbeats 1000000 in
theorem Copy_any (X : Nat → Prop) (p : Nat) (D : MD) (w : World) (h : Dk X w p D) :
    Calls Try.prog 24 #[ptr p] w fun e w' => e = .returned (ptr w.heap.size) ∧ Dk (fun k => k < w.heap.size) w' w.heap.size D ∧ Below w.heap.size w w' := by
  obtain ⟨ho, vs, hv⟩ := h
  obtain ⟨cur, hc1, hc2⟩ := hv.blk
  have hz : (w.alloc (.cells zeros 57)).heap[w.heap.size]? = some (.cells zeros 57 (0, 0)) := heap_alloc_new w _
  have h0 : Half w D vs 0 ((w.alloc (.cells zeros 57)).setRow w.heap.size cur) vs := by
    refine ⟨⟨cur, setRow_heap _ _ _ _ _ _ hz, hc2⟩, ?_, fun i hi => absurd hi (Nat.not_lt_zero _), fun i hi => absurd hi (Nat.not_lt_zero _), fun i _ _ => rfl, fun i hi => absurd hi (Nat.not_lt_zero _)⟩
    exact ((Below.refl _ _).alloc (Nat.le_refl _) _).trans ⟨rfl, rfl, rfl, by simp [World.setRow], fun k hk => setRow_other _ _ _ _ (by omega)⟩
  have HC1 := Lib.hid hc1
  have HC2 := Lib.hid hc2
  have HCS := Lib.hid hc2.size
  have HONE := Lib.hid (Cur_one hc2 hv.own)
  have HZ := Lib.hid hz
  have H0 := Lib.hid h0
  have HV := Lib.hid hv
  have HO := Lib.hid ho
  have hzz : (#[Value.slice none 0 0, .int .i64 0, .slice none 0 0, .int .i64 0, .slice none 0 0, .int .i64 0, .slice none 0 0, .int .i64 0, .slice none 0 0, .int .i64 0, .slice none 0 0, .int .i64 0, .slice none 0 0, .int .i64 0, .slice none 0 0, .int .i64 0, .bool false, .int .i64 0, .int .i64 0, .int .i64 0, .int .i64 0, .int .i64 0, .int .i64 0, .int .i64 0, .int .i64 0, .int .i64 0, .int .i64 0] : Array Value) = zeros := rfl
  have HZZ := Lib.hid hzz
  clear hc1 hc2 hz h0 hv ho hzz
  go_enter Try.func24, Try.ntmps24
  go_wp2_with (first | (refine wpList_load_row rfl 57 _ rfl p rfl 57 _ (0, 0) _ HC1.out Try.underlying57 rfl (infoDisk HCS.out) ?_) | (rw [HZZ.out]; refine wpList_store_row rfl 57 _ _ rfl w.heap.size _ rfl rfl 57 _ HZ.out (infoDisk HCS.out) (by rw [HCS.out]; rfl) HONE.out ?_))
  obtain ⟨q, hq⟩ : ∃ q, q = w.heap.size := ⟨_, rfl⟩
  rw [← hq]
  have HQ := Lib.hid hq
  clear hq
  go_loopw [8] (fun v wr => ∃ (j : Nat) (us : Nat → Value), v = .int .i64 (j : Int) ∧ j ≤ 8 ∧ Half w D vs j wr us) (fun v _ => 8 - (intOf v).toNat)
  case atStart => exact ⟨0, vs, rfl, by omega, by rw [HQ.out]; exact H0.out⟩
  case round =>
    obtain ⟨j, us, rfl, hj, hh⟩ := hrel
    have HH := Lib.hid hh
    clear hh
    by_cases hlt : j < 8
    · have hltI : (j : Int) < 8 := by omega
      have hby : By wr (us j) (D.text j) := by
        rw [HH.out.old j (Nat.le_refl _) hlt]
        exact own_keep (HV.out.own j hlt) (fun g hg => HH.out.bel.block g (own_lt (HV.out.own j hlt) hg))
      have c1 : wr.cell? ⟨q, j * 2, none⟩ = some (us j) := by
        obtain ⟨cu, h1, h2⟩ := HH.out.blk
        rw [HQ.out, cell_of_row _ _ _ _ _ _ h1, h2.v j hlt]
      obtain ⟨A, n, c, he, hn, hnc⟩ := hby.sl
      clear hn hnc
      rw [he] at c1
      have K := Lib.hid (Clone_any (us j) (D.text j) wr hby (HO.out.len j hlt))
      rw [he] at K
      have HLT := Lib.hid hlt
      have HE := Lib.hid he
      clear hlt hby he
      go_wp2_with fail
      refine K.out.mono ?_
      rintro e w1 ⟨v, rfl, hv, hg, hb⟩
      obtain ⟨A3, n3, c3, rfl, hn3, hc3⟩ := hv.sl
      clear hn3 hc3
      have hst := HH.out.step HLT.out hb hv hg
      have hr : ∃ cu, w1.heap[q]? = some (.cells cu 57 (0, 0)) ∧ cu.size = 27 := by
        obtain ⟨cu, h1, h2⟩ := HH.out.blk
        exact ⟨cu, by rw [HQ.out]; exact (hb.block _ (Array.getElem?_eq_some_iff.1 h1).1).trans h1, h2.size⟩
      obtain ⟨cu, hr, hcs⟩ := hr
      have f1 := frozen_of_row w1 q (j * 2) _ _ hr
      have c2 : w1.cell? ⟨q, j * 2, none⟩ = some (cu[j * 2]'(by have := HLT.out; omega)) := by
        rw [cell_of_row _ _ _ _ _ _ hr]
        exact Array.getElem?_eq_getElem _
      generalize cu[j * 2]'(by have := HLT.out; omega) = old at c2
      rw [← HQ.out] at hst
      have HST := Lib.hid hst
      clear hst hr hcs hv hg hb K
      go_wp2
      go_roundw
      case rel => exact ⟨j + 1, _, by go_num, by have := HLT.out; omega, HST.out⟩
      case measure => simp [intOf]; have := HLT.out; omega
    · obtain rfl : j = 8 := by omega
      have R := Lib.hid (show Dk (fun k => k < w.heap.size) wr w.heap.size D ∧ Below w.heap.size w wr from ⟨HH.out.done HO.out, HH.out.bel⟩)
      go_wp2
      go_ret
      exact ⟨by show Ending.returned (ptr q) = _; rw [HQ.out], R.out⟩
end Dk
end Go.Proofs.Ytbappmnaaeihfaa
