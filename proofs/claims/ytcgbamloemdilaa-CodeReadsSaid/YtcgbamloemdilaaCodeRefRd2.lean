/-
  Layer 2: the document's own answers (agoraref02): the reader's Take, Int, Text, List, Nums; SameTexts, SameNums.
-/
import Derived.Test.YtcgbamloemdilaaCodeRefRd
namespace Go.Proofs.Ytcgbamloemdilaa
open Go.RowKit
open Cd
attribute [local go_sem] B_size B_drop' B_take B_list B_app

set_option maxHeartbeats 1000000 in
theorem rTake_any (g : Nat) (s : St) (n : Int) (w : World) (h : Rd 61 w g s) (hl : (lft s).length ≤ 1099511627776) :
    Calls Try.prog 39 #[.pointer (some ⟨g, 0, none⟩), .int .i64 n] w (RRes 61 g w (.string (B (val [] (s.bind (takeI n))))) (rest (s.bind (takeI n)))) := by
  have c0 : w.cell? ⟨g, 0, none⟩ = some (.string (B (lft s))) := cell_at h 0
  have c1 : w.cell? ⟨g, 1, none⟩ = some (.bool s.isNone) := cell_at h 1
  have f0 := free_at h 0
  have HF := Lib.hid (rFail_any g s w h)
  have H := Lib.hid h
  clear h
  by_cases hin : s ≠ none ∧ 0 ≤ n ∧ n ≤ (lft s).length
  · obtain ⟨hs, hn0, hn1⟩ := hin
    rcases s with _ | l
    · exact absurd rfl hs
    clear hs
    have c0' : w.cell? ⟨g, 0, none⟩ = some (.string (B l)) := c0
    have c1' : w.cell? ⟨g, 1, none⟩ = some (.bool false) := c1
    have hl' : l.length ≤ 1099511627776 := hl
    have hn1' : n ≤ l.length := hn1
    clear c0 c1 hl hn1
    obtain ⟨m, rfl⟩ := Int.eq_ofNat_of_zero_le hn0
    have hm : m ≤ l.length := by omega
    have hl3 : (l.length : Int) ≤ 1099511627776 := by omega
    have et : (some l).bind (takeI m) = some (l.take m, l.drop m) := by simp [takeI, takeN, hm]
    have R : RRes 61 g w (.string (B (val [] ((some l).bind (takeI m))))) (rest ((some l).bind (takeI m))) (.returned (.string (B (l.take m)))) (w.setCell ⟨g, 0, none⟩ (.string (B (l.drop m)))) := by
      rw [et]
      exact ⟨rfl, rd_set1 (s' := some (l.drop m)) H.out rfl, grown_set (World.grownBy.refl w _) _ _⟩
    have HR := Lib.hid R
    clear R et
    go_enter Try.func39, Try.ntmps39
    go_wp2
    go_ret
    exact HR.out
  · have et : s.bind (takeI n) = none := by
      rcases s with _ | l'
      · rfl
      · simp only [Option.bind_some, takeI]
        split
        · simp only [takeN]
          rw [if_neg]
          intro h2
          exact hin ⟨by simp, by assumption, by show n ≤ (l'.length : Int); omega⟩
        · rfl
    rw [et]
    clear et
    obtain ⟨l, hl2⟩ : ∃ l, l = lft s := ⟨_, rfl⟩
    obtain ⟨b, hb⟩ : ∃ b, b = s.isNone := ⟨_, rfl⟩
    rw [← hl2] at c0 hl hin
    rw [← hb] at c1
    have hcase : n < 0 ∨ (0 ≤ n ∧ (l.length : Int) < n) ∨ (0 ≤ n ∧ n ≤ l.length ∧ b = true) := by
      rcases s with _ | l'
      · have : b = true := hb
        rcases Int.lt_or_le n 0 with h1 | h1
        · exact .inl h1
        · rcases Int.lt_or_le l.length n with h2 | h2
          · exact .inr (.inl ⟨h1, h2⟩)
          · exact .inr (.inr ⟨h1, h2, this⟩)
      · have h3 : ¬ (0 ≤ n ∧ n ≤ l.length) := fun h4 => hin ⟨by simp, h4⟩
        omega
    clear hb hl2 hin hl
    rcases hcase with hc | ⟨hc1, hc2⟩ | ⟨hc1, hc2, rfl⟩
    all_goals
      go_enter Try.func39, Try.ntmps39
      go_wp2_with fail
      refine HF.out.mono ?_
      rintro e w1 ⟨rfl, h1, h2⟩
      go_wp2
      go_ret
      exact ⟨rfl, h1, h2⟩

set_option maxHeartbeats 1000000 in
theorem rInt_any (g : Nat) (s : St) (w : World) (h : Rd 61 w g s) (hl : (lft s).length ≤ 1099511627776) :
    Calls Try.prog 29 #[.pointer (some ⟨g, 0, none⟩)] w (RRes 61 g w (.int .i64 (val 0 (s.bind decI))) (rest (s.bind decI))) := by
  have HN := Lib.hid (rNum_any g s w h hl)
  have hz := val_lt s
  obtain ⟨z, hze⟩ : ∃ z, z = val 0 (s.bind decN) := ⟨_, rfl⟩
  have hyes := @int_yes s
  have hno := @int_no s
  rw [← hze] at hz hyes hno HN
  have h0 : (0 : Int) ≤ z := by omega
  have h1 : (z : Int) ≤ 9223372036854775807 := by omega
  clear h hl hze
  by_cases hodd : z % 2 = 1
  · have hu : uz z = -((z : Int) / 2) - 1 := by unfold uz; rw [if_pos hodd]; omega
    have ho2 : (z : Int) % 2 = 1 := by omega
    rw [hu] at hyes hno
    by_cases hk : okI (-((z : Int) / 2) - 1)
    · have hk2 : -2305843009213693952 ≤ -((z : Int) / 2) - 1 ∧ -((z : Int) / 2) - 1 ≤ 2305843009213693952 := hk
      obtain ⟨k0, k1⟩ := hk2
      have R := hyes hk
      rw [R.1, R.2]
      clear R hyes hno hu hodd hk
      go_enter Try.func29, Try.ntmps29
      go_wp2_with fail
      refine HN.out.mono ?_
      rintro e w1 ⟨rfl, h2, h3⟩
      go_wp2
      go_ret
      exact ⟨rfl, h2, h3⟩
    · have hk2 : ¬ (-2305843009213693952 ≤ -((z : Int) / 2) - 1 ∧ -((z : Int) / 2) - 1 ≤ 2305843009213693952) := hk
      have k0 : -((z : Int) / 2) - 1 < -2305843009213693952 := by omega
      have R := hno hk
      rw [R.1, R.2]
      clear R hyes hno hu hodd hk hk2
      go_enter Try.func29, Try.ntmps29
      go_wp2_with fail
      refine HN.out.mono ?_
      rintro e w1 ⟨rfl, h2, h3⟩
      have HF := Lib.hid (rFail_any g _ w1 h2)
      have HG := Lib.hid h3
      clear h2 h3
      go_wp2_with fail
      refine HF.out.mono ?_
      rintro e w2 ⟨rfl, h4, h5⟩
      go_wp2
      go_ret
      exact ⟨rfl, h4, grown_trans HG.out h5⟩
  · have hu : uz z = (z : Int) / 2 := by unfold uz; rw [if_neg hodd]; omega
    have ho2 : (z : Int) % 2 = 0 := by omega
    rw [hu] at hyes hno
    have k00 : -2305843009213693952 ≤ (z : Int) / 2 := by omega
    by_cases hk : okI ((z : Int) / 2)
    · have hk2 : -2305843009213693952 ≤ (z : Int) / 2 ∧ (z : Int) / 2 ≤ 2305843009213693952 := hk
      have k1 := hk2.2
      have R := hyes hk
      rw [R.1, R.2]
      clear R hyes hno hu hodd hk hk2
      go_enter Try.func29, Try.ntmps29
      go_wp2_with fail
      refine HN.out.mono ?_
      rintro e w1 ⟨rfl, h2, h3⟩
      go_wp2
      go_ret
      exact ⟨rfl, h2, h3⟩
    · have hk2 : ¬ (-2305843009213693952 ≤ (z : Int) / 2 ∧ (z : Int) / 2 ≤ 2305843009213693952) := hk
      have k1 : 2305843009213693952 < (z : Int) / 2 := by omega
      have R := hno hk
      rw [R.1, R.2]
      clear R hyes hno hu hodd hk hk2
      go_enter Try.func29, Try.ntmps29
      go_wp2_with fail
      refine HN.out.mono ?_
      rintro e w1 ⟨rfl, h2, h3⟩
      have HF := Lib.hid (rFail_any g _ w1 h2)
      have HG := Lib.hid h3
      clear h2 h3
      go_wp2_with fail
      refine HF.out.mono ?_
      rintro e w2 ⟨rfl, h4, h5⟩
      go_wp2
      go_ret
      exact ⟨rfl, h4, grown_trans HG.out h5⟩

set_option maxHeartbeats 1000000 in
theorem rText_any (g : Nat) (s : St) (w : World) (h : Rd 61 w g s) (hl : (lft s).length ≤ 1099511627776) :
    Calls Try.prog 31 #[.pointer (some ⟨g, 0, none⟩)] w (RRes 61 g w (.string (B (val [] (s.bind decT)))) (rest (s.bind decT))) := by
  have HN := Lib.hid (rNum_any g s w h hl)
  have hc := text_comb s
  have hl2 : (lft (rest (s.bind decN))).length ≤ 1099511627776 := Nat.le_trans (lft_rest codecN s) hl
  rw [← hc]
  obtain ⟨n, hn⟩ : ∃ n, n = val 0 (s.bind decN) := ⟨_, rfl⟩
  obtain ⟨s1, hs1⟩ : ∃ s1, s1 = rest (s.bind decN) := ⟨_, rfl⟩
  rw [← hn, ← hs1] at HN ⊢
  rw [← hs1] at hl2
  clear hn hs1 hc h hl
  go_enter Try.func31, Try.ntmps31
  go_wp2_with fail
  refine HN.out.mono ?_
  rintro e w1 ⟨rfl, h2, h3⟩
  have HT := Lib.hid (rTake_any g s1 n w1 h2 hl2)
  have HG := Lib.hid h3
  clear h2 h3
  go_wp2_with fail
  refine HT.out.mono ?_
  rintro e w2 ⟨rfl, h4, h5⟩
  go_wp2
  go_ret
  exact ⟨rfl, h4, grown_trans HG.out h5⟩


/-! ### Lists -/
/-- A count: at most what is left. -/
def cnt (s : St) : Option (Nat × List UInt8) := (s.bind decN).bind fun p => if p.1 ≤ p.2.length then some p else none
theorem cnt_dec {α : Type} (dec : List UInt8 → Option (α × List UInt8)) (s : St) : s.bind (decL dec) = (cnt s).bind fun p => decM dec p.1 p.2 := by
  rcases s with _ | l
  · rfl
  · simp only [cnt, Option.bind_some, decL]
    rcases decN l with _ | ⟨z, r⟩
    · rfl
    · simp only [Option.bind_some]
      split <;> rfl
theorem cnt_or (s : St) : (rest (cnt s) = none ∧ val 0 (cnt s) = 0) ∨ ∃ r, rest (cnt s) = some r ∧ cnt s = some (val 0 (cnt s), r) ∧ val 0 (cnt s) ≤ r.length ∧ r.length ≤ (lft s).length := by
  unfold cnt
  rcases hd : s.bind decN with _ | ⟨z, r⟩
  · exact .inl ⟨rfl, rfl⟩
  · simp only [Option.bind_some]
    split
    · rename_i h
      refine .inr ⟨r, rfl, rfl, h, ?_⟩
      have := lft_rest codecN s
      rw [hd] at this
      exact this
    · exact .inl ⟨rfl, rfl⟩

set_option maxHeartbeats 1000000 in
theorem count_any (g : Nat) (s : St) (w : World) (h : Rd 61 w g s) (hl : (lft s).length ≤ 1099511627776) :
    Calls Try.prog 57 #[.pointer (some ⟨g, 0, none⟩)] w (RRes 61 g w (.int .i64 (val 0 (cnt s) : Nat)) (rest (cnt s))) := by
  have HN := Lib.hid (rNum_any g s w h hl)
  have hl2 : (lft (rest (s.bind decN))).length ≤ 1099511627776 := Nat.le_trans (lft_rest codecN s) hl
  have hnlt := val_lt s
  have hcnt : cnt s = (s.bind decN).bind fun p => if p.1 ≤ p.2.length then some p else none := rfl
  rcases hd : s.bind decN with _ | ⟨z, r⟩
  · rw [hd] at HN hcnt
    rw [hcnt]
    clear hcnt hd hl2 hnlt h hl
    go_enter Try.func57, Try.ntmps57
    go_wp2_with fail
    refine HN.out.mono ?_
    rintro e w1 ⟨rfl, h2, h3⟩
    have c0 : w1.cell? ⟨g, 0, none⟩ = some (.string (B [])) := cell_at h2 0
    have e0 : val 0 (none : Option (Nat × List UInt8)) = 0 := rfl
    rw [e0]
    clear e0
    go_wp2
    go_ret
    exact ⟨rfl, h2, h3⟩
  · rw [hd] at HN hcnt hl2 hnlt
    have hz : z < 9223372036854775808 := hnlt
    have hr : r.length ≤ 1099511627776 := hl2
    have HN2 : Hid (Calls Try.prog 27 #[.pointer (some ⟨g, 0, none⟩)] w (RRes 61 g w (.int .i64 (z : Nat)) (some r))) := HN
    have hz0 : (z : Int) ≤ 9223372036854775807 := by omega
    have hr0 : (r.length : Int) ≤ 1099511627776 := by omega
    simp only [Option.bind_some] at hcnt
    rw [hcnt]
    clear hcnt hd hl2 hnlt h hl HN hz
    by_cases hk : z ≤ r.length
    · rw [if_pos hk]
      have hk2 : (z : Int) ≤ r.length := by omega
      go_enter Try.func57, Try.ntmps57
      go_wp2_with fail
      refine HN2.out.mono ?_
      rintro e w1 ⟨rfl, h2, h3⟩
      have c0 : w1.cell? ⟨g, 0, none⟩ = some (.string (B r)) := cell_at h2 0
      go_wp2
      go_ret
      exact ⟨rfl, h2, h3⟩
    · rw [if_neg hk]
      have hk2 : (r.length : Int) < z := by omega
      go_enter Try.func57, Try.ntmps57
      go_wp2_with fail
      refine HN2.out.mono ?_
      rintro e w1 ⟨rfl, h2, h3⟩
      have c0 : w1.cell? ⟨g, 0, none⟩ = some (.string (B r)) := cell_at h2 0
      have HF := Lib.hid (rFail_any g _ w1 h2)
      have H3 := Lib.hid h3
      clear h2 h3
      go_wp2_with fail
      refine HF.out.mono ?_
      rintro e w2 ⟨rfl, h4, h5⟩
      go_wp2
      go_ret
      exact ⟨rfl, h4, grown_trans H3.out h5⟩

set_option maxHeartbeats 1000000 in
set_option maxRecDepth 100000 in
theorem rList_any (g : Nat) (s : St) (w : World) (h : Rd 61 w g s) (hl : (lft s).length ≤ 1099511627776) :
    Calls Try.prog 34 #[.pointer (some ⟨g, 0, none⟩)] w
      (LRes 61 9 g w ((val [] (s.bind (decL decT))).map sv) (rest (s.bind (decL decT)))) := by
  obtain ⟨i0, hi, hz0, hz1, hz2⟩ := info_parts infoString
  have hgw : g < w.heap.size := blk_lt h
  have HN := Lib.hid (count_any g s w h hl)
  have hcomb := cnt_dec decT s
  have hor := cnt_or s
  obtain ⟨tgt, htgt⟩ : ∃ tgt, tgt = s.bind (decL decT) := ⟨_, rfl⟩
  rw [← htgt] at hcomb ⊢
  clear htgt h
  have hn : ∃ n s1, n = val 0 (cnt s) ∧ s1 = rest (cnt s) ∧ n ≤ 1099511627776 ∧ (lft s1).length ≤ 1099511627776 ∧ (s1 = none → n = 0 ∧ tgt = none) ∧ ∀ r, s1 = some r → tgt = decM decT n r := by
    refine ⟨_, _, rfl, rfl, ?_⟩
    rcases hor with ⟨h1, h2⟩ | ⟨r, h1, h2, h3, h4⟩
    · refine ⟨by omega, by rw [h1]; exact Nat.zero_le _, fun _ => ⟨h2, ?_⟩, fun r hr => by rw [h1] at hr; cases hr⟩
      rcases hc : cnt s with _ | ⟨a, b⟩
      · rw [hc] at hcomb; exact hcomb
      · rw [hc] at h1; cases h1
    · refine ⟨by omega, by rw [h1]; show r.length ≤ _; omega, (fun hr => by rw [h1] at hr; cases hr), fun r' hr => ?_⟩
      rw [h1] at hr
      have : r = r' := by injection hr
      subst this
      rw [hcomb, h2]
      rfl
  obtain ⟨n, s1, e1, e2, hn1, hl1, hno1, hyes1⟩ := hn
  rw [← e1, ← e2] at HN
  clear e1 e2 hor hcomb hl
  have hn2 : (n : Int) ≤ 1099511627776 := by omega
  have HNO := Lib.hid hno1
  have HYE := Lib.hid hyes1
  clear hno1 hyes1
  go_enter Try.func34, Try.ntmps34
  go_wp2_with fail
  refine HN.out.mono ?_
  rintro e w1 ⟨rfl, h2, h3⟩
  have H2 := Lib.hid h2
  have H3 := Lib.hid h3
  clear h2 h3
  go_wp2_with fail
  go_loopw [4, 5] (fun o i wr => ∃ A cap dl st, i = .int .i64 (dl.length : Nat) ∧ (st = none → n = 0) ∧ TLat 61 9 decT sv g n tgt w o wr A cap dl st) (fun _ i _ => n - (intOf i).toNat)
  case atStart =>
    refine ⟨none, 0, [], s1, rfl, fun h => (HNO.out h).1, rfl, by simp, World.ownsRow_nil _ _ _ _, H2.out, H3.out, hl1, fun h => (HNO.out h).2, fun r hr => ?_⟩
    rw [HYE.out r hr, List.length_nil, Nat.sub_zero]
    rcases decM decT n r with _ | ⟨q1, q2⟩ <;> rfl
  case round =>
    obtain ⟨A, cap, dl, st, rfl, hz, rfl, hdn, hown, hrd, hgr, hll, hno, hyes⟩ := hrel
    have hdn2 : (dl.length : Int) ≤ n := by omega
    rcases Nat.lt_or_ge dl.length n with hlt | hge
    · have hlt2 : (dl.length : Int) < n := by omega
      rcases st with _ | r1
      · have := hz rfl; omega
      have HE := Lib.hid (rText_any g (some r1) wr hrd hll)
      have HY := Lib.hid (hyes r1 rfl)
      have HG := Lib.hid hgr
      have hll1 : r1.length ≤ 1099511627776 := hll
      clear hrd hgr hno hyes hll hz
      go_wp2_with fail
      refine HE.out.mono ?_
      rintro e w2 ⟨rfl, h4, h5⟩
      have d1 : w2.cell? ⟨g, 1, none⟩ = some (.bool (rest (decT r1)).isNone) := cell_at h4 1
      have hown2 := own_far hown hgw h5
      have hsz2 : w.heap.size ≤ w2.heap.size := Nat.le_trans HG.out.size h5.size
      have H4 := Lib.hid h4
      have H5 := Lib.hid h5
      clear h4 h5 hown
      obtain ⟨x, hx⟩ : ∃ x, x = val [] (decT r1) := ⟨_, rfl⟩
      have hx2 : val [] ((some r1).bind decT) = x := hx.symm
      rw [hx2]
      have HX := Lib.hid hx
      clear hx hx2
      rcases hrst : rest (decT r1) with _ | r2
      · rw [hrst] at d1
        have R := Lib.hid (tl_none (c := sv) (E := 9) ((tl_tgt (z := []) hlt HY.out).1 hrst) (hrst ▸ H4.out) (grown_trans HG.out H5.out))
        clear hrst
        go_wp2
        go_ret
        exact R.out
      · rw [hrst] at d1
        have HRS := Lib.hid hrst
        clear hrst
        go_wp2_with (at_builtin; refine wpList_append_own _ rfl _ _ 22 rfl w.heap.size 9 i0 (.string ByteArray.empty) 1 16 Try.underlying22 hi hz0 hz1 hz2 rfl (by decide) _ _ _ rfl (hown2.alloc _) ⟨w2.heap.size, 0, none⟩ 1 1 [.string (B x)] rfl rfl one_cell (fun u hu => by simp at hu; subst hu; rfl) (by unfold maxLen; omega) (by omega) (by simp; omega) ?_)
        intro v' w3 hown3 hgrow _
        have hx := HX.out
        subst hx
        obtain ⟨A', cap', rfl, R⟩ := tl_push codecT (z := []) hlt hgw hown2 HG.out hll1 HY.out H4.out H5.out hown3 hgrow
        have HR := Lib.hid R
        clear hown3 hgrow hown2 R
        go_wp2
        go_roundw
        case rel => exact ⟨_, _, _, _, by rw [List.length_append, List.length_singleton]; go_num, fun h => (by rw [HRS.out] at h; cases h), HR.out⟩
        case measure => simp [intOf]; omega
    · have hge2 : (n : Int) ≤ dl.length := by omega
      have R : LRes 61 9 g w ((val [] tgt).map sv) (rest tgt) (.returned (.slice A dl.length cap)) wr := by
        rcases st with _ | r1
        · have h0 : dl = [] := List.eq_nil_of_length_eq_zero (by have := hz rfl; omega)
          have ht := hno rfl
          subst ht
          subst h0
          exact ⟨A, cap, rfl, hown, hrd, hgr⟩
        · exact tl_some (c := sv) (tl_stop (by omega) (hyes r1 rfl)) hown hrd hgr
      have HR := Lib.hid R
      clear hown hrd hgr hno hyes R hz
      go_wp2
      go_ret
      exact HR.out

set_option maxHeartbeats 1000000 in
set_option maxRecDepth 100000 in
theorem rNums_any (g : Nat) (s : St) (w : World) (h : Rd 61 w g s) (hl : (lft s).length ≤ 1099511627776) :
    Calls Try.prog 37 #[.pointer (some ⟨g, 0, none⟩)] w
      (LRes 61 3 g w ((val [] (s.bind (decL decI))).map (Value.int .i64)) (rest (s.bind (decL decI)))) := by
  obtain ⟨i0, hi, hz0, hz1, hz2⟩ := info_parts infoInt
  have hgw : g < w.heap.size := blk_lt h
  have HN := Lib.hid (count_any g s w h hl)
  have hcomb := cnt_dec decI s
  have hor := cnt_or s
  obtain ⟨tgt, htgt⟩ : ∃ tgt, tgt = s.bind (decL decI) := ⟨_, rfl⟩
  rw [← htgt] at hcomb ⊢
  clear htgt h
  have hn : ∃ n s1, n = val 0 (cnt s) ∧ s1 = rest (cnt s) ∧ n ≤ 1099511627776 ∧ (lft s1).length ≤ 1099511627776 ∧ (s1 = none → n = 0 ∧ tgt = none) ∧ ∀ r, s1 = some r → tgt = decM decI n r := by
    refine ⟨_, _, rfl, rfl, ?_⟩
    rcases hor with ⟨h1, h2⟩ | ⟨r, h1, h2, h3, h4⟩
    · refine ⟨by omega, by rw [h1]; exact Nat.zero_le _, fun _ => ⟨h2, ?_⟩, fun r hr => by rw [h1] at hr; cases hr⟩
      rcases hc : cnt s with _ | ⟨a, b⟩
      · rw [hc] at hcomb; exact hcomb
      · rw [hc] at h1; cases h1
    · refine ⟨by omega, by rw [h1]; show r.length ≤ _; omega, (fun hr => by rw [h1] at hr; cases hr), fun r' hr => ?_⟩
      rw [h1] at hr
      have : r = r' := by injection hr
      subst this
      rw [hcomb, h2]
      rfl
  obtain ⟨n, s1, e1, e2, hn1, hl1, hno1, hyes1⟩ := hn
  rw [← e1, ← e2] at HN
  clear e1 e2 hor hcomb hl
  have hn2 : (n : Int) ≤ 1099511627776 := by omega
  have HNO := Lib.hid hno1
  have HYE := Lib.hid hyes1
  clear hno1 hyes1
  go_enter Try.func37, Try.ntmps37
  go_wp2_with fail
  refine HN.out.mono ?_
  rintro e w1 ⟨rfl, h2, h3⟩
  have H2 := Lib.hid h2
  have H3 := Lib.hid h3
  clear h2 h3
  go_wp2_with fail
  go_loopw [4, 5] (fun o i wr => ∃ A cap dl st, i = .int .i64 (dl.length : Nat) ∧ (st = none → n = 0) ∧ TLat 61 3 decI (Value.int .i64) g n tgt w o wr A cap dl st) (fun _ i _ => n - (intOf i).toNat)
  case atStart =>
    refine ⟨none, 0, [], s1, rfl, fun h => (HNO.out h).1, rfl, by simp, World.ownsRow_nil _ _ _ _, H2.out, H3.out, hl1, fun h => (HNO.out h).2, fun r hr => ?_⟩
    rw [HYE.out r hr, List.length_nil, Nat.sub_zero]
    rcases decM decI n r with _ | ⟨q1, q2⟩ <;> rfl
  case round =>
    obtain ⟨A, cap, dl, st, rfl, hz, rfl, hdn, hown, hrd, hgr, hll, hno, hyes⟩ := hrel
    have hdn2 : (dl.length : Int) ≤ n := by omega
    rcases Nat.lt_or_ge dl.length n with hlt | hge
    · have hlt2 : (dl.length : Int) < n := by omega
      rcases st with _ | r1
      · have := hz rfl; omega
      have HE := Lib.hid (rInt_any g (some r1) wr hrd hll)
      have HY := Lib.hid (hyes r1 rfl)
      have HG := Lib.hid hgr
      have hll1 : r1.length ≤ 1099511627776 := hll
      clear hrd hgr hno hyes hll hz
      go_wp2_with fail
      refine HE.out.mono ?_
      rintro e w2 ⟨rfl, h4, h5⟩
      have d1 : w2.cell? ⟨g, 1, none⟩ = some (.bool (rest (decI r1)).isNone) := cell_at h4 1
      have hown2 := own_far hown hgw h5
      have hsz2 : w.heap.size ≤ w2.heap.size := Nat.le_trans HG.out.size h5.size
      have H4 := Lib.hid h4
      have H5 := Lib.hid h5
      clear h4 h5 hown
      obtain ⟨x, hx⟩ : ∃ x, x = val 0 (decI r1) := ⟨_, rfl⟩
      have hx2 : val 0 ((some r1).bind decI) = x := hx.symm
      rw [hx2]
      have HX := Lib.hid hx
      clear hx hx2
      rcases hrst : rest (decI r1) with _ | r2
      · rw [hrst] at d1
        have R := Lib.hid (tl_none (c := (Value.int .i64)) (E := 3) ((tl_tgt (z := 0) hlt HY.out).1 hrst) (hrst ▸ H4.out) (grown_trans HG.out H5.out))
        clear hrst
        go_wp2
        go_ret
        exact R.out
      · rw [hrst] at d1
        have HRS := Lib.hid hrst
        clear hrst
        go_wp2_with (at_builtin; refine wpList_append_own _ rfl _ _ 23 rfl w.heap.size 3 i0 (.int .i64 0) 1 8 Try.underlying23 hi hz0 hz1 hz2 rfl (by decide) _ _ _ rfl (hown2.alloc _) ⟨w2.heap.size, 0, none⟩ 1 1 [.int .i64 x] rfl rfl one_cell (fun u hu => by simp at hu; subst hu; rfl) (by unfold maxLen; omega) (by omega) (by simp; omega) ?_)
        intro v' w3 hown3 hgrow _
        have hx := HX.out
        subst hx
        obtain ⟨A', cap', rfl, R⟩ := tl_push codecI (z := 0) hlt hgw hown2 HG.out hll1 HY.out H4.out H5.out hown3 hgrow
        have HR := Lib.hid R
        clear hown3 hgrow hown2 R
        go_wp2
        go_roundw
        case rel => exact ⟨_, _, _, _, by rw [List.length_append, List.length_singleton]; go_num, fun h => (by rw [HRS.out] at h; cases h), HR.out⟩
        case measure => simp [intOf]; omega
    · have hge2 : (n : Int) ≤ dl.length := by omega
      have R : LRes 61 3 g w ((val [] tgt).map (Value.int .i64)) (rest tgt) (.returned (.slice A dl.length cap)) wr := by
        rcases st with _ | r1
        · have h0 : dl = [] := List.eq_nil_of_length_eq_zero (by have := hz rfl; omega)
          have ht := hno rfl
          subst ht
          subst h0
          exact ⟨A, cap, rfl, hown, hrd, hgr⟩
        · exact tl_some (c := (Value.int .i64)) (tl_stop (by omega) (hyes r1 rfl)) hown hrd hgr
      have HR := Lib.hid R
      clear hown hrd hgr hno hyes R hz
      go_wp2
      go_ret
      exact HR.out
end Go.Proofs.Ytcgbamloemdilaa
