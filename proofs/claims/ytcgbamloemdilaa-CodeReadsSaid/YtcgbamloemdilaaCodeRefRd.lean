/-
  Layer 2: the document's own answers (agoraref02): the reader.
-/
import Derived.Test.YtcgbamloemdilaaCodeRd2
namespace Go.Proofs.Ytcgbamloemdilaa
open Go.RowKit
open Cd
attribute [local go_sem] B_size B_drop' B_take B_list B_app

/-- The number of bytes of the varint at the front; 0 if there is none. -/
def lenV (l : List UInt8) : Nat := match decN l with
  | none => 0
  | some (_, r) => l.length - r.length
/-- The number of these digits. -/
def vv : List UInt8 → Nat
  | [] => 0
  | b :: r => b.toNat % 128 + 128 * vv r
theorem vv_vi : ∀ (k n : Nat), n < 128 ^ (k + 1) → vv (vi k n) = n
  | 0, n, h => by
    simp only [vi, vv]
    rw [ofNat_toNat' n (by omega)]
    omega
  | k + 1, n, h => by
    rw [vi]
    split
    · simp only [vv]
      rw [ofNat_toNat' n (by omega)]
      omega
    · have hm : n / 128 < 128 ^ (k + 1) := by
        rw [Nat.pow_succ] at h
        omega
      rw [vv, vv_vi k (n / 128) hm, ofNat_toNat' _ (by omega)]
      omega
theorem vv_lt : ∀ (l : List UInt8), vv l < 128 ^ l.length
  | [] => by simp [vv]
  | b :: r => by
    have h := vv_lt r
    rw [vv, List.length_cons, Nat.pow_succ]
    omega
theorem lenV_some {l : List UInt8} {n : Nat} {r : List UInt8} (h : decN l = some (n, r)) : lenV l = (vi 8 n).length ∧ l.take (lenV l) = vi 8 n ∧ l.drop (lenV l) = r := by
  have e := (codecN.again _ _ _ h).1
  have e2 : lenV l = (vi 8 n).length := by
    unfold lenV
    rw [h]
    show l.length - r.length = _
    rw [e, List.length_append]
    unfold encN
    omega
  refine ⟨e2, ?_, ?_⟩
  · rw [e2, e]; exact List.take_left
  · rw [e2, e]; exact List.drop_left
theorem lenV_none {l : List UInt8} (h : decN l = none) : lenV l = 0 := by unfold lenV; rw [h]
theorem lenV_at {l : List UInt8} {k x : Nat} (h : decN l = some (x, l.drop (k + 1))) (hk : k < l.length) : lenV l = k + 1 := by
  unfold lenV
  rw [h]
  show l.length - (l.drop (k + 1)).length = k + 1
  rw [List.length_drop]
  omega

set_option maxHeartbeats 1000000 in
set_option maxRecDepth 100000 in
theorem length_any (l : List UInt8) (w : World) (hl : l.length ≤ 1099511627776) :
    Calls Try.prog 53 #[.string (B l)] w fun e w' => e = .returned (.int .i64 (lenV l : Nat)) ∧ w = w' := by
  have hl3 : (l.length : Int) ≤ 1099511627776 := by omega
  go_enter Try.func53, Try.ntmps53
  go_wp2_with fail
  go_loop [3] (fun i => ∃ k m : Nat, i = .int .i64 (k : Int) ∧ PNum l k m) (fun i => 9 - (intOf i).toNat)
  case atStart => exact ⟨0, 0, rfl, pnum_start l⟩
  case round =>
    obtain ⟨k, m, rfl, hp⟩ := hrel
    have hk9 := hp.1
    have hkl := hp.2.1
    have HP := Lib.hid hp
    clear hp
    by_cases hc : k < 9 ∧ k < l.length
    · obtain ⟨hc1, hc2⟩ := hc
      have hc3 : (k : Int) < 9 := by omega
      have hc4 : (k : Int) < l.length := by omega
      have hb2 := l[k].toNat_lt
      obtain ⟨b, hb⟩ : ∃ b : Nat, b = l[k].toNat := ⟨_, rfl⟩
      have hg : ∀ h, ((B l)[k]'h).toNat = b := fun h => hb.symm
      rw [← hb] at hb2
      have HB := Lib.hid hb
      clear hb
      by_cases h128 : 128 ≤ b
      · have h128' : (128 : Int) ≤ b := by omega
        have hst := pnum_step HP.out hc1 hc2 (by rw [← HB.out]; exact h128)
        have HT := Lib.hid hst
        clear hst
        go_wp2
        go_round
        case rel => exact ⟨k + 1, _, by go_num, HT.out⟩
        case measure => simp [intOf]; omega
      · have h128' : (b : Int) < 128 := by omega
        have hat := pnum_at HP.out hc1 hc2
        rw [← HB.out, if_pos (by omega)] at hat
        by_cases hz : b = 0 ∧ k ≠ 0
        · rw [if_pos hz] at hat
          obtain ⟨rfl, hz2⟩ := hz
          have hz3 : (0 : Int) < k := by omega
          have hz4 : ((k : Int) == 0) = false := by simp; omega
          have R := Lib.hid (lenV_none hat)
          clear hat
          go_wp2
          go_ret
          rw [R.out]
          exact ⟨rfl, rfl⟩
        · rw [if_neg hz] at hat
          have R := Lib.hid (lenV_at hat hc2)
          clear hat
          rcases (show b = 0 ∧ k = 0 ∨ 0 < b from by omega) with ⟨rfl, rfl⟩ | hbp
          · go_wp2
            go_ret
            rw [R.out]
            exact ⟨rfl, rfl⟩
          · have hbp' : (0 : Int) < b := by omega
            go_wp2
            go_ret
            rw [R.out]
            exact ⟨by simp, rfl⟩
    · have R := Lib.hid (lenV_none (pnum_end HP.out hc))
      rcases (show k = l.length ∧ k < 9 ∨ k = 9 ∧ k < l.length ∨ k = 9 ∧ k = l.length from by omega) with ⟨h1, h2⟩ | ⟨h1, h2⟩ | ⟨h1, h2⟩
      all_goals
        have h3 : (l.length : Int) ≤ k ∨ (9 : Int) ≤ k := by omega
        have h4 := Lib.hid h1
        clear h1 hc
        have h5 : (k : Int) ≤ l.length ∧ (k : Int) ≤ 9 := by omega
        go_wp2
        go_ret
        rw [R.out]
        exact ⟨rfl, rfl⟩

set_option maxHeartbeats 1000000 in
theorem value_one (b : UInt8) (w : World) : Calls Try.prog 55 #[.string (B [b])] w fun e w' => e = .returned (.int .i64 (vv [b] : Nat)) ∧ w = w' := by
  have hb2 := b.toNat_lt
  obtain ⟨c, hc⟩ : ∃ c : Nat, c = b.toNat := ⟨_, rfl⟩
  have hg : ∀ h, ((B [b])[0]'h).toNat = c := fun h => hc.symm
  have e : vv [b] = c % 128 := by simp [vv, hc]
  rw [e]
  rw [← hc] at hb2
  clear hc e
  go_enter Try.func55, Try.ntmps55
  go_wp2_with fail
  go_ret
  exact ⟨rfl, rfl⟩
set_option maxHeartbeats 1000000 in
theorem value_step (b : UInt8) (t : List UInt8) (w : World) (ht : t ≠ []) (hl : t.length ≤ 8) (ih : Calls Try.prog 55 #[.string (B t)] w fun e w' => e = .returned (.int .i64 (vv t : Nat)) ∧ w = w') :
    Calls Try.prog 55 #[.string (B (b :: t))] w fun e w' => e = .returned (.int .i64 (vv (b :: t) : Nat)) ∧ w = w' := by
  have hb2 := b.toNat_lt
  obtain ⟨c, hc⟩ : ∃ c : Nat, c = b.toNat := ⟨_, rfl⟩
  have hg : ∀ h, ((B (b :: t))[0]'h).toNat = c := fun h => hc.symm
  have hv := vv_lt t
  have hv2 : vv t < 72057594037927936 := Nat.lt_of_lt_of_le hv (Nat.le_trans (Nat.pow_le_pow_right (by omega) hl) (by decide))
  have e : vv (b :: t) = c % 128 + 128 * vv t := by simp [vv, hc]
  rw [e]
  rw [← hc] at hb2
  obtain ⟨y, hy⟩ : ∃ y, y = vv t := ⟨_, rfl⟩
  rw [← hy] at ih hv2 ⊢
  have HC := Lib.hid ih
  have hy0 : (y : Int) ≤ 72057594037927935 := by omega
  have hpos : 0 < t.length := List.length_pos_iff.2 ht
  have hr1 : (t.length : Int) ≤ 8 := by omega
  have hr3 : 0 < (t.length : Int) := by omega
  have ex : (B (b :: t)).extract 1 (t.length + 1) = B t := B_drop' (b :: t) 1
  clear hc e hy ih hv ht hv2
  go_enter Try.func55, Try.ntmps55
  go_wp2_with fail
  refine HC.out.mono ?_
  rintro e w1 ⟨rfl, rfl⟩
  go_wp2
  go_ret
  exact ⟨by simp, rfl⟩
theorem value_any : ∀ (l : List UInt8) (w : World), l ≠ [] → l.length ≤ 9 →
    Calls Try.prog 55 #[.string (B l)] w fun e w' => e = .returned (.int .i64 (vv l : Nat)) ∧ w = w'
  | [], w, h, _ => absurd rfl h
  | [b], w, _, _ => value_one b w
  | b :: b' :: r, w, _, hl => value_step b (b' :: r) w (by simp) (by simp at hl ⊢; omega) (value_any (b' :: r) w (by simp) (by simp at hl ⊢; omega))

set_option maxHeartbeats 400000 in
theorem rFail_any (g : Nat) (s : St) (w : World) (h : Rd 61 w g s) :
    Calls Try.prog 54 #[.pointer (some ⟨g, 0, none⟩)] w (RRes 61 g w (.tuple #[]) none) := by
  have c0 : w.cell? ⟨g, 0, none⟩ = some (.string (B (lft s))) := cell_at h 0
  have c1 : w.cell? ⟨g, 1, none⟩ = some (.bool s.isNone) := cell_at h 1
  have f0 := free_at h 0
  have f1 := free_at h 1
  have H := Lib.hid h
  clear h
  go_enter Try.func54, Try.ntmps54
  go_wp2
  go_end0
  exact ⟨rfl, rd_set2 (s' := none) H.out, grown_set (grown_set (World.grownBy.refl w _) _ _) _ _⟩

set_option maxHeartbeats 400000 in
theorem rLeft_any (g : Nat) (s : St) (w : World) (h : Rd 61 w g s) :
    Calls Try.prog 40 #[.pointer (some ⟨g, 0, none⟩)] w fun e w' => e = .returned (.int .i64 ((lft s).length : Nat)) ∧ w = w' := by
  have c0 : w.cell? ⟨g, 0, none⟩ = some (.string (B (lft s))) := cell_at h 0
  rw [← B_size]
  clear h
  go_enter Try.func40, Try.ntmps40
  go_wp2
  go_ret
  exact ⟨rfl, rfl⟩

set_option maxHeartbeats 400000 in
theorem rDone_any (g : Nat) (s : St) (w : World) (h : Rd 61 w g s) :
    Calls Try.prog 41 #[.pointer (some ⟨g, 0, none⟩)] w fun e w' => e = .returned (.bool (dn s)) ∧ w = w' := by
  have c0 : w.cell? ⟨g, 0, none⟩ = some (.string (B (lft s))) := cell_at h 0
  have c1 : w.cell? ⟨g, 1, none⟩ = some (.bool s.isNone) := cell_at h 1
  clear h
  rcases s with _ | _ | ⟨b, l⟩
  all_goals
    go_enter Try.func41, Try.ntmps41
    go_wp2
    go_ret
    exact ⟨rfl, rfl⟩

set_option maxHeartbeats 400000 in
theorem rOpen_any (l : List UInt8) (w : World) :
    Calls Try.prog 23 #[.string (B l)] w fun e w' => e = .returned (.pointer (some ⟨w.heap.size, 0, none⟩)) ∧ w' = w.alloc (.cells (rc (some l)) 61) := by
  go_enter Try.func23, Try.ntmps23
  go_wp2
  go_ret
  exact ⟨rfl, rfl⟩

set_option maxHeartbeats 1000000 in
theorem rNum_any (g : Nat) (s : St) (w : World) (h : Rd 61 w g s) (hl : (lft s).length ≤ 1099511627776) :
    Calls Try.prog 27 #[.pointer (some ⟨g, 0, none⟩)] w (RRes 61 g w (.int .i64 (val 0 (s.bind decN) : Nat)) (rest (s.bind decN))) := by
  have c0 : w.cell? ⟨g, 0, none⟩ = some (.string (B (lft s))) := cell_at h 0
  have f0 := free_at h 0
  have HF := Lib.hid (rFail_any g s w h)
  have H := Lib.hid h
  clear h
  obtain ⟨l, hl2⟩ : ∃ l, l = lft s := ⟨_, rfl⟩
  rw [← hl2] at c0 hl
  have HL := Lib.hid hl2
  have HN := Lib.hid (length_any l w hl)
  clear hl2
  have hl3 : (l.length : Int) ≤ 1099511627776 := by omega
  rcases hd : decN l with _ | ⟨n, r⟩
  · rw [lenV_none hd] at HN
    have R := Lib.hid (num_none HL.out hd)
    clear hd
    go_enter Try.func27, Try.ntmps27
    go_wp2_with fail
    refine HN.out.mono ?_
    rintro e w1 ⟨rfl, rfl⟩
    go_wp2_with fail
    refine HF.out.mono ?_
    rintro e w1 ⟨rfl, h1, h2⟩
    go_wp2
    go_ret
    rw [R.out]
    exact ⟨rfl, h1, h2⟩
  · obtain ⟨e1, e2, e3⟩ := lenV_some hd
    have hn := (codecN.again _ _ _ hd).2
    have hlr : l.length = (vi 8 n).length + r.length := by
      have := congrArg List.length (codecN.again _ _ _ hd).1
      rw [List.length_append] at this
      exact this
    have R := Lib.hid (num_some HL.out hd)
    have hsd : s.isNone = false := by
      rcases s with _ | l'
      · have e : l = [] := HL.out
        subst e
        cases hd
      · rfl
    have hv1 := vi_pos 8 n
    have hv9 := vi_len 8 n
    obtain ⟨k, hk⟩ : ∃ k, k = lenV l := ⟨_, rfl⟩
    rw [← hk] at HN e1 e2 e3
    have hk0 : 0 < k := by omega
    have hk1 : k ≤ l.length := by omega
    have hk2 : 0 < (k : Int) := by omega
    have hk3 : (k : Int) ≤ l.length := by omega
    have HV0 := value_any (l.take k) w (by rw [e2]; intro h; rw [h] at hv1; simp at hv1) (by rw [e2]; omega)
    have ev : vv (l.take k) = n := by rw [e2]; exact vv_vi 8 n (by unfold okN at hn; omega)
    rw [ev] at HV0
    have HV := Lib.hid HV0
    have R2 : RRes 61 g w (.int .i64 (val 0 (s.bind decN) : Nat)) (rest (s.bind decN)) (.returned (.int .i64 (n : Int))) (w.setCell ⟨g, 0, none⟩ (.string (B (l.drop k)))) := by
      rw [R.out, e3]
      exact ⟨rfl, rd_set1 (s' := some r) H.out hsd, grown_set (World.grownBy.refl w _) _ _⟩
    have HR := Lib.hid R2
    clear R2 ev HV0 hk hv9 hv1 hlr e1 e2 e3 hsd hd
    go_enter Try.func27, Try.ntmps27
    go_wp2_with fail
    refine HN.out.mono ?_
    rintro e w1 ⟨rfl, rfl⟩
    go_wp2_with fail
    refine HV.out.mono ?_
    rintro e w1 ⟨rfl, rfl⟩
    go_wp2
    go_ret
    exact HR.out
end Go.Proofs.Ytcgbamloemdilaa
