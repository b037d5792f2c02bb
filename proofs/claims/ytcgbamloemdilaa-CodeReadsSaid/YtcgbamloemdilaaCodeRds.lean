/-
  CodeReads: the walk of the law, whatever the string and the slice of calls.
-/
import Derived.Test.YtcgbamloemdilaaCodeOpen
import Derived.Test.YtcgbamloemdilaaCodeRefRd2
import Derived.Deep.RegionWith
import Derived.IntWalk
namespace Go.Proofs.Ytcgbamloemdilaa
open Go.RowKit
open Cd
attribute [local go_sem] B_size B_drop' B_take B_list B_app

theorem rOpens (l : List UInt8) (w : World) : Calls Try.prog 23 #[.string (B l)] w (ORes 61 w l) :=
  (rOpen_any l w).mono fun e w' ⟨h1, h2⟩ => ⟨w.heap.size, h1, Nat.le_refl _, by rw [h2]; simp, by rw [h2]; exact rd_new _ _ _, by rw [h2]; exact (Below.refl _ _).alloc (Nat.le_refl _) _⟩
theorem takeI_le {n : Int} {l a r : List UInt8} (h : takeI n l = some (a, r)) : r.length ≤ l.length := by
  unfold takeI takeN at h
  split at h
  · split at h
    · simp only [Option.some.injEq, Prod.mk.injEq] at h
      rw [← h.2, List.length_drop]
      omega
    · cases h
  · cases h
theorem lft_take (s : St) (n : Int) : (lft (rest (s.bind (takeI n)))).length ≤ (lft s).length := by
  rcases s with _ | l
  · exact Nat.le_refl _
  · rw [Option.bind_some]
    rcases hd : takeI n l with _ | ⟨a, r⟩
    · exact Nat.zero_le _
    · exact takeI_le hd
theorem val_len {α : Type} {enc : α → List UInt8} {dec : List UInt8 → Option (α × List UInt8)} {ok : α → Prop} (h : ∀ l ls r, decL dec l = some (ls, r) → l = encL enc ls ++ r ∧ okL ok ls) (hne : ∀ a, ok a → enc a ≠ []) (s : St) : (val [] (s.bind (decL dec))).length ≤ (lft s).length := by
  rcases s with _ | l
  · exact Nat.le_refl _
  · rw [Option.bind_some]
    rcases hd : decL dec l with _ | ⟨a, r⟩
    · exact Nat.zero_le _
    · obtain ⟨e, hok⟩ := h l a r hd
      have := encM_length hne a hok.2
      show a.length ≤ l.length
      rw [e]
      unfold encL
      rw [List.length_append, List.length_append]
      omega
theorem cell_grown {w w' : World} {g k : Nat} {a : Addr} {u : Value} (h : w.cell? (a.add k) = some u) (hg : w.grownBy w' (some g)) (hne : a.block ≠ g) : w'.cell? (a.add k) = some u := by
  refine (World.cell?_of_block (hg.block _ ?_ ?_)).trans h
  · exact World.block_lt_of_cell? w _ h
  · rw [add_block]
    intro e
    exact hne (by injection e)
/-- What the law's loop keeps: both readers are in one state. -/
def RL (p q : Nat) (w : World) (i : Value) (wr : World) : Prop :=
  ∃ (k : Nat) (st : St), i = .int .i64 (k : Int) ∧ k ≤ 30 ∧ Rd 59 wr p st ∧ Rd 61 wr q st ∧ Below w.heap.size w wr ∧ (lft st).length ≤ 5000

set_option maxHeartbeats 4000000 in
set_option maxRecDepth 100000 in
theorem codeReads_walk (s : List UInt8) (A : Option Addr) (zs : List Int) (c : Nat) (w : World) (hs : s.length ≤ maxLen)
    (hr : Row w w.heap.size A (Zs zs)) (hz : zs.length ≤ maxLen) (hwf : ∀ z ∈ zs, (Lit.int .i64 z).wf = true) :
    Calls Try.prog 4 #[.string (B s), .slice A zs.length c] w fun e w' => e = .returned (.bool true) ∧ Below w.heap.size w w' := by
  unfold maxLen at hs hz
  have hs2 : (s.length : Int) ≤ 9223372036854775807 := by omega
  have hz2 : (zs.length : Int) ≤ 9223372036854775807 := by omega
  have HR := Lib.hid hr
  have HW := Lib.hid hwf
  clear hr hwf
  by_cases hs3 : s.length ≤ 5000
  · have hs4 : (s.length : Int) ≤ 5000 := by omega
    by_cases hz3 : zs.length ≤ 30
    · have hz4 : (zs.length : Int) ≤ 30 := by omega
      have hdn : dn (some s) = s.isEmpty := by cases s <;> rfl
      have HD := Lib.hid hdn
      clear hdn
      go_enter Try.func4, Try.ntmps4
      go_wp2_with fail
      refine (small_any _).mono ?_
      rintro e w1 ⟨rfl, hb⟩
      have B1 := Lib.hid hb
      clear hb
      go_wp2_with fail
      refine (opens s _).mono ?_
      rintro e w2 ⟨p, rfl, hp1, hp2, hrd, hb⟩
      have B2 := Lib.hid (good_step B1.out hb)
      have hp3 : w.heap.size ≤ p := Nat.le_trans B1.out.size hp1
      have R1 := Lib.hid hrd
      clear hb hrd hp1
      go_wp2_with fail
      refine (rOpens s _).mono ?_
      rintro e w3 ⟨q, rfl, hq1, hq2, hrd, hb⟩
      have B3 := Lib.hid (good_step B2.out hb)
      have hpq : p < q := Nat.lt_of_lt_of_le hp2 hq1
      have R1' := Lib.hid (rd_below R1.out hb hp2)
      have R2 := Lib.hid hrd
      clear hb hrd hq1 hp2 R1
      go_wp2_with fail
      refine (left_any p _ w3 R1'.out).mono ?_
      rintro e w4 ⟨rfl, rfl⟩
      have d1 : lft (some s) = s := rfl
      rw [d1]
      clear d1
      go_wp2_with fail
      refine (done_any p _ w3 R1'.out).mono ?_
      rintro e w4 ⟨rfl, rfl⟩
      rw [HD.out]
      go_wp2_with fail
      go_loopw [8] (fun i wr => RL p q w i wr) (fun i _ => zs.length - (intOf i).toNat)
      case atStart => exact ⟨0, some s, rfl, by omega, R1'.out, R2.out, B3.out, hs3⟩
      case round =>
        obtain ⟨k, st, rfl, hk30, hrd, hrd', hbel, hll⟩ := hrel
        clear R1' R2 B3 HD
        have HB := Lib.hid hbel
        have H1 := Lib.hid hrd
        have H2 := Lib.hid hrd'
        have hll2 : (lft st).length ≤ 1099511627776 := by omega
        clear hbel hrd hrd'
        by_cases hlt : k < zs.length
        · have hlt' : (k : Int) < zs.length := by omega
          obtain ⟨a, rfl, hab, hcell⟩ := (HR.out.below HB.out).num hlt
          obtain ⟨x, hx⟩ : ∃ x, x = zs[k] := ⟨_, rfl⟩
          rw [← hx] at hcell
          clear hx
          by_cases x0 : x = 0
          · subst x0
            have C1 := num_any p st wr H1.out hll2
            have C2 := fun v h => rNum_any q st v h hll2
            have hst : (lft (rest (st.bind decN))).length ≤ 5000 := Nat.le_trans (lft_rest codecN st) hll
            obtain ⟨z, hz⟩ : ∃ z, z = val 0 (st.bind decN) := ⟨_, rfl⟩
            obtain ⟨st', hs'⟩ : ∃ st', st' = rest (st.bind decN) := ⟨_, rfl⟩
            rw [← hz, ← hs'] at C1 C2
            rw [← hs'] at hst
            have HST := Lib.hid hst
            have HC1 := Lib.hid C1
            have HC2 := Lib.hid C2
            clear hz hs' hst C1 C2
            go_wp2_with fail
            refine HC1.out.mono ?_
            rintro e v1 ⟨rfl, h1, h2⟩
            have R1 := Lib.hid h1
            have R2 := Lib.hid (rd_other H2.out h2 (by omega))
            have RB := Lib.hid (below_grown HB.out h2 HB.out.size hp3)
            clear h1 h2
            go_wp2_with fail
            refine (HC2.out _ R2.out).mono ?_
            rintro e v2 ⟨rfl, h1, h2⟩
            have T1 := Lib.hid (rd_other R1.out h2 (by omega))
            have T2 := Lib.hid h1
            have TB := Lib.hid (below_grown RB.out h2 RB.out.size (by omega))
            clear h1 h2 R1 R2 RB
            go_wp2_with fail
            refine (left_any p _ _ T1.out).mono ?_
            rintro e v1 ⟨rfl, rfl⟩
            go_wp2_with fail
            refine (rLeft_any q _ _ T2.out).mono ?_
            rintro e v1 ⟨rfl, rfl⟩
            go_wp2_with fail
            refine (done_any p _ _ T1.out).mono ?_
            rintro e v1 ⟨rfl, rfl⟩
            go_wp2_with fail
            refine (rDone_any q _ _ T2.out).mono ?_
            rintro e v1 ⟨rfl, rfl⟩
            go_wp2
            go_roundw
            case rel => exact ⟨k + 1, st', by go_num, by omega, T1.out, T2.out, TB.out, HST.out⟩
            case measure => simp [intOf]; omega
          by_cases x1 : x = 1
          · subst x1
            have C1 := int_any p st wr H1.out hll2
            have C2 := fun v h => rInt_any q st v h hll2
            have hst : (lft (rest (st.bind decI))).length ≤ 5000 := Nat.le_trans (lft_rest codecI st) hll
            obtain ⟨z, hz⟩ : ∃ z, z = val 0 (st.bind decI) := ⟨_, rfl⟩
            obtain ⟨st', hs'⟩ : ∃ st', st' = rest (st.bind decI) := ⟨_, rfl⟩
            rw [← hz, ← hs'] at C1 C2
            rw [← hs'] at hst
            have HST := Lib.hid hst
            have HC1 := Lib.hid C1
            have HC2 := Lib.hid C2
            clear hz hs' hst C1 C2
            go_wp2_with fail
            refine HC1.out.mono ?_
            rintro e v1 ⟨rfl, h1, h2⟩
            have R1 := Lib.hid h1
            have R2 := Lib.hid (rd_other H2.out h2 (by omega))
            have RB := Lib.hid (below_grown HB.out h2 HB.out.size hp3)
            clear h1 h2
            go_wp2_with fail
            refine (HC2.out _ R2.out).mono ?_
            rintro e v2 ⟨rfl, h1, h2⟩
            have T1 := Lib.hid (rd_other R1.out h2 (by omega))
            have T2 := Lib.hid h1
            have TB := Lib.hid (below_grown RB.out h2 RB.out.size (by omega))
            clear h1 h2 R1 R2 RB
            go_wp2_with fail
            refine (left_any p _ _ T1.out).mono ?_
            rintro e v1 ⟨rfl, rfl⟩
            go_wp2_with fail
            refine (rLeft_any q _ _ T2.out).mono ?_
            rintro e v1 ⟨rfl, rfl⟩
            go_wp2_with fail
            refine (done_any p _ _ T1.out).mono ?_
            rintro e v1 ⟨rfl, rfl⟩
            go_wp2_with fail
            refine (rDone_any q _ _ T2.out).mono ?_
            rintro e v1 ⟨rfl, rfl⟩
            go_wp2
            go_roundw
            case rel => exact ⟨k + 1, st', by go_num, by omega, T1.out, T2.out, TB.out, HST.out⟩
            case measure => simp [intOf]; omega
          by_cases x2 : x = 2
          · subst x2
            have C1 := text_any p st wr H1.out hll2
            have C2 := fun v h => rText_any q st v h hll2
            have hst : (lft (rest (st.bind decT))).length ≤ 5000 := Nat.le_trans (lft_rest codecT st) hll
            obtain ⟨z, hz⟩ : ∃ z, z = val [] (st.bind decT) := ⟨_, rfl⟩
            obtain ⟨st', hs'⟩ : ∃ st', st' = rest (st.bind decT) := ⟨_, rfl⟩
            rw [← hz, ← hs'] at C1 C2
            rw [← hs'] at hst
            have HST := Lib.hid hst
            have HC1 := Lib.hid C1
            have HC2 := Lib.hid C2
            clear hz hs' hst C1 C2
            go_wp2_with fail
            refine HC1.out.mono ?_
            rintro e v1 ⟨rfl, h1, h2⟩
            have R1 := Lib.hid h1
            have R2 := Lib.hid (rd_other H2.out h2 (by omega))
            have RB := Lib.hid (below_grown HB.out h2 HB.out.size hp3)
            clear h1 h2
            go_wp2_with fail
            refine (HC2.out _ R2.out).mono ?_
            rintro e v2 ⟨rfl, h1, h2⟩
            have T1 := Lib.hid (rd_other R1.out h2 (by omega))
            have T2 := Lib.hid h1
            have TB := Lib.hid (below_grown RB.out h2 RB.out.size (by omega))
            clear h1 h2 R1 R2 RB
            go_wp2_with fail
            refine (left_any p _ _ T1.out).mono ?_
            rintro e v1 ⟨rfl, rfl⟩
            go_wp2_with fail
            refine (rLeft_any q _ _ T2.out).mono ?_
            rintro e v1 ⟨rfl, rfl⟩
            go_wp2_with fail
            refine (done_any p _ _ T1.out).mono ?_
            rintro e v1 ⟨rfl, rfl⟩
            go_wp2_with fail
            refine (rDone_any q _ _ T2.out).mono ?_
            rintro e v1 ⟨rfl, rfl⟩
            go_wp2
            go_roundw
            case rel => exact ⟨k + 1, st', by go_num, by omega, T1.out, T2.out, TB.out, HST.out⟩
            case measure => simp [intOf]; omega
          by_cases x3 : x = 3
          · subst x3
            have C1 := (list_any p st wr H1.out hll2).mono fun e w' h => lr_of (n := (val [] (st.bind (decL decT))).length) h (List.length_map ..)
            have C2 := fun v h => (rList_any q st v h hll2).mono fun e w' h => lr_of (n := (val [] (st.bind (decL decT))).length) h (List.length_map ..)
            have hst : (lft (rest (st.bind (decL decT)))).length ≤ 5000 := Nat.le_trans (lft_rest codecTs st) hll
            have hvl : (val [] (st.bind (decL decT))).length ≤ 5000 := Nat.le_trans (val_len (fun l a r h => codecTs.again l a r h) (fun s _ => encT_ne s) st) hll
            obtain ⟨z, hz⟩ : ∃ z, z = val [] (st.bind (decL decT)) := ⟨_, rfl⟩
            obtain ⟨st', hs'⟩ : ∃ st', st' = rest (st.bind (decL decT)) := ⟨_, rfl⟩
            rw [← hz, ← hs'] at C1 C2
            rw [← hs'] at hst
            rw [← hz] at hvl
            have HST := Lib.hid hst
            have HVL := Lib.hid hvl
            have HC1 := Lib.hid C1
            have HC2 := Lib.hid C2
            clear hz hs' hst C1 C2 hvl
            go_wp2_with fail
            refine HC1.out.mono ?_
            rintro e v1 ⟨A1, c1, rfl, hrow, h1, h2⟩
            have R1 := Lib.hid h1
            have R2 := Lib.hid (rd_other H2.out h2 (by omega))
            have RB := Lib.hid (below_grown HB.out h2 HB.out.size hp3)
            have L1 := Lib.hid hrow
            have hqw := Lib.hid (blk_lt H2.out)
            clear h1 h2 hrow
            go_wp2_with fail
            refine (HC2.out _ R2.out).mono ?_
            rintro e v2 ⟨A2, c2, rfl, hrow, h1, h2⟩
            have S1 := Lib.hid (rd_other R1.out h2 (by omega))
            have S2 := Lib.hid h1
            have SB := Lib.hid (below_grown RB.out h2 RB.out.size (by omega))
            have L1' := Lib.hid ((L1.out.grown (Nat.le_refl _) h2 (fun k hk => .inl (by injection hk with hk; have := hqw.out; omega))).row.more h2.size)
            have L2 := Lib.hid hrow.row
            clear h1 h2 R1 R2 RB hrow L1 hqw
            go_wp2_with fail
            refine (sameTexts_any _ A1 A2 z z c1 c2 _ L1'.out L2.out (by have := HVL.out; omega) (by have := HVL.out; omega)).mono ?_
            rintro e v3 ⟨rfl, hb⟩
            have dt : decide (z = z) = true := decide_eq_true rfl
            rw [dt]
            have T1 := Lib.hid (rd_below S1.out hb (blk_lt S1.out))
            have T2 := Lib.hid (rd_below S2.out hb (blk_lt S2.out))
            have TB := Lib.hid (good_step SB.out hb)
            clear hb S1 S2 SB L1' L2 dt
            go_wp2_with fail
            refine (left_any p _ _ T1.out).mono ?_
            rintro e v1 ⟨rfl, rfl⟩
            go_wp2_with fail
            refine (rLeft_any q _ _ T2.out).mono ?_
            rintro e v1 ⟨rfl, rfl⟩
            go_wp2_with fail
            refine (done_any p _ _ T1.out).mono ?_
            rintro e v1 ⟨rfl, rfl⟩
            go_wp2_with fail
            refine (rDone_any q _ _ T2.out).mono ?_
            rintro e v1 ⟨rfl, rfl⟩
            go_wp2
            go_roundw
            case rel => exact ⟨k + 1, st', by go_num, by omega, T1.out, T2.out, TB.out, HST.out⟩
            case measure => simp [intOf]; omega
          by_cases x4 : x = 4
          · subst x4
            have C1 := (nums_any p st wr H1.out hll2).mono fun e w' h => lr_of (n := (val [] (st.bind (decL decI))).length) h (List.length_map ..)
            have C2 := fun v h => (rNums_any q st v h hll2).mono fun e w' h => lr_of (n := (val [] (st.bind (decL decI))).length) h (List.length_map ..)
            have hst : (lft (rest (st.bind (decL decI)))).length ≤ 5000 := Nat.le_trans (lft_rest codecIs st) hll
            have hvl : (val [] (st.bind (decL decI))).length ≤ 5000 := Nat.le_trans (val_len (fun l a r h => codecIs.again l a r h) encI_ne st) hll
            obtain ⟨z, hz⟩ : ∃ z, z = val [] (st.bind (decL decI)) := ⟨_, rfl⟩
            obtain ⟨st', hs'⟩ : ∃ st', st' = rest (st.bind (decL decI)) := ⟨_, rfl⟩
            rw [← hz, ← hs'] at C1 C2
            rw [← hs'] at hst
            rw [← hz] at hvl
            have HST := Lib.hid hst
            have HVL := Lib.hid hvl
            have HC1 := Lib.hid C1
            have HC2 := Lib.hid C2
            clear hz hs' hst C1 C2 hvl
            go_wp2_with fail
            refine HC1.out.mono ?_
            rintro e v1 ⟨A1, c1, rfl, hrow, h1, h2⟩
            have R1 := Lib.hid h1
            have R2 := Lib.hid (rd_other H2.out h2 (by omega))
            have RB := Lib.hid (below_grown HB.out h2 HB.out.size hp3)
            have L1 := Lib.hid hrow
            have hqw := Lib.hid (blk_lt H2.out)
            clear h1 h2 hrow
            go_wp2_with fail
            refine (HC2.out _ R2.out).mono ?_
            rintro e v2 ⟨A2, c2, rfl, hrow, h1, h2⟩
            have S1 := Lib.hid (rd_other R1.out h2 (by omega))
            have S2 := Lib.hid h1
            have SB := Lib.hid (below_grown RB.out h2 RB.out.size (by omega))
            have L1' := Lib.hid ((L1.out.grown (Nat.le_refl _) h2 (fun k hk => .inl (by injection hk with hk; have := hqw.out; omega))).row.more h2.size)
            have L2 := Lib.hid hrow.row
            clear h1 h2 R1 R2 RB hrow L1 hqw
            go_wp2_with fail
            refine (sameNums_any _ A1 A2 z z c1 c2 _ L1'.out L2.out (by have := HVL.out; omega) (by have := HVL.out; omega)).mono ?_
            rintro e v3 ⟨rfl, hb⟩
            have dt : decide (z = z) = true := decide_eq_true rfl
            rw [dt]
            have T1 := Lib.hid (rd_below S1.out hb (blk_lt S1.out))
            have T2 := Lib.hid (rd_below S2.out hb (blk_lt S2.out))
            have TB := Lib.hid (good_step SB.out hb)
            clear hb S1 S2 SB L1' L2 dt
            go_wp2_with fail
            refine (left_any p _ _ T1.out).mono ?_
            rintro e v1 ⟨rfl, rfl⟩
            go_wp2_with fail
            refine (rLeft_any q _ _ T2.out).mono ?_
            rintro e v1 ⟨rfl, rfl⟩
            go_wp2_with fail
            refine (done_any p _ _ T1.out).mono ?_
            rintro e v1 ⟨rfl, rfl⟩
            go_wp2_with fail
            refine (rDone_any q _ _ T2.out).mono ?_
            rintro e v1 ⟨rfl, rfl⟩
            go_wp2
            go_roundw
            case rel => exact ⟨k + 1, st', by go_num, by omega, T1.out, T2.out, TB.out, HST.out⟩
            case measure => simp [intOf]; omega
          have n0 : (x == 0) = false := by simpa using x0
          have n1 : (x == 1) = false := by simpa using x1
          have n2 : (x == 2) = false := by simpa using x2
          have n3 : (x == 3) = false := by simpa using x3
          have n4 : (x == 4) = false := by simpa using x4
          obtain ⟨y, hy⟩ : ∃ y, IntKind.i64.wrap (x - 5) = y := ⟨_, rfl⟩
          have C1 := fun v h => take_any p st y v h hll2
          have C2 := fun v h => rTake_any q st y v h hll2
          have hst : (lft (rest (st.bind (takeI y)))).length ≤ 5000 := Nat.le_trans (lft_take st y) hll
          obtain ⟨z, hz⟩ : ∃ z, z = val [] (st.bind (takeI y)) := ⟨_, rfl⟩
          obtain ⟨st', hs'⟩ : ∃ st', st' = rest (st.bind (takeI y)) := ⟨_, rfl⟩
          rw [← hz, ← hs'] at C1 C2
          rw [← hs'] at hst
          have HST := Lib.hid hst
          have HC1 := Lib.hid C1
          have HC2 := Lib.hid C2
          clear hz hs' hst C1 C2 x0 x1 x2 x3 x4
          go_wp2_with fail
          clear n0 n1 n2 n3 n4
          go_region_with (first | (go_at_call 38; refine (HC1.out _ (by exact H1.out)).mono ?_; rintro e v1 ⟨rfl, h1, h2⟩; have hc1 := cell_grown (by exact hcell) h2 (by omega)) | (go_at_call 39; refine (HC2.out _ (by exact rd_other (by exact H2.out) h2 (by omega))).mono ?_; rintro e v2 ⟨rfl, h3, h4⟩; have hc2 := cell_grown (by exact hc1) h4 (by omega)))
          all_goals
            have hsz0 := HB.out.size
            have hsz1 := h2.size
            simp only [World.size_drew] at hsz1
            have T1 := Lib.hid (rd_other (by exact h1) h4 (by omega))
            have T2 := Lib.hid h3
            have TB1 := below_grown HB.out.drew h2 (by exact hsz0) hp3
            have TB := Lib.hid (below_grown (by exact TB1) h4 (by omega) (by omega))
            clear h1 h2 h3 h4 hc1 hc2 hy hsz0 hsz1 TB1
            go_wp2_with fail
            refine (left_any p _ _ T1.out).mono ?_
            rintro e v1 ⟨rfl, rfl⟩
            go_wp2_with fail
            refine (rLeft_any q _ _ T2.out).mono ?_
            rintro e v1 ⟨rfl, rfl⟩
            go_wp2_with fail
            refine (done_any p _ _ T1.out).mono ?_
            rintro e v1 ⟨rfl, rfl⟩
            go_wp2_with fail
            refine (rDone_any q _ _ T2.out).mono ?_
            rintro e v1 ⟨rfl, rfl⟩
            go_wp2
            go_roundw
            case rel => exact ⟨k + 1, st', by go_num, by omega, T1.out, T2.out, TB.out, HST.out⟩
            case measure => simp [intOf]; omega
        · have hge : (zs.length : Int) ≤ k := by omega
          clear hll hll2
          go_wp2
          go_ret
          exact ⟨rfl, HB.out⟩
    · have hz4 : (30 : Int) < zs.length := by omega
      go_enter Try.func4, Try.ntmps4
      go_wp2_with fail
      refine (small_any _).mono ?_
      rintro e w1 ⟨rfl, hb⟩
      go_wp2
      go_ret
      exact ⟨rfl, hb⟩
  · have hs4 : (5000 : Int) < s.length := by omega
    go_enter Try.func4, Try.ntmps4
    go_wp2_with fail
    refine (small_any _).mono ?_
    rintro e w1 ⟨rfl, hb⟩
    go_wp2
    go_ret
    exact ⟨rfl, hb⟩
end Go.Proofs.Ytcgbamloemdilaa
