/-
  Layer 3: the program's absorb.
-/
import Derived.Test.YtojbicpchjiplaaGreatDoorSumSched
import Derived.Test.YtojbicpchjiplaaGreatDoorSumHexAny
import Derived.Test.YtojbicpchjiplaaGreatDoorSumEat
import Derived.Lib.LaidTab
namespace Go.Proofs.YtojbicpchjiplaaGreatDoor.S3
open Go.RowKit Sha
attribute [local go_sem] B_size B_drop' B_take B_list B_app

/-- What the rows list: the table of constants and the initial state, in the program's own blocks. -/
structure Laid (w : World) : Prop where
  con : ∀ j, j < 64 → w.cell? ⟨1, j, none⟩ = some (.int .u32 ((adds.getD j 0).toNat : Nat))
  ini : ∃ t fr, w.heap[0]? = some (.cells (Ws firsts).toArray t fr)
  big : 1 < w.heap.size ∧ 0 < w.heap.size

/-- A string's length: the loop's measure. -/
def strLen : Value → Nat | .string b => b.size | _ => 0
theorem row_cell {w : World} {g : Nat} {t : TypeId} {fr : Nat × Nat} {hs : List (BitVec 32)} (hc : w.heap[g]? = some (.cells (Ws hs).toArray t fr)) (i : Nat) (hi : i < hs.length) : w.cell? ⟨g, i, none⟩ = some (.int .u32 ((hs.getD i 0).toNat : Nat)) := by
  rw [cell_of_row _ _ _ _ _ _ hc, List.getElem?_toArray, Ws, List.getElem?_map, List.getD_eq_getElem?_getD, List.getElem?_eq_getElem hi]; rfl

theorem run_index_cell {P : Program} (t e : TypeId) (n : Nat) (cs : Array Value) (k : Nat) (v : Value) (w : World) (ht : P.underlying t = some (.array n e)) (he : (isAgg e).run P w = .ok false w) (hs : (sizeOf e).run P w = .ok 1 w) (hk : k < n) (hv : cs[k]? = some v) :
    (Instr.index t (.agg cs) (.int .i64 (k : Int))).run P w = .ok v w := by
  have hn : 0 ≤ (k : Int) ∧ (k : Int) < (n : Int) := by omega
  simp [Instr.index, run_underlying ht, asIntOf, hn, hk, hs, part, he, hv, go_sem]
def mix (z hs : List (BitVec 32)) (k : Nat) : Array Value := (Ws (z.take k ++ hs.drop k)).toArray
theorem mix_start (z hs : List (BitVec 32)) : mix z hs 0 = (Ws hs).toArray := by simp [mix]
theorem mix_end (z hs : List (BitVec 32)) (hz : z.length = 8) (hh : hs.length = 8) : mix z hs 8 = (Ws z).toArray := by
  rw [mix, List.take_of_length_le (by omega), List.drop_of_length_le (by omega), List.append_nil]
theorem mix_get (z hs : List (BitVec 32)) (k : Nat) (hz : z.length = 8) (hh : hs.length = 8) (hk : k < 8) : (mix z hs k)[k]? = some (Value.int .u32 ((hs.getD k 0).toNat : Nat)) := by
  have hl : (z.take k).length = k := by rw [List.length_take]; omega
  rw [mix, List.getElem?_toArray, Ws, List.getElem?_map, List.getElem?_append_right (by omega), hl, Nat.sub_self, List.getElem?_drop, Nat.add_zero, List.getD_eq_getElem?_getD, List.getElem?_eq_getElem (by omega)]
  rfl
theorem mix_set (z hs : List (BitVec 32)) (k : Nat) (hz : z.length = 8) (hh : hs.length = 8) (hk : k < 8) :
    (mix z hs k).setIfInBounds k (Value.int .u32 ((z.getD k 0).toNat : Nat)) = mix z hs (k + 1) := by
  have hl : (z.take k).length = k := by rw [List.length_take]; omega
  have hd : hs.drop k = hs[k]'(by omega) :: hs.drop (k + 1) := List.drop_eq_getElem_cons (by omega)
  have ht : z.take (k + 1) = z.take k ++ [z.getD k 0] := by
    rw [List.take_add_one, List.getD_eq_getElem?_getD, List.getElem?_eq_getElem (by omega)]; rfl
  rw [mix, mix, List.setIfInBounds_toArray, ht, hd, Ws_append, Ws_append, List.set_append_right _ _ (by rw [Ws_length]; omega), Ws_length, hl, Nat.sub_self, Ws_append, List.append_assoc]
  rfl
theorem getD_zip (a b : List (BitVec 32)) (j : Nat) (ha : j < a.length) (hb : j < b.length) : (List.zipWith (· + ·) a b).getD j 0 = a.getD j 0 + b.getD j 0 := by
  simp [List.getD_eq_getElem?_getD, List.getElem?_zipWith, List.getElem?_eq_getElem ha, List.getElem?_eq_getElem hb]
theorem list8 (l : List (BitVec 32)) (h : l.length = 8) : l = [l.getD 0 0, l.getD 1 0, l.getD 2 0, l.getD 3 0, l.getD 4 0, l.getD 5 0, l.getD 6 0, l.getD 7 0] := by
  match l, h with
  | [_, _, _, _, _, _, _, _], _ => rfl

set_option maxHeartbeats 2000000 in
set_option maxRecDepth 100000 in
theorem absorb_any (W w : World) (l : List UInt8) (h : List (BitVec 32)) (g : Nat) (hl : l.length ≤ 281474976710656) (hW : Laid W) (hbel : Below W.heap.size W w) (hg : W.heap.size ≤ g)
    (hh : h.length = 8) (hc : w.heap[g]? = some (.cells (Ws h).toArray 129 (0, 0))) :
    Calls Tryz.prog 152 #[.pointer (some ⟨g, 0, none⟩), .string (B l)] w fun e w' => e = .returned (.tuple #[]) ∧ Below W.heap.size W w' ∧ w'.heap[g]? = some (.cells (Ws (eat h l)).toArray 129 (0, 0)) := by
  go_enter Tryz.func152, Tryz.ntmps152
  go_wp2_with fail
  go_loopw [1] (fun s wr => ∃ (q : List UInt8) (hs : List (BitVec 32)), s = .string (B q) ∧ q.length ≤ l.length ∧ hs.length = 8 ∧ eat hs q = eat h l ∧ Below W.heap.size W wr ∧ wr.heap[g]? = some (.cells (Ws hs).toArray 129 (0, 0))) (fun s _ => strLen s)
  case atStart => exact ⟨l, h, rfl, Nat.le_refl _, hh, rfl, hbel, hc⟩
  case round =>
    obtain ⟨q, hs, rfl, hq, hs8, heq, hbel, hc⟩ := hrel
    by_cases h64 : q.length < 64
    · have h65 : ¬ (64 : Int) ≤ q.length := by omega
      rw [eat_small h64] at heq
      subst heq
      go_wp2
      (try simp only [Exit.inBlock, Exit.then])
      exact bodyPost_end (results_none rfl _ _ _) rfl ⟨rfl, hbel, hc⟩
    · have h65 : (64 : Int) ≤ q.length := by omega
      rw [eat_step h64] at heq
      obtain ⟨h0, hh0⟩ : ∃ x, x = hs.getD 0 0 := ⟨_, rfl⟩
      have c0 := row_cell hc 0 (by omega)
      rw [← hh0] at c0
      obtain ⟨h1, hh1⟩ : ∃ x, x = hs.getD 1 0 := ⟨_, rfl⟩
      have c1 := row_cell hc 1 (by omega)
      rw [← hh1] at c1
      obtain ⟨h2, hh2⟩ : ∃ x, x = hs.getD 2 0 := ⟨_, rfl⟩
      have c2 := row_cell hc 2 (by omega)
      rw [← hh2] at c2
      obtain ⟨h3, hh3⟩ : ∃ x, x = hs.getD 3 0 := ⟨_, rfl⟩
      have c3 := row_cell hc 3 (by omega)
      rw [← hh3] at c3
      obtain ⟨h4, hh4⟩ : ∃ x, x = hs.getD 4 0 := ⟨_, rfl⟩
      have c4 := row_cell hc 4 (by omega)
      rw [← hh4] at c4
      obtain ⟨h5, hh5⟩ : ∃ x, x = hs.getD 5 0 := ⟨_, rfl⟩
      have c5 := row_cell hc 5 (by omega)
      rw [← hh5] at c5
      obtain ⟨h6, hh6⟩ : ∃ x, x = hs.getD 6 0 := ⟨_, rfl⟩
      have c6 := row_cell hc 6 (by omega)
      rw [← hh6] at c6
      obtain ⟨h7, hh7⟩ : ∃ x, x = hs.getD 7 0 := ⟨_, rfl⟩
      have c7 := row_cell hc 7 (by omega)
      rw [← hh7] at c7
      have HH : Hid (h0 = hs.getD 0 0 ∧ h1 = hs.getD 1 0 ∧ h2 = hs.getD 2 0 ∧ h3 = hs.getD 3 0 ∧ h4 = hs.getD 4 0 ∧ h5 = hs.getD 5 0 ∧ h6 = hs.getD 6 0 ∧ h7 = hs.getD 7 0) := Lib.hid ⟨hh0, hh1, hh2, hh3, hh4, hh5, hh6, hh7⟩
      clear hh0 hh1 hh2 hh3 hh4 hh5 hh6 hh7
      have HC := Lib.hid hc
      have HBEL := Lib.hid hbel
      have HEQ := Lib.hid heq
      clear hc hbel heq
      go_wp2_with fail
      go_quiet (fail)
      generalize hwwa : wr.drewN _ = wa
      have e4 : wa.cell? ⟨g, 4, none⟩ = some (.int .u32 (h4.toNat : Nat)) := by rw [← hwwa]; exact c4
      have e5 : wa.cell? ⟨g, 5, none⟩ = some (.int .u32 (h5.toNat : Nat)) := by rw [← hwwa]; exact c5
      have e6 : wa.cell? ⟨g, 6, none⟩ = some (.int .u32 (h6.toNat : Nat)) := by rw [← hwwa]; exact c6
      have e7 : wa.cell? ⟨g, 7, none⟩ = some (.int .u32 (h7.toNat : Nat)) := by rw [← hwwa]; exact c7
      have HCwa : Hid (wa.heap[g]? = some (.cells (Ws hs).toArray 129 (0, 0))) := by rw [← hwwa]; exact HC
      have HBELwa : Hid (Below W.heap.size W wa) := by rw [← hwwa]; exact Lib.hid (below_drewN HBEL.out _)
      clear hwwa HC HBEL c0 c1 c2 c3 c4 c5 c6 c7
      go_wp2_with fail
      go_quiet (fail)
      generalize hwwb : wa.drewN _ = wb
      have HC : Hid (wb.heap[g]? = some (.cells (Ws hs).toArray 129 (0, 0))) := by rw [← hwwb]; exact HCwa
      have HBEL : Hid (Below W.heap.size W wb) := by rw [← hwwb]; exact Lib.hid (below_drewN HBELwa.out _)
      clear hwwb HCwa HBELwa e4 e5 e6 e7
      go_wp2_with fail
      refine (sched_any q _ (by omega) (by omega)).mono ?_
      rintro e w1 ⟨rfl, b1⟩
      have HC1 : Hid (w1.heap[g]? = some (.cells (Ws hs).toArray 129 (0, 0))) := Lib.hid ((b1.block g (Array.getElem?_eq_some_iff.1 HC.out).1).trans HC.out)
      have HB1 : Hid (Below W.heap.size W w1) := Lib.hid (HBEL.out.trans (b1.mono HBEL.out.size))
      clear b1 HC HBEL
      go_wp2_with fail
      have hs0 : hs = [h0, h1, h2, h3, h4, h5, h6, h7] := by
        obtain ⟨rfl, rfl, rfl, rfl, rfl, rfl, rfl, rfl⟩ := HH.out
        exact list8 hs hs8
      obtain ⟨S, hS⟩ : ∃ S, S = (Ws (sched q 64)).toArray := ⟨_, rfl⟩
      rw [← hS]
      have hSi : ∀ k, k < 64 → S[k]? = some (.int .u32 (((sched q 64).getD k 0).toNat : Nat)) := by
        intro k hk
        rw [hS, List.getElem?_toArray, Ws, List.getElem?_map, List.getD_eq_getElem?_getD, List.getElem?_eq_getElem (by rw [sched_length]; exact hk)]; rfl
      have HSI := Lib.hid hSi
      clear hS hSi
      go_loopw [4, 5, 6, 7, 8, 9, 10, 11, 57] (fun s4 s5 s6 s7 s8 s9 s10 s11 i wr => ∃ (k : Nat) (x0 x1 x2 x3 x4 x5 x6 x7 : BitVec 32), i = .int .i64 (k : Int) ∧ k ≤ 64 ∧ Hid (rounds q hs k = [x0, x1, x2, x3, x4, x5, x6, x7]) ∧
        s4 = .int .u32 (x0.toNat : Nat) ∧ s5 = .int .u32 (x1.toNat : Nat) ∧ s6 = .int .u32 (x2.toNat : Nat) ∧ s7 = .int .u32 (x3.toNat : Nat) ∧ s8 = .int .u32 (x4.toNat : Nat) ∧ s9 = .int .u32 (x5.toNat : Nat) ∧ s10 = .int .u32 (x6.toNat : Nat) ∧ s11 = .int .u32 (x7.toNat : Nat) ∧
        Hid (Below W.heap.size W wr) ∧ Hid (wr.heap[g]? = some (.cells (Ws hs).toArray 129 (0, 0)))) (fun _ _ _ _ _ _ _ _ i _ => 64 - (intOf i).toNat)
      case atStart => exact ⟨0, h0, h1, h2, h3, h4, h5, h6, h7, rfl, by omega, Lib.hid (by rw [rounds]; exact hs0), rfl, rfl, rfl, rfl, rfl, rfl, rfl, rfl, HB1, HC1⟩
      case round =>
        clear hs0 HH HB1 HC1
        obtain ⟨k, x0, x1, x2, x3, x4, x5, x6, x7, rfl, hk, HR, rfl, rfl, rfl, rfl, rfl, rfl, rfl, rfl, HB, HC⟩ := hrel
        by_cases hk6 : k < 64
        · have hk7 : (k : Int) < 64 := by omega
          have hw := HSI.out k hk6
          obtain ⟨wd, hwd⟩ : ∃ x, x = (sched q 64).getD k 0 := ⟨_, rfl⟩
          obtain ⟨kc, hkc⟩ : ∃ x, x = adds.getD k 0 := ⟨_, rfl⟩
          rw [← hwd] at hw
          have HWK : Hid (wd = (sched q 64).getD k 0 ∧ kc = adds.getD k 0) := Lib.hid ⟨hwd, hkc⟩
          clear hwd hkc
          have hidx : ∀ w : World, (Instr.index 137 (.agg S) (.int .i64 (k : Int))).run Tryz.prog w = .ok (.int .u32 (wd.toNat : Nat)) w := fun w => run_index_cell 137 127 64 S k _ w rfl (by kernel_rfl) (by kernel_rfl) hk6 hw
          have hcon : wr.cell? ⟨1, k, none⟩ = some (.int .u32 (kc.toNat : Nat)) := by rw [HB.out.cell (p := ⟨1, k, none⟩) hW.big.1, HWK.out.2]; exact hW.con k hk6
          obtain ⟨r1, hr1⟩ : ∃ x, x = rot x4 6 ^^^ rot x4 11 ^^^ rot x4 25 := ⟨_, rfl⟩
          obtain ⟨r2, hr2⟩ : ∃ x, x = rot x0 2 ^^^ rot x0 13 ^^^ rot x0 22 := ⟨_, rfl⟩
          have T1 := Lib.hid fun w => rotations_any x4 6 11 25 w (by omega) (by omega) (by omega)
          have T2 := Lib.hid fun w => rotations_any x0 2 13 22 w (by omega) (by omega) (by omega)
          rw [← hr1] at T1
          rw [← hr2] at T2
          obtain ⟨p1, hp1⟩ : ∃ x, x = x7 + r1 := ⟨_, rfl⟩
          have ep1 : IntKind.u32.wrap ((x7.toNat : Int) + (r1.toNat : Int)) = (p1.toNat : Int) := by rw [hp1]; exact add_nat _ _
          obtain ⟨m1, hm1⟩ : ∃ x, x = x4 &&& x5 := ⟨_, rfl⟩
          have em1 : bits .and .u32 (x4.toNat : Int) (x5.toNat : Int) = (m1.toNat : Int) := by rw [hm1]; exact and_nat _ _
          obtain ⟨n1, hn1⟩ : ∃ x, x = ~~~x4 := ⟨_, rfl⟩
          have en1 : bits .xor .u32 (if IntKind.u32.signed = true then -1 else IntKind.u32.max) (x4.toNat : Int) = (n1.toNat : Int) := by rw [hn1, if_neg (by decide)]; exact not_u32 _
          obtain ⟨m2, hm2⟩ : ∃ x, x = n1 &&& x6 := ⟨_, rfl⟩
          have em2 : bits .and .u32 (n1.toNat : Int) (x6.toNat : Int) = (m2.toNat : Int) := by rw [hm2]; exact and_nat _ _
          obtain ⟨ch, hch⟩ : ∃ x, x = m1 ^^^ m2 := ⟨_, rfl⟩
          have ech : bits .xor .u32 (m1.toNat : Int) (m2.toNat : Int) = (ch.toNat : Int) := by rw [hch]; exact xor_nat _ _
          obtain ⟨p2, hp2⟩ : ∃ x, x = p1 + ch := ⟨_, rfl⟩
          have ep2 : IntKind.u32.wrap ((p1.toNat : Int) + (ch.toNat : Int)) = (p2.toNat : Int) := by rw [hp2]; exact add_nat _ _
          obtain ⟨p3, hp3⟩ : ∃ x, x = p2 + kc := ⟨_, rfl⟩
          have ep3 : IntKind.u32.wrap ((p2.toNat : Int) + (kc.toNat : Int)) = (p3.toNat : Int) := by rw [hp3]; exact add_nat _ _
          obtain ⟨p4, hp4⟩ : ∃ x, x = p3 + wd := ⟨_, rfl⟩
          have ep4 : IntKind.u32.wrap ((p3.toNat : Int) + (wd.toNat : Int)) = (p4.toNat : Int) := by rw [hp4]; exact add_nat _ _
          obtain ⟨a1, ha1⟩ : ∃ x, x = x0 &&& x1 := ⟨_, rfl⟩
          have ea1 : bits .and .u32 (x0.toNat : Int) (x1.toNat : Int) = (a1.toNat : Int) := by rw [ha1]; exact and_nat _ _
          obtain ⟨a2, ha2⟩ : ∃ x, x = x0 &&& x2 := ⟨_, rfl⟩
          have ea2 : bits .and .u32 (x0.toNat : Int) (x2.toNat : Int) = (a2.toNat : Int) := by rw [ha2]; exact and_nat _ _
          obtain ⟨a3, ha3⟩ : ∃ x, x = a1 ^^^ a2 := ⟨_, rfl⟩
          have ea3 : bits .xor .u32 (a1.toNat : Int) (a2.toNat : Int) = (a3.toNat : Int) := by rw [ha3]; exact xor_nat _ _
          obtain ⟨a4, ha4⟩ : ∃ x, x = x1 &&& x2 := ⟨_, rfl⟩
          have ea4 : bits .and .u32 (x1.toNat : Int) (x2.toNat : Int) = (a4.toNat : Int) := by rw [ha4]; exact and_nat _ _
          obtain ⟨mj, hmj⟩ : ∃ x, x = a3 ^^^ a4 := ⟨_, rfl⟩
          have emj : bits .xor .u32 (a3.toNat : Int) (a4.toNat : Int) = (mj.toNat : Int) := by rw [hmj]; exact xor_nat _ _
          obtain ⟨t2, ht2⟩ : ∃ x, x = r2 + mj := ⟨_, rfl⟩
          have et2 : IntKind.u32.wrap ((r2.toNat : Int) + (mj.toNat : Int)) = (t2.toNat : Int) := by rw [ht2]; exact add_nat _ _
          obtain ⟨y0, hy0⟩ : ∃ x, x = p4 + t2 := ⟨_, rfl⟩
          have ey0 : IntKind.u32.wrap ((p4.toNat : Int) + (t2.toNat : Int)) = (y0.toNat : Int) := by rw [hy0]; exact add_nat _ _
          obtain ⟨y4, hy4⟩ : ∃ x, x = x3 + p4 := ⟨_, rfl⟩
          have ey4 : IntKind.u32.wrap ((x3.toNat : Int) + (p4.toNat : Int)) = (y4.toNat : Int) := by rw [hy4]; exact add_nat _ _
          have HR1 : Hid (rounds q hs (k + 1) = [y0, x0, x1, x2, y4, x4, x5, x6]) := Lib.hid (by
            rw [rounds, HR.out, ← HWK.out.1, ← HWK.out.2]
            simp only [round, List.getD_cons_zero, List.getD_cons_succ]
            rw [hy0, hy4, ht2, hmj, ha4, ha3, ha2, ha1, hp4, hp3, hp2, hch, hm2, hn1, hm1, hp1, hr1, hr2])
          clear hr1 hr2 hp1 hm1 hn1 hm2 hch hp2 hp3 hp4 ha1 ha2 ha3 ha4 hmj ht2 hy0 hy4 HR HWK hw
          go_wp2_with fail
          go_quiet (exact Calls.quiet_of_same (T1.out _))
          generalize hwwa : wr.drewN _ = wa
          have HBa : Hid (Below W.heap.size W wa) := by rw [← hwwa]; exact Lib.hid (below_drewN HB.out _)
          have HCa : Hid (wa.heap[g]? = some (.cells (Ws hs).toArray 129 (0, 0))) := by rw [← hwwa]; exact HC
          clear hwwa hcon T1 hidx ep1 em1 en1 em2 ech ep2 ep3 ep4 HB HC
          go_wp2_with fail
          refine (T2.out _).mono ?_
          rintro e w1 ⟨rfl, rfl⟩
          clear T2
          go_wp2_with fail
          go_roundw
          case rel => exact ⟨k + 1, y0, x0, x1, x2, y4, x4, x5, x6, by go_num, by omega, HR1, rfl, rfl, rfl, rfl, rfl, rfl, rfl, rfl, HBa, HCa⟩
          case measure => simp [intOf]; omega
        · have hk7 : k = 64 := by omega
          subst hk7
          rw [show ((64 : Nat) : Int) = 64 from rfl]
          clear HSI
          go_wp2_with fail
          obtain ⟨z, hz⟩ : ∃ z, z = next hs q := ⟨_, rfl⟩
          have hz8 : z.length = 8 := by rw [hz]; exact next_length _ _ hs8
          have hzget : ∀ j, j < 8 → z.getD j 0 = hs.getD j 0 + [x0, x1, x2, x3, x4, x5, x6, x7].getD j 0 := by
            intro j hj
            rw [hz, next, HR.out, getD_zip _ _ _ (by simpa using hj) (by omega), BitVec.add_comm]
          rw [← hz] at HEQ
          have HZ := Lib.hid hzget
          clear hz hzget HR
          obtain ⟨xs, hxs⟩ : ∃ xs, xs = [x0, x1, x2, x3, x4, x5, x6, x7] := ⟨_, rfl⟩
          have hidx8 : ∀ (j : Nat) (_ : j < 8) (w : World), (Instr.index 129 (.agg #[.int .u32 (x0.toNat : Nat), .int .u32 (x1.toNat : Nat), .int .u32 (x2.toNat : Nat), .int .u32 (x3.toNat : Nat), .int .u32 (x4.toNat : Nat), .int .u32 (x5.toNat : Nat), .int .u32 (x6.toNat : Nat), .int .u32 (x7.toNat : Nat)]) (.int .i64 (j : Int))).run Tryz.prog w = .ok (.int .u32 ((xs.getD j 0).toNat : Nat)) w := by
            intro j hj w
            refine run_index_cell 129 127 8 _ j _ w rfl (by kernel_rfl) (by kernel_rfl) hj ?_
            rw [hxs]
            have : j = 0 ∨ j = 1 ∨ j = 2 ∨ j = 3 ∨ j = 4 ∨ j = 5 ∨ j = 6 ∨ j = 7 := by omega
            rcases this with rfl | rfl | rfl | rfl | rfl | rfl | rfl | rfl <;> rfl
          have HI8 := Lib.hid hidx8
          rw [← hxs] at HZ
          clear hidx8 hxs
          go_loopw [116] (fun i wr => ∃ k : Nat, i = .int .i64 (k : Int) ∧ k ≤ 8 ∧ Hid (Below W.heap.size W wr) ∧ Hid (wr.heap[g]? = some (.cells (mix z hs k) 129 (0, 0)))) (fun i _ => 8 - (intOf i).toNat)
          case atStart => exact ⟨0, rfl, by omega, HB, Lib.hid (by rw [mix_start]; exact HC.out)⟩
          case round =>
            clear HB HC
            obtain ⟨k, rfl, hk, HB, HC⟩ := hrel
            by_cases hk6 : k < 8
            · have hk7 : (k : Int) < 8 := by omega
              have hi := HI8.out k hk6
              obtain ⟨x, hx⟩ : ∃ x, x = xs.getD k 0 := ⟨_, rfl⟩
              obtain ⟨y, hy⟩ : ∃ y, y = hs.getD k 0 := ⟨_, rfl⟩
              have hzk := HZ.out k hk6
              rw [← hx] at hi hzk
              rw [← hy] at hzk
              obtain ⟨s, hs'⟩ : ∃ s, s = z.getD k 0 := ⟨_, rfl⟩
              have hadd : IntKind.u32.wrap ((y.toNat : Int) + (x.toNat : Int)) = (s.toNat : Int) := by rw [hs', hzk]; exact add_nat _ _
              have hset := mix_set z hs k hz8 hs8 hk6
              rw [← hs'] at hset
              have HSET := Lib.hid hset
              have hc1 : wr.cell? ⟨g, k, none⟩ = some (.int .u32 (y.toNat : Nat)) := by rw [hy]; exact (cell_of_row _ _ _ _ _ _ HC.out).trans (mix_get z hs k hz8 hs8 hk6)
              have hc2 : wr.frozen? ⟨g, k, none⟩ = false := frozen_of_row _ _ _ _ _ HC.out
              have hc3 : wr.drew.cell? ⟨g, k, none⟩ = some (.int .u32 (y.toNat : Nat)) := hc1
              have hc4 : wr.drew.frozen? ⟨g, k, none⟩ = false := hc2
              clear hset hx hy hzk hs'
              go_wp2_with fail
              go_still_tail 8, (by kernel_rfl)
              show wpList _ _ _ _ _ wr.drew
              go_wp2
              go_roundw
              case rel =>
                have e := heap_setCell_same wr.drew g k _ _ (.int .u32 (s.toNat : Int)) HC.out
                rw [HSET.out] at e
                exact ⟨k + 1, by go_num, by omega, Lib.hid (HB.out.drew.setCell hg _), Lib.hid e⟩
              case measure => simp [intOf]; omega
            · have hk7 : k = 8 := by omega
              subst hk7
              rw [show ((8 : Nat) : Int) = 8 from rfl]
              rw [mix_end _ _ hz8 hs8] at HC
              clear HI8 HZ
              go_wp2
              go_roundw
              case rel => exact ⟨q.drop 64, z, rfl, by rw [List.length_drop]; omega, hz8, HEQ.out, HB.out, HC.out⟩
              case measure => simp [strLen, B_size, List.length_drop]; omega
end Go.Proofs.YtojbicpchjiplaaGreatDoor.S3
