/-
  Layer 10 (wal): the builder's writes, joined; whether a row is too long.
-/
import Derived.Test.YtihanhdepijijaaWalLg
import Derived.LoopTactic
namespace Go.Proofs.Ytihanhdepijijaa
open Go.RowKit Go.Shelf
namespace Wl
open S9.Dk (Dk Fr MD By)
attribute [local go_sem] S2.B_size S2.B_drop' S2.B_take S2.B_list S2.B_app

abbrev IsBu (B b : Nat) (l : Str) (w : World) : Prop := Lib.IsBuilder 95 5 B b (Lib.byteCells l) w
theorem bu_size : (Try.prog.info? 95).map (·.size) = some 2 := by kernel_rfl
theorem infoU8 : (Try.prog.info? 5).map (fun i => (i.zero, i.size, i.bytes)) = some (some (.int .u8 0), 1, 1) := by kernel_rfl

set_option maxHeartbeats 1000000 in
set_option maxRecDepth 100000 in
theorem copyCheck_used (b : Nat) (w : World) (h0 : w.cell? ⟨b, 0, none⟩ = some (ptr b)) :
    Calls Try.prog 58 #[ptr b] w fun e w' => e = .returned (.tuple #[]) ∧ w' = w := by
  obtain ⟨j, hj, _⟩ := Option.map_eq_some_iff.1 bu_size
  go_enter Try.func58, Try.ntmps58
  go_wp2
  rw [Lib.run_neq_ptr_same w _ Try.underlying93 hj]
  go_wp2
  go_end0
  exact ⟨rfl, rfl⟩

set_option maxHeartbeats 1000000 in
set_option maxRecDepth 100000 in
theorem copyCheck_fresh (b : Nat) (w : World) (h0 : w.cell? ⟨b, 0, none⟩ = some (.pointer none)) (hsh : w.shape? b = some (95, 2)) (hfz : w.frozen? ⟨b, 0, none⟩ = false) :
    Calls Try.prog 58 #[ptr b] w fun e w' => e = .returned (.tuple #[]) ∧ w' = w.setCell ⟨b, 0, none⟩ (ptr b) := by
  obtain ⟨j, hj, hjs⟩ := Option.map_eq_some_iff.1 bu_size
  go_enter Try.func58, Try.ntmps58
  go_wp2
  rw [Lib.run_to_unsafe w ⟨b, 0, none⟩ Try.underlying93 Try.underlying109 hj (by rw [hjs]; decide) hsh (Nat.zero_lt_succ 1)]
  simp only [Result.andThen]
  rw [Oper.upon_value]
  go_wp2
  rw [run_callFunc_extern Try.func62 (by kernel_rfl) (by kernel_rfl) (by kernel_rfl) (e := Extern.AbiNoEscape.same) (by kernel_rfl)]
  rw [Lib.run_noEscape]
  simp only [Result.andThen]
  rw [Oper.upon_value]
  go_wp2
  rw [Lib.run_from_unsafe w ⟨b, 0, none⟩ Try.underlying109 Try.underlying93 hj hsh Try.Builder_Extra_169.liesBuilder]
  simp only [Result.andThen]
  rw [Oper.upon_value]
  go_wp2
  go_end0
  exact ⟨rfl, rfl⟩

theorem copyCheck_any (B b : Nat) (bs : List Value) (w : World) (h : Lib.IsBuilder 95 5 B b bs w) :
    Calls Try.prog 58 #[ptr b] w fun e w' => e = .returned (.tuple #[]) ∧ (Lib.BuilderAt 95 5 B b (ptr b) bs w' ∧ Below B w w') := by
  rcases h with h | h
  · refine (copyCheck_fresh b w h.cell0 h.shape h.frozen0).mono ?_
    rintro e w' ⟨rfl, rfl⟩
    exact ⟨rfl, h.used _, (Below.refl B w).setCell (p := ⟨b, 0, none⟩) h.1 _⟩
  · refine (copyCheck_used b w h.cell0).mono ?_
    rintro e w' ⟨rfl, rfl⟩
    exact ⟨rfl, h, Below.refl B _⟩

set_option maxHeartbeats 2000000 in
set_option maxRecDepth 100000 in
theorem writeString_any (B b : Nat) (l s : Str) (w : World) (h : IsBu B b l w) (hlen : l.length + s.length ≤ 140737488355328) (hBw : B ≤ w.heap.size) :
    Calls Try.prog 52 #[ptr b, .string (S2.B s)] w fun e w' => e = .returned (.tuple #[.int .i64 (s.length : Nat), .nilIface]) ∧ IsBu B b (l ++ s) w' ∧ Below B w w' := by
  obtain ⟨i0, hi, hz0, hz1, hz2⟩ := info_parts infoU8
  have K := Lib.hid (copyCheck_any B b _ w h)
  have hbl : (Lib.byteCells l).length = l.length := Lib.byteCells_length l
  have hsz : (S2.B s).size = s.length := S2.B_size s
  have hsc : Lib.strCells (S2.B s) = Lib.byteCells s := rfl
  have hlenI : (s.length : Int) ≤ 140737488355328 := by omega
  clear h
  go_enter Try.func52, Try.ntmps52
  go_wp2_with fail
  refine K.out.mono ?_
  rintro e w1 ⟨rfl, h1, hb1⟩
  obtain ⟨hB, v, hbk, hown, hne⟩ := h1
  have c0 : w1.cell? ⟨b, 0, none⟩ = some (ptr b) := by rw [Lib.cell_of_heap hbk]; rfl
  have c1 : w1.cell? ⟨b, 1, none⟩ = some v := by rw [Lib.cell_of_heap hbk]; rfl
  go_wp2_with (at_builtin; refine Lib.wpList_append_own_string _ rfl _ _ 58 9 rfl B 5 i0 Try.underlying58 Try.underlying9 hi hz0 hz1 hz2 _ _ _ rfl hown (S2.B s) rfl ?c3 ?c4 ?c5 ?_)
  case c3 => rw [hbl, hsz]; unfold maxLen; omega
  case c4 => rw [hbl, hsz]; omega
  case c5 => have := hb1.size; omega
  intro v' w2 hown' hgrow _
  have hlt : b < w1.heap.size := (Array.getElem?_eq_some_iff.1 hbk).1
  have hb2 : w2.heap[b]? = some (.cells #[ptr b, v] 95 (0, 0)) := (hgrow.block b hlt (fun e => hne e.symm)).trans hbk
  have d1 : w2.cell? ⟨b, 1, none⟩ = some v := by rw [Lib.cell_of_heap hb2]; rfl
  have f1 : w2.frozen? ⟨b, 1, none⟩ = false := Lib.frozen_of_heap hb2 1
  have ho2 : w2.ownsRow B 5 1 v' (Lib.byteCells (l ++ s)).length (Lib.byteCells (l ++ s)) := by
    have e : Lib.byteCells (l ++ s) = Lib.byteCells l ++ Lib.byteCells s := by simp [Lib.byteCells]
    rw [e, List.length_append, Lib.byteCells_length s]
    rw [hbl]
    exact hown'
  have R := Lib.hid (show IsBu B b (l ++ s) (w2.setCell ⟨b, 1, none⟩ v') ∧ Below B w (w2.setCell ⟨b, 1, none⟩ v') from
    ⟨.inr (Lib.BuilderAt.put hB hb2 ho2 (by decide)), (hb1.grown hgrow (by have := hb1.size; omega) (fun k hk => (hown.lt k hk).1)).setCell (p := ⟨b, 1, none⟩) hB _⟩)
  obtain ⟨ao, n', cap, rfl⟩ : ∃ ao n' cap, v' = .slice ao n' cap := by
    rcases hown'.2 with ⟨hv, _⟩ | ⟨g, cap, cur, hv, _⟩
    · exact ⟨_, _, _, hv⟩
    · exact ⟨_, _, _, hv⟩
  clear hown' hgrow ho2 hb2 hown hbk hne K hbl hsc
  go_wp2
  go_ret2
  exact ⟨rfl, R.out⟩

theorem bu_below {B b : Nat} {l : Str} {w w' : World} (h : IsBu B b l w) (hb : Below w.heap.size w w') : IsBu B b l w' := by
  have at_ : ∀ p, Lib.BuilderAt 95 5 B b p (Lib.byteCells l) w → Lib.BuilderAt 95 5 B b p (Lib.byteCells l) w' := by
    rintro p ⟨hB, v, hbk, hown, hne⟩
    exact ⟨hB, v, (hb.block b (Array.getElem?_eq_some_iff.1 hbk).1).trans hbk, S9.Dk.own_keep hown fun g hg => hb.block g (hown.lt g hg).2, hne⟩
  rcases h with h | h
  · exact .inl (at_ _ h)
  · exact .inr (at_ _ h)
theorem records_take_le (R : List Str) (i : Nat) : (records c4 (R.take i)).length ≤ (records c4 R).length := by
  have e : records c4 R = records c4 (R.take i) ++ records c4 (R.drop i) := by rw [← records_append, List.take_append_drop]
  rw [e, List.length_append]
  omega
theorem records_take_succ (R : List Str) {i : Nat} (h : i < R.length) : records c4 (R.take (i + 1)) = records c4 (R.take i) ++ record c4 R[i] := by
  rw [List.take_succ_eq_append_getElem h, records_append, records_one]

set_option maxHeartbeats 2000000 in
set_option maxRecDepth 100000 in
theorem joined_any (A : Option Addr) (n c : Nat) (R : List Str) (w : World) (hr : S2.Row w w.heap.size A (S2.Ss R)) (hn : n = R.length) (hl : (records c4 R).length ≤ 1000000000) :
    Calls Try.prog 41 #[.slice A n c] w fun e w' => e = .returned (.string (S2.B (records c4 R))) ∧ Below w.heap.size w w' := by
  have hnl : n ≤ 1000000000 := by
    have : ∀ l : List Str, l.length ≤ (records c4 l).length := by
      intro l
      induction l with
      | nil => exact Nat.zero_le _
      | cons s l ih => rw [records_cons, List.length_append, List.length_cons]; have := record_pos c4_len s; omega
    have := this R
    omega
  have hnI : (n : Int) ≤ 1000000000 := by omega
  have hb0 := Lib.fresh_isBuilder 95 5 w
  have HB0 := Lib.hid (show Below w.heap.size w (w.alloc (.cells #[.pointer none, .slice none 0 0] 95)) from (Below.refl _ _).alloc (Nat.le_refl _) _)
  have HR := Lib.hid hr
  have HN := Lib.hid hn
  have HL := Lib.hid hl
  have H0 := Lib.hid hb0
  clear hr hn hl hb0 hnl
  go_enter Try.func41, Try.ntmps41
  go_wp2
  go_loopw [8] (fun i wr => ∃ k : Nat, i = .int .i64 (k : Int) ∧ k ≤ n ∧ IsBu w.heap.size w.heap.size (records c4 (R.take k)) wr ∧ Below w.heap.size w wr) (fun i _ => n - (intOf i).toNat)
  case atStart => exact ⟨0, rfl, by omega, H0.out, HB0.out⟩
  case round =>
    obtain ⟨k, rfl, hk, hbu, hbel⟩ := hrel
    by_cases hc : k < n
    · have hc' : (k : Int) < (n : Int) := by omega
      have hkR : k < R.length := by have := HN.out; omega
      obtain ⟨a, rfl, ha, hcell⟩ := (HR.out.below hbel).str hkR
      have hsub : (record c4 R[k]).length ≤ 1000000000 := by
        have h1 := records_take_le R (k + 1)
        rw [records_take_succ R hkR, List.length_append] at h1
        have := HL.out
        omega
      have hsl : R[k].length ≤ 1000000000 := by rw [record_length c4_len] at hsub; omega
      have hacc : (records c4 (R.take k)).length + (record c4 R[k]).length ≤ 1000000000 := by
        have h1 := records_take_le R (k + 1)
        rw [records_take_succ R hkR, List.length_append] at h1
        have := HL.out
        omega
      have hnx := records_take_succ R hkR
      have K1 := fun w => record_any R[k] w (by omega)
      obtain ⟨s, hs⟩ : ∃ s, s = R[k] := ⟨_, rfl⟩
      rw [← hs] at hcell hsub hsl hacc hnx K1
      obtain ⟨q, hq⟩ : ∃ q, q = record c4 s := ⟨_, rfl⟩
      rw [← hq] at hsub hacc hnx K1
      obtain ⟨acc, hacc2⟩ : ∃ acc, acc = records c4 (R.take k) := ⟨_, rfl⟩
      rw [← hacc2] at hbu hacc hnx
      have HK1 := Lib.hid K1
      have HBU := Lib.hid hbu
      have HBEL := Lib.hid hbel
      have HNX := Lib.hid hnx
      have HA := Lib.hid hacc
      clear K1 hbu hbel hnx hacc hs hq hacc2 hsub hsl hkR
      go_wp2_with fail
      refine (HK1.out _).mono ?_
      rintro e w2 ⟨rfl, hb⟩
      have hbu2 : IsBu w.heap.size w.heap.size acc w2 := bu_below HBU.out hb
      have hbel2 : Below w.heap.size w w2 := HBEL.out.trans (hb.mono HBEL.out.size)
      have K2 := Lib.hid (writeString_any w.heap.size w.heap.size acc q w2 hbu2 (by have := HA.out; omega) hbel2.size)
      have HBEL2 := Lib.hid hbel2
      clear hbu2 hbel2 hb HK1 HBU HBEL hcell
      go_wp2_with fail
      refine K2.out.mono ?_
      rintro e w3 ⟨rfl, h3, hb⟩
      have RR := Lib.hid (show IsBu w.heap.size w.heap.size (records c4 (R.take (k + 1))) w3 ∧ Below w.heap.size w w3 from ⟨by rw [HNX.out]; exact h3, HBEL2.out.trans hb⟩)
      clear h3 hb K2 HBEL2 HNX HA ha
      go_wp2
      go_roundw
      case rel => exact ⟨k + 1, by go_num, by omega, RR.out⟩
      case measure => simp [intOf]; omega
    · have hc' : ¬ (k : Int) < (n : Int) := by omega
      have hkn : k = R.length := by have := HN.out; omega
      rw [hkn, List.take_length] at hbu
      obtain ⟨q, hq⟩ : ∃ q, q = records c4 R := ⟨_, rfl⟩
      rw [← hq] at hbu
      have HQ := Lib.hid hq
      have K := Lib.hid (Try.Builder_String_any w.heap.size w.heap.size q wr hbu hbel.size)
      have HBEL := Lib.hid hbel
      clear hbu hbel hq hkn HR HN HL H0 HB0 hc
      go_wp2_with fail
      refine K.out.mono ?_
      rintro e w2 ⟨rfl, hb⟩
      have RR := Lib.hid (HBEL.out.trans hb)
      clear hb K HBEL
      go_wp2
      go_ret
      exact ⟨by rw [← HQ.out]; rfl, RR.out⟩
/-! ### Whether a row is too long -/
def anyLong (R : List Str) : Bool := R.any fun s => decide (1048576 < s.length)
set_option maxHeartbeats 2000000 in
set_option maxRecDepth 100000 in
theorem indexFunc_any (A : Option Addr) (n c : Nat) (R : List Str) (w : World) (hr : S2.Row w w.heap.size A (S2.Ss R)) (hn : n = R.length) (hn2 : n ≤ 1000000000) (hl : ∀ s ∈ R, s.length ≤ 281474976710656) :
    Calls Try.prog 51 #[.slice A n c, .func (.func 40) #[] #[]] w fun e w' => (∃ z : Int, e = .returned (.int .i64 z) ∧ decide (0 ≤ z) = anyLong R) ∧ w = w' := by
  have hnI : (n : Int) ≤ 1000000000 := by omega
  have HR := Lib.hid hr
  have HN := Lib.hid hn
  have HL := Lib.hid hl
  clear hr hn hl hn2
  go_enter Try.func51, Try.ntmps51
  go_wp2
  go_loopw [8] (fun i wr => ∃ k : Nat, i = .int .i64 (k : Int) ∧ k ≤ n ∧ anyLong (R.take k) = false ∧ w = wr) (fun i _ => n - (intOf i).toNat)
  case atStart => exact ⟨0, rfl, by omega, rfl, rfl⟩
  case round =>
    obtain ⟨k, rfl, hk, hno, rfl⟩ := hrel
    by_cases hc : k < n
    · have hc' : (k : Int) < (n : Int) := by omega
      have hkR : k < R.length := by have := HN.out; omega
      obtain ⟨a, rfl, ha, hcell⟩ := HR.out.str hkR
      have K1 := tooLong_any R[k] w (HL.out _ (List.getElem_mem hkR))
      have hnx : anyLong (R.take (k + 1)) = decide (1048576 < R[k].length) := by
        rw [List.take_succ_eq_append_getElem hkR]
        unfold anyLong at hno ⊢
        rw [List.any_append, hno]
        simp
      have hall : anyLong R = false ∨ anyLong (R.take (k + 1)) = false ∨ anyLong R = true := by cases anyLong R <;> simp
      have hup : anyLong (R.take (k + 1)) = true → anyLong R = true := fun h => by
        unfold anyLong at h ⊢
        rw [List.any_eq_true] at h ⊢
        obtain ⟨s, hs, h2⟩ := h
        exact ⟨s, List.mem_of_mem_take hs, h2⟩
      cases hb : decide (1048576 < R[k].length) with
      | true =>
        rw [hb] at K1 hnx
        have HT := Lib.hid (hup hnx)
        obtain ⟨s, hs⟩ : ∃ s, s = R[k] := ⟨_, rfl⟩
        rw [← hs] at hcell K1
        have HK := Lib.hid K1
        clear K1 hs hnx hall hup hb hno ha hkR hk
        go_wp2_with fail
        refine HK.out.mono ?_
        rintro e w2 ⟨rfl, rfl⟩
        clear HK
        go_wp2
        go_ret
        exact ⟨⟨_, rfl, by rw [HT.out, decide_eq_true (by omega)]⟩, rfl⟩
      | false =>
        rw [hb] at K1 hnx
        have HT := Lib.hid hnx
        obtain ⟨s, hs⟩ : ∃ s, s = R[k] := ⟨_, rfl⟩
        rw [← hs] at hcell K1
        have HK := Lib.hid K1
        clear K1 hs hnx hall hup hb hno ha hkR
        go_wp2_with fail
        refine HK.out.mono ?_
        rintro e w2 ⟨rfl, rfl⟩
        clear HK
        go_wp2
        go_roundw
        case rel => exact ⟨k + 1, by go_num, by omega, HT.out, trivial⟩
        case measure => simp [intOf]; omega
    · have hc' : ¬ (k : Int) < (n : Int) := by omega
      have hkn : k = R.length := by have := HN.out; omega
      rw [hkn, List.take_length] at hno
      have HNO := Lib.hid hno
      clear hno hkn hc
      go_wp2
      go_ret
      exact ⟨⟨-1, rfl, by rw [HNO.out]; rfl⟩, rfl⟩
set_option maxHeartbeats 1000000 in
set_option maxRecDepth 100000 in
theorem contains_any (A : Option Addr) (n c : Nat) (R : List Str) (w : World) (hr : S2.Row w w.heap.size A (S2.Ss R)) (hn : n = R.length) (hn2 : n ≤ 1000000000) (hl : ∀ s ∈ R, s.length ≤ 281474976710656) :
    Calls Try.prog 39 #[.slice A n c, .func (.func 40) #[] #[]] w fun e w' => e = .returned (.bool (anyLong R)) ∧ w = w' := by
  have K := Lib.hid (indexFunc_any A n c R w hr hn hn2 hl)
  clear hr hn hl hn2
  go_enter Try.func39, Try.ntmps39
  go_wp2_with fail
  refine K.out.mono ?_
  rintro e w1 ⟨⟨z, rfl, hz⟩, rfl⟩
  have HZ := Lib.hid hz
  clear hz K
  go_wp2
  go_ret
  exact ⟨by rw [← HZ.out]; rfl, rfl⟩
end Wl
end Go.Proofs.Ytihanhdepijijaa
