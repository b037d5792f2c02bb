/-
  CodeCut: the walk of the law; an argument that is a value, opened.
-/
import Derived.Test.YtcgbamloemdilaaCodeValid
import Derived.Deep.Fields
namespace Go.Proofs.Ytcgbamloemdilaa
open Go.RowKit Go.ChangeShapes Go.WideShapes Go.Deep
open Cd
attribute [local go_sem] B_size B_drop' B_take B_list B_app

theorem light_encM' {ls : List (List UInt8)} (h : LightP ls) : (encM encT ls).length ≤ 100900 := by
  have := encM_le (enc := encT) 1009 ls (fun a ha => by
    have h1 := h.2 a ha
    have h2 := encN_len a.length
    unfold encT
    rw [List.length_append]
    omega)
  have := Nat.mul_le_mul_right 1009 h.1
  omega
theorem vok_ok {v : Vl} (h : VOk v) (hf : v.Fit) : okV v.kd (v.sm v.kd) := by
  obtain ⟨h1, h2, h3, h4, h5, h6⟩ := h
  have hn := hf.2.1
  have hlt := kd_lt v
  rcases (show v.kd = 0 ∨ v.kd = 1 ∨ v.kd = 2 ∨ v.kd = 3 ∨ v.kd = 4 by omega) with e | e | e | e | e
  · rw [e]
    have h7 : ¬ v.n < 0 := fun h => h5 ⟨e, h⟩
    exact ⟨by show 0 ≤ v.n; omega, by show okN v.n.toNat; unfold okN; omega, rfl⟩
  · rw [e]
    refine ⟨?_, rfl⟩
    by_cases h7 : okI v.n
    · exact h7
    · exact absurd ⟨e, h7⟩ h6
  · rw [e]
    exact ⟨by show okT v.s; unfold okT okN; omega, rfl, rfl⟩
  · rw [e]
    refine ⟨⟨by show okN v.ls.length; have := h3.1; unfold okN; omega, fun l hl => ?_⟩, rfl, rfl, rfl⟩
    have := h3.2 l hl
    unfold okT okN
    omega
  · rw [e]
    exact ⟨⟨by show okN v.zs.length; unfold okN; omega, h4⟩, rfl, rfl, rfl⟩
theorem vok_sz {v : Vl} (h : VOk v) : v.Sz := by
  obtain ⟨h1, h2, h3, h4, h5, h6⟩ := h
  have := light_encM' h3
  exact ⟨by omega, by have := h3.1; omega, by omega, by omega⟩
theorem encV_len {v : Vl} (h : VOk v) : (encV v.kd (v.sm v.kd)).length ≤ 200000 := by
  obtain ⟨h1, h2, h3, h4, h5, h6⟩ := h
  have hlt := kd_lt v
  rcases (show v.kd = 0 ∨ v.kd = 1 ∨ v.kd = 2 ∨ v.kd = 3 ∨ v.kd = 4 by omega) with e | e | e | e | e
  all_goals rw [e]
  · have := encN_len v.n.toNat
    show (encN v.n.toNat).length ≤ _
    omega
  · have := encI_len v.n
    show (encI v.n).length ≤ _
    omega
  · have := encN_len v.s.length
    show (encN v.s.length ++ v.s).length ≤ _
    rw [List.length_append]
    omega
  · have := encN_len v.ls.length
    have := light_encM' h3
    show (encN v.ls.length ++ encM encT v.ls).length ≤ _
    rw [List.length_append]
    omega
  · have := encN_len v.zs.length
    have := encM_le (enc := encI) 9 v.zs (fun a _ => encI_len a)
    show (encN v.zs.length ++ encM encI v.zs).length ≤ _
    rw [List.length_append]
    omega
theorem vok_pos {v : Vl} (h : VOk v) : v.kd = 0 → 0 ≤ v.n := fun e => by
  have := h.2.2.2.2.1
  by_cases h1 : v.n < 0
  · exact absurd ⟨e, h1⟩ this
  · omega

section
variable {H : Type} {enc : TypeId × Value → H} {w : World}
theorem cells_value : Try.prog.cellsOf 45 = 5 := by kernel_rfl
theorem openCells {fuel : Nat} {a0 a1 a2 a3 a4 : Value} {x0 x1 x2 x3 x4 : DataW H × List MemPlace} (h0 : DataW.trod enc Try.prog w 0 (fun _ => true) true fuel 3 [a0] = some x0) (h1 : DataW.trod enc Try.prog w 0 (fun _ => true) true fuel 3 [a1] = some x1)
    (h2 : DataW.trod enc Try.prog w 0 (fun _ => true) true fuel 9 [a2] = some x2) (h3 : DataW.trod enc Try.prog w 0 (fun _ => true) true fuel 22 [a3] = some x3) (h4 : DataW.trod enc Try.prog w 0 (fun _ => true) true fuel 23 [a4] = some x4) :
    ∃ v : Vl, #[a0, a1, a2, a3, a4] = v.cells ∧ v.In w w.heap.size ∧ v.Fit := by
  obtain ⟨n0, e0, _, w0⟩ := DataW.trod_int Try.underlying3 h0
  obtain ⟨n1, e1, _, w1⟩ := DataW.trod_int Try.underlying3 h1
  obtain ⟨s, e2, _, w2⟩ := DataW.trod_string Try.underlying9 h2
  obtain ⟨A, c, ls, e3, r3, l3, m3⟩ := openStrs h3
  obtain ⟨A', c', zs, e4, r4, l4, _⟩ := openInts h4
  have hs : s.data.toList.length ≤ maxLen := by rw [← B_size, B_of]; exact w2
  refine ⟨⟨n0, n1, s.data.toList, A, ls, c, A', zs, c'⟩, ?_, ⟨r3, r4⟩, bounds_i64 w0, bounds_i64 w1, hs, l3, m3, l4⟩
  injection e0 with e0 _
  injection e1 with e1 _
  injection e2 with e2 _
  rw [e0, e1, e2, e3, e4]
  rfl
theorem cells_strs : Try.prog.cellsOf 22 = 1 := by kernel_rfl
theorem cells_ints : Try.prog.cellsOf 23 = 1 := by kernel_rfl
theorem openStruct {fuel : Nat} {cs : List Value} {x : DataW H × List MemPlace} (h : DataW.trod enc Try.prog w 0 (fun _ => true) true fuel 45 cs = some x) :
    ∃ v : Vl, cs = v.cells.toList ∧ v.In w w.heap.size ∧ v.Fit := by
  obtain ⟨xs, n, _, _, hlen, hxl, hf⟩ := DataW.trod_struct Try.underlying45 h
  rw [cells_value] at hlen
  have hxl' : xs.length = 5 := hxl
  match cs, hlen with
  | [a0, a1, a2, a3, a4], _ =>
    have h0 : DataW.trod enc Try.prog w 0 (fun _ => true) true n 3 [a0] = xs[0]? := by have := hf 0 _ rfl; simpa [cells_int] using this
    have h1 : DataW.trod enc Try.prog w 0 (fun _ => true) true n 3 [a1] = xs[1]? := by have := hf 1 _ rfl; simpa [cells_int] using this
    have h2 : DataW.trod enc Try.prog w 0 (fun _ => true) true n 9 [a2] = xs[2]? := by have := hf 2 _ rfl; simpa [cells_string] using this
    have h3 : DataW.trod enc Try.prog w 0 (fun _ => true) true n 22 [a3] = xs[3]? := by have := hf 3 _ rfl; simpa [cells_strs] using this
    have h4 : DataW.trod enc Try.prog w 0 (fun _ => true) true n 23 [a4] = xs[4]? := by have := hf 4 _ rfl; simpa [cells_ints] using this
    rw [List.getElem?_eq_getElem (by omega)] at h0 h1 h2 h3 h4
    obtain ⟨v, e, hin, hfit⟩ := openCells h0 h1 h2 h3 h4
    exact ⟨v, by rw [← e], hin, hfit⟩
theorem openVal {v : Value} {d : DataW H} {p : List MemPlace} {b0 : Nat} (hval : Value.okWide Try.prog w .any b0 45 v) (h : DataW.Trod enc Try.prog w 0 (fun _ => true) true 45 v d p) :
    ∃ x : Vl, v = .agg x.cells ∧ x.In w w.heap.size ∧ x.Fit := by
  obtain ⟨cs, rfl, _⟩ := okWide_struct Try.underlying45 hval
  obtain ⟨fuel, hf⟩ := h
  obtain ⟨x, e, hin, hfit⟩ := openStruct hf
  refine ⟨x, ?_, hin, hfit⟩
  have e2 : cs = x.cells := Array.ext' e
  rw [e2]
end

set_option maxHeartbeats 4000000 in
set_option maxRecDepth 100000 in
theorem codeCut_walk (v : Vl) (n : Int) (w : World) (hin : v.In w w.heap.size) (hf : v.Fit) (hn : -9223372036854775808 ≤ n ∧ n ≤ 9223372036854775807) :
    Calls Try.prog 7 #[.agg v.cells, .int .i64 n] w fun e w' => e = .returned (.bool true) ∧ Below w.heap.size w w' := by
  have HI := Lib.hid hin
  have HF := Lib.hid hf
  have ecells : v.cells = #[.int .i64 v.k, .int .i64 v.n, .string (B v.s), .slice v.A v.ls.length v.c, .slice v.A' v.zs.length v.c'] := rfl
  have HE := Lib.hid ecells
  rw [ecells]
  obtain ⟨hn1, hn2⟩ := hn
  have B0 := Lib.hid ((Below.refl w.heap.size w).alloc (Nat.le_refl _) (.cells v.cells 45))
  clear ecells hin hf
  go_enter Try.func7, Try.ntmps7
  go_wp2_with fail
  refine (small_any _).mono ?_
  rintro e w1 ⟨rfl, hb⟩
  have C1 := Lib.hid (bstep (Below.refl (w.heap.size + 1) (w.alloc (.cells v.cells 45))) hb)
  clear hb
  obtain ⟨c0, c1, c2, c3, c4⟩ := bx_cells (bx_below (bx_new w v) C1.out (by omega))
  go_wp2_with fail
  refine (valid_any v w1 (HI.out.step (alloc_below' C1.out)) HF.out).mono ?_
  rintro e w2 ⟨b, rfl, hbv, hb⟩
  have C2 := Lib.hid (bstep C1.out hb)
  clear hb c0 c1 c2 c3 c4
  obtain ⟨c0, c1, c2, c3, c4⟩ := bx_cells (bx_below (bx_new w v) C2.out (by omega))
  cases b
  · go_wp2
    go_ret
    exact ⟨rfl, alloc_below' C2.out⟩
  · have HV := Lib.hid (hbv.1 rfl)
    clear hbv
    have HWR := write_any v w2 (HI.out.step (alloc_below' C2.out)) HF.out (vok_sz HV.out) (vok_pos HV.out)
    have hql := encV_len HV.out
    have hcut := fun k hk => (codecV v.kd).cut (v.sm v.kd) k (vok_ok HV.out HF.out) hk
    obtain ⟨q, hq⟩ : ∃ q, q = encV v.kd (v.sm v.kd) := ⟨_, rfl⟩
    rw [← hq] at HWR hql hcut
    have hql2 : (q.length : Int) ≤ 200000 := by omega
    have HCUT := Lib.hid hcut
    have HW := Lib.hid HWR
    clear hq HWR hcut
    go_wp2_with fail
    refine HW.out.mono ?_
    rintro e w3 ⟨rfl, hb⟩
    have C3 := Lib.hid (bstep C2.out hb)
    clear hb c0 c1 c2 c3 c4
    obtain ⟨c0, c1, c2, c3, c4⟩ := bx_cells (bx_below (bx_new w v) C3.out (by omega))
    by_cases hn3 : 0 ≤ n ∧ n < q.length
    · obtain ⟨hn4, hn5⟩ := hn3
      obtain ⟨m, rfl⟩ := Int.eq_ofNat_of_zero_le hn4
      have hm : m < q.length := by omega
      have hm2 : m ≤ q.length := by omega
      have HD := Lib.hid (HCUT.out m hm)
      have HKD := Lib.hid (kd_lt v)
      go_wp2_with fail
      refine (opens (q.take m) _).mono ?_
      rintro e w4 ⟨p, rfl, hp1, hp2, hrd, hb⟩
      have hpw : w.heap.size + 1 ≤ p := Nat.le_trans (by have := C3.out.size; simpa using this) hp1
      have R4 := Lib.hid hrd
      clear hrd hp1
      have C4 := Lib.hid (bstep C3.out hb)
      clear hb c0 c1 c2 c3 c4
      obtain ⟨c0, c1, c2, c3, c4⟩ := bx_cells (bx_below (bx_new w v) C4.out (by omega))
      have hl4 : (lft (some (q.take m))).length ≤ 1099511627776 := by show (q.take m).length ≤ _; rw [List.length_take]; omega
      have HL4 := Lib.hid hl4
      clear hl4
      go_wp2_with fail
      refine (kind_any v w4 HF.out.1).mono ?_
      rintro e w5 ⟨rfl, hb⟩
      have R5 := Lib.hid (rd_below R4.out hb hp2)
      have C5 := Lib.hid (bstep C4.out hb)
      clear hb c0 c1 c2 c3 c4
      obtain ⟨kk, hkk⟩ : ∃ kk, kk = v.kd := ⟨_, rfl⟩
      rw [← hkk] at HD HKD ⊢
      clear hkk
      go_wp2_with fail
      refine (read_any p kk _ w5 HKD.out R5.out HL4.out).mono ?_
      rintro e w6 ⟨x, rfl, -, -, -, -, hrd, hg⟩
      have e6 : (some (q.take m)).bind (decV kk) = none := HD.out
      rw [e6] at hrd
      have R6 := Lib.hid hrd
      have C6 := Lib.hid (C5.out.grown hg (by have := C5.out.size; simpa using this) (fun k hk => by injection hk with hk; omega))
      clear hrd hg e6
      go_wp2_with fail
      refine (done_any p none w6 R6.out).mono ?_
      rintro e w7 ⟨rfl, rfl⟩
      have d1 : dn none = false := rfl
      rw [d1]
      clear d1
      go_wp2_with fail
      refine (left_any p none w6 R6.out).mono ?_
      rintro e w7 ⟨rfl, rfl⟩
      have d1 : (((lft none).length : Nat) : Int) = 0 := rfl
      rw [d1]
      clear d1
      go_wp2
      go_ret
      exact ⟨rfl, alloc_below' C6.out⟩
    · rcases (show n < 0 ∨ (0 ≤ n ∧ (q.length : Int) ≤ n) by omega) with hn4 | ⟨hn4, hn5⟩
      · clear hn3
        go_wp2
        go_ret
        exact ⟨rfl, alloc_below' C3.out⟩
      · clear hn3
        go_wp2
        go_ret
        exact ⟨rfl, alloc_below' C3.out⟩
end Go.Proofs.Ytcgbamloemdilaa
