/-
  Layer 2: the law's own 'valid'; 'read' of whatever kind.
-/
import Derived.Test.YtcgbamloemdilaaCodeRead
namespace Go.Proofs.Ytcgbamloemdilaa
open Go.RowKit
open Cd
attribute [local go_sem] B_size B_drop' B_take B_list B_app

theorem read_any (p m : Nat) (st : St) (w : World) (hm : m < 5) (h : Rd 59 w p st) (hl : (lft st).length ≤ 1099511627776) :
    Calls Try.prog 44 #[.pointer (some ⟨p, 0, none⟩), .int .i64 (m : Nat)] w (RdRes p m st w) := by
  match m, hm with
  | 0, _ => exact read0 p st w h hl
  | 1, _ => exact read1 p st w h hl
  | 2, _ => exact read2 p st w h hl
  | 3, _ => exact read3 p st w h hl
  | 4, _ => exact read4 p st w h hl

/-- What 'valid' asks. -/
def VOk (v : Vl) : Prop := v.zs.length ≤ 100 ∧ v.s.length ≤ 1000 ∧ LightP v.ls ∧ (∀ z ∈ v.zs, okI z) ∧ ¬ (v.kd = 0 ∧ v.n < 0) ∧ ¬ (v.kd = 1 ∧ ¬ okI v.n)
/-- A bool is handed back, true just if P; what was there is as it was. -/
def BoolB (P : Prop) (w : World) (e : Ending) (w' : World) : Prop := ∃ b, e = .returned (.bool b) ∧ (b = true ↔ P) ∧ Below w.heap.size w w'
theorem boolB_no {P : Prop} {w w' : World} (h : ¬ P) (hb : Below w.heap.size w w') : BoolB P w (.returned (.bool false)) w' := ⟨false, rfl, ⟨(fun h => by cases h), fun h' => absurd h' h⟩, hb⟩
theorem boolB_yes {P : Prop} {w w' : World} (h : P) (hb : Below w.heap.size w w') : BoolB P w (.returned (.bool true)) w' := ⟨true, rfl, ⟨fun _ => h, fun _ => rfl⟩, hb⟩
theorem bstep {w1 w2 w3 : World} {n : Nat} {w : World} {v : Vl} (h : Below n w1 w2) (hb : Below w2.heap.size w2 w3) (hn : n = w.heap.size + 1 := by rfl) (he : w1 = w.alloc (.cells v.cells 45) := by rfl) : Below n w1 w3 := by
  subst hn
  subst he
  exact h.trans (hb.mono (by have := h.size; simpa using this))
theorem alloc_below' {w w2 : World} {o : Obj} (hb : Below (w.heap.size + 1) (w.alloc o) w2) : Below w.heap.size w w2 := ((Below.refl _ _).alloc (Nat.le_refl _) o).trans (hb.mono (by omega))
theorem isEmpty_encI (z : Int) (h : okI z) : (encI z).isEmpty = false := by
  have := encI_ne z h
  cases hq : encI z
  · exact absurd hq this
  · rfl


set_option maxHeartbeats 4000000 in
set_option maxRecDepth 100000 in
theorem valid_any (v : Vl) (w : World) (hin : v.In w w.heap.size) (hf : v.Fit) : Calls Try.prog 42 #[.agg v.cells] w (BoolB (VOk v) w) := by
  have hz := hf.2.2.2.2.2
  have hs := hf.2.2.1
  unfold maxLen at hz hs
  have hz2 : (v.zs.length : Int) ≤ 9223372036854775807 := by omega
  have hs2 : (v.s.length : Int) ≤ 9223372036854775807 := by omega
  have HI := Lib.hid (hin.below ((Below.refl w.heap.size w).alloc (Nat.le_refl _) (.cells v.cells 45)))
  have HW := Lib.hid ((Below.refl w.heap.size w).alloc (Nat.le_refl _) (.cells v.cells 45))
  have HF := Lib.hid hf
  obtain ⟨c0, c1, c2, c3, c4⟩ := bx_cells (bx_new w v)
  by_cases hz3 : v.zs.length ≤ 100
  · have hz4 : (v.zs.length : Int) ≤ 100 := by omega
    by_cases hs3 : v.s.length ≤ 1000
    · have hs4 : (v.s.length : Int) ≤ 1000 := by omega
      have HL := Lib.hid (light_any w.heap.size v.A v.ls v.c (w.alloc (.cells v.cells 45)) HI.out.1 hf.2.2.2.1 hf.2.2.2.2.1)
      clear hf hin
      unfold Vl.cells at c0 c1 c2 c3 c4 HL HW
      have ecells : v.cells = #[.int .i64 v.k, .int .i64 v.n, .string (B v.s), .slice v.A v.ls.length v.c, .slice v.A' v.zs.length v.c'] := rfl
      rw [ecells]
      have HE := Lib.hid ecells
      clear ecells
      go_enter Try.func42, Try.ntmps42
      go_wp2_with fail
      refine HL.out.mono ?_
      rintro e w1 ⟨b, rfl, hlb, rfl⟩
      cases b
      · have R : ¬ VOk v := fun h => by have := hlb.2 h.2.2.1; cases this
        have HR := Lib.hid (boolB_no R HW.out)
        clear R hlb
        go_wp2
        go_ret
        exact HR.out
      · have hlight := Lib.hid (hlb.1 rfl)
        clear hlb
        go_wp2_with fail
        go_loopw [3] (fun i wr => ∃ k : Nat, i = .int .i64 (k : Int) ∧ k ≤ v.zs.length ∧ (∀ z ∈ v.zs.take k, okI z) ∧ Below (w.heap.size + 1) (w.alloc (.cells v.cells 45)) wr) (fun i _ => v.zs.length - (intOf i).toNat)
        case atStart => exact ⟨0, rfl, by omega, by simp, Below.refl _ _⟩
        case round =>
          obtain ⟨k, rfl, hk, hall, hbel⟩ := hrel
          have HA := Lib.hid hall
          have HB := Lib.hid hbel
          clear c0 c1 c2 c3 c4 hall hbel
          obtain ⟨c0, c1, c2, c3, c4⟩ := bx_cells (bx_below (bx_new w v) HB.out (by omega))
          by_cases hlt : k < v.zs.length
          · have hlt' : (k : Int) < v.zs.length := by omega
            obtain ⟨a, ha, _, hc⟩ := (HI.out.2.below (HB.out.mono (by omega))).num hlt
            rw [ha] at c4
            have hmem := List.getElem_mem hlt
            have htk := List.take_succ_eq_append_getElem hlt
            obtain ⟨x, hx⟩ : ∃ x, x = v.zs[k] := ⟨_, rfl⟩
            rw [← hx] at hc hmem htk
            have HM := Lib.hid hmem
            have HT := Lib.hid htk
            clear hx ha hmem htk
            by_cases hok : okI x
            · have K := cInt_any x wr
              have hq := isEmpty_encI x hok
              obtain ⟨q, hqq⟩ : ∃ q, q = encI x := ⟨_, rfl⟩
              rw [← hqq] at K hq
              have HK := Lib.hid K
              have R := Lib.hid (show ∀ z ∈ v.zs.take (k + 1), okI z from by
                intro z hz
                rw [HT.out, List.mem_append, List.mem_singleton] at hz
                rcases hz with hz | rfl
                · exact HA.out z hz
                · exact hok)
              clear K hqq hok
              go_wp2_with fail
              refine HK.out.mono ?_
              rintro e w2 ⟨rfl, hb⟩
              have B2 := Lib.hid (bstep HB.out hb)
              clear hb c0 c1 c2 c3 c4 hc
              go_wp2
              go_roundw
              case rel => exact ⟨k + 1, by go_num, hlt, R.out, B2.out⟩
              case measure => simp [intOf]; omega
            · have K := cInt_any x wr
              rw [encI_no x hok] at K
              have HK := Lib.hid K
              have R : ¬ VOk v := fun h => hok (h.2.2.2.1 x HM.out)
              have HN := Lib.hid R
              clear K R hok
              go_wp2_with fail
              refine HK.out.mono ?_
              rintro e w2 ⟨rfl, hb⟩
              have HR := Lib.hid (boolB_no HN.out (alloc_below' (bstep HB.out hb)))
              clear hb c0 c1 c2 c3 c4 hc
              go_wp2
              go_ret
              exact HR.out
          · obtain rfl : k = v.zs.length := by omega
            have HZ := Lib.hid (show ∀ z ∈ v.zs, okI z from fun z hz => HA.out z (by rw [List.take_length]; exact hz))
            have B0 := HB
            have HK := fun w => kind_any v w HF.out.1
            have hnb := HF.out.2.1
            have hn1 := hnb.1
            have hn2 := hnb.2
            have hml := kd_lt v
            obtain ⟨m, hm⟩ : ∃ m, m = v.kd := ⟨_, rfl⟩
            rw [← hm] at HK hml
            rw [HE.out] at HK
            have hkd := Lib.hid hm.symm
            have HKI := Lib.hid HK
            have hm3 : (m : Int) < 5 := by omega
            clear HK hm HB HA hnb hlt hml
            rcases (show m = 0 ∨ m = 1 ∨ (2 ≤ m) by omega) with rfl | rfl | hm2
            · by_cases hneg : v.n < 0
              · have hneg2 : v.n < 0 := hneg
                go_wp2_with fail
                refine (HKI.out _).mono ?_
                rintro e k1 ⟨rfl, hb⟩
                have B1 := Lib.hid (bstep B0.out hb)
                clear hb c0 c1 c2 c3 c4
                obtain ⟨c0, c1, c2, c3, c4⟩ := bx_cells (bx_below (bx_new w v) B1.out (by omega))
                have HR := Lib.hid (boolB_no (P := VOk v) (fun h => h.2.2.2.2.1 ⟨hkd.out, hneg2⟩) (alloc_below' B1.out))
                go_wp2
                go_ret
                exact HR.out
              · have hneg' : 0 ≤ v.n := by omega
                have hnd : decide (v.n < 0) = false := by simpa using hneg'
                go_wp2_with fail
                refine (HKI.out _).mono ?_
                rintro e k1 ⟨rfl, hb⟩
                have B1 := Lib.hid (bstep B0.out hb)
                clear hb c0 c1 c2 c3 c4
                obtain ⟨c0, c1, c2, c3, c4⟩ := bx_cells (bx_below (bx_new w v) B1.out (by omega))
                go_wp2_with fail
                refine (HKI.out _).mono ?_
                rintro e k2 ⟨rfl, hb⟩
                have B2 := Lib.hid (bstep B1.out hb)
                clear hb c0 c1 c2 c3 c4
                obtain ⟨c0, c1, c2, c3, c4⟩ := bx_cells (bx_below (bx_new w v) B2.out (by omega))
                have HR := Lib.hid (boolB_yes (P := VOk v) (⟨hz3, hs3, hlight.out, HZ.out, (fun h => by have h2 := h.2; omega), (fun h => by have h1 := h.1; rw [hkd.out] at h1; cases h1)⟩) (alloc_below' B2.out))
                go_wp2
                go_ret
                exact HR.out
            · by_cases hok : okI v.n
              · have K := fun w => cInt_any v.n w
                have hq := isEmpty_encI v.n hok
                obtain ⟨q, hqq⟩ : ∃ q, q = encI v.n := ⟨_, rfl⟩
                rw [← hqq] at K hq
                have HIK := Lib.hid K
                have hok2 := Lib.hid hok
                clear K hqq hok
                go_wp2_with fail
                refine (HKI.out _).mono ?_
                rintro e k1 ⟨rfl, hb⟩
                have B1 := Lib.hid (bstep B0.out hb)
                clear hb c0 c1 c2 c3 c4
                obtain ⟨c0, c1, c2, c3, c4⟩ := bx_cells (bx_below (bx_new w v) B1.out (by omega))
                go_wp2_with fail
                refine (HKI.out _).mono ?_
                rintro e k2 ⟨rfl, hb⟩
                have B2 := Lib.hid (bstep B1.out hb)
                clear hb c0 c1 c2 c3 c4
                obtain ⟨c0, c1, c2, c3, c4⟩ := bx_cells (bx_below (bx_new w v) B2.out (by omega))
                go_wp2_with fail
                refine (HIK.out _).mono ?_
                rintro e k3 ⟨rfl, hb⟩
                have B3 := Lib.hid (bstep B2.out hb)
                clear hb
                have HR := Lib.hid (boolB_yes (P := VOk v) (⟨hz3, hs3, hlight.out, HZ.out, (fun h => by have h1 := h.1; rw [hkd.out] at h1; cases h1), fun h => h.2 hok2.out⟩) (alloc_below' B3.out))
                go_wp2
                go_ret
                exact HR.out
              · have K := fun w => cInt_any v.n w
                rw [encI_no v.n hok] at K
                have HIK := Lib.hid K
                have hok2 := Lib.hid hok
                clear K hok
                go_wp2_with fail
                refine (HKI.out _).mono ?_
                rintro e k1 ⟨rfl, hb⟩
                have B1 := Lib.hid (bstep B0.out hb)
                clear hb c0 c1 c2 c3 c4
                obtain ⟨c0, c1, c2, c3, c4⟩ := bx_cells (bx_below (bx_new w v) B1.out (by omega))
                go_wp2_with fail
                refine (HKI.out _).mono ?_
                rintro e k2 ⟨rfl, hb⟩
                have B2 := Lib.hid (bstep B1.out hb)
                clear hb c0 c1 c2 c3 c4
                obtain ⟨c0, c1, c2, c3, c4⟩ := bx_cells (bx_below (bx_new w v) B2.out (by omega))
                go_wp2_with fail
                refine (HIK.out _).mono ?_
                rintro e k3 ⟨rfl, hb⟩
                have B3 := Lib.hid (bstep B2.out hb)
                clear hb
                have HR := Lib.hid (boolB_no (P := VOk v) (fun h => h.2.2.2.2.2 ⟨hkd.out, hok2.out⟩) (alloc_below' B3.out))
                go_wp2
                go_ret
                exact HR.out
            · have hm0 : ((m : Int) == 0) = false := by simp; omega
              have hm1 : ((m : Int) == 1) = false := by simp; omega
              go_wp2_with fail
              refine (HKI.out _).mono ?_
              rintro e k1 ⟨rfl, hb⟩
              have B1 := Lib.hid (bstep B0.out hb)
              clear hb c0 c1 c2 c3 c4
              obtain ⟨c0, c1, c2, c3, c4⟩ := bx_cells (bx_below (bx_new w v) B1.out (by omega))
              go_wp2_with fail
              refine (HKI.out _).mono ?_
              rintro e k2 ⟨rfl, hb⟩
              have B2 := Lib.hid (bstep B1.out hb)
              clear hb c0 c1 c2 c3 c4
              obtain ⟨c0, c1, c2, c3, c4⟩ := bx_cells (bx_below (bx_new w v) B2.out (by omega))
              have HR := Lib.hid (boolB_yes (P := VOk v) (⟨hz3, hs3, hlight.out, HZ.out, (fun h => by have h1 := h.1; rw [hkd.out] at h1; omega), (fun h => by have h1 := h.1; rw [hkd.out] at h1; omega)⟩) (alloc_below' B2.out))
              go_wp2
              go_ret
              exact HR.out
    · have hs4 : (1000 : Int) < v.s.length := by omega
      have HR := Lib.hid (boolB_no (show ¬ VOk v from fun h => hs3 h.2.1) HW.out)
      clear hf hin
      unfold Vl.cells at c0 c1 c2 c3 c4 HR ⊢
      go_enter Try.func42, Try.ntmps42
      go_wp2
      go_ret
      exact HR.out
  · have hz4 : (100 : Int) < v.zs.length := by omega
    have HR := Lib.hid (boolB_no (show ¬ VOk v from fun h => hz3 h.1) HW.out)
    clear hf hin
    unfold Vl.cells at c0 c1 c2 c3 c4 HR ⊢
    go_enter Try.func42, Try.ntmps42
    go_wp2
    go_ret
    exact HR.out
end Go.Proofs.Ytcgbamloemdilaa
