/-
  Layer 11: the package's Ids.
-/
import Derived.Test.YtcbhjagcfbinoaaDoorIdentFunN
import Derived.Test.YtcbhjagcfbinoaaDoorIdentRefI
namespace Go.Proofs.YtcbhjagcfbinoaaDoor
open Go.RowKit
namespace Idt
attribute [local go_sem] S2.B_size S2.B_drop' S2.B_take S2.B_list S2.B_app
open Go.Op (bytesLess)
theorem row_keep {w w' : World} {bd : Nat} {A : Option Addr} {l : List Value} (h : S2.Row w bd A l) (hb : Below bd w w') : S2.Row w' bd A l := h.below hb
set_option maxHeartbeats 2000000 in
set_option maxRecDepth 100000 in
theorem ids_any (A : Option Addr) (l : List Str) (n c : Nat) (w : World) (hn : n = l.length) (hr : S2.Row w w.heap.size A (S2.Ss l)) (hn2 : n ≤ 1125899906842624) (hs : ∀ s ∈ l, s.length ≤ 1125899906842624) :
    Calls Tryd.prog 20 #[.slice A n c] w fun e w' => e = .returned (.bool (ids l)) ∧ Below w.heap.size w w' := by
  have hn3 : (n : Int) ≤ 1125899906842624 := by omega
  by_cases h64 : 64 < n
  · have h64I : (64 : Int) < (n : Int) := by omega
    rw [show ids l = false from by unfold ids; rw [decide_eq_false (show ¬ l.length ≤ 64 by omega), Bool.and_false, Bool.and_false]]
    clear hn hr hn2 hs h64
    go_enter Tryd.func20, Tryd.ntmps20
    go_wp2
    go_ret
    exact ⟨rfl, Below.refl _ _⟩
  have h64I : ¬ (64 : Int) < (n : Int) := by omega
  have HN := Lib.hid hn
  have HS := Lib.hid hs
  have HR := Lib.hid hr
  have HE := Lib.hid (show Sofar l l.length → ids l = true from fun h => by rw [ids_end (fun i hi => h.one i hi hi) (fun i hi => h.two i hi hi), decide_eq_true (show l.length ≤ 64 by omega)])
  have B1 := Lib.hid fun j (hj : j < l.length) => ids_bad1 (l := l) hj
  have B2 := Lib.hid fun j (hj : j + 1 < l.length) => ids_bad2 (l := l) hj
  obtain ⟨r, hr0⟩ : ∃ r, r = ids l := ⟨_, rfl⟩
  rw [← hr0] at HE B1 B2 ⊢
  clear hr0 hn hs hn2 hr h64
  go_enter Tryd.func20, Tryd.ntmps20
  go_wp2_with fail
  go_loopw [10] (fun i wr => ∃ j : Nat, i = .int .i64 (j : Int) ∧ Sofar l j ∧ Below w.heap.size w wr) (fun i _ => n - (intOf i).toNat)
  case atStart => exact ⟨0, rfl, ⟨Nat.zero_le _, fun _ _ h => absurd h (by omega), fun _ _ h => absurd h (by omega)⟩, Below.refl _ _⟩
  case round =>
    obtain ⟨j, rfl, hso, hbw⟩ := hrel
    have SO := Lib.hid hso
    have HB := Lib.hid hbw
    clear hso hbw
    by_cases hc : j < n
    · have hcI : (j : Int) < n := by omega
      have hjl : j < l.length := by have := HN.out; omega
      obtain ⟨a, rfl, _, hcell⟩ := (HR.out.below HB.out).str hjl
      have hb1 := B1.out j hjl
      have hnx := SO.out.next hjl
      have KR := Lib.hid fun w => right_any l[j] w (HS.out _ (List.getElem_mem hjl))
      cases hi : isId l[j] with
      | false =>
        rw [hi] at KR
        have NB := Lib.hid (hb1 hi)
        obtain ⟨x, hx⟩ : ∃ x, x = l[j] := ⟨_, rfl⟩
        rw [← hx] at hcell KR
        clear hb1 hnx hi hx
        go_wp2_with fail
        refine (KR.out _).mono ?_
        rintro e w2 ⟨rfl, hb⟩
        replace HB := Lib.hid (HB.out.trans (hb.mono HB.out.size))
        clear hb KR hcell
        go_wp2
        go_ret
        rw [NB.out]
        exact ⟨rfl, HB.out⟩
      | true =>
        rw [hi] at KR
        by_cases hz : j = 0
        · have hzI : ¬ 0 < j := by omega
          have NX := Lib.hid (hnx hi fun k e => by omega)
          obtain ⟨x, hx⟩ : ∃ x, x = l[j] := ⟨_, rfl⟩
          rw [← hx] at hcell KR
          clear hb1 hnx hi hx hz
          go_wp2_with fail
          refine (KR.out _).mono ?_
          rintro e w2 ⟨rfl, hb⟩
          replace HB := Lib.hid (HB.out.trans (hb.mono HB.out.size))
          clear hb KR hcell
          go_wp2
          go_roundw
          case rel => exact ⟨j + 1, by go_num, NX.out, HB.out⟩
          case measure => simp [intOf]; omega
        obtain ⟨k, hk⟩ : ∃ k, j = k + 1 := ⟨j - 1, by omega⟩
        have hzI : 0 < j := by omega
        have hk1 : (j : Int) - 1 = (k : Int) := by omega
        have hk2 : (k : Int) < (n : Int) := by omega
        have hkl : k < l.length := by omega
        cases hle : bytesLess l[k] l[j] with
        | false =>
          have NB := Lib.hid (B2.out k (by omega) (by subst hk; exact hle))
          have HCk := Lib.hid fun (wz : World) (hb : Below w.heap.size w wz) => (show ∃ a', some a = some a' ∧ wz.cell? (a'.add k) = some (.string (S2.B l[k])) from by
            obtain ⟨a', h1, _, h3⟩ := (HR.out.below hb).str hkl
            exact ⟨a', h1, h3⟩)
          obtain ⟨x, hx⟩ : ∃ x, x = l[j] := ⟨_, rfl⟩
          obtain ⟨y, hy⟩ : ∃ y, y = l[k] := ⟨_, rfl⟩
          rw [← hx] at hcell KR hle
          rw [← hy] at hle HCk
          clear hb1 hnx hi hx hy hz hk
          go_wp2_with fail
          refine (KR.out _).mono ?_
          rintro e w2 ⟨rfl, hb⟩
          replace HB := Lib.hid (HB.out.trans (hb.mono HB.out.size))
          clear hb KR hcell
          obtain ⟨a', ha', hcell'⟩ := HCk.out _ HB.out
          cases ha'
          clear HCk
          go_wp2
          go_ret
          rw [NB.out]
          exact ⟨rfl, HB.out⟩
        | true =>
          have hle2 : ∀ (k' : Nat) (h : j = k' + 1), bytesLess (l[k']'(by omega)) l[j] = true := fun k' e => by
            have : k' = k := by omega
            subst this
            exact hle
          have NX := Lib.hid (hnx hi hle2)
          have HCk := Lib.hid fun (wz : World) (hb : Below w.heap.size w wz) => (show ∃ a', some a = some a' ∧ wz.cell? (a'.add k) = some (.string (S2.B l[k])) from by
            obtain ⟨a', h1, _, h3⟩ := (HR.out.below hb).str hkl
            exact ⟨a', h1, h3⟩)
          obtain ⟨x, hx⟩ : ∃ x, x = l[j] := ⟨_, rfl⟩
          obtain ⟨y, hy⟩ : ∃ y, y = l[k] := ⟨_, rfl⟩
          rw [← hx] at hcell KR hle
          rw [← hy] at hle HCk
          clear hb1 hnx hi hx hy hz hk hle2
          go_wp2_with fail
          refine (KR.out _).mono ?_
          rintro e w2 ⟨rfl, hb⟩
          replace HB := Lib.hid (HB.out.trans (hb.mono HB.out.size))
          clear hb KR hcell
          obtain ⟨a', ha', hcell'⟩ := HCk.out _ HB.out
          cases ha'
          clear HCk
          go_wp2
          go_roundw
          case rel => exact ⟨j + 1, by go_num, NX.out, HB.out⟩
          case measure => simp [intOf]; omega
    · have hcI : ¬ (j : Int) < n := by omega
      have hjl : j = l.length := by have := HN.out; have := SO.out.le; omega
      have E := Lib.hid (HE.out (by rw [← hjl]; exact SO.out))
      clear SO B1 B2 HE HR HS hjl hc
      go_wp2
      go_ret
      rw [E.out]
      exact ⟨rfl, HB.out⟩
end Idt
end Go.Proofs.YtcbhjagcfbinoaaDoor
