/-
  Layer 11: the document's own Ids (agoraref11).
-/
import Derived.Test.YtcbhjagcfbinoaaDoorIdentRef
import Derived.Deep.QuietTactic
import Derived.BigQuiet
namespace Go.Proofs.YtcbhjagcfbinoaaDoor
open Go.RowKit
namespace Idt
attribute [local go_sem] S2.B_size S2.B_drop' S2.B_take S2.B_list S2.B_app
open Go.Op (bytesLess)
theorem ids_bad1 {l : List Str} {j : Nat} (hj : j < l.length) (h : isId l[j] = false) : ids l = false :=
  ids_no fun g => by rw [g.each _ (List.getElem_mem hj)] at h; cases h
theorem ids_bad2 {l : List Str} {j : Nat} (hj : j + 1 < l.length) (h : bytesLess l[j] l[j + 1] = false) : ids l = false :=
  ids_no fun g => by rw [up_at g.up (Nat.lt_succ_self j) hj] at h; cases h
theorem rising_of : ∀ {l : List Str}, (∀ i (h : i + 1 < l.length), bytesLess l[i] l[i + 1] = true) → rising l = true
  | [], _ => rfl
  | [_], _ => rfl
  | a :: b :: t, h => by
    simp only [rising, Bool.and_eq_true]
    exact ⟨h 0 (by simp), rising_of (l := b :: t) fun i hi => h (i + 1) (by simpa using hi)⟩
theorem ids_end {l : List Str} (h1 : ∀ i (h : i < l.length), isId l[i] = true) (h2 : ∀ i (h : i + 1 < l.length), bytesLess l[i] l[i + 1] = true) : ids l = decide (l.length ≤ 64) := by
  unfold ids
  rw [rising_of h2, show l.all isId = true from List.all_eq_true.2 fun x hx => by obtain ⟨i, hi, rfl⟩ := List.mem_iff_getElem.1 hx; exact h1 i hi]
  rfl
/-- The list so far. -/
structure Sofar (l : List Str) (j : Nat) : Prop where
  le : j ≤ l.length
  one : ∀ i (h : i < l.length), i < j → isId l[i] = true
  two : ∀ i (h : i + 1 < l.length), i + 1 < j → bytesLess l[i] l[i + 1] = true
theorem Sofar.next {l : List Str} {j : Nat} (h : Sofar l j) (hj : j < l.length) (h1 : isId l[j] = true) (h2 : ∀ (k : Nat) (_ : j = k + 1), bytesLess (l[k]'(by omega)) l[j] = true) : Sofar l (j + 1) := by
  refine ⟨by omega, fun i hi hij => ?_, fun i hi hij => ?_⟩
  · by_cases e : i = j
    · subst e; exact h1
    · exact h.one i hi (by omega)
  · by_cases e : j = i + 1
    · subst e; exact h2 i rfl
    · exact h.two i hi (by omega)
theorem drewN_below' {bd : Nat} (w : World) (n : Nat) : Below bd w (w.drewN n) := ⟨rfl, rfl, rfl, Nat.le_refl _, fun _ _ => rfl⟩
theorem quiet_add {P : Program} {F : FuncId} {args : Array Value} {w : World} {m n : Nat} {v : Value} (h : ∀ w, Calls P F args w fun e w' => e = .returned v ∧ w' = w) : Calls P F args (w.drewN (m + n)) fun e w'' => e = .returned v ∧ ∃ k, w'' = w.drewN (m + k) :=
  (h _).mono fun _ _ h => ⟨h.1, n, h.2⟩
set_option maxHeartbeats 2000000 in
set_option maxRecDepth 100000 in
theorem refIds_any (A : Option Addr) (l : List Str) (n c bd : Nat) (w : World) (hn : n = l.length) (hr : S2.Row w bd A (S2.Ss l)) (hn2 : n ≤ 1099511627776) (hs : ∀ s ∈ l, s.length ≤ 1099511627776) :
    Calls Tryd.prog 21 #[.slice A n c] w fun e w' => e = .returned (.bool (ids l)) ∧ ∃ m, w' = w.drewN m := by
  have hn3 : (n : Int) ≤ 1099511627776 := by omega
  have HN := Lib.hid hn
  have HS := Lib.hid hs
  have HE := Lib.hid fun (h : Sofar l l.length) => ids_end (fun i hi => h.one i hi hi) (fun i hi => h.two i hi hi)
  have B1 := Lib.hid fun j (hj : j < l.length) => ids_bad1 (l := l) hj
  have B2 := Lib.hid fun j (hj : j + 1 < l.length) => ids_bad2 (l := l) hj
  obtain ⟨r, hr0⟩ : ∃ r, r = ids l := ⟨_, rfl⟩
  rw [← hr0] at HE B1 B2 ⊢
  clear hr0 hn hs hn2
  go_enter Tryd.func21, Tryd.ntmps21
  go_wp2_with fail
  go_loopw [3] (fun i wr => ∃ j m : Nat, i = .int .i64 (j : Int) ∧ Sofar l j ∧ wr = w.drewN m) (fun i _ => n - (intOf i).toNat)
  case atStart => exact ⟨0, 0, rfl, ⟨Nat.zero_le _, fun _ _ h => absurd h (by omega), fun _ _ h => absurd h (by omega)⟩, rfl⟩
  case round =>
    obtain ⟨j, m, rfl, hso, rfl⟩ := hrel
    have SO := Lib.hid hso
    have hjn : j ≤ n := by have := hso.le; have := HN.out; omega
    clear hso
    by_cases hc : j < n
    · have hcI : (j : Int) < n := by omega
      have hjl : j < l.length := by have := HN.out; omega
      obtain ⟨a, rfl, _, hcell⟩ := hr.str hjl
      have hb1 := B1.out j hjl
      have hnx := SO.out.next hjl
      have KR := Lib.hid fun w => (refRight_any l[j] w (HS.out _ (List.getElem_mem hjl))).mono fun _ _ h => And.intro h.1 h.2.symm
      cases hi : isId l[j] with
      | false =>
        rw [hi] at KR
        have NB := Lib.hid (hb1 hi)
        obtain ⟨x, hx⟩ : ∃ x, x = l[j] := ⟨_, rfl⟩
        rw [← hx] at hcell KR
        clear hb1 hnx hi hx hr
        go_wp2
        go_quiet ((go_at_call 15; exact quiet_add KR.out))
        go_wp2
        go_ret
        rw [NB.out]
        exact ⟨rfl, _, by first | rfl | (simp only [World.drewN_drewN]; rfl)⟩
      | true =>
        rw [hi] at KR
        by_cases hz : j = 0
        · have hzI : ¬ 0 < j := by omega
          have NX := Lib.hid (hnx hi fun k e => by omega)
          obtain ⟨x, hx⟩ : ∃ x, x = l[j] := ⟨_, rfl⟩
          rw [← hx] at hcell KR
          clear hb1 hnx hi hx hr hz
          go_wp2
          go_quiet ((go_at_call 15; exact quiet_add KR.out))
          go_wp2
          go_roundw
          case rel => exact ⟨j + 1, _, by go_num, NX.out, by first | rfl | (simp only [World.drewN_drewN]; rfl)⟩
          case measure => simp [intOf]; omega
        obtain ⟨k, hk⟩ : ∃ k, j = k + 1 := ⟨j - 1, by omega⟩
        have hzI : 0 < j := by omega
        have hk1 : (j : Int) - 1 = (k : Int) := by omega
        have hk2 : (k : Int) < (n : Int) := by omega
        have hkl : k < l.length := by omega
        obtain ⟨a', ha', _, hcell'⟩ := hr.str hkl
        cases ha'
        cases hle : bytesLess l[k] l[j] with
        | false =>
          have NB := Lib.hid (B2.out k (by omega) (by subst hk; exact hle))
          obtain ⟨x, hx⟩ : ∃ x, x = l[j] := ⟨_, rfl⟩
          obtain ⟨y, hy⟩ : ∃ y, y = l[k] := ⟨_, rfl⟩
          rw [← hx] at hcell KR hle
          rw [← hy] at hcell' hle
          clear hb1 hnx hi hx hy hr hz hk
          go_wp2
          go_quiet ((go_at_call 15; exact quiet_add KR.out))
          go_wp2
          go_ret
          rw [NB.out]
          exact ⟨rfl, _, by first | rfl | (simp only [World.drewN_drewN]; rfl)⟩
        | true =>
          have hle2 : ∀ (k' : Nat) (h : j = k' + 1), bytesLess (l[k']'(by omega)) l[j] = true := fun k' e => by
            have : k' = k := by omega
            subst this
            exact hle
          have NX := Lib.hid (hnx hi hle2)
          obtain ⟨x, hx⟩ : ∃ x, x = l[j] := ⟨_, rfl⟩
          obtain ⟨y, hy⟩ : ∃ y, y = l[k] := ⟨_, rfl⟩
          rw [← hx] at hcell KR hle
          rw [← hy] at hcell' hle
          clear hb1 hnx hi hx hy hr hz hk hle2
          go_wp2
          go_quiet ((go_at_call 15; exact quiet_add KR.out))
          go_wp2
          go_roundw
          case rel => exact ⟨j + 1, _, by go_num, NX.out, by first | rfl | (simp only [World.drewN_drewN]; rfl)⟩
          case measure => simp [intOf]; omega
    · have hcI : ¬ (j : Int) < n := by omega
      have hjl : j = l.length := by have := HN.out; omega
      have E0 := HE.out (by rw [← hjl]; exact SO.out)
      have hnl : l.length = n := HN.out.symm
      rw [hnl] at E0
      clear SO B1 B2 HE hr HS hjl hnl
      by_cases g : n ≤ 64
      · have gI : (n : Int) ≤ 64 := by omega
        rw [decide_eq_true g] at E0
        have E := Lib.hid E0
        clear E0 g
        go_wp2
        go_ret
        rw [E.out]
        exact ⟨rfl, _, rfl⟩
      · have gI : ¬ (n : Int) ≤ 64 := by omega
        rw [decide_eq_false g] at E0
        have E := Lib.hid E0
        clear E0 g
        go_wp2
        go_ret
        rw [E.out]
        exact ⟨rfl, _, rfl⟩
end Idt
end Go.Proofs.YtcbhjagcfbinoaaDoor
