/-
  Layer 2: the document's SameTexts and SameNums.
-/
import Derived.Test.YtcgbamloemdilaaCodeRd2
import Derived.Deep.QuietTactic
import Derived.BigQuiet
namespace Go.Proofs.Ytcgbamloemdilaa
open Go.RowKit
open Cd
attribute [local go_sem] B_size B_drop' B_take B_list B_app

theorem take_eq_step {α : Type} {a b : List α} {k : Nat} (h : a.take k = b.take k) (ha : k < a.length) (hb : k < b.length) (he : a[k] = b[k]) : a.take (k + 1) = b.take (k + 1) := by
  rw [List.take_succ_eq_append_getElem ha, List.take_succ_eq_append_getElem hb, h, he]
theorem drewN_below {bd : Nat} (w : World) (n : Nat) : Below bd w (w.drewN n) := ⟨rfl, rfl, rfl, Nat.le_refl _, fun _ _ => rfl⟩
theorem row_drewN {w : World} {bd : Nat} {A : Option Addr} {xs : List Value} (h : Row w bd A xs) (n : Nat) : Row (w.drewN n) bd A xs := h
theorem neq_list (x y : List UInt8) (h : x ≠ y) : (x == y) = false ∧ (x != y) = true := by
  have : (x == y) = false := by simpa using h
  exact ⟨this, by simp [bne, this]⟩
theorem neq_int (x y : Int) (h : x ≠ y) : (x == y) = false ∧ (x != y) = true := by
  have : (x == y) = false := by simpa using h
  exact ⟨this, by simp [bne, this]⟩

set_option maxHeartbeats 1000000 in
set_option maxRecDepth 100000 in
theorem sameTexts_any (bd : Nat) (A A' : Option Addr) (ss ts : List (List UInt8)) (c c' : Nat) (w : World) (hr : Row w bd A (Ss ss)) (hr' : Row w bd A' (Ss ts)) (hs : ss.length ≤ 1099511627776) (ht : ts.length ≤ 1099511627776) :
    Calls Try.prog 32 #[.slice A ss.length c, .slice A' ts.length c'] w fun e w' => e = .returned (.bool (decide (ss = ts))) ∧ Below w.heap.size w w' := by
  have hs2 : (ss.length : Int) ≤ 1099511627776 := by omega
  have ht2 : (ts.length : Int) ≤ 1099511627776 := by omega
  by_cases hl : ss.length = ts.length
  · obtain ⟨n, hn⟩ : ∃ n, n = ss.length := ⟨_, rfl⟩
    have hn' : ts.length = n := by rw [← hl, hn]
    rw [hn', ← hn]
    rw [← hn] at hs2 hl
    have HN := Lib.hid hn
    have HN' := Lib.hid hn'
    clear hn hn' hl hs ht ht2
    go_enter Try.func32, Try.ntmps32
    go_wp2_with fail
    go_loopw [5] (fun i wr => ∃ k m : Nat, i = .int .i64 (k : Int) ∧ k ≤ n ∧ ss.take k = ts.take k ∧ wr = w.drewN m) (fun i _ => n - (intOf i).toNat)
    case atStart => exact ⟨0, 0, rfl, by omega, rfl, rfl⟩
    case round =>
      obtain ⟨k, m, rfl, hk, htk, rfl⟩ := hrel
      have HT := Lib.hid htk
      clear htk
      by_cases hlt : k < n
      · have hlt' : (k : Int) < n := by omega
        have hks : k < ss.length := by rw [← HN.out]; exact hlt
        have hkt : k < ts.length := by rw [HN'.out]; exact hlt
        obtain ⟨a, rfl, _, hc⟩ := hr.str hks
        obtain ⟨a', rfl, _, hc'⟩ := hr'.str hkt
        obtain ⟨x, hx⟩ : ∃ x, x = ss[k] := ⟨_, rfl⟩
        obtain ⟨y, hy⟩ : ∃ y, y = ts[k] := ⟨_, rfl⟩
        rw [← hx] at hc
        rw [← hy] at hc'
        have HX := Lib.hid hx
        have HY := Lib.hid hy
        clear hr hr' hx hy
        by_cases hxy : x = y
        · subst hxy
          go_wp2
          go_quiet (fail)
          go_wp2
          go_roundw
          case rel => exact ⟨k + 1, _, by go_num, hlt, take_eq_step HT.out hks hkt (HX.out.symm.trans HY.out), by first | rfl | (simp only [World.drewN_drewN]; rfl)⟩
          case measure => simp [intOf]; omega
        · have R : decide (ss = ts) = false := by
            rw [decide_eq_false_iff_not]
            intro e
            subst e
            exact hxy (HX.out.trans HY.out.symm)
          have HR := Lib.hid R
          obtain ⟨n1, n2⟩ := neq_list x y hxy
          clear R hxy
          go_wp2
          go_quiet (fail)
          go_wp2
          go_ret
          rw [HR.out]
          exact ⟨rfl, (drewN_below w _).trans (drewN_below _ _)⟩
      · have R : decide (ss = ts) = true := by
          rw [decide_eq_true_iff]
          have h1 := HT.out
          rw [List.take_of_length_le (by have := HN.out; omega), List.take_of_length_le (by have := HN'.out; omega)] at h1
          exact h1
        have HR := Lib.hid R
        have hge : (n : Int) ≤ k := by omega
        clear R hr hr'
        go_wp2
        go_ret
        rw [HR.out]
        exact ⟨rfl, drewN_below w _⟩
  · have R : decide (ss = ts) = false := by
      rw [decide_eq_false_iff_not]
      intro e
      exact hl (by rw [e])
    have hne : ((ss.length : Int) == ts.length) = false := by simp; omega
    have hne2 : ((ss.length : Int) != ts.length) = true := by simp; omega
    rw [R]
    clear R hr hr' hl
    go_enter Try.func32, Try.ntmps32
    go_wp2
    go_ret
    exact ⟨rfl, Below.refl _ _⟩

set_option maxHeartbeats 1000000 in
set_option maxRecDepth 100000 in
theorem sameNums_any (bd : Nat) (A A' : Option Addr) (ss ts : List (Int)) (c c' : Nat) (w : World) (hr : Row w bd A (Zs ss)) (hr' : Row w bd A' (Zs ts)) (hs : ss.length ≤ 1099511627776) (ht : ts.length ≤ 1099511627776) :
    Calls Try.prog 35 #[.slice A ss.length c, .slice A' ts.length c'] w fun e w' => e = .returned (.bool (decide (ss = ts))) ∧ Below w.heap.size w w' := by
  have hs2 : (ss.length : Int) ≤ 1099511627776 := by omega
  have ht2 : (ts.length : Int) ≤ 1099511627776 := by omega
  by_cases hl : ss.length = ts.length
  · obtain ⟨n, hn⟩ : ∃ n, n = ss.length := ⟨_, rfl⟩
    have hn' : ts.length = n := by rw [← hl, hn]
    rw [hn', ← hn]
    rw [← hn] at hs2 hl
    have HN := Lib.hid hn
    have HN' := Lib.hid hn'
    clear hn hn' hl hs ht ht2
    go_enter Try.func35, Try.ntmps35
    go_wp2_with fail
    go_loopw [5] (fun i wr => ∃ k m : Nat, i = .int .i64 (k : Int) ∧ k ≤ n ∧ ss.take k = ts.take k ∧ wr = w.drewN m) (fun i _ => n - (intOf i).toNat)
    case atStart => exact ⟨0, 0, rfl, by omega, rfl, rfl⟩
    case round =>
      obtain ⟨k, m, rfl, hk, htk, rfl⟩ := hrel
      have HT := Lib.hid htk
      clear htk
      by_cases hlt : k < n
      · have hlt' : (k : Int) < n := by omega
        have hks : k < ss.length := by rw [← HN.out]; exact hlt
        have hkt : k < ts.length := by rw [HN'.out]; exact hlt
        obtain ⟨a, rfl, _, hc⟩ := hr.num hks
        obtain ⟨a', rfl, _, hc'⟩ := hr'.num hkt
        obtain ⟨x, hx⟩ : ∃ x, x = ss[k] := ⟨_, rfl⟩
        obtain ⟨y, hy⟩ : ∃ y, y = ts[k] := ⟨_, rfl⟩
        rw [← hx] at hc
        rw [← hy] at hc'
        have HX := Lib.hid hx
        have HY := Lib.hid hy
        clear hr hr' hx hy
        by_cases hxy : x = y
        · subst hxy
          go_wp2
          go_quiet (fail)
          go_wp2
          go_roundw
          case rel => exact ⟨k + 1, _, by go_num, hlt, take_eq_step HT.out hks hkt (HX.out.symm.trans HY.out), by first | rfl | (simp only [World.drewN_drewN]; rfl)⟩
          case measure => simp [intOf]; omega
        · have R : decide (ss = ts) = false := by
            rw [decide_eq_false_iff_not]
            intro e
            subst e
            exact hxy (HX.out.trans HY.out.symm)
          have HR := Lib.hid R
          obtain ⟨n1, n2⟩ := neq_int x y hxy
          clear R hxy
          go_wp2
          go_quiet (fail)
          go_wp2
          go_ret
          rw [HR.out]
          exact ⟨rfl, (drewN_below w _).trans (drewN_below _ _)⟩
      · have R : decide (ss = ts) = true := by
          rw [decide_eq_true_iff]
          have h1 := HT.out
          rw [List.take_of_length_le (by have := HN.out; omega), List.take_of_length_le (by have := HN'.out; omega)] at h1
          exact h1
        have HR := Lib.hid R
        have hge : (n : Int) ≤ k := by omega
        clear R hr hr'
        go_wp2
        go_ret
        rw [HR.out]
        exact ⟨rfl, drewN_below w _⟩
  · have R : decide (ss = ts) = false := by
      rw [decide_eq_false_iff_not]
      intro e
      exact hl (by rw [e])
    have hne : ((ss.length : Int) == ts.length) = false := by simp; omega
    have hne2 : ((ss.length : Int) != ts.length) = true := by simp; omega
    rw [R]
    clear R hr hr' hl
    go_enter Try.func35, Try.ntmps35
    go_wp2
    go_ret
    exact ⟨rfl, Below.refl _ _⟩
end Go.Proofs.Ytcgbamloemdilaa
