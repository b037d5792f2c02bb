/-
  Layer 8: the reference's Same and Clash; the law's short and leaves.
-/
import Derived.Test.YtfemgakfckabhaaDoorMerkleApp
import Derived.Deep.QuietTactic
import Derived.BigQuiet
namespace Go.Proofs.YtfemgakfckabhaaDoor
open Go.RowKit
namespace Mk
attribute [local go_sem] S3.B_size S3.B_app S3.B_list S3.B_drop' S3.B_take

theorem take_step {α : Type} {a b : List α} {k : Nat} (h : a.take k = b.take k) (ha : k < a.length) (hb : k < b.length) (he : a[k] = b[k]) : a.take (k + 1) = b.take (k + 1) := by
  rw [List.take_succ_eq_append_getElem ha, List.take_succ_eq_append_getElem hb, h, he]
theorem drewN_below {bd : Nat} (w : World) (n : Nat) : Below bd w (w.drewN n) := ⟨rfl, rfl, rfl, Nat.le_refl _, fun _ _ => rfl⟩
theorem neq_str (x y : Str) (h : x ≠ y) : (x == y) = false ∧ (x != y) = true := by
  have : (x == y) = false := by simpa using h
  exact ⟨this, by simp [bne, this]⟩

set_option maxHeartbeats 1000000 in
set_option maxRecDepth 100000 in
theorem same_any (A A' : Option Addr) (ss ts : List Str) (c c' ns nt : Nat) (w : World) (hns : ns = ss.length) (hnt : nt = ts.length) (hr : Rs w A ss) (hr' : Rs w A' ts) (hs : ss.length ≤ 100000) (ht : ts.length ≤ 100000) :
    Calls Tryd.prog 17 #[.slice A ns c, .slice A' nt c'] w fun e w' => e = .returned (.bool (decide (ss = ts))) ∧ Below w.heap.size w w' := by
  have hs2 : (ns : Int) ≤ 1099511627776 := by omega
  have ht2 : (nt : Int) ≤ 1099511627776 := by omega
  by_cases hl : ns = nt
  · subst hl
    have HN := Lib.hid hns
    have HN' := Lib.hid hnt
    have HR := Lib.hid hr
    have HR' := Lib.hid hr'
    clear hns hnt hs ht hr hr' ht2
    go_enter Tryd.func17, Tryd.ntmps17
    go_wp2_with fail
    go_loopw [5] (fun i wr => ∃ k m : Nat, i = .int .i64 (k : Int) ∧ k ≤ ns ∧ ss.take k = ts.take k ∧ wr = w.drewN m) (fun i _ => ns - (intOf i).toNat)
    case atStart => exact ⟨0, 0, rfl, by omega, rfl, rfl⟩
    case round =>
      obtain ⟨k, m, rfl, hk, htk, rfl⟩ := hrel
      have HT := Lib.hid htk
      clear htk
      by_cases hlt : k < ns
      · have hlt' : (k : Int) < ns := by omega
        have hks : k < ss.length := by rw [← HN.out]; exact hlt
        have hkt : k < ts.length := by rw [← HN'.out]; exact hlt
        obtain ⟨a, rfl⟩ := HR.out.some_ (by omega)
        obtain ⟨a', rfl⟩ := HR'.out.some_ (by omega)
        have hc := HR.out.at_ hks
        have hc' := HR'.out.at_ hkt
        obtain ⟨x, hx⟩ : ∃ x, x = ss[k] := ⟨_, rfl⟩
        obtain ⟨y, hy⟩ : ∃ y, y = ts[k] := ⟨_, rfl⟩
        rw [← hx] at hc
        rw [← hy] at hc'
        have HX := Lib.hid hx
        have HY := Lib.hid hy
        clear hx hy
        by_cases hxy : x = y
        · subst hxy
          go_wp2
          go_quiet (fail)
          go_wp2
          go_roundw
          case rel => exact ⟨k + 1, _, by go_num, hlt, take_step HT.out hks hkt (HX.out.symm.trans HY.out), by first | rfl | (simp only [World.drewN_drewN]; rfl)⟩
          case measure => simp [intOf]; omega
        · have R : decide (ss = ts) = false := by
            rw [decide_eq_false_iff_not]
            intro e
            subst e
            exact hxy (HX.out.trans HY.out.symm)
          have HR := Lib.hid R
          obtain ⟨n1, n2⟩ := neq_str x y hxy
          clear R hxy
          go_wp2
          go_quiet (fail)
          go_wp2
          go_ret
          rw [HR.out]
          exact ⟨rfl, (drewN_below w _).trans (drewN_below _ _)⟩
      · have R : decide (ss = ts) = true := by
          rw [decide_eq_true_iff]
          have h1 := HT.out
          rw [List.take_of_length_le (by have := HN.out; omega), List.take_of_length_le (by have := HN'.out; omega)] at h1
          exact h1
        have HR := Lib.hid R
        have hge : (ns : Int) ≤ k := by omega
        clear R
        go_wp2
        go_ret
        rw [HR.out]
        exact ⟨rfl, drewN_below w _⟩
  · have R : decide (ss = ts) = false := by
      rw [decide_eq_false_iff_not]
      intro e
      exact hl (by rw [hns, hnt, e])
    have hne : ((ns : Int) == nt) = false := by simp; omega
    have hne2 : ((ns : Int) != nt) = true := by simp; omega
    rw [R]
    clear R hr hr' hl hns hnt hs ht
    go_enter Tryd.func17, Tryd.ntmps17
    go_wp2
    go_ret
    exact ⟨rfl, Below.refl _ _⟩

/-! ### short, leaves -/
def Short (m : Nat) (l : List Str) : Prop := l.length ≤ m ∧ ∀ s ∈ l, s.length ≤ 200
instance (m : Nat) (l : List Str) : Decidable (Short m l) := inferInstanceAs (Decidable (_ ∧ _))
theorem le_all {l : List Str} (h : ∀ j (hj : j < l.length), (l[j]).length ≤ 200) : ∀ s ∈ l, s.length ≤ 200 := by
  intro s hs
  obtain ⟨j, hj, rfl⟩ := List.mem_iff_getElem.1 hs
  exact h j hj

set_option maxHeartbeats 1000000 in
set_option maxRecDepth 100000 in
theorem short_any (A : Option Addr) (l : List Str) (c n : Nat) (w : World) (hn : n = l.length) (hr : Rs w A l) (hlen : l.length ≤ 140737488355328) (hsz : ∀ s ∈ l, s.length ≤ 140737488355328) :
    Calls Tryd.prog 10 #[.slice A n c] w fun e w' => e = .returned (.bool (decide (Short 100 l))) ∧ w = w' := by
  obtain ⟨b, hb⟩ : ∃ b, b = decide (Short 100 l) := ⟨_, rfl⟩
  rw [← hb]
  have hn2 : (n : Int) ≤ 140737488355328 := by omega
  have HB := Lib.hid hb
  have HN := Lib.hid hn
  have HR := Lib.hid hr
  have HZ := Lib.hid hsz
  clear hb hn hr hsz hlen
  by_cases h100 : 100 < n
  · have h : b = false := by
      rw [HB.out, decide_eq_false_iff_not]
      intro h
      have := h.1
      have := HN.out
      omega
    subst h
    have h100' : (100 : Int) < (n : Int) := by omega
    go_enter Tryd.func10, Tryd.ntmps10
    go_wp2
    go_ret
    exact ⟨rfl, rfl⟩
  · have h100' : (n : Int) ≤ 100 := by omega
    go_enter Tryd.func10, Tryd.ntmps10
    go_wp2
    go_loop [3] (fun i => ∃ k : Nat, i = .int .i64 (k : Int) ∧ k ≤ n ∧ ∀ j (hj : j < l.length), j < k → (l[j]).length ≤ 200) (fun i => n - (intOf i).toNat)
    case atStart => exact ⟨0, rfl, by omega, fun j _ h => absurd h (by omega)⟩
    case round =>
      obtain ⟨k, rfl, hk, hall⟩ := hrel
      have HA := Lib.hid hall
      clear hall
      by_cases hlt : k < n
      · have hlt' : (k : Int) < n := by omega
        have hkl : k < l.length := by rw [← HN.out]; exact hlt
        obtain ⟨a, rfl⟩ := HR.out.some_ (by omega)
        have hc := HR.out.at_ hkl
        have hz := HZ.out _ (List.getElem_mem hkl)
        obtain ⟨x, hx⟩ : ∃ x, x = l[k] := ⟨_, rfl⟩
        rw [← hx] at hc hz
        have hz2 : (x.length : Int) ≤ 140737488355328 := by omega
        by_cases hle : x.length ≤ 200
        · have hle' : (x.length : Int) ≤ 200 := by omega
          have HX := Lib.hid hx
          clear hx hz
          go_wp2
          go_round
          case rel =>
            refine ⟨k + 1, by go_num, by omega, fun j hj hjk => ?_⟩
            by_cases e : j = k
            · subst e
              rw [← HX.out]
              exact hle
            · exact HA.out j hj (by omega)
          case measure => simp [intOf]; omega
        · have hle' : (200 : Int) < (x.length : Int) := by omega
          have h : b = false := by
            rw [HB.out, decide_eq_false_iff_not]
            intro h
            have := h.2 _ (List.getElem_mem hkl)
            rw [← hx] at this
            omega
          subst h
          clear hx hz
          go_wp2
          go_ret
          exact ⟨rfl, rfl⟩
      · have hge : (n : Int) ≤ k := by omega
        have h : b = true := by
          rw [HB.out, decide_eq_true_iff]
          have := HN.out
          exact ⟨by omega, le_all fun j hj => HA.out j hj (by omega)⟩
        subst h
        go_wp2
        go_ret
        exact ⟨rfl, rfl⟩
end Mk
end Go.Proofs.YtfemgakfckabhaaDoor
