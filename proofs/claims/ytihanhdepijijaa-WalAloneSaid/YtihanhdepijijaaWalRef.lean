/-
  Layer 10: the reference's Begins and Same; the law's bytes.
-/
import Derived.Test.YtihanhdepijijaaWalRow
import Derived.LoopTactic
import Derived.Deep.QuietTactic
import Derived.BigQuiet
namespace Go.Proofs.Ytihanhdepijijaa
open Go.RowKit
namespace Wl
open S9.Dk (Dk Fr MD By)
attribute [local go_sem] S2.B_size S2.B_drop' S2.B_take S2.B_list S2.B_app

theorem take_step {α : Type} {a b : List α} {k : Nat} (h : a.take k = b.take k) (ha : k < a.length) (hb : k < b.length) (he : a[k] = b[k]) : a.take (k + 1) = b.take (k + 1) := by
  rw [List.take_succ_eq_append_getElem ha, List.take_succ_eq_append_getElem hb, h, he]
theorem drewN_below {bd : Nat} (w : World) (n : Nat) : Below bd w (w.drewN n) := ⟨rfl, rfl, rfl, Nat.le_refl _, fun _ _ => rfl⟩
theorem neq_str (x y : Str) (h : x ≠ y) : (x == y) = false ∧ (x != y) = true := by
  have : (x == y) = false := by simpa using h
  exact ⟨this, by simp [bne, this]⟩
/-- Whether a begins with b. -/
def begins (a b : List Str) : Bool := decide (b <+: a)
theorem begins_not {a b : List Str} {k : Nat} (ha : k < a.length) (hb : k < b.length) (h : a[k] ≠ b[k]) : begins a b = false := by
  unfold begins
  rw [decide_eq_false_iff_not]
  intro hp
  obtain ⟨t, rfl⟩ := hp
  exact h (by rw [List.getElem_append_left hb])

set_option maxHeartbeats 1000000 in
set_option maxRecDepth 100000 in
theorem begins_any (A A' : Option Addr) (ss ts : List Str) (c c' ns nt : Nat) (w : World) (hns : ns = ss.length) (hnt : nt = ts.length) (hr : S2.Row w w.heap.size A (S2.Ss ss)) (hr' : S2.Row w w.heap.size A' (S2.Ss ts)) (hs : ss.length ≤ 100000000) (ht : ts.length ≤ 100000000) :
    Calls Try.prog 19 #[.slice A ns c, .slice A' nt c'] w fun e w' => e = .returned (.bool (begins ss ts)) ∧ Below w.heap.size w w' := by
  have hs2 : (ns : Int) ≤ 1099511627776 := by omega
  have ht2 : (nt : Int) ≤ 1099511627776 := by omega
  by_cases hl : ns < nt
  · have hl' : (ns : Int) < (nt : Int) := by omega
    have R : begins ss ts = false := by
      unfold begins
      rw [decide_eq_false_iff_not]
      intro hp
      have := hp.length_le
      omega
    rw [R]
    clear hns hnt hs ht hr hr' hl R
    go_enter Try.func19, Try.ntmps19
    go_wp2
    go_ret
    exact ⟨rfl, Below.refl _ _⟩
  · have hl' : ¬ (ns : Int) < (nt : Int) := by omega
    have HN := Lib.hid hns
    have HN' := Lib.hid hnt
    have HR := Lib.hid hr
    have HR' := Lib.hid hr'
    clear hns hnt hs ht hr hr'
    go_enter Try.func19, Try.ntmps19
    go_wp2_with fail
    go_loopw [5] (fun i wr => ∃ k m : Nat, i = .int .i64 (k : Int) ∧ k ≤ nt ∧ ss.take k = ts.take k ∧ wr = w.drewN m) (fun i _ => nt - (intOf i).toNat)
    case atStart => exact ⟨0, 0, rfl, by omega, rfl, rfl⟩
    case round =>
      obtain ⟨k, m, rfl, hk, htk, rfl⟩ := hrel
      have HT := Lib.hid htk
      clear htk
      by_cases hlt : k < nt
      · have hlt' : (k : Int) < nt := by omega
        have hlt2 : (k : Int) < ns := by omega
        have hks : k < ss.length := by rw [← HN.out]; omega
        have hkt : k < ts.length := by rw [← HN'.out]; exact hlt
        obtain ⟨a, rfl, _, hc⟩ := HR.out.str hks
        obtain ⟨a', rfl, _, hc'⟩ := HR'.out.str hkt
        obtain ⟨x, hx⟩ : ∃ x, x = ss[k] := ⟨_, rfl⟩
        obtain ⟨y, hy⟩ : ∃ y, y = ts[k] := ⟨_, rfl⟩
        rw [← hx] at hc
        rw [← hy] at hc'
        have HX := Lib.hid hx
        have HY := Lib.hid hy
        clear hx hy
        by_cases hxy : x = y
        · subst hxy
          go_wp2
          go_quiet (fail)
          go_wp2
          go_roundw
          case rel => exact ⟨k + 1, _, by go_num, hlt, take_step HT.out hks hkt (HX.out.symm.trans HY.out), by first | rfl | (simp only [World.drewN_drewN]; rfl)⟩
          case measure => simp [intOf]; omega
        · have HRES := Lib.hid (begins_not hks hkt (fun e => hxy (by rw [HX.out, HY.out]; exact e)))
          obtain ⟨n1, n2⟩ := neq_str x y hxy
          clear hxy
          go_wp2
          go_quiet (fail)
          go_wp2
          go_ret
          rw [HRES.out]
          exact ⟨rfl, by first | exact drewN_below _ _ | exact (drewN_below w m).trans (drewN_below _ _)⟩
      · have hkn : k = ts.length := by rw [← HN'.out]; omega
        have hlt' : ¬ (k : Int) < nt := by omega
        have HRES := Lib.hid (show begins ss ts = true by
          unfold begins
          have := HT.out
          rw [hkn, List.take_length] at this
          rw [decide_eq_true_eq, List.prefix_iff_eq_take]
          exact this.symm)
        clear hlt hkn
        go_wp2
        go_ret
        rw [HRES.out]
        exact ⟨rfl, drewN_below _ _⟩

def same (a b : List Str) : Bool := decide (a = b)
theorem same_begins {a b : List Str} (h : a.length = b.length) : begins a b = same a b := by
  unfold begins same
  by_cases e : a = b
  · subst e
    rw [decide_eq_true (List.prefix_refl a), decide_eq_true rfl]
  · rw [decide_eq_false e, decide_eq_false]
    exact fun hp => e (hp.eq_of_length h.symm).symm
set_option maxHeartbeats 1000000 in
set_option maxRecDepth 100000 in
theorem same_any (A A' : Option Addr) (ss ts : List Str) (c c' ns nt : Nat) (w : World) (hns : ns = ss.length) (hnt : nt = ts.length) (hr : S2.Row w w.heap.size A (S2.Ss ss)) (hr' : S2.Row w w.heap.size A' (S2.Ss ts)) (hs : ss.length ≤ 100000000) (ht : ts.length ≤ 100000000) :
    Calls Try.prog 20 #[.slice A ns c, .slice A' nt c'] w fun e w' => e = .returned (.bool (same ss ts)) ∧ Below w.heap.size w w' := by
  have KB := begins_any A A' ss ts c c' ns nt w hns hnt hr hr' hs ht
  have hs2 : (ns : Int) ≤ 1099511627776 := by omega
  have ht2 : (nt : Int) ≤ 1099511627776 := by omega
  by_cases hl : ns = nt
  · subst hl
    rw [same_begins (by omega)] at KB
    have K := Lib.hid KB
    clear KB hr hr' hs ht hns hnt ht2
    go_enter Try.func20, Try.ntmps20
    go_wp2_with fail
    refine K.out.mono ?_
    rintro e w1 ⟨rfl, hb⟩
    have HB := Lib.hid hb
    clear hb K
    go_wp2
    go_ret
    exact ⟨rfl, HB.out⟩
  · have hl' : ¬ (ns : Int) = (nt : Int) := by omega
    have R : same ss ts = false := by
      unfold same
      rw [decide_eq_false_iff_not]
      rintro rfl
      omega
    rw [R]
    clear KB hr hr' hs ht hns hnt hl R
    go_enter Try.func20, Try.ntmps20
    go_wp2
    go_ret
    exact ⟨rfl, Below.refl _ _⟩

/-! ### bytes -/
def bytesOf (l : List Str) : Nat := (l.map fun s => min s.length 9999).sum
def bytesV (l : List Str) : Nat := if 30 < l.length then 9999 else bytesOf l
theorem bytesOf_succ (l : List Str) {k : Nat} (h : k < l.length) : bytesOf (l.take (k + 1)) = bytesOf (l.take k) + min l[k].length 9999 := by
  rw [List.take_succ_eq_append_getElem h]
  unfold bytesOf
  simp only [List.map_append, List.sum_append, List.map_cons, List.map_nil, List.sum_cons, List.sum_nil, Nat.add_zero]
theorem bytesOf_le (l : List Str) : bytesOf l ≤ l.length * 9999 := by
  unfold bytesOf
  induction l with
  | nil => simp
  | cons s l ih => simp only [List.map_cons, List.sum_cons, List.length_cons]; omega
theorem bytes_small {l : List Str} (h : bytesV l ≤ 1500) : l.length ≤ 30 ∧ ∀ s ∈ l, s.length ≤ 1500 := by
  unfold bytesV at h
  split at h
  · omega
  · rename_i h30
    refine ⟨by omega, fun s hs => ?_⟩
    have : ∀ l : List Str, s ∈ l → min s.length 9999 ≤ bytesOf l := by
      intro l
      induction l with
      | nil => intro hs; cases hs
      | cons u l ih =>
        intro hs
        simp only [bytesOf, List.map_cons, List.sum_cons]
        rcases List.mem_cons.1 hs with rfl | hs
        · omega
        · have := ih hs; unfold bytesOf at this; omega
    have := this l hs
    omega
set_option maxHeartbeats 2000000 in
set_option maxRecDepth 100000 in
theorem bytes_any (A : Option Addr) (l : List Str) (n c : Nat) (w : World) (hn : n = l.length) (hr : S2.Row w w.heap.size A (S2.Ss l)) (hn2 : n ≤ 140737488355328) (hl : ∀ s ∈ l, s.length ≤ 281474976710656) :
    Calls Try.prog 16 #[.slice A n c] w fun e w' => e = .returned (.int .i64 (bytesV l : Nat)) ∧ w = w' := by
  have hn3 : (n : Int) ≤ 140737488355328 := by omega
  by_cases h30 : 30 < n
  · have h30' : (30 : Int) < (n : Int) := by omega
    have R : bytesV l = 9999 := if_pos (by omega)
    rw [R]
    clear hn hr hl h30 R hn2
    go_enter Try.func16, Try.ntmps16
    go_wp2
    go_ret
    exact ⟨rfl, rfl⟩
  · have h30' : ¬ (30 : Int) < (n : Int) := by omega
    have R : bytesV l = bytesOf l := if_neg (by omega)
    rw [R]
    have HN := Lib.hid hn
    have HR := Lib.hid hr
    have HL := Lib.hid hl
    have H30 := Lib.hid h30
    clear hn hr hl R hn2 hn3 h30
    go_enter Try.func16, Try.ntmps16
    go_wp2_with fail
    go_loopw [3, 4] (fun t i wr => ∃ k z : Nat, i = .int .i64 (k : Int) ∧ k ≤ n ∧ t = .int .i64 (z : Int) ∧ z = bytesOf (l.take k) ∧ w = wr) (fun _ i _ => n - (intOf i).toNat)
    case atStart => exact ⟨0, 0, rfl, by omega, rfl, rfl, rfl⟩
    case round =>
      obtain ⟨k, z, rfl, hk, rfl, hz, rfl⟩ := hrel
      have HZ := Lib.hid hz
      by_cases hc : k < n
      · have hc' : (k : Int) < (n : Int) := by omega
        have hkl : k < l.length := by have := HN.out; omega
        obtain ⟨a, rfl, _, hcell⟩ := HR.out.str hkl
        have hsl := HL.out _ (List.getElem_mem hkl)
        have hnx := bytesOf_succ l hkl
        have hzb : z ≤ 299970 := by
          have h1 := bytesOf_le (l.take k)
          rw [List.length_take] at h1
          have := H30.out
          omega
        obtain ⟨s, hs⟩ : ∃ s, s = l[k] := ⟨_, rfl⟩
        rw [← hs] at hcell hsl hnx
        have HNX := Lib.hid hnx
        obtain ⟨q, hq⟩ : ∃ q, q = min s.length 9999 := ⟨_, rfl⟩
        have HQ := Lib.hid hq
        have hzI : (z : Int) ≤ 299970 := by omega
        have hmin : min (s.length : Int) 9999 = (q : Int) := by omega
        have hqI : (q : Int) ≤ 9999 := by omega
        have hwr : IntKind.i64.wrap ((z : Int) + (q : Int)) = (z : Int) + (q : Int) := IntWalk.i64_in _ (by omega)
        clear hz hs hnx hq hkl hsl hk hc hzb
        go_wp2
        go_roundw
        case rel => exact ⟨k + 1, z + q, by go_num, by omega, by congr 1; have := HQ.out; split <;> omega, by rw [HNX.out, ← HZ.out, HQ.out], trivial⟩
        case measure => simp [intOf]; omega
      · have hc' : ¬ (k : Int) < (n : Int) := by omega
        have hkn : k = l.length := by have := HN.out; omega
        rw [hkn, List.take_length] at hz
        have HZ2 := Lib.hid hz
        clear hz hkn hc hk
        go_wp2
        go_ret
        exact ⟨by rw [← HZ2.out]; rfl, rfl⟩
end Wl
end Go.Proofs.Ytihanhdepijijaa
