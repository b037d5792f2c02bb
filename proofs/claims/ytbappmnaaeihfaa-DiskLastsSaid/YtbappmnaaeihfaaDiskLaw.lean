/-
  Layer 9 (disk): the laws' own small functions: pick, begins, few; their operations in memory.
-/
import Derived.Test.YtbappmnaaeihfaaDiskCopy
import Derived.Deep.Slices
import Derived.Deep.QuietTactic
import Derived.BigQuiet
namespace Go.Proofs.Ytbappmnaaeihfaa
open Go.RowKit
namespace Dk
attribute [local go_sem] S2.B_size S2.B_take S2.B_list

theorem pick_any (n : Int) (w : World) : Calls Try.prog 13 #[.int .i64 n] w fun e w' => e = .returned (.int .i64 (n % 11)) ∧ w = w' := by
  have h1 := Int.tmod_add_mul_tdiv n 11
  have h2 := Int.tmod_lt_of_pos n (show (0 : Int) < 11 by decide)
  have h3 := Int.lt_tmod_of_pos n (show (0 : Int) < 11 by decide)
  by_cases h : n.tmod 11 < 0
  · have R := Lib.hid (show n.tmod 11 + 11 = n % 11 by omega)
    clear h1
    go_enter Try.func13, Try.ntmps13
    go_wp2
    go_ret
    exact ⟨by show Ending.returned (.int .i64 (n.tmod 11 + 11)) = _; rw [R.out], rfl⟩
  · have R := Lib.hid (show n.tmod 11 = n % 11 by omega)
    have h4 : 0 ≤ n.tmod 11 := by omega
    clear h1 h
    go_enter Try.func13, Try.ntmps13
    go_wp2
    go_ret
    exact ⟨by show Ending.returned (.int .i64 (n.tmod 11)) = _; rw [R.out], rfl⟩

theorem begins_any (s t : Str) (w : World) : Calls Try.prog 16 #[.string (S2.B s), .string (S2.B t)] w fun e w' => e = .returned (.bool (t.isPrefixOf s)) ∧ w = w' := by
  by_cases h : t.length ≤ s.length
  · have hI : (t.length : Int) ≤ s.length := by omega
    have R := Lib.hid (show (s.take t.length == t) = t.isPrefixOf s by
      rw [Bool.eq_iff_iff, List.isPrefixOf_iff_prefix, List.prefix_iff_eq_take, beq_iff_eq]
      exact eq_comm)
    go_enter Try.func16, Try.ntmps16
    go_wp2
    go_ret
    exact ⟨by show Ending.returned (.bool (s.take t.length == t)) = _; rw [R.out], rfl⟩
  · have hI : (s.length : Int) < t.length := by omega
    have R := Lib.hid (show false = t.isPrefixOf s by
      rw [eq_comm, ← Bool.not_eq_true, List.isPrefixOf_iff_prefix]
      intro h2
      exact h h2.length_le)
    go_enter Try.func16, Try.ntmps16
    go_wp2
    go_ret
    exact ⟨by show Ending.returned (.bool false) = _; rw [R.out], rfl⟩

/-- One operation of the laws, in plain Lean. -/
structure Ac where
  Do : Int
  F : Int
  G : Int
  N : Int
  S : Str
  A : Option Addr
  c : Nat
  K : List Int
def Ac.cells (a : Ac) : List Value := [.int .i64 a.Do, .int .i64 a.F, .int .i64 a.G, .int .i64 a.N, .string (S2.B a.S), .slice a.A a.K.length a.c]
structure Ac.In (X : Nat → Prop) (w : World) (a : Ac) : Prop where
  row : Rz X w a.A a.K
  kin : ∀ x ∈ a.K, isI x
  n : isI a.N
  slen : a.S.length ≤ 281474976710656
  klen : a.K.length ≤ 281474976710656
theorem Ac.In.fr {X : Nat → Prop} {w w' : World} {a : Ac} (h : a.In X w) (hf : Fr X w w') : a.In X w' := ⟨h.row.fr hf, h.kin, h.n, h.slen, h.klen⟩
theorem Ac.In.mono {X Y : Nat → Prop} {w : World} {a : Ac} (h : a.In X w) (hXY : ∀ k, X k → Y k) : a.In Y w := ⟨h.row.mono hXY, h.kin, h.n, h.slen, h.klen⟩
/-- A list of operations that lies where nothing is to turn. -/
structure As (X : Nat → Prop) (w : World) (A : Option Addr) (l : List Ac) : Prop where
  row : l = [] ∨ ∃ ad, A = some ad ∧ X ad.block ∧ ∀ (i : Nat) (h : i < l.length) (j : Nat) (u : Value), l[i].cells[j]? = some u → w.cell? (ad.add (i * 6 + j)) = some u
  each : ∀ a ∈ l, a.In X w
theorem As.fr {X : Nat → Prop} {w w' : World} {A : Option Addr} {l : List Ac} (h : As X w A l) (hf : Fr X w w') : As X w' A l := by
  refine ⟨?_, fun a ha => (h.each a ha).fr hf⟩
  rcases h.row with h1 | ⟨ad, h1, h2, h3⟩
  · exact .inl h1
  · exact .inr ⟨ad, h1, h2, fun i hi j u hu => (hf.cell (p := ad.add (i * 6 + j)) (by rw [S2.add_block]; exact h2)).trans (h3 i hi j u hu)⟩
theorem As.mono {X Y : Nat → Prop} {w : World} {A : Option Addr} {l : List Ac} (h : As X w A l) (hXY : ∀ k, X k → Y k) : As Y w A l := by
  refine ⟨?_, fun a ha => (h.each a ha).mono hXY⟩
  rcases h.row with h1 | ⟨ad, h1, h2, h3⟩
  · exact .inl h1
  · exact .inr ⟨ad, h1, hXY _ h2, h3⟩
theorem As.at_ {X : Nat → Prop} {w : World} {A : Option Addr} {l : List Ac} (h : As X w A l) {i : Nat} (hi : i < l.length) : ∃ ad, A = some ad ∧ X ad.block ∧ ∀ (j : Nat) (u : Value), l[i].cells[j]? = some u → w.cell? ((ad.add (i * 6)).add j) = some u := by
  rcases h.row with h1 | ⟨ad, h1, h2, h3⟩
  · subst h1; cases hi
  · exact ⟨ad, h1, h2, fun j u hu => by rw [Go.Deep.add_add]; exact h3 i hi j u hu⟩
/-- The bytes and numbers that a list of operations bears. -/
def weight (l : List Ac) : Nat := (l.map fun a => a.S.length + a.K.length).sum
theorem weight_snoc (l : List Ac) (a : Ac) : weight (l ++ [a]) = weight l + (a.S.length + a.K.length) := by simp [weight]
def fewB (l : List Ac) : Bool := decide (l.length ≤ 200) && decide (weight l ≤ 100000)
theorem weight_le {l : List Ac} (h : ∀ a ∈ l, a.S.length ≤ 281474976710656 ∧ a.K.length ≤ 281474976710656) : weight l ≤ l.length * 562949953421312 := by
  induction l with
  | nil => simp [weight]
  | cons a l ih =>
    have h1 := ih (fun b hb => h b (List.mem_cons_of_mem _ hb))
    have h2 := h a List.mem_cons_self
    simp only [weight, List.map_cons, List.sum_cons, List.length_cons] at *
    omega
theorem weight_mem {l : List Ac} {a : Ac} (h : a ∈ l) : a.S.length + a.K.length ≤ weight l := by
  induction l with
  | nil => cases h
  | cons b l ih =>
    simp only [weight, List.map_cons, List.sum_cons] at *
    rcases List.mem_cons.1 h with rfl | h
    · omega
    · have := ih h
      omega
set_option maxHeartbeats 2000000 in
theorem few_any (X : Nat → Prop) (l : List Ac) (A : Option Addr) (n c : Nat) (hn : n = l.length) (hn2 : n ≤ maxLen) (w : World) (h : As X w A l) :
    Calls Try.prog 10 #[.slice A n c] w fun e w' => e = .returned (.bool (fewB l)) ∧ ∃ k, w' = w.drewN k := by
  unfold maxLen at hn2
  have hnI : (n : Int) ≤ 9223372036854775807 := by omega
  have HN := Lib.hid hn
  have H := Lib.hid h
  clear hn h
  by_cases h200 : n ≤ 200
  · have h200I : (n : Int) ≤ 200 := by omega
    clear hn2
    go_enter Try.func10, Try.ntmps10
    go_wp2
    go_loopw [3, 4] (fun vs vi wr => ∃ i : Nat, vi = .int .i64 (i : Int) ∧ vs = .int .i64 (weight (l.take i) : Nat) ∧ i ≤ n ∧ ∃ k, wr = w.drewN k) (fun _ vi _ => n - (intOf vi).toNat)
    case atStart => exact ⟨0, rfl, rfl, by omega, 0, rfl⟩
    case round =>
      obtain ⟨i, rfl, rfl, hin, k, rfl⟩ := hrel
      have hwl : weight (l.take i) ≤ 200 * 562949953421312 := by
        have h1 := weight_le (l := l.take i) (fun a ha => ⟨(H.out.each a (List.mem_of_mem_take ha)).slen, (H.out.each a (List.mem_of_mem_take ha)).klen⟩)
        have h2 : (l.take i).length ≤ 200 := by rw [List.length_take]; omega
        exact Nat.le_trans h1 (Nat.mul_le_mul_right _ h2)
      by_cases hlt : i < n
      · have hltI : (i : Int) < n := by omega
        have hil : i < l.length := by rw [← HN.out]; exact hlt
        have hws : weight (l.take (i + 1)) = weight (l.take i) + (l[i].S.length + l[i].K.length) := by rw [List.take_succ_eq_append_getElem hil, weight_snoc]
        obtain ⟨ad, rfl, _, hc⟩ := H.out.at_ hil
        have hac := H.out.each l[i] (List.getElem_mem hil)
        generalize l[i] = a at *
        have c4 : w.cell? ⟨(ad.add (i * 6)).block, (ad.add (i * 6)).off + 4, none⟩ = some (.string (S2.B a.S)) := hc 4 _ rfl
        have c5 : w.cell? ⟨(ad.add (i * 6)).block, (ad.add (i * 6)).off + 5, none⟩ = some (.slice a.A a.K.length a.c) := hc 5 _ rfl
        have hs := hac.slen
        have hk := hac.klen
        obtain ⟨q, hq⟩ : ∃ q, q = weight (l.take i) := ⟨_, rfl⟩
        obtain ⟨ls, hls⟩ : ∃ q, q = a.S.length := ⟨_, rfl⟩
        obtain ⟨lk, hlk⟩ : ∃ q, q = a.K.length := ⟨_, rfl⟩
        rw [← hq] at hwl hws ⊢
        rw [← hlk] at c5 hk hws
        rw [← hls] at hs hws
        have hqI : (q : Int) ≤ 200 * 562949953421312 := by omega
        have hsI : (ls : Int) ≤ 281474976710656 := by omega
        have hkI : (lk : Int) ≤ 281474976710656 := by omega
        have HB : (S2.B a.S).size = ls := by rw [S2.B_size, hls]
        have HWS := Lib.hid hws
        clear hc hac hs hk hws hq hls hlk hwl hil hlt
        generalize S2.B a.S = bs at *
        go_wp2
        go_quiet (fail)
        go_wp2
        go_roundw
        case rel => exact ⟨i + 1, by go_num, by rw [HWS.out]; go_num, by omega, _, rfl⟩
        case measure => simp [intOf]; omega
      · have hge : ¬ (i : Int) < n := by omega
        have R := Lib.hid (show decide ((weight (l.take i) : Int) ≤ 100000) = fewB l by
          rw [List.take_of_length_le (by rw [← HN.out]; omega)]
          unfold fewB
          rw [← HN.out, decide_eq_true h200, Bool.true_and]
          exact decide_eq_decide.2 (by omega))
        generalize weight (l.take i) = q at *
        clear hwl
        go_wp2
        go_ret
        exact ⟨by show Ending.returned (.bool (decide ((q : Int) ≤ 100000))) = _; rw [R.out], _, rfl⟩
  · have h200I : ¬ (n : Int) ≤ 200 := by omega
    have R := Lib.hid (show false = fewB l by unfold fewB; rw [← HN.out, decide_eq_false h200]; rfl)
    go_enter Try.func10, Try.ntmps10
    go_wp2
    go_loopw [3, 4] (fun vs vi wr => ∃ (i : Nat) (z : Int), vi = .int .i64 (i : Int) ∧ vs = .int .i64 z ∧ i ≤ n ∧ ∃ k, wr = w.drewN k) (fun _ vi _ => n - (intOf vi).toNat)
    case atStart => exact ⟨0, 0, rfl, rfl, by omega, 0, rfl⟩
    case round =>
      obtain ⟨i, z, rfl, rfl, hin, k, rfl⟩ := hrel
      by_cases hlt : i < n
      · have hltI : (i : Int) < n := by omega
        have hil : i < l.length := by rw [← HN.out]; exact hlt
        obtain ⟨ad, rfl, _, hc⟩ := H.out.at_ hil
        generalize l[i] = a at *
        have c4 : w.cell? ⟨(ad.add (i * 6)).block, (ad.add (i * 6)).off + 4, none⟩ = some (.string (S2.B a.S)) := hc 4 _ rfl
        have c5 : w.cell? ⟨(ad.add (i * 6)).block, (ad.add (i * 6)).off + 5, none⟩ = some (.slice a.A a.K.length a.c) := hc 5 _ rfl
        generalize S2.B a.S = bs at *
        clear hc hil hlt
        go_wp2
        go_quiet (fail)
        go_wp2
        go_roundw
        case rel => exact ⟨i + 1, _, by go_num, rfl, by omega, _, rfl⟩
        case measure => simp [intOf]; omega
      · have hge : ¬ (i : Int) < n := by omega
        go_wp2
        go_ret
        exact ⟨by show Ending.returned (.bool false) = _; rw [R.out], _, rfl⟩
end Dk
end Go.Proofs.Ytbappmnaaeihfaa
