/-
  Layer 10 (wal) in plain Lean: records, the valid part of a file, and what is left of it when the file is cut off. No program.
  The four bytes of a row's checksum are a parameter, c4: nothing here depends on what they are, but that they are four.
-/
import Derived.Test.YtihanhdepijijaaCodeDec
namespace Go.Proofs.Ytihanhdepijijaa
namespace Wl
open S2.Cd

abbrev Str := List UInt8
section
variable (c4 : Str → Str)
/-- The record of a row. -/
def record (s : Str) : Str := encN s.length ++ (c4 s ++ s)
def records (l : List Str) : Str := (l.map (record c4)).flatten
def okRow (s : Str) : Prop := s.length ≤ 1048576
/-- The row whose record a string begins with, and what follows. -/
def first (b : Str) : Option (Str × Str) :=
  match decN b with
  | none => none
  | some (n, r) => if n ≤ 1048576 ∧ 4 + n ≤ r.length ∧ r.take 4 = c4 ((r.drop 4).take n) then some ((r.drop 4).take n, r.drop (4 + n)) else none
/-- The rows of the valid part, at most k of them, and what follows. -/
def rowsF : Nat → Str → List Str × Str
  | 0, b => ([], b)
  | k + 1, b => match first c4 b with
    | none => ([], b)
    | some (s, t) => (s :: (rowsF k t).1, (rowsF k t).2)
def rows (b : Str) : List Str × Str := rowsF c4 b.length b
end
section
variable {c4 : Str → Str}
theorem record_length (h4 : ∀ s, (c4 s).length = 4) (s : Str) : (record c4 s).length = (encN s.length).length + (4 + s.length) := by
  simp [record, h4]
theorem record_pos (h4 : ∀ s, (c4 s).length = 4) (s : Str) : 5 ≤ (record c4 s).length := by
  rw [record_length h4]
  have := List.length_pos_iff.2 (encN_ne s.length)
  omega
theorem records_nil : records c4 [] = [] := rfl
theorem records_cons (s : Str) (l : List Str) : records c4 (s :: l) = record c4 s ++ records c4 l := by simp [records]
theorem records_append (l m : List Str) : records c4 (l ++ m) = records c4 l ++ records c4 m := by simp [records]
theorem records_one (s : Str) : records c4 [s] = record c4 s := by simp [records]
theorem okN_row {s : Str} (h : okRow s) : okN s.length := by unfold okRow at h; unfold okN; omega
theorem first_iff (h4 : ∀ s, (c4 s).length = 4) (b s t : Str) : first c4 b = some (s, t) ↔ b = record c4 s ++ t ∧ okRow s := by
  unfold first
  constructor
  · intro h
    cases hd : decN b with
    | none => rw [hd] at h; cases h
    | some p =>
      obtain ⟨n, r⟩ := p
      rw [hd] at h
      simp only at h
      split at h
      · rename_i hc
        obtain ⟨h1, h2, h3⟩ := hc
        obtain ⟨e, _⟩ := codecN.again b n r hd
        simp only [Option.some.injEq, Prod.mk.injEq] at h
        obtain ⟨rfl, rfl⟩ := h
        have hl : ((r.drop 4).take n).length = n := by rw [List.length_take, List.length_drop]; omega
        refine ⟨?_, by unfold okRow; omega⟩
        unfold record
        rw [hl, ← h3, e, List.append_assoc, List.append_assoc, ← List.drop_drop, List.take_append_drop, List.take_append_drop]
      · cases h
  · rintro ⟨rfl, hs⟩
    have hd : decN (record c4 s ++ t) = some (s.length, c4 s ++ (s ++ t)) := by
      have := codecN.back s.length (c4 s ++ (s ++ t)) (okN_row hs)
      unfold record
      rw [List.append_assoc, List.append_assoc]
      exact this
    rw [hd]
    simp only
    have e1 : (c4 s ++ (s ++ t)).drop 4 = s ++ t := by rw [← h4 s, List.drop_left]
    have e2 : (c4 s ++ (s ++ t)).take 4 = c4 s := by rw [← h4 s, List.take_left]
    have e3 : (c4 s ++ (s ++ t)).drop (4 + s.length) = t := by rw [← List.drop_drop, e1, List.drop_left]
    rw [e1, e2, e3, List.take_left, if_pos]
    exact ⟨hs, by simp [h4], rfl⟩
theorem first_nil : first c4 [] = none := rfl
/-- A record that is cut off is none. -/
theorem first_cut (h4 : ∀ s, (c4 s).length = 4) {s : Str} (hs : okRow s) {k : Nat} (hk : k < (record c4 s).length) : first c4 ((record c4 s).take k) = none := by
  cases h : first c4 ((record c4 s).take k) with
  | none => rfl
  | some p =>
    obtain ⟨s', t⟩ := p
    obtain ⟨e, hs'⟩ := (first_iff h4 _ _ _).1 h
    exfalso
    have e2 : record c4 s = record c4 s' ++ (t ++ (record c4 s).drop k) := by rw [← List.append_assoc, ← e, List.take_append_drop]
    obtain ⟨q, hq⟩ : ∃ q, q = t ++ (record c4 s).drop k := ⟨_, rfl⟩
    rw [← hq] at e2
    have d1 : decN (record c4 s) = some (s.length, c4 s ++ s) := codecN.back s.length (c4 s ++ s) (okN_row hs)
    have d2 : decN (record c4 s) = some (s'.length, c4 s' ++ (s' ++ q)) := by
      have := codecN.back s'.length (c4 s' ++ (s' ++ q)) (okN_row hs')
      rw [e2]
      show decN (encN s'.length ++ (c4 s' ++ s') ++ q) = _
      rw [List.append_assoc, List.append_assoc]
      exact this
    rw [d1] at d2
    simp only [Option.some.injEq, Prod.mk.injEq] at d2
    have l1 := congrArg List.length e
    rw [List.length_take, List.length_append, record_length h4 s', ← d2.1, ← record_length h4 s] at l1
    omega
theorem rowsF_spec (h4 : ∀ s, (c4 s).length = 4) : ∀ (k : Nat) (b : Str), b.length ≤ k → b = records c4 (rowsF c4 k b).1 ++ (rowsF c4 k b).2 ∧ (∀ s ∈ (rowsF c4 k b).1, okRow s) ∧ first c4 (rowsF c4 k b).2 = none
  | 0, b, h => by
    obtain rfl : b = [] := List.eq_nil_of_length_eq_zero (by omega)
    exact ⟨rfl, fun s hs => (by cases hs), first_nil⟩
  | k + 1, b, h => by
    unfold rowsF
    cases hf : first c4 b with
    | none => exact ⟨rfl, fun s hs => (by cases hs), hf⟩
    | some p =>
      obtain ⟨s, t⟩ := p
      obtain ⟨e, hs⟩ := (first_iff h4 _ _ _).1 hf
      have hl := congrArg List.length e
      rw [List.length_append] at hl
      have hp := record_pos h4 s
      obtain ⟨i1, i2, i3⟩ := rowsF_spec h4 k t (by omega)
      refine ⟨?_, ?_, i3⟩
      · show b = records c4 (s :: (rowsF c4 k t).1) ++ (rowsF c4 k t).2
        rw [records_cons, List.append_assoc, ← i1]
        exact e
      · intro u hu
        rcases List.mem_cons.1 hu with rfl | hu
        · exact hs
        · exact i2 u hu
theorem rowsF_of (h4 : ∀ s, (c4 s).length = 4) : ∀ (l : List Str) (r : Str) (k : Nat), (∀ s ∈ l, okRow s) → first c4 r = none → (records c4 l ++ r).length ≤ k → rowsF c4 k (records c4 l ++ r) = (l, r)
  | [], r, 0, _, _, _ => rfl
  | [], r, k + 1, _, hr, _ => by
    show rowsF c4 (k + 1) r = _
    unfold rowsF
    rw [hr]
  | s :: l, r, k, hl, hr, hk => by
    have hp := record_pos h4 s
    rw [records_cons, List.append_assoc] at hk ⊢
    rw [List.length_append] at hk
    obtain ⟨k', rfl⟩ : ∃ k', k = k' + 1 := ⟨k - 1, by omega⟩
    have hf := (first_iff h4 (record c4 s ++ (records c4 l ++ r)) s (records c4 l ++ r)).2 ⟨rfl, hl s List.mem_cons_self⟩
    unfold rowsF
    rw [hf]
    simp only
    rw [rowsF_of h4 l r k' (fun u hu => hl u (List.mem_cons_of_mem _ hu)) hr (by omega)]
/-- The valid part of a file, and the rest. -/
theorem rows_spec (h4 : ∀ s, (c4 s).length = 4) (b : Str) : b = records c4 (rows c4 b).1 ++ (rows c4 b).2 ∧ (∀ s ∈ (rows c4 b).1, okRow s) ∧ first c4 (rows c4 b).2 = none := rowsF_spec h4 _ b (Nat.le_refl _)
theorem rows_of (h4 : ∀ s, (c4 s).length = 4) {l : List Str} {r : Str} (hl : ∀ s ∈ l, okRow s) (hr : first c4 r = none) : rows c4 (records c4 l ++ r) = (l, r) := rowsF_of h4 l r _ hl hr (Nat.le_refl _)
theorem rows_whole (h4 : ∀ s, (c4 s).length = 4) {l : List Str} (hl : ∀ s ∈ l, okRow s) : rows c4 (records c4 l) = (l, []) := by
  have := rows_of h4 hl (first_nil (c4 := c4))
  rwa [List.append_nil] at this
/-- Rows in front of anything. -/
theorem rows_behind (h4 : ∀ s, (c4 s).length = 4) {l : List Str} (hl : ∀ s ∈ l, okRow s) (t : Str) : rows c4 (records c4 l ++ t) = (l ++ (rows c4 t).1, (rows c4 t).2) := by
  obtain ⟨e, ho, hf⟩ := rows_spec h4 t
  have : records c4 l ++ t = records c4 (l ++ (rows c4 t).1) ++ (rows c4 t).2 := by rw [records_append, List.append_assoc, ← e]
  rw [this]
  exact rows_of h4 (fun s hs => by rcases List.mem_append.1 hs with hs | hs; exact hl s hs; exact ho s hs) hf
/-- What is left of a file that was cut off: the rows whose records are complete. -/
theorem records_cut (h4 : ∀ s, (c4 s).length = 4) : ∀ (l : List Str) (k : Nat), (∀ s ∈ l, okRow s) →
    ∃ (j : Nat) (r : Str), j ≤ l.length ∧ (records c4 l).take k = records c4 (l.take j) ++ r ∧ first c4 r = none ∧ ∀ i, i ≤ l.length → (records c4 (l.take i)).length ≤ k → i ≤ j
  | [], k, _ => ⟨0, [], Nat.le_refl _, by simp [records], first_nil, fun i hi _ => by simpa using hi⟩
  | s :: l, k, hl => by
    by_cases hk : k < (record c4 s).length
    · refine ⟨0, (record c4 s).take k, Nat.zero_le _, ?_, first_cut h4 (hl s List.mem_cons_self) hk, fun i _ hi => ?_⟩
      · rw [records_cons, List.take_append_of_le_length (by omega)]
        rfl
      · cases i with
        | zero => exact Nat.le_refl _
        | succ i =>
          rw [List.take_succ_cons, records_cons, List.length_append] at hi
          omega
    · obtain ⟨j, r, hj, e, hr, hm⟩ := records_cut h4 l (k - (record c4 s).length) (fun u hu => hl u (List.mem_cons_of_mem _ hu))
      refine ⟨j + 1, r, by simpa using hj, ?_, hr, fun i hi hik => ?_⟩
      · rw [records_cons, List.take_append, List.take_of_length_le (by omega), e, List.take_succ_cons, records_cons, List.append_assoc]
      · cases i with
        | zero => omega
        | succ i =>
          rw [List.take_succ_cons, records_cons, List.length_append] at hik
          have := hm i (by simpa using hi) (by omega)
          omega
/-- The rows of a file that was cut off, and which are among them. -/
theorem rows_cut (h4 : ∀ s, (c4 s).length = 4) {l : List Str} (hl : ∀ s ∈ l, okRow s) (k : Nat) :
    ∃ j, j ≤ l.length ∧ (rows c4 ((records c4 l).take k)).1 = l.take j ∧ ∀ i, i ≤ l.length → (records c4 (l.take i)).length ≤ k → i ≤ j := by
  obtain ⟨j, r, hj, e, hr, hm⟩ := records_cut h4 l k hl
  refine ⟨j, hj, ?_, hm⟩
  rw [e, rows_of h4 (fun s hs => hl s (List.mem_of_mem_take hs)) hr]
theorem rows_safe (h4 : ∀ s, (c4 s).length = 4) {l safe : List Str} (hl : ∀ s ∈ l, okRow s) {k : Nat} (hs : safe <+: l) (hk : (records c4 safe).length ≤ k) :
    (rows c4 ((records c4 l).take k)).1 <+: l ∧ safe <+: (rows c4 ((records c4 l).take k)).1 := by
  obtain ⟨j, hj, e, hm⟩ := rows_cut h4 hl k
  rw [e]
  refine ⟨List.take_prefix _ _, ?_⟩
  have hst : safe = l.take safe.length := List.prefix_iff_eq_take.1 hs
  have h1 := hm safe.length hs.length_le (by rw [← hst]; exact hk)
  have h2 : safe = (l.take j).take safe.length := by rw [List.take_take, Nat.min_eq_left h1]; exact hst
  rw [h2]
  exact List.take_prefix _ _
end
end Wl
end Go.Proofs.Ytihanhdepijijaa
