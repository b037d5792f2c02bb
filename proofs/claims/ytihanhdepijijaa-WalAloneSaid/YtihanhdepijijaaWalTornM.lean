/-
  Layer 10: a file that was cut off, and junk behind: plain Lean.
-/
import Derived.Test.YtihanhdepijijaaWalFile
namespace Go.Proofs.Ytihanhdepijijaa
namespace Wl
theorem okRows {l : List Str} (h : ∀ s ∈ l, s.length ≤ 1500) : ∀ s ∈ l, okRow s := fun s hs => by have := h s hs; unfold okRow; omega
theorem begins_of {a b : List Str} (h : b <+: a) : begins a b = true := decide_eq_true h
structure Torn (l : List Str) (k : Nat) (junk : Str) : Prop where
  one : begins l (rows c4 ((records c4 l).take k)).1 = true
  two : begins (rows c4 ((records c4 l).take (min (k + 1) (records c4 l).length))).1 (rows c4 ((records c4 l).take k)).1 = true
  all : (rows c4 (records c4 l)).1 = l
  size : (records c4 (rows c4 ((records c4 l).take k)).1).length ≤ k
  left : (records c4 (rows c4 ((records c4 l).take (records c4 (rows c4 ((records c4 l).take k)).1).length ++ junk)).1).length ≤ (records c4 (rows c4 ((records c4 l).take k)).1).length + junk.length
  odd : begins (rows c4 ((records c4 l).take (records c4 (rows c4 ((records c4 l).take k)).1).length ++ junk)).1 (rows c4 ((records c4 l).take k)).1 = true
  again : (rows c4 (((records c4 l).take (records c4 (rows c4 ((records c4 l).take k)).1).length ++ junk).take (records c4 (rows c4 ((records c4 l).take (records c4 (rows c4 ((records c4 l).take k)).1).length ++ junk)).1).length)).1 = (rows c4 ((records c4 l).take (records c4 (rows c4 ((records c4 l).take k)).1).length ++ junk)).1
theorem torn (l : List Str) (hl : ∀ s ∈ l, okRow s) (k : Nat) (hk : k ≤ (records c4 l).length) (junk : Str) : Torn l k junk := by
  obtain ⟨j, hj, e, hm⟩ := rows_cut c4_len hl k
  obtain ⟨j2, hj2, e2, hm2⟩ := rows_cut c4_len hl (min (k + 1) (records c4 l).length)
  have hsp := rows_spec c4_len ((records c4 l).take k)
  have hsz : (records c4 (l.take j)).length ≤ k := by
    have h1 := congrArg List.length hsp.1
    rw [List.length_append, e, List.length_take] at h1
    omega
  have hjj : j ≤ j2 := hm2 j hj (by omega)
  have htk : (records c4 l).take (records c4 (l.take j)).length = records c4 (l.take j) := by
    have h1 : records c4 l = records c4 (l.take j) ++ records c4 (l.drop j) := by rw [← records_append, List.take_append_drop]
    rw [h1, List.take_left]
  have hlj : ∀ s ∈ l.take j, okRow s := fun s hs => hl s (List.mem_of_mem_take hs)
  have hb := rows_behind c4_len hlj junk
  have hs2 := rows_spec c4_len (records c4 (l.take j) ++ junk)
  refine ⟨?_, ?_, ?_, ?_, ?_, ?_, ?_⟩
  · rw [e]; exact begins_of (List.take_prefix _ _)
  · rw [e, e2]
    refine begins_of ?_
    have : l.take j = (l.take j2).take j := by rw [List.take_take, Nat.min_eq_left hjj]
    rw [this]
    exact List.take_prefix _ _
  · rw [rows_whole c4_len hl]
  · rw [e]; exact hsz
  · rw [e, htk]
    have h1 := congrArg List.length hs2.1
    rw [List.length_append, List.length_append] at h1
    omega
  · rw [e, htk, hb]; exact begins_of (List.prefix_append _ _)
  · rw [e, htk]
    have h2 : ∀ (q : Str) (R : List Str) (t : Str), q = records c4 R ++ t → q.take (records c4 R).length = records c4 R := by
      rintro _ R t rfl
      exact List.take_left
    rw [h2 _ _ _ hs2.1, rows_whole c4_len hs2.2.1]
end Wl
end Go.Proofs.Ytihanhdepijijaa
