/-
  Layer 3: what flip does to the bits, in plain Lean.
-/
import Derived.Test.YtfldbgfeldhboaaDoorSumCrc
namespace Go.Proofs.YtfldbgfeldhboaaDoor
open Crc

/-- Is the bit i among the first k that the pattern inverts? -/
def hit (a : Int) (pat : BitVec 32) (k i : Nat) : Bool := decide (a ≤ i ∧ (i : Int) < a + k) && pat.getLsbD ((i : Int) - a).toNat
theorem hit_zero (a : Int) (pat : BitVec 32) (i : Nat) : hit a pat 0 i = false := by
  have h : ¬ (a ≤ i ∧ (i : Int) < a + (0 : Nat)) := by omega
  simp only [hit, decide_eq_false h, Bool.false_and]
theorem hit_other (a : Int) (pat : BitVec 32) (k i : Nat) (h : (i : Int) ≠ a + k) : hit a pat (k + 1) i = hit a pat k i := by
  unfold hit
  congr 1
  rw [decide_eq_decide]
  omega
theorem hit_here (a : Int) (pat : BitVec 32) (k i : Nat) (h : (i : Int) = a + k) : hit a pat (k + 1) i = pat.getLsbD k ∧ hit a pat k i = false := by
  have h1 : a ≤ i ∧ (i : Int) < a + ((k + 1 : Nat) : Int) := by omega
  have h2 : ¬ (a ≤ i ∧ (i : Int) < a + (k : Nat)) := by omega
  have h3 : ((i : Int) - a).toNat = k := by omega
  simp only [hit, decide_eq_true h1, decide_eq_false h2, Bool.false_and, Bool.true_and, h3]
  exact ⟨trivial, trivial⟩
/-- The list after k steps, and whether a bit was inverted. -/
structure Flip (s : List UInt8) (a : Int) (pat : BitVec 32) (k : Nat) (t : List UInt8) (did : Bool) : Prop where
  len : t.length = s.length
  bit : ∀ i, i < 8 * s.length → bitAt t i = xor (bitAt s i) (hit a pat k i)
  any : did = true ↔ ∃ i, i < 8 * s.length ∧ hit a pat k i = true
theorem flip_start (s : List UInt8) (a : Int) (pat : BitVec 32) : Flip s a pat 0 s false :=
  ⟨rfl, fun i _ => by rw [hit_zero]; simp, by simp [hit_zero]⟩
theorem flip_not {s t : List UInt8} {a : Int} {pat : BitVec 32} {k : Nat} {did : Bool} (h : Flip s a pat k t did) (hn : ¬ (pat.getLsbD k = true ∧ 0 ≤ a + k ∧ a + k < 8 * s.length)) : Flip s a pat (k + 1) t did := by
  have same : ∀ i, i < 8 * s.length → hit a pat (k + 1) i = hit a pat k i := by
    intro i hi
    by_cases e : (i : Int) = a + k
    · obtain ⟨h1, h2⟩ := hit_here a pat k i e
      rw [h1, h2]
      cases hp : pat.getLsbD k with
      | false => rfl
      | true => exact absurd ⟨hp, by omega, by omega⟩ hn
    · exact hit_other a pat k i e
  refine ⟨h.len, fun i hi => by rw [same i hi]; exact h.bit i hi, h.any.trans ⟨?_, ?_⟩⟩
  · rintro ⟨i, hi, hh⟩; exact ⟨i, hi, by rw [same i hi]; exact hh⟩
  · rintro ⟨i, hi, hh⟩; exact ⟨i, hi, by rw [← same i hi]; exact hh⟩
theorem bitAt_set (t : List UInt8) (n : Nat) (x : UInt8) (hn : n / 8 < t.length) (hx : x.toNat = (t.getD (n / 8) 0).toNat ^^^ 2 ^ (n % 8)) (i : Nat) : bitAt (t.set (n / 8) x) i = if i = n then !(bitAt t i) else bitAt t i := by
  have bits : ∀ (y : UInt8) (j : Nat), y.toBitVec.getLsbD j = y.toNat.testBit j := fun y j => rfl
  unfold bitAt
  by_cases e : i / 8 = n / 8
  · have hget : (t.set (n / 8) x).getD (i / 8) 0 = x := by
      rw [e, List.getD_eq_getElem?_getD, List.getElem?_set_self hn]; rfl
    rw [hget, bits, bits, hx, e, Nat.testBit_xor, Nat.testBit_two_pow]
    by_cases e2 : i = n
    · subst e2
      simp
    · have : ¬ n % 8 = i % 8 := by omega
      simp [e2, this]
  · have hget : (t.set (n / 8) x).getD (i / 8) 0 = t.getD (i / 8) 0 := by
      rw [List.getD_eq_getElem?_getD, List.getD_eq_getElem?_getD, List.getElem?_set_ne (by omega)]
    have e2 : i ≠ n := fun h => e (by rw [h])
    rw [hget, if_neg e2]
theorem flip_yes {s t : List UInt8} {a : Int} {pat : BitVec 32} {k n : Nat} {did : Bool} {x : UInt8} (h : Flip s a pat k t did) (hp : pat.getLsbD k = true) (hn : (n : Int) = a + k) (hl : n < 8 * s.length)
    (hx : x.toNat = (t.getD (n / 8) 0).toNat ^^^ 2 ^ (n % 8)) : Flip s a pat (k + 1) (t.set (n / 8) x) true := by
  have hlen := h.len
  obtain ⟨h1, h2⟩ := hit_here a pat k n hn
  rw [hp] at h1
  refine ⟨by rw [List.length_set]; exact hlen, fun i hi => ?_, ⟨fun _ => ⟨n, hl, h1⟩, fun _ => rfl⟩⟩
  rw [bitAt_set t n x (by omega) hx i]
  by_cases e : i = n
  · subst e
    rw [if_pos rfl, h.bit i hi, h1, h2]
    simp
  · rw [if_neg e, h.bit i hi, hit_other a pat k i (by omega)]
/-- What is to be shown. -/
theorem flip_crc {s t : List UInt8} {a : Int} {pat : BitVec 32} {did : Bool} (h : Flip s a pat 32 t did) : (crc s ≠ crc t) ↔ did = true := by
  have hw := crc_window s t h.len.symm a (fun i hi hne => by
    rw [h.bit i hi] at hne
    cases hh : hit a pat 32 i with
    | false => rw [hh] at hne; simp at hne
    | true =>
      unfold hit at hh
      rw [Bool.and_eq_true] at hh
      have := of_decide_eq_true hh.1
      exact ⟨this.1, this.2⟩)
  rw [ne_eq, hw, h.any]
  constructor
  · intro hn
    apply Classical.byContradiction
    intro hc
    refine hn fun i hi => ?_
    rw [h.bit i hi]
    cases hh : hit a pat 32 i with
    | false => simp
    | true => exact absurd ⟨i, hi, hh⟩ hc
  · rintro ⟨i, hi, hh⟩ he
    have := he i hi
    rw [h.bit i hi, hh] at this
    simp at this
end Go.Proofs.YtfldbgfeldhboaaDoor
