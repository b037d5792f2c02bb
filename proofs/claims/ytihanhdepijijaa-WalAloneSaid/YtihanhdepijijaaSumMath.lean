/-
  The algebra of the checksum, over bit vectors: the register's step is linear and injective; a window of 32 bits is told; the residue.
  It speaks of no program.
-/
import GoSem.Core.Next
namespace Go.Proofs.Ytihanhdepijijaa.S3.Crc

/-- One bit's step of the register. -/
def cs1 (c : BitVec 32) : BitVec 32 := if c.getLsbD 0 then (c >>> 1) ^^^ 0x82f63b78#32 else c >>> 1

theorem cs1_xor (a b : BitVec 32) : cs1 (a ^^^ b) = cs1 a ^^^ cs1 b := by
  unfold cs1
  rw [BitVec.getLsbD_xor, BitVec.ushiftRight_xor_distrib]
  cases a.getLsbD 0 <;> cases b.getLsbD 0 <;> simp only [Bool.xor_false, Bool.xor_true, Bool.not_true, Bool.not_false, Bool.false_eq_true, ↓reduceIte]
  · rw [BitVec.xor_assoc]
  · rw [BitVec.xor_assoc, BitVec.xor_assoc, BitVec.xor_comm (b >>> 1)]
  · have e : ∀ x y p : BitVec 32, x ^^^ p ^^^ (y ^^^ p) = x ^^^ y := fun x y p => by
      rw [BitVec.xor_assoc, BitVec.xor_comm y p, ← BitVec.xor_assoc p p y, BitVec.xor_self, BitVec.zero_xor]
    exact (e _ _ _).symm

theorem cs1_zero : cs1 0#32 = 0#32 := by decide

theorem cs1_inj {c : BitVec 32} (h : cs1 c = 0#32) : c = 0#32 := by
  unfold cs1 at h
  cases hb : c.getLsbD 0
  · rw [hb] at h
    simp only [Bool.false_eq_true, ↓reduceIte] at h
    apply BitVec.eq_of_getLsbD_eq
    intro i hi
    cases i with
    | zero => rw [hb]; simp
    | succ i =>
      have := congrArg (fun x => BitVec.getLsbD x i) h
      simp only [BitVec.getLsbD_ushiftRight, BitVec.getLsbD_zero] at this
      rw [Nat.add_comm] at this
      rw [this]; simp
  · rw [hb] at h
    simp only [↓reduceIte] at h
    have := congrArg (fun x => BitVec.getLsbD x 31) h
    simp only [BitVec.getLsbD_xor, BitVec.getLsbD_ushiftRight, BitVec.getLsbD_zero] at this
    rw [BitVec.getLsbD_of_ge c (1 + 31) (by omega)] at this
    exact absurd this (by decide)

/-- n steps. -/
def csn : Nat → BitVec 32 → BitVec 32
  | 0, c => c
  | n + 1, c => csn n (cs1 c)

theorem csn_xor (n : Nat) (a b : BitVec 32) : csn n (a ^^^ b) = csn n a ^^^ csn n b := by
  induction n generalizing a b with
  | zero => rfl
  | succ n ih => show csn n (cs1 (a ^^^ b)) = _; rw [cs1_xor, ih]; rfl
theorem csn_zero (n : Nat) : csn n 0#32 = 0#32 := by
  induction n with
  | zero => rfl
  | succ n ih => show csn n (cs1 0#32) = _; rw [cs1_zero, ih]
theorem csn_inj (n : Nat) {c : BitVec 32} (h : csn n c = 0#32) : c = 0#32 := by
  induction n generalizing c with
  | zero => exact h
  | succ n ih => exact cs1_inj (ih h)
theorem csn_add (m n : Nat) (c : BitVec 32) : csn (m + n) c = csn n (csn m c) := by
  induction m generalizing c with
  | zero => rw [Nat.zero_add]; rfl
  | succ m ih => rw [Nat.succ_add]; exact ih (cs1 c)
theorem csn_eq (n : Nat) {a b : BitVec 32} : csn n a = csn n b ↔ a = b := by
  refine ⟨fun h => ?_, fun h => by rw [h]⟩
  have e : csn n (a ^^^ b) = 0#32 := by rw [csn_xor, h, BitVec.xor_self]
  have z := csn_inj n e
  have : a ^^^ b ^^^ b = b := by rw [z, BitVec.zero_xor]
  rwa [BitVec.xor_assoc, BitVec.xor_self, BitVec.xor_zero] at this

/-- A bit as a word. -/
def one (b : Bool) : BitVec 32 := if b then 1#32 else 0#32
/-- The register after a list of bits. -/
def run (c : BitVec 32) : List Bool → BitVec 32
  | [] => c
  | b :: l => run (cs1 (c ^^^ one b)) l
theorem run_append (c : BitVec 32) (l m : List Bool) : run c (l ++ m) = run (run c l) m := by
  induction l generalizing c with
  | nil => rfl
  | cons b l ih => exact ih _
theorem run_false (c : BitVec 32) (l : List Bool) (h : ∀ b ∈ l, b = false) : run c l = csn l.length c := by
  induction l generalizing c with
  | nil => rfl
  | cons b l ih =>
    rw [h b (by simp)]
    show run (cs1 (c ^^^ 0#32)) l = _
    rw [BitVec.xor_zero, ih _ fun b hb => h b (by simp [hb])]
    rfl

/-- The word whose bits these are, the least significant one first. -/
def val : List Bool → BitVec 32
  | [] => 0#32
  | b :: l => one b ^^^ (val l <<< 1)
theorem one_bit (b : Bool) (i : Nat) : (one b).getLsbD i = (b && decide (i = 0)) := by
  cases b
  · simp [one]
  · cases i with
    | zero => rfl
    | succ i => simp [one, BitVec.getLsbD_one]
theorem val_bit (l : List Bool) (i : Nat) (hi : i < 32) : (val l).getLsbD i = l.getD i false := by
  induction l generalizing i with
  | nil => simp [val]
  | cons b l ih =>
    show (one b ^^^ (val l <<< 1)).getLsbD i = _
    rw [BitVec.getLsbD_xor, one_bit, BitVec.getLsbD_shiftLeft]
    cases i with
    | zero => simp
    | succ i =>
      have := ih i (by omega)
      simp only [List.getD_cons_succ, Nat.add_one_sub_one, this]
      simp [hi]
theorem cs1_shl {v : BitVec 32} (h : v.getLsbD 31 = false) : cs1 (v <<< 1) = v := by
  unfold cs1
  have h0 : (v <<< 1).getLsbD 0 = false := by simp
  rw [h0]
  simp only [Bool.false_eq_true, ↓reduceIte]
  apply BitVec.eq_of_getLsbD_eq
  intro i hi
  rw [BitVec.getLsbD_ushiftRight, BitVec.getLsbD_shiftLeft]
  by_cases h31 : i = 31
  · subst h31; rw [h]; simp
  · have : 1 + i < 32 := by omega
    simp [this]
theorem run_val (c : BitVec 32) (l : List Bool) (h : l.length ≤ 32) : run c l = csn l.length (c ^^^ val l) := by
  induction l generalizing c with
  | nil => show c = c ^^^ 0#32; rw [BitVec.xor_zero]
  | cons b l ih =>
    simp only [List.length_cons] at h
    show run (cs1 (c ^^^ one b)) l = csn l.length (cs1 (c ^^^ (one b ^^^ (val l <<< 1))))
    rw [ih _ (by omega), ← BitVec.xor_assoc, cs1_xor (c ^^^ one b), cs1_shl]
    rw [val_bit _ _ (by omega), List.getD_eq_getElem?_getD, List.getElem?_eq_none (by omega)]
    rfl

/-- The register is linear in its start and its bits. -/
theorem run_xor (c d : BitVec 32) (l m : List Bool) (h : l.length = m.length) : run (c ^^^ d) (List.zipWith xor l m) = run c l ^^^ run d m := by
  induction l generalizing c d m with
  | nil =>
    cases m with
    | nil => rfl
    | cons _ _ => cases h
  | cons a l ih =>
    cases m with
    | nil => cases h
    | cons b m =>
      show run (cs1 (c ^^^ d ^^^ one (xor a b))) _ = run (cs1 (c ^^^ one a)) l ^^^ run (cs1 (d ^^^ one b)) m
      rw [← ih _ _ _ (by simpa using h), ← cs1_xor]
      congr 2
      have e : one (xor a b) = one a ^^^ one b := by cases a <;> cases b <;> decide
      rw [e]
      ac_rfl

/-- Bits within 32 places in a row are told. -/
theorem run_window (l : List Bool) (a : Nat) (h : ∀ i, l.getD i false = true → a ≤ i ∧ i < a + 32) : run 0#32 l = 0#32 ↔ ∀ i, l.getD i false = false := by
  induction l generalizing a with
  | nil => simp [run]
  | cons b l ih =>
    cases a with
    | succ a =>
      have hb : b = false := by
        cases b with
        | false => rfl
        | true => exact absurd (h 0 rfl).1 (by omega)
      subst hb
      show run (cs1 (0#32 ^^^ 0#32)) l = 0#32 ↔ _
      rw [BitVec.xor_self, cs1_zero, ih a fun i hi => by
        have := h (i + 1) (by simpa using hi)
        omega]
      refine ⟨fun g i => ?_, fun g i => ?_⟩
      · cases i with
        | zero => rfl
        | succ i => simpa using g i
      · simpa using g (i + 1)
    | zero =>
      clear ih
      generalize b :: l = l at h
      have hd : ∀ b ∈ l.drop 32, b = false := by
        intro b hb
        obtain ⟨i, hi⟩ := List.mem_iff_getElem?.1 hb
        rw [List.getElem?_drop] at hi
        cases b with
        | false => rfl
        | true =>
          have := h (32 + i) (by rw [List.getD_eq_getElem?_getD, hi]; rfl)
          omega
      have e : run 0#32 l = csn (l.drop 32).length (csn (l.take 32).length (0#32 ^^^ val (l.take 32))) := by
        conv => lhs; rw [← List.take_append_drop 32 l]
        rw [run_append, run_false _ _ hd, run_val _ _ (by rw [List.length_take]; omega)]
      rw [e, BitVec.zero_xor]
      refine ⟨fun g i => ?_, fun g => ?_⟩
      · have z := csn_inj _ (csn_inj _ g)
        by_cases hi : i < 32
        · have v := val_bit (l.take 32) i hi
          rw [z] at v
          have : (l.take 32).getD i false = l.getD i false := by
            rw [List.getD_eq_getElem?_getD, List.getD_eq_getElem?_getD, List.getElem?_take_of_lt hi]
          rw [← this, ← v]; simp
        · cases hh : l.getD i false with
          | false => rfl
          | true => exact absurd (h i hh).2 (by omega)
      · have z : val (l.take 32) = 0#32 := by
          apply BitVec.eq_of_getLsbD_eq
          intro i hi
          rw [val_bit _ _ hi]
          have : (l.take 32).getD i false = l.getD i false := by
            rw [List.getD_eq_getElem?_getD, List.getD_eq_getElem?_getD, List.getElem?_take_of_lt hi]
          rw [this, g i]; simp
        rw [z, csn_zero, csn_zero]
end Go.Proofs.Ytihanhdepijijaa.S3.Crc
