/-
  SumMath, SumCrc, SumBase, SumMem: joined.
-/
import GoSem.Core.Next
import Derived.Test.YtcbhjagcfbinoaaDoorRows
import Derived.WalkKit
import Derived.WalkSpells
import Derived.WalkLawsBesides
import Derived.Lib.Hide
import Derived.PlainAid
import Derived.Handy
import Derived.Deep.QuietTactic
import Derived.BigQuiet
import Derived.OwnWalk
import Derived.Laws.IdiomStrings
import Derived.Lib.AppendStr
import Derived.LoopTactic
import Derived.Outline
import Derived.IntWalk
import Derived.Laws.BitsAllLaws
import Derived.Deep.RegionHeld3
import Derived.ArgAppend
/-
  The algebra of the checksum, over bit vectors: the register's step is linear and injective; a window of 32 bits is told; the residue.
  It speaks of no program.
-/
namespace Go.Proofs.YtcbhjagcfbinoaaDoor.S3.Crc

/-- One bit's step of the register. -/
def cs1 (c : BitVec 32) : BitVec 32 := if c.getLsbD 0 then (c >>> 1) ^^^ 0x82f63b78#32 else c >>> 1

theorem cs1_xor (a b : BitVec 32) : cs1 (a ^^^ b) = cs1 a ^^^ cs1 b := by
  unfold cs1
  rw [BitVec.getLsbD_xor, BitVec.ushiftRight_xor_distrib]
  cases a.getLsbD 0 <;> cases b.getLsbD 0 <;> simp only [Bool.xor_false, Bool.xor_true, Bool.not_true, Bool.not_false, Bool.false_eq_true, ↓reduceIte]
  · rw [BitVec.xor_assoc]
  · rw [BitVec.xor_assoc, BitVec.xor_assoc, BitVec.xor_comm (b >>> 1)]
  · have e : ∀ x y p : BitVec 32, x ^^^ p ^^^ (y ^^^ p) = x ^^^ y := fun x y p => by
      rw [BitVec.xor_assoc, BitVec.xor_comm y p, ← BitVec.xor_assoc p p y, BitVec.xor_self, BitVec.zero_xor]
    exact (e _ _ _).symm

theorem cs1_zero : cs1 0#32 = 0#32 := by decide

theorem cs1_inj {c : BitVec 32} (h : cs1 c = 0#32) : c = 0#32 := by
  unfold cs1 at h
  cases hb : c.getLsbD 0
  · rw [hb] at h
    simp only [Bool.false_eq_true, ↓reduceIte] at h
    apply BitVec.eq_of_getLsbD_eq
    intro i hi
    cases i with
    | zero => rw [hb]; simp
    | succ i =>
      have := congrArg (fun x => BitVec.getLsbD x i) h
      simp only [BitVec.getLsbD_ushiftRight, BitVec.getLsbD_zero] at this
      rw [Nat.add_comm] at this
      rw [this]; simp
  · rw [hb] at h
    simp only [↓reduceIte] at h
    have := congrArg (fun x => BitVec.getLsbD x 31) h
    simp only [BitVec.getLsbD_xor, BitVec.getLsbD_ushiftRight, BitVec.getLsbD_zero] at this
    rw [BitVec.getLsbD_of_ge c (1 + 31) (by omega)] at this
    exact absurd this (by decide)

/-- n steps. -/
def csn : Nat → BitVec 32 → BitVec 32
  | 0, c => c
  | n + 1, c => csn n (cs1 c)

theorem csn_xor (n : Nat) (a b : BitVec 32) : csn n (a ^^^ b) = csn n a ^^^ csn n b := by
  induction n generalizing a b with
  | zero => rfl
  | succ n ih => show csn n (cs1 (a ^^^ b)) = _; rw [cs1_xor, ih]; rfl
theorem csn_zero (n : Nat) : csn n 0#32 = 0#32 := by
  induction n with
  | zero => rfl
  | succ n ih => show csn n (cs1 0#32) = _; rw [cs1_zero, ih]
theorem csn_inj (n : Nat) {c : BitVec 32} (h : csn n c = 0#32) : c = 0#32 := by
  induction n generalizing c with
  | zero => exact h
  | succ n ih => exact cs1_inj (ih h)
theorem csn_add (m n : Nat) (c : BitVec 32) : csn (m + n) c = csn n (csn m c) := by
  induction m generalizing c with
  | zero => rw [Nat.zero_add]; rfl
  | succ m ih => rw [Nat.succ_add]; exact ih (cs1 c)
theorem csn_eq (n : Nat) {a b : BitVec 32} : csn n a = csn n b ↔ a = b := by
  refine ⟨fun h => ?_, fun h => by rw [h]⟩
  have e : csn n (a ^^^ b) = 0#32 := by rw [csn_xor, h, BitVec.xor_self]
  have z := csn_inj n e
  have : a ^^^ b ^^^ b = b := by rw [z, BitVec.zero_xor]
  rwa [BitVec.xor_assoc, BitVec.xor_self, BitVec.xor_zero] at this

/-- A bit as a word. -/
def one (b : Bool) : BitVec 32 := if b then 1#32 else 0#32
/-- The register after a list of bits. -/
def run (c : BitVec 32) : List Bool → BitVec 32
  | [] => c
  | b :: l => run (cs1 (c ^^^ one b)) l
theorem run_append (c : BitVec 32) (l m : List Bool) : run c (l ++ m) = run (run c l) m := by
  induction l generalizing c with
  | nil => rfl
  | cons b l ih => exact ih _
theorem run_false (c : BitVec 32) (l : List Bool) (h : ∀ b ∈ l, b = false) : run c l = csn l.length c := by
  induction l generalizing c with
  | nil => rfl
  | cons b l ih =>
    rw [h b (by simp)]
    show run (cs1 (c ^^^ 0#32)) l = _
    rw [BitVec.xor_zero, ih _ fun b hb => h b (by simp [hb])]
    rfl

/-- The word whose bits these are, the least significant one first. -/
def val : List Bool → BitVec 32
  | [] => 0#32
  | b :: l => one b ^^^ (val l <<< 1)
theorem one_bit (b : Bool) (i : Nat) : (one b).getLsbD i = (b && decide (i = 0)) := by
  cases b
  · simp [one]
  · cases i with
    | zero => rfl
    | succ i => simp [one, BitVec.getLsbD_one]
theorem val_bit (l : List Bool) (i : Nat) (hi : i < 32) : (val l).getLsbD i = l.getD i false := by
  induction l generalizing i with
  | nil => simp [val]
  | cons b l ih =>
    show (one b ^^^ (val l <<< 1)).getLsbD i = _
    rw [BitVec.getLsbD_xor, one_bit, BitVec.getLsbD_shiftLeft]
    cases i with
    | zero => simp
    | succ i =>
      have := ih i (by omega)
      simp only [List.getD_cons_succ, Nat.add_one_sub_one, this]
      simp [hi]
theorem cs1_shl {v : BitVec 32} (h : v.getLsbD 31 = false) : cs1 (v <<< 1) = v := by
  unfold cs1
  have h0 : (v <<< 1).getLsbD 0 = false := by simp
  rw [h0]
  simp only [Bool.false_eq_true, ↓reduceIte]
  apply BitVec.eq_of_getLsbD_eq
  intro i hi
  rw [BitVec.getLsbD_ushiftRight, BitVec.getLsbD_shiftLeft]
  by_cases h31 : i = 31
  · subst h31; rw [h]; simp
  · have : 1 + i < 32 := by omega
    simp [this]
theorem run_val (c : BitVec 32) (l : List Bool) (h : l.length ≤ 32) : run c l = csn l.length (c ^^^ val l) := by
  induction l generalizing c with
  | nil => show c = c ^^^ 0#32; rw [BitVec.xor_zero]
  | cons b l ih =>
    simp only [List.length_cons] at h
    show run (cs1 (c ^^^ one b)) l = csn l.length (cs1 (c ^^^ (one b ^^^ (val l <<< 1))))
    rw [ih _ (by omega), ← BitVec.xor_assoc, cs1_xor (c ^^^ one b), cs1_shl]
    rw [val_bit _ _ (by omega), List.getD_eq_getElem?_getD, List.getElem?_eq_none (by omega)]
    rfl

/-- The register is linear in its start and its bits. -/
theorem run_xor (c d : BitVec 32) (l m : List Bool) (h : l.length = m.length) : run (c ^^^ d) (List.zipWith xor l m) = run c l ^^^ run d m := by
  induction l generalizing c d m with
  | nil =>
    cases m with
    | nil => rfl
    | cons _ _ => cases h
  | cons a l ih =>
    cases m with
    | nil => cases h
    | cons b m =>
      show run (cs1 (c ^^^ d ^^^ one (xor a b))) _ = run (cs1 (c ^^^ one a)) l ^^^ run (cs1 (d ^^^ one b)) m
      rw [← ih _ _ _ (by simpa using h), ← cs1_xor]
      congr 2
      have e : one (xor a b) = one a ^^^ one b := by cases a <;> cases b <;> decide
      rw [e]
      ac_rfl

/-- Bits within 32 places in a row are told. -/
theorem run_window (l : List Bool) (a : Nat) (h : ∀ i, l.getD i false = true → a ≤ i ∧ i < a + 32) : run 0#32 l = 0#32 ↔ ∀ i, l.getD i false = false := by
  induction l generalizing a with
  | nil => simp [run]
  | cons b l ih =>
    cases a with
    | succ a =>
      have hb : b = false := by
        cases b with
        | false => rfl
        | true => exact absurd (h 0 rfl).1 (by omega)
      subst hb
      show run (cs1 (0#32 ^^^ 0#32)) l = 0#32 ↔ _
      rw [BitVec.xor_self, cs1_zero, ih a fun i hi => by
        have := h (i + 1) (by simpa using hi)
        omega]
      refine ⟨fun g i => ?_, fun g i => ?_⟩
      · cases i with
        | zero => rfl
        | succ i => simpa using g i
      · simpa using g (i + 1)
    | zero =>
      clear ih
      generalize b :: l = l at h
      have hd : ∀ b ∈ l.drop 32, b = false := by
        intro b hb
        obtain ⟨i, hi⟩ := List.mem_iff_getElem?.1 hb
        rw [List.getElem?_drop] at hi
        cases b with
        | false => rfl
        | true =>
          have := h (32 + i) (by rw [List.getD_eq_getElem?_getD, hi]; rfl)
          omega
      have e : run 0#32 l = csn (l.drop 32).length (csn (l.take 32).length (0#32 ^^^ val (l.take 32))) := by
        conv => lhs; rw [← List.take_append_drop 32 l]
        rw [run_append, run_false _ _ hd, run_val _ _ (by rw [List.length_take]; omega)]
      rw [e, BitVec.zero_xor]
      refine ⟨fun g i => ?_, fun g => ?_⟩
      · have z := csn_inj _ (csn_inj _ g)
        by_cases hi : i < 32
        · have v := val_bit (l.take 32) i hi
          rw [z] at v
          have : (l.take 32).getD i false = l.getD i false := by
            rw [List.getD_eq_getElem?_getD, List.getD_eq_getElem?_getD, List.getElem?_take_of_lt hi]
          rw [← this, ← v]; simp
        · cases hh : l.getD i false with
          | false => rfl
          | true => exact absurd (h i hh).2 (by omega)
      · have z : val (l.take 32) = 0#32 := by
          apply BitVec.eq_of_getLsbD_eq
          intro i hi
          rw [val_bit _ _ hi]
          have : (l.take 32).getD i false = l.getD i false := by
            rw [List.getD_eq_getElem?_getD, List.getD_eq_getElem?_getD, List.getElem?_take_of_lt hi]
          rw [this, g i]; simp
        rw [z, csn_zero, csn_zero]
end Go.Proofs.YtcbhjagcfbinoaaDoor.S3.Crc

/-
  The checksum of a list of bytes: what the statements about it say, in terms of lists. It speaks of no program.
-/
namespace Go.Proofs.YtcbhjagcfbinoaaDoor.S3.Crc

def bitsOf (b : UInt8) : List Bool := (List.range 8).map fun k => b.toBitVec.getLsbD k
def bitsL : List UInt8 → List Bool
  | [] => []
  | b :: l => bitsOf b ++ bitsL l
/-- One byte's step of the register. -/
def csb (c : BitVec 32) (b : UInt8) : BitVec 32 := csn 8 (c ^^^ b.toBitVec.setWidth 32)
def reg (c : BitVec 32) (l : List UInt8) : BitVec 32 := l.foldl csb c
def crc (l : List UInt8) : BitVec 32 := ~~~ reg 0xffffffff#32 l
/-- The bit i of the list: the bit i % 8, the least significant one first, of the byte i / 8. -/
def bitAt (l : List UInt8) (i : Nat) : Bool := (l.getD (i / 8) 0).toBitVec.getLsbD (i % 8)

theorem bitsOf_length (b : UInt8) : (bitsOf b).length = 8 := by simp [bitsOf]
theorem bitsL_length (l : List UInt8) : (bitsL l).length = 8 * l.length := by
  induction l with
  | nil => rfl
  | cons b l ih => rw [bitsL, List.length_append, bitsOf_length, ih, List.length_cons]; omega
theorem bitsOf_get (b : UInt8) (i : Nat) (h : i < 8) : (bitsOf b)[i]? = some (b.toBitVec.getLsbD i) := by
  simp [bitsOf, h]
theorem bitsL_get (l : List UInt8) (i : Nat) : (bitsL l).getD i false = bitAt l i := by
  induction l generalizing i with
  | nil => simp [bitsL, bitAt]
  | cons b l ih =>
    rw [bitsL, List.getD_eq_getElem?_getD]
    by_cases h : i < 8
    · rw [List.getElem?_append_left (by rw [bitsOf_length]; exact h), bitsOf_get b i h]
      have e1 : i / 8 = 0 := by omega
      have e2 : i % 8 = i := by omega
      simp [bitAt, e1, e2]
    · rw [List.getElem?_append_right (by rw [bitsOf_length]; omega), bitsOf_length, ← List.getD_eq_getElem?_getD, ih]
      have e1 : i / 8 = (i - 8) / 8 + 1 := by omega
      have e2 : i % 8 = (i - 8) % 8 := by omega
      rw [bitAt, bitAt, e1, e2, List.getD_cons_succ]
theorem val_bitsOf (b : UInt8) : val (bitsOf b) = b.toBitVec.setWidth 32 := by
  apply BitVec.eq_of_getLsbD_eq
  intro i hi
  rw [val_bit _ _ hi, BitVec.getLsbD_setWidth, List.getD_eq_getElem?_getD]
  by_cases h : i < 8
  · rw [bitsOf_get b i h]; simp [hi]
  · rw [List.getElem?_eq_none (by rw [bitsOf_length]; omega), BitVec.getLsbD_of_ge _ _ (by omega)]
    simp
theorem csb_run (c : BitVec 32) (b : UInt8) : csb c b = run c (bitsOf b) := by
  rw [run_val _ _ (by rw [bitsOf_length]; omega), bitsOf_length, val_bitsOf]; rfl
theorem reg_run (c : BitVec 32) (l : List UInt8) : reg c l = run c (bitsL l) := by
  induction l generalizing c with
  | nil => rfl
  | cons b l ih =>
    show reg (csb c b) l = _
    rw [ih, csb_run, bitsL, run_append]
theorem reg_append (c : BitVec 32) (l m : List UInt8) : reg c (l ++ m) = reg (reg c l) m := List.foldl_append ..

theorem zip_get (l m : List Bool) (h : l.length = m.length) (i : Nat) : (List.zipWith xor l m).getD i false = xor (l.getD i false) (m.getD i false) := by
  induction l generalizing m i with
  | nil =>
    cases m with
    | nil => rfl
    | cons _ _ => cases h
  | cons a l ih =>
    cases m with
    | nil => cases h
    | cons b m =>
      cases i with
      | zero => rfl
      | succ i => simpa using ih m (by simpa using h) i

theorem not_eq {a b : BitVec 32} : ~~~a = ~~~b ↔ a = b :=
  ⟨fun h => by rw [← BitVec.not_not (b := a), h, BitVec.not_not], fun h => by rw [h]⟩
theorem xor_zero {a b : BitVec 32} : a ^^^ b = 0#32 ↔ a = b := by
  refine ⟨fun h => ?_, fun h => by rw [h, BitVec.xor_self]⟩
  have : a ^^^ b ^^^ b = b := by rw [h, BitVec.zero_xor]
  rwa [BitVec.xor_assoc, BitVec.xor_self, BitVec.xor_zero] at this

/-- Two lists of one length that differ only within 32 bits in a row have one checksum exactly if they don't differ. -/
theorem crc_window (s t : List UInt8) (h : s.length = t.length) (a : Int) (hw : ∀ i : Nat, i < 8 * s.length → bitAt s i ≠ bitAt t i → a ≤ i ∧ (i : Int) < a + 32) :
    crc s = crc t ↔ ∀ i, i < 8 * s.length → bitAt s i = bitAt t i := by
  have hl : (bitsL s).length = (bitsL t).length := by rw [bitsL_length, bitsL_length, h]
  have e : crc s = crc t ↔ run 0#32 (List.zipWith xor (bitsL s) (bitsL t)) = 0#32 := by
    have := run_xor 0xffffffff#32 0xffffffff#32 (bitsL s) (bitsL t) hl
    rw [BitVec.xor_self] at this
    rw [this, xor_zero, crc, crc, not_eq, reg_run, reg_run]
  have out : ∀ l : List UInt8, ∀ i, ¬ i < 8 * l.length → bitAt l i = false := by
    intro l i hi
    rw [bitAt, List.getD_eq_getElem?_getD, List.getElem?_eq_none (by omega)]
    simp
  rw [e, run_window _ a.toNat]
  · refine ⟨fun g i _ => ?_, fun g i => ?_⟩
    · have := g i
      rw [zip_get _ _ hl, bitsL_get, bitsL_get] at this
      revert this
      cases bitAt s i <;> cases bitAt t i <;> decide
    · rw [zip_get _ _ hl, bitsL_get, bitsL_get]
      by_cases hi : i < 8 * s.length
      · rw [g i hi]; simp
      · rw [out s i hi, out t i (by omega)]; rfl
  · intro i g
    rw [zip_get _ _ hl, bitsL_get, bitsL_get] at g
    by_cases hi : i < 8 * s.length
    · have := hw i hi (fun e => by rw [e] at g; simp at g)
      omega
    · rw [out s i hi, out t i (by omega)] at g
      cases g

/-- The four bytes of a word, the least significant one first. -/
def le (c : BitVec 32) : List UInt8 := [⟨c.setWidth 8⟩, ⟨(c >>> 8).setWidth 8⟩, ⟨(c >>> 16).setWidth 8⟩, ⟨(c >>> 24).setWidth 8⟩]
theorem val_le (c : BitVec 32) : val (bitsL (le c)) = c := by
  apply BitVec.eq_of_getLsbD_eq
  intro i hi
  rw [val_bit _ _ hi, bitsL_get, bitAt]
  have key : ∀ q, i / 8 = q → q < 4 → ((le c).getD q 0).toBitVec = (c >>> (8 * q)).setWidth 8 := by
    intro q _ hq
    rcases q with _ | _ | _ | _ | q
    · rfl
    · rfl
    · rfl
    · rfl
    · omega
  rw [key _ rfl (by omega), BitVec.getLsbD_setWidth, BitVec.getLsbD_ushiftRight]
  have e : 8 * (i / 8) + i % 8 = i := by omega
  rw [e]
  have : i % 8 < 8 := by omega
  simp [this]
theorem reg_le (r c : BitVec 32) : reg r (le c) = csn 32 (r ^^^ c) := by
  rw [reg_run, run_val _ _ (by rw [bitsL_length]; exact Nat.le_refl 32), val_le, bitsL_length]; rfl
theorem residue_word : csn 32 0xffffffff#32 = ~~~ 1214729159#32 := by decide +kernel
/-- A list and four bytes have the residue exactly if the four bytes are the list's checksum. -/
theorem crc_residue (s : List UInt8) (t : BitVec 32) : crc (s ++ le t) = 1214729159#32 ↔ t = crc s := by
  have e : (1214729159#32 : BitVec 32) = ~~~ csn 32 0xffffffff#32 := by rw [residue_word, BitVec.not_not]
  rw [crc, e, not_eq, reg_append, reg_le, csn_eq, crc]
  generalize reg 0xffffffff#32 s = r
  have n : ∀ x : BitVec 32, ~~~x = x ^^^ 0xffffffff#32 := fun x => by
    have := BitVec.xor_allOnes (x := x)
    exact this.symm
  refine ⟨fun h => ?_, fun h => ?_⟩
  · rw [n, ← h, ← BitVec.xor_assoc, BitVec.xor_self, BitVec.zero_xor]
  · rw [h, n, ← BitVec.xor_assoc, BitVec.xor_self, BitVec.zero_xor]

theorem bitsOf_xor (a b : UInt8) : bitsOf (a ^^^ b) = List.zipWith xor (bitsOf a) (bitsOf b) := by
  simp [bitsOf, List.range_succ]
theorem bitsL_xor (l m : List UInt8) (h : l.length = m.length) : bitsL (List.zipWith (· ^^^ ·) l m) = List.zipWith xor (bitsL l) (bitsL m) := by
  induction l generalizing m with
  | nil =>
    cases m with
    | nil => rfl
    | cons _ _ => cases h
  | cons a l ih =>
    cases m with
    | nil => cases h
    | cons b m =>
      show bitsOf (a ^^^ b) ++ bitsL (List.zipWith (· ^^^ ·) l m) = List.zipWith xor (bitsOf a ++ bitsL l) (bitsOf b ++ bitsL m)
      rw [List.zipWith_append (by rw [bitsOf_length, bitsOf_length]), bitsOf_xor, ih m (by simpa using h)]
/-- The xor of three checksums. -/
theorem crc_xors (a b c : List UInt8) (h1 : a.length = b.length) (h2 : b.length = c.length) :
    crc a ^^^ crc b ^^^ crc c = crc (List.zipWith (· ^^^ ·) (List.zipWith (· ^^^ ·) a b) c) := by
  have ll : (List.zipWith (· ^^^ ·) a b).length = c.length := by rw [List.length_zipWith]; omega
  have e := run_xor (0xffffffff#32 ^^^ 0xffffffff#32) 0xffffffff#32 (bitsL (List.zipWith (· ^^^ ·) a b)) (bitsL c) (by rw [bitsL_length, bitsL_length, ll])
  rw [← bitsL_xor _ _ ll, bitsL_xor a b h1, run_xor _ _ _ _ (by rw [bitsL_length, bitsL_length, h1]), BitVec.xor_self, BitVec.zero_xor] at e
  rw [crc, crc, crc, crc, reg_run _ (List.zipWith _ _ _), e, reg_run, reg_run, reg_run]
  generalize run 0xffffffff#32 (bitsL a) = x
  generalize run 0xffffffff#32 (bitsL b) = y
  generalize run 0xffffffff#32 (bitsL c) = z
  have n : ∀ x : BitVec 32, ~~~x = x ^^^ 0xffffffff#32 := fun x => by
    have := BitVec.xor_allOnes (x := x)
    exact this.symm
  rw [n x, n y, n z, n (x ^^^ y ^^^ z)]
  generalize 0xffffffff#32 = p
  have e2 : ∀ u v : BitVec 32, u ^^^ p ^^^ (v ^^^ p) = u ^^^ v := fun u v => by
    rw [BitVec.xor_assoc, BitVec.xor_comm v p, ← BitVec.xor_assoc p p v, BitVec.xor_self, BitVec.zero_xor]
  rw [e2, ← BitVec.xor_assoc]
end Go.Proofs.YtcbhjagcfbinoaaDoor.S3.Crc

/-
  Layer 3 (sum): words for memory, and numbers as words.
-/
namespace Go.Proofs.YtcbhjagcfbinoaaDoor.S3
open Go.RowKit

/-- The bytes as cells. -/
def U (l : List UInt8) : List Value := l.map fun b => Value.int .u8 b.toNat
/-- The string of these bytes. -/
def B (l : List UInt8) : ByteArray := ⟨l.toArray⟩
theorem B_of (s : ByteArray) : B s.data.toList = s := rfl
theorem U_length (l : List UInt8) : (U l).length = l.length := by simp [U]
theorem U_append (l r : List UInt8) : U (l ++ r) = U l ++ U r := by simp [U]
theorem B_size (l : List UInt8) : (B l).size = l.length := by simp [B, ByteArray.size]
theorem B_eq {a : ByteArray} {l : List UInt8} (h : a.data.toList = l) : a = B l := by
  subst h; rfl
theorem B_drop (l : List UInt8) (k : Nat) : (B l).extract k (B l).size = B (l.drop k) := by
  apply B_eq
  rw [ByteArray.data_extract, Array.toList_extract, B_size]
  simp only [List.extract, B]
  exact List.take_of_length_le (by simp)
theorem B_take (l : List UInt8) (k : Nat) : (B l).extract 0 k = B (l.take k) := by
  apply B_eq
  rw [ByteArray.data_extract, Array.toList_extract]
  simp [List.extract, B]
theorem B_drop' (l : List UInt8) (k : Nat) : (B l).extract k l.length = B (l.drop k) := by rw [← B_drop, B_size]
theorem B_list (l : List UInt8) : (B l).toList = l := by rw [ByteArray.toList_eq]; rfl
theorem B_app (a b : List UInt8) : B a ++ B b = B (a ++ b) := by
  apply B_eq
  rw [ByteArray.data_append, Array.toList_append]
  rfl

/-! ### Words -/
theorem cs1_nat (c : BitVec 32) : (Crc.cs1 c).toNat = if c.toNat % 2 = 1 then (c.toNat / 2) ^^^ 2197175160 else c.toNat / 2 := by
  unfold Crc.cs1
  have h : c.getLsbD 0 = decide (c.toNat % 2 = 1) := by
    rw [BitVec.getLsbD, Nat.testBit_zero]
  have e : (c >>> 1).toNat = c.toNat / 2 := by rw [BitVec.toNat_ushiftRight, Nat.shiftRight_eq_div_pow]
  rw [h]
  by_cases hc : c.toNat % 2 = 1
  · rw [decide_eq_true hc, if_pos rfl, if_pos hc, BitVec.toNat_xor, e]; rfl
  · rw [decide_eq_false hc, if_neg hc, ← e]; rfl
theorem csb_nat (c : BitVec 32) (b : UInt8) : (c ^^^ b.toBitVec.setWidth 32).toNat = c.toNat ^^^ b.toNat := by
  rw [BitVec.toNat_xor, BitVec.toNat_setWidth, Nat.mod_eq_of_lt]
  · rfl
  · have := b.toNat_lt
    exact Nat.lt_of_lt_of_le (show b.toBitVec.toNat < 256 from this) (by decide)
theorem csn_succ (n : Nat) (c : BitVec 32) : Crc.csn (n + 1) c = Crc.cs1 (Crc.csn n c) := by
  rw [Crc.csn_add]; rfl
theorem reg_succ (c : BitVec 32) (l : List UInt8) (k : Nat) (h : k < l.length) : Crc.reg c (l.take (k + 1)) = Crc.csb (Crc.reg c (l.take k)) l[k] := by
  rw [List.take_succ_eq_append_getElem h, Crc.reg_append]; rfl
end Go.Proofs.YtcbhjagcfbinoaaDoor.S3

/-
  Layer 3 (sum): slices of bytes that a call makes.
-/
namespace Go.Proofs.YtcbhjagcfbinoaaDoor.S3
open Go.RowKit

theorem infoByte : (Tryd.prog.info? 5).map (fun i => (i.zero, i.size, i.bytes)) = some (some (.int .u8 0), 1, 1) := by kernel_rfl
theorem one_cell {w : World} {v : Value} {t : TypeId} : ∀ (j : Nat) (u : Value), [v][j]? = some u → (w.alloc (.cells #[v] t)).cell? ((⟨w.heap.size, 0, none⟩ : Addr).add j) = some u := by
  intro j u hj
  match j, hj with
  | 0, hj => simp at hj; subst hj; simp [Addr.add]
theorem two_cells {w : World} {v v2 : Value} {t : TypeId} : ∀ (j : Nat) (u : Value), [v, v2][j]? = some u → (w.alloc (.cells #[v, v2] t)).cell? ((⟨w.heap.size, 0, none⟩ : Addr).add j) = some u := by
  intro j u hj
  match j, hj with
  | 0, hj => simp at hj; subst hj; simp [Addr.add]
  | 1, hj => simp at hj; subst hj; simp [Addr.add]
theorem own_cong {w : World} {base : Nat} {e : TypeId} {v : Value} {n m : Nat} {xs ys : List Value} (h : w.ownsRow base e 1 v n xs) (hn : n = m) (hx : xs = ys) : w.ownsRow base e 1 v m ys := by
  subst hn; subst hx; exact h
/-- What an append of bytes leaves. -/
theorem own_more {base : Nat} {w wr w1 : World} {o v' : Value} {q r : List UInt8} {n : Nat} {ys : List Value} {c : Array Value} {t : TypeId} (hn : n = q.length + r.length) (hy : ys = U q ++ U r) (hbase : base ≤ wr.heap.size)
    (hown : wr.ownsRow base 5 1 o q.length (U q)) (hb : Below base w wr) (hown' : w1.ownsRow base 5 1 v' n ys) (hg : (wr.alloc (.cells c t)).grownBy w1 o.ownBlock) :
    w1.ownsRow base 5 1 v' (q ++ r).length (U (q ++ r)) ∧ Below base w w1 := by
  subst hn; subst hy
  exact ⟨own_cong hown' (by simp) (U_append _ _).symm, (hb.alloc hbase _).grown hg (by simp; omega) (fun k hk => ((hown.alloc (.cells c t)).lt k hk).1)⟩
/-- 'string(b)' of a slice of the call's own. -/
theorem conv_own {w : World} {base : Nat} {v : Value} {l : List UInt8} (h : w.ownsRow base 5 1 v l.length (U l)) :
    (convert 48 9 v).run Tryd.prog w = .ok (.string (B l)) w := by
  rcases h.2 with ⟨rfl, h0⟩ | ⟨g, cap, cur, rfl, _⟩
  · obtain rfl : l = [] := List.eq_nil_of_length_eq_zero h0
    rw [run_convert_bytes_string w 48 9 5 none 0 0 Tryd.underlying48 Tryd.underlying5 Tryd.underlying9]
    rfl
  · exact run_convert_bytes_back w 48 9 5 ⟨g, 0, none⟩ cap l Tryd.underlying48 Tryd.underlying5 Tryd.underlying9 (fun j hj => h.cells (g := g) rfl j _ (by simp [U, hj]))
/-- An append onto a slice of the call's own, as one step of a region that draws. -/
theorem step_append_own {P : Program} {o : Oper} {a : Act} {w : World} {ops : Array Oper} {K : Act → World → Prop} {Q : Exit → Act → World → Prop} {E : Prop}
    (hg : o.guard = none) (s x : Operand) (t : TypeId) (hop : o.op = Op.call { callee := Callee.builtin Builtin.append, args := #[s, x], argTypes := #[t, t] })
    (base : Nat) (e : TypeId) (i : TypeInfo) (z : Value) (size bytes : Nat) (h1 : P.underlying t = some (.slice e)) (h2 : P.info? e = some i) (h3 : i.zero = some z) (h4 : i.size = size) (h5 : i.bytes = bytes) (h6 : z.cells.size = size) (h7 : 0 < size)
    (v : Value) (k : Nat) (xs : List Value) (hs : a.eval s = v) (hown : w.ownsRow base e size v k xs)
    (ad : Addr) (m c : Nat) (news : List Value) (hx : a.eval x = .slice (some ad) m c) (hn : news.length = m * size) (hc : ∀ j u, news[j]? = some u → w.cell? (ad.add j) = some u) (h1c : ∀ u ∈ news, u.oneCell' = true)
    (b1 : k + m ≤ maxLen) (b2 : (k + m) * bytes ≤ 140737488355328) (b3 : base ≤ w.heap.size)
    (hK : ∀ v' w', w'.ownsRow base e size v' (k + m) (xs ++ news) → w.grownBy w' v.ownBlock → K (a.put o.dst v') w') :
    if Region.wanted o (yielded ops a.tmps) = true then Oper.wp P o a w K Q else E := by
  have hw : Region.wanted o (yielded ops a.tmps) = true := by simp [Region.wanted, hg]
  rw [if_pos hw]
  obtain ⟨v', w', hrun, r1, r2, _⟩ := run_append_own (P := P) w base t o.type e i z size bytes h1 h2 h3 h4 h5 h6 h7 v k xs hown ad m c news hn hc h1c b1 b2 b3
  unfold Oper.wp
  simp [execOp, hop, resolve, invoke, builtin, hs, hx, hrun, Result.andThen]
  exact hK v' w' r1 r2
end Go.Proofs.YtcbhjagcfbinoaaDoor.S3
