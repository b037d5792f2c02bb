/-
  The checksum of a list of bytes: what the statements about it say, in terms of lists. It speaks of no program.
-/
import Derived.Test.YtihanhdepijijaaSumMath
namespace Go.Proofs.Ytihanhdepijijaa.S3.Crc

def bitsOf (b : UInt8) : List Bool := (List.range 8).map fun k => b.toBitVec.getLsbD k
def bitsL : List UInt8 → List Bool
  | [] => []
  | b :: l => bitsOf b ++ bitsL l
/-- One byte's step of the register. -/
def csb (c : BitVec 32) (b : UInt8) : BitVec 32 := csn 8 (c ^^^ b.toBitVec.setWidth 32)
def reg (c : BitVec 32) (l : List UInt8) : BitVec 32 := l.foldl csb c
def crc (l : List UInt8) : BitVec 32 := ~~~ reg 0xffffffff#32 l
/-- The bit i of the list: the bit i % 8, the least significant one first, of the byte i / 8. -/
def bitAt (l : List UInt8) (i : Nat) : Bool := (l.getD (i / 8) 0).toBitVec.getLsbD (i % 8)

theorem bitsOf_length (b : UInt8) : (bitsOf b).length = 8 := by simp [bitsOf]
theorem bitsL_length (l : List UInt8) : (bitsL l).length = 8 * l.length := by
  induction l with
  | nil => rfl
  | cons b l ih => rw [bitsL, List.length_append, bitsOf_length, ih, List.length_cons]; omega
theorem bitsOf_get (b : UInt8) (i : Nat) (h : i < 8) : (bitsOf b)[i]? = some (b.toBitVec.getLsbD i) := by
  simp [bitsOf, h]
theorem bitsL_get (l : List UInt8) (i : Nat) : (bitsL l).getD i false = bitAt l i := by
  induction l generalizing i with
  | nil => simp [bitsL, bitAt]
  | cons b l ih =>
    rw [bitsL, List.getD_eq_getElem?_getD]
    by_cases h : i < 8
    · rw [List.getElem?_append_left (by rw [bitsOf_length]; exact h), bitsOf_get b i h]
      have e1 : i / 8 = 0 := by omega
      have e2 : i % 8 = i := by omega
      simp [bitAt, e1, e2]
    · rw [List.getElem?_append_right (by rw [bitsOf_length]; omega), bitsOf_length, ← List.getD_eq_getElem?_getD, ih]
      have e1 : i / 8 = (i - 8) / 8 + 1 := by omega
      have e2 : i % 8 = (i - 8) % 8 := by omega
      rw [bitAt, bitAt, e1, e2, List.getD_cons_succ]
theorem val_bitsOf (b : UInt8) : val (bitsOf b) = b.toBitVec.setWidth 32 := by
  apply BitVec.eq_of_getLsbD_eq
  intro i hi
  rw [val_bit _ _ hi, BitVec.getLsbD_setWidth, List.getD_eq_getElem?_getD]
  by_cases h : i < 8
  · rw [bitsOf_get b i h]; simp [hi]
  · rw [List.getElem?_eq_none (by rw [bitsOf_length]; omega), BitVec.getLsbD_of_ge _ _ (by omega)]
    simp
theorem csb_run (c : BitVec 32) (b : UInt8) : csb c b = run c (bitsOf b) := by
  rw [run_val _ _ (by rw [bitsOf_length]; omega), bitsOf_length, val_bitsOf]; rfl
theorem reg_run (c : BitVec 32) (l : List UInt8) : reg c l = run c (bitsL l) := by
  induction l generalizing c with
  | nil => rfl
  | cons b l ih =>
    show reg (csb c b) l = _
    rw [ih, csb_run, bitsL, run_append]
theorem reg_append (c : BitVec 32) (l m : List UInt8) : reg c (l ++ m) = reg (reg c l) m := List.foldl_append ..

theorem zip_get (l m : List Bool) (h : l.length = m.length) (i : Nat) : (List.zipWith xor l m).getD i false = xor (l.getD i false) (m.getD i false) := by
  induction l generalizing m i with
  | nil =>
    cases m with
    | nil => rfl
    | cons _ _ => cases h
  | cons a l ih =>
    cases m with
    | nil => cases h
    | cons b m =>
      cases i with
      | zero => rfl
      | succ i => simpa using ih m (by simpa using h) i

theorem not_eq {a b : BitVec 32} : ~~~a = ~~~b ↔ a = b :=
  ⟨fun h => by rw [← BitVec.not_not (b := a), h, BitVec.not_not], fun h => by rw [h]⟩
theorem xor_zero {a b : BitVec 32} : a ^^^ b = 0#32 ↔ a = b := by
  refine ⟨fun h => ?_, fun h => by rw [h, BitVec.xor_self]⟩
  have : a ^^^ b ^^^ b = b := by rw [h, BitVec.zero_xor]
  rwa [BitVec.xor_assoc, BitVec.xor_self, BitVec.xor_zero] at this

/-- Two lists of one length that differ only within 32 bits in a row have one checksum exactly if they don't differ. -/
theorem crc_window (s t : List UInt8) (h : s.length = t.length) (a : Int) (hw : ∀ i : Nat, i < 8 * s.length → bitAt s i ≠ bitAt t i → a ≤ i ∧ (i : Int) < a + 32) :
    crc s = crc t ↔ ∀ i, i < 8 * s.length → bitAt s i = bitAt t i := by
  have hl : (bitsL s).length = (bitsL t).length := by rw [bitsL_length, bitsL_length, h]
  have e : crc s = crc t ↔ run 0#32 (List.zipWith xor (bitsL s) (bitsL t)) = 0#32 := by
    have := run_xor 0xffffffff#32 0xffffffff#32 (bitsL s) (bitsL t) hl
    rw [BitVec.xor_self] at this
    rw [this, xor_zero, crc, crc, not_eq, reg_run, reg_run]
  have out : ∀ l : List UInt8, ∀ i, ¬ i < 8 * l.length → bitAt l i = false := by
    intro l i hi
    rw [bitAt, List.getD_eq_getElem?_getD, List.getElem?_eq_none (by omega)]
    simp
  rw [e, run_window _ a.toNat]
  · refine ⟨fun g i _ => ?_, fun g i => ?_⟩
    · have := g i
      rw [zip_get _ _ hl, bitsL_get, bitsL_get] at this
      revert this
      cases bitAt s i <;> cases bitAt t i <;> decide
    · rw [zip_get _ _ hl, bitsL_get, bitsL_get]
      by_cases hi : i < 8 * s.length
      · rw [g i hi]; simp
      · rw [out s i hi, out t i (by omega)]; rfl
  · intro i g
    rw [zip_get _ _ hl, bitsL_get, bitsL_get] at g
    by_cases hi : i < 8 * s.length
    · have := hw i hi (fun e => by rw [e] at g; simp at g)
      omega
    · rw [out s i hi, out t i (by omega)] at g
      cases g

/-- The four bytes of a word, the least significant one first. -/
def le (c : BitVec 32) : List UInt8 := [⟨c.setWidth 8⟩, ⟨(c >>> 8).setWidth 8⟩, ⟨(c >>> 16).setWidth 8⟩, ⟨(c >>> 24).setWidth 8⟩]
theorem val_le (c : BitVec 32) : val (bitsL (le c)) = c := by
  apply BitVec.eq_of_getLsbD_eq
  intro i hi
  rw [val_bit _ _ hi, bitsL_get, bitAt]
  have key : ∀ q, i / 8 = q → q < 4 → ((le c).getD q 0).toBitVec = (c >>> (8 * q)).setWidth 8 := by
    intro q _ hq
    rcases q with _ | _ | _ | _ | q
    · rfl
    · rfl
    · rfl
    · rfl
    · omega
  rw [key _ rfl (by omega), BitVec.getLsbD_setWidth, BitVec.getLsbD_ushiftRight]
  have e : 8 * (i / 8) + i % 8 = i := by omega
  rw [e]
  have : i % 8 < 8 := by omega
  simp [this]
theorem reg_le (r c : BitVec 32) : reg r (le c) = csn 32 (r ^^^ c) := by
  rw [reg_run, run_val _ _ (by rw [bitsL_length]; exact Nat.le_refl 32), val_le, bitsL_length]; rfl
theorem residue_word : csn 32 0xffffffff#32 = ~~~ 1214729159#32 := by decide +kernel
/-- A list and four bytes have the residue exactly if the four bytes are the list's checksum. -/
theorem crc_residue (s : List UInt8) (t : BitVec 32) : crc (s ++ le t) = 1214729159#32 ↔ t = crc s := by
  have e : (1214729159#32 : BitVec 32) = ~~~ csn 32 0xffffffff#32 := by rw [residue_word, BitVec.not_not]
  rw [crc, e, not_eq, reg_append, reg_le, csn_eq, crc]
  generalize reg 0xffffffff#32 s = r
  have n : ∀ x : BitVec 32, ~~~x = x ^^^ 0xffffffff#32 := fun x => by
    have := BitVec.xor_allOnes (x := x)
    exact this.symm
  refine ⟨fun h => ?_, fun h => ?_⟩
  · rw [n, ← h, ← BitVec.xor_assoc, BitVec.xor_self, BitVec.zero_xor]
  · rw [h, n, ← BitVec.xor_assoc, BitVec.xor_self, BitVec.zero_xor]

theorem bitsOf_xor (a b : UInt8) : bitsOf (a ^^^ b) = List.zipWith xor (bitsOf a) (bitsOf b) := by
  simp [bitsOf, List.range_succ]
theorem bitsL_xor (l m : List UInt8) (h : l.length = m.length) : bitsL (List.zipWith (· ^^^ ·) l m) = List.zipWith xor (bitsL l) (bitsL m) := by
  induction l generalizing m with
  | nil =>
    cases m with
    | nil => rfl
    | cons _ _ => cases h
  | cons a l ih =>
    cases m with
    | nil => cases h
    | cons b m =>
      show bitsOf (a ^^^ b) ++ bitsL (List.zipWith (· ^^^ ·) l m) = List.zipWith xor (bitsOf a ++ bitsL l) (bitsOf b ++ bitsL m)
      rw [List.zipWith_append (by rw [bitsOf_length, bitsOf_length]), bitsOf_xor, ih m (by simpa using h)]
/-- The xor of three checksums. -/
theorem crc_xors (a b c : List UInt8) (h1 : a.length = b.length) (h2 : b.length = c.length) :
    crc a ^^^ crc b ^^^ crc c = crc (List.zipWith (· ^^^ ·) (List.zipWith (· ^^^ ·) a b) c) := by
  have ll : (List.zipWith (· ^^^ ·) a b).length = c.length := by rw [List.length_zipWith]; omega
  have e := run_xor (0xffffffff#32 ^^^ 0xffffffff#32) 0xffffffff#32 (bitsL (List.zipWith (· ^^^ ·) a b)) (bitsL c) (by rw [bitsL_length, bitsL_length, ll])
  rw [← bitsL_xor _ _ ll, bitsL_xor a b h1, run_xor _ _ _ _ (by rw [bitsL_length, bitsL_length, h1]), BitVec.xor_self, BitVec.zero_xor] at e
  rw [crc, crc, crc, crc, reg_run _ (List.zipWith _ _ _), e, reg_run, reg_run, reg_run]
  generalize run 0xffffffff#32 (bitsL a) = x
  generalize run 0xffffffff#32 (bitsL b) = y
  generalize run 0xffffffff#32 (bitsL c) = z
  have n : ∀ x : BitVec 32, ~~~x = x ^^^ 0xffffffff#32 := fun x => by
    have := BitVec.xor_allOnes (x := x)
    exact this.symm
  rw [n x, n y, n z, n (x ^^^ y ^^^ z)]
  generalize 0xffffffff#32 = p
  have e2 : ∀ u v : BitVec 32, u ^^^ p ^^^ (v ^^^ p) = u ^^^ v := fun u v => by
    rw [BitVec.xor_assoc, BitVec.xor_comm v p, ← BitVec.xor_assoc p p v, BitVec.xor_self, BitVec.zero_xor]
  rw [e2, ← BitVec.xor_assoc]
end Go.Proofs.Ytihanhdepijijaa.S3.Crc
