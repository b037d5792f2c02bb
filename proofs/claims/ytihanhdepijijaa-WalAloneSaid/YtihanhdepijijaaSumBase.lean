/-
  Layer 3 (sum): words for memory, and numbers as words.
-/
import Derived.Test.YtihanhdepijijaaRows
import Derived.Test.YtihanhdepijijaaSumCrc
import Derived.WalkKit
import Derived.WalkSpells
import Derived.WalkLawsBesides
import Derived.Lib.Hide
import Derived.PlainAid
import Derived.Handy
import Derived.Deep.QuietTactic
import Derived.BigQuiet
import Derived.OwnWalk
import Derived.Laws.IdiomStrings
import Derived.Lib.AppendStr
import Derived.LoopTactic
import Derived.Outline
import Derived.IntWalk
import Derived.Laws.BitsAllLaws
namespace Go.Proofs.Ytihanhdepijijaa.S3
open Go.RowKit

/-- The bytes as cells. -/
def U (l : List UInt8) : List Value := l.map fun b => Value.int .u8 b.toNat
/-- The string of these bytes. -/
def B (l : List UInt8) : ByteArray := ⟨l.toArray⟩
theorem B_of (s : ByteArray) : B s.data.toList = s := rfl
theorem U_length (l : List UInt8) : (U l).length = l.length := by simp [U]
theorem U_append (l r : List UInt8) : U (l ++ r) = U l ++ U r := by simp [U]
theorem B_size (l : List UInt8) : (B l).size = l.length := by simp [B, ByteArray.size]
theorem B_eq {a : ByteArray} {l : List UInt8} (h : a.data.toList = l) : a = B l := by
  subst h; rfl
theorem B_drop (l : List UInt8) (k : Nat) : (B l).extract k (B l).size = B (l.drop k) := by
  apply B_eq
  rw [ByteArray.data_extract, Array.toList_extract, B_size]
  simp only [List.extract, B]
  exact List.take_of_length_le (by simp)
theorem B_take (l : List UInt8) (k : Nat) : (B l).extract 0 k = B (l.take k) := by
  apply B_eq
  rw [ByteArray.data_extract, Array.toList_extract]
  simp [List.extract, B]
theorem B_drop' (l : List UInt8) (k : Nat) : (B l).extract k l.length = B (l.drop k) := by rw [← B_drop, B_size]
theorem B_list (l : List UInt8) : (B l).toList = l := by rw [ByteArray.toList_eq]; rfl
theorem B_app (a b : List UInt8) : B a ++ B b = B (a ++ b) := by
  apply B_eq
  rw [ByteArray.data_append, Array.toList_append]
  rfl

/-! ### Words -/
theorem cs1_nat (c : BitVec 32) : (Crc.cs1 c).toNat = if c.toNat % 2 = 1 then (c.toNat / 2) ^^^ 2197175160 else c.toNat / 2 := by
  unfold Crc.cs1
  have h : c.getLsbD 0 = decide (c.toNat % 2 = 1) := by
    rw [BitVec.getLsbD, Nat.testBit_zero]
  have e : (c >>> 1).toNat = c.toNat / 2 := by rw [BitVec.toNat_ushiftRight, Nat.shiftRight_eq_div_pow]
  rw [h]
  by_cases hc : c.toNat % 2 = 1
  · rw [decide_eq_true hc, if_pos rfl, if_pos hc, BitVec.toNat_xor, e]; rfl
  · rw [decide_eq_false hc, if_neg hc, ← e]; rfl
theorem csb_nat (c : BitVec 32) (b : UInt8) : (c ^^^ b.toBitVec.setWidth 32).toNat = c.toNat ^^^ b.toNat := by
  rw [BitVec.toNat_xor, BitVec.toNat_setWidth, Nat.mod_eq_of_lt]
  · rfl
  · have := b.toNat_lt
    exact Nat.lt_of_lt_of_le (show b.toBitVec.toNat < 256 from this) (by decide)
theorem csn_succ (n : Nat) (c : BitVec 32) : Crc.csn (n + 1) c = Crc.cs1 (Crc.csn n c) := by
  rw [Crc.csn_add]; rfl
theorem reg_succ (c : BitVec 32) (l : List UInt8) (k : Nat) (h : k < l.length) : Crc.reg c (l.take (k + 1)) = Crc.csb (Crc.reg c (l.take k)) l[k] := by
  rw [List.take_succ_eq_append_getElem h, Crc.reg_append]; rfl
end Go.Proofs.Ytihanhdepijijaa.S3
