/-
  Layer 3: the program's Crc.
-/
import Derived.Test.YtcbhjagcfbinoaaDoorSumRefCrc
namespace Go.Proofs.YtcbhjagcfbinoaaDoor.S3
open Go.RowKit
attribute [local go_sem] B_size B_drop' B_take B_list B_app

theorem and_one {x : Nat} (h : x < 4294967296) : bits .and .u32 (x : Int) 1 = ((x % 2 : Nat) : Int) := by
  have := u32_and_nat x 1 h (by decide)
  rw [show ((1 : Nat) : Int) = 1 from rfl] at this
  rw [this, Nat.and_one_is_mod]
theorem neg_one' : IntKind.u32.wrap (-1) = 4294967295 := by decide
theorem and_all : bits .and .u32 2197175160 4294967295 = 2197175160 := by decide +kernel
theorem and_none : bits .and .u32 2197175160 0 = 0 := by decide +kernel
theorem xor_none {x : Nat} (h : x < 4294967296) : bits .xor .u32 (x : Int) 0 = (x : Int) := by
  have := u32_xor_nat x 0 h (by decide)
  rw [show ((0 : Nat) : Int) = 0 from rfl] at this
  rw [this, Nat.xor_zero]
theorem not_u32 (c : BitVec 32) : bits .xor .u32 IntKind.u32.max (c.toNat : Int) = ((~~~c).toNat : Nat) := by
  have := u32_xor_nat 4294967295 c.toNat (by decide) c.isLt
  rw [show IntKind.u32.max = ((4294967295 : Nat) : Int) by decide, this, ← BitVec.allOnes_xor, BitVec.toNat_xor]
  rfl

end Go.Proofs.YtcbhjagcfbinoaaDoor.S3
