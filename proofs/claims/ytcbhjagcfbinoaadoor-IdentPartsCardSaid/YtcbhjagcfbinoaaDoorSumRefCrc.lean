/-
  Layer 3: the document's own Crc (agoraref03).
-/
import Derived.Test.YtcbhjagcfbinoaaDoorSumMem
namespace Go.Proofs.YtcbhjagcfbinoaaDoor.S3
open Go.RowKit
attribute [local go_sem] B_size B_drop' B_take B_list B_app

theorem crc_odd {c : BitVec 32} {x : Nat} (hx : c.toNat = x) (ho : x % 2 = 1) : bits .xor .u32 ((x : Int) / 2) 2197175160 = ((Crc.cs1 c).toNat : Nat) := by
  have h := c.isLt
  have e := u32_xor_nat (x / 2) 2197175160 (by omega) (by decide)
  have e2 : ((x / 2 : Nat) : Int) = (x : Int) / 2 := by omega
  rw [cs1_nat, hx, if_pos ho, ← e2]
  exact e
theorem crc_not (c : BitVec 32) : (((~~~c).toNat : Nat) : Int) = 4294967295 - (c.toNat : Int) := by
  have h := c.isLt
  rw [BitVec.toNat_not]
  omega
theorem crc_even {c : BitVec 32} {x : Nat} (hx : c.toNat = x) (ho : x % 2 ≠ 1) : (x : Int) / 2 = ((Crc.cs1 c).toNat : Nat) := by
  rw [cs1_nat, hx, if_neg ho]
  omega

end Go.Proofs.YtcbhjagcfbinoaaDoor.S3
