/-
  SumRefCrc, SumCrcAny, SumRefHex, SumHexAny: joined.
-/
import Derived.Test.YtojbicpchjiplaaGreatDoorSumMem
import Derived.OwnWalk
/-
  Layer 3: the document's own Crc (agoraref03).
-/
namespace Go.Proofs.YtojbicpchjiplaaGreatDoor.S3
open Go.RowKit
attribute [local go_sem] B_size B_drop' B_take B_list B_app

end Go.Proofs.YtojbicpchjiplaaGreatDoor.S3

/-
  Layer 3: the program's Crc.
-/
namespace Go.Proofs.YtojbicpchjiplaaGreatDoor.S3
open Go.RowKit
attribute [local go_sem] B_size B_drop' B_take B_list B_app

theorem and_one {x : Nat} (h : x < 4294967296) : bits .and .u32 (x : Int) 1 = ((x % 2 : Nat) : Int) := by
  have := u32_and_nat x 1 h (by decide)
  rw [show ((1 : Nat) : Int) = 1 from rfl] at this
  rw [this, Nat.and_one_is_mod]
theorem not_u32 (c : BitVec 32) : bits .xor .u32 IntKind.u32.max (c.toNat : Int) = ((~~~c).toNat : Nat) := by
  have := u32_xor_nat 4294967295 c.toNat (by decide) c.isLt
  rw [show IntKind.u32.max = ((4294967295 : Nat) : Int) by decide, this, ← BitVec.allOnes_xor, BitVec.toNat_xor]
  rfl

end Go.Proofs.YtojbicpchjiplaaGreatDoor.S3

/-
  Layer 3: the document's own Hex (agoraref03).
-/
namespace Go.Proofs.YtojbicpchjiplaaGreatDoor.S3
open Go.RowKit
attribute [local go_sem] B_size B_drop' B_take B_list B_app

end Go.Proofs.YtojbicpchjiplaaGreatDoor.S3

/-
  Layer 3: the program's Hex.
-/
namespace Go.Proofs.YtojbicpchjiplaaGreatDoor.S3
open Go.RowKit
attribute [local go_sem] B_size B_drop' B_take B_list B_app

/-- What a make of the call's own leaves. -/
theorem below_grown {w w' : World} (hg : w.grownBy w' none) : Below w.heap.size w w' :=
  (Below.refl _ _).grown hg (Nat.le_refl _) (fun _ hk => by cases hk)

end Go.Proofs.YtojbicpchjiplaaGreatDoor.S3
