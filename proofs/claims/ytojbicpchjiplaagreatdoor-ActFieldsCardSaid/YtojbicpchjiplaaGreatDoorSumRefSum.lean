/-
  SumRefWordsAll, SumRefNext, SumRefSum: joined.
-/
import Derived.Test.YtojbicpchjiplaaGreatDoorSumRefWords
import Derived.Test.YtojbicpchjiplaaGreatDoorSumAbs
import Derived.Test.YtojbicpchjiplaaGreatDoorSumPad
/-
  Layer 3: the reference's schedule, whatever the room behind the block.
-/
namespace Go.Proofs.YtojbicpchjiplaaGreatDoor.S3
open Go.RowKit Sha

end Go.Proofs.YtojbicpchjiplaaGreatDoor.S3

/-
  Layer 3: the reference's next.
-/
namespace Go.Proofs.YtojbicpchjiplaaGreatDoor.S3
open Go.RowKit Sha
attribute [local go_sem] B_size B_drop' B_take B_list B_app

end Go.Proofs.YtojbicpchjiplaaGreatDoor.S3

/-
  Layer 3: the reference's Sha.
-/
namespace Go.Proofs.YtojbicpchjiplaaGreatDoor.S3
open Go.RowKit Sha
attribute [local go_sem] B_size B_drop' B_take B_list B_app

theorem blocks_length (p : List UInt8) (n : Nat) : (blocks p n).length = 8 := by
  induction n with
  | zero => rfl
  | succ n ih => rw [blocks]; exact next_length _ _ ih

end Go.Proofs.YtojbicpchjiplaaGreatDoor.S3
