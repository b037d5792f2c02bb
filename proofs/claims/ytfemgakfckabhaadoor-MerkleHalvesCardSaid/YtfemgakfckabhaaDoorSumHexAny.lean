/-
  Layer 3: the program's Hex.
-/
import Derived.Test.YtfemgakfckabhaaDoorSumRefHex
import Derived.OwnWalk
namespace Go.Proofs.YtfemgakfckabhaaDoor.S3
open Go.RowKit
attribute [local go_sem] B_size B_drop' B_take B_list B_app

theorem and_15 {b : Nat} (hb : b < 256) : bits .and .u8 (b : Int) 15 = ((b % 16 : Nat) : Int) := by
  have := u8_and_nat b 15 hb (by decide)
  rw [show ((15 : Nat) : Int) = 15 from rfl] at this
  rw [this, show (15 : Nat) = 2 ^ 4 - 1 from rfl, Nat.and_two_pow_sub_one_eq_mod]
/-- What a make of the call's own leaves. -/
theorem below_grown {w w' : World} (hg : w.grownBy w' none) : Below w.heap.size w w' :=
  (Below.refl _ _).grown hg (Nat.le_refl _) (fun _ hk => by cases hk)

end Go.Proofs.YtfemgakfckabhaaDoor.S3
