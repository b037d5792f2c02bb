/-
  SignRef, SignRef2, SignRef3, SignRef4, SignRef5: joined.
-/
import Derived.Test.YtojbicpchjiplaaGreatDoorSignBase
import Derived.Deep.RegionWith
import Derived.Deep.RegionHeld3
import Derived.RegionTactic
/-
  Layer 5: the reference: hash, Secret, Of.
-/
namespace Go.Proofs.YtojbicpchjiplaaGreatDoor.S5
open Go.RowKit
namespace Sg
attribute [local go_sem] S3.B_size S3.B_app

theorem hash_eq (l : List UInt8) : S3.num (S3.Sha.sha l) = hash l := rfl
def keyC (p : Int × Int) : Value := .agg #[.int .i64 p.1, .int .i64 p.2]
theorem tSign_len : tSign.length = 5 := by decide
theorem tNonce_len : tNonce.length = 6 := by decide
theorem encT_len (s : List UInt8) : (S2.Cd.encT s).length ≤ s.length + 9 := by
  have := S2.Cd.encN_len s.length
  unfold S2.Cd.encT
  rw [List.length_append]
  omega
theorem infoKey (x y : Value) : (Tryz.prog.info? 31).map (·.size) = some (#[x, y] : Array Value).size := by
  show (Tryz.prog.info? 31).map (·.size) = some 2
  kernel_rfl
theorem infoSig (x y : Value) : (Tryz.prog.info? 27).map (·.size) = some (#[x, y] : Array Value).size := by
  show (Tryz.prog.info? 27).map (·.size) = some 2
  kernel_rfl
theorem below_setRow {b : Nat} {W w : World} (h : Below b W w) (g : Nat) (hg : b ≤ g) (cs : Array Value) : Below b W (w.setRow g cs) :=
  h.trans ⟨rfl, rfl, rfl, by simp [World.setRow], fun k hk => setRow_other _ _ _ _ (by omega)⟩

end Sg
end Go.Proofs.YtojbicpchjiplaaGreatDoor.S5

/-
  Layer 5: the reference: Right.
-/
namespace Go.Proofs.YtojbicpchjiplaaGreatDoor.S5
open Go.RowKit
namespace Sg
attribute [local go_sem] S3.B_size S3.B_app

theorem cells2 (w : World) (x y : Value) (t : TypeId) : (w.alloc (.cells #[x, y] t)).cell? ⟨w.heap.size, 0, none⟩ = some x ∧ (w.alloc (.cells #[x, y] t)).cell? ⟨w.heap.size, 1, none⟩ = some y := by
  have h := heap_alloc_last w (.cells #[x, y] t)
  exact ⟨by rw [cell_of_row _ _ _ _ _ _ h]; rfl, by rw [cell_of_row _ _ _ _ _ _ h]; rfl⟩

end Sg
end Go.Proofs.YtojbicpchjiplaaGreatDoor.S5

/-
  Layer 5: the reference: Challenge, Commitment, Ranges.
-/
namespace Go.Proofs.YtojbicpchjiplaaGreatDoor.S5
open Go.RowKit
namespace Sg
attribute [local go_sem] S3.B_size S3.B_app

end Sg
end Go.Proofs.YtojbicpchjiplaaGreatDoor.S5

/-
  Layer 5: the reference: Sign, Verify.
-/
namespace Go.Proofs.YtojbicpchjiplaaGreatDoor.S5
open Go.RowKit
namespace Sg
attribute [local go_sem] S3.B_size S3.B_app

theorem verV_eq (y E S : Int) (m : List UInt8) (h : Rg y E S) : verV y m E S = ((chal (comm y E S) y m : Int) == E) := by
  unfold verV
  by_cases he : (chal (comm y E S) y m : Int) = E
  · rw [decide_eq_true ⟨h, he⟩, he]; simp
  · rw [decide_eq_false (fun x => he x.2)]
    exact (beq_eq_false_iff_ne.2 he).symm
theorem comm_in (y E S : Int) : 0 ≤ comm y E S ∧ comm y E S < 2305843009213693951 := by
  unfold comm
  exact ⟨Int.emod_nonneg _ (by decide), Int.emod_lt_of_pos _ (by decide)⟩

end Sg
end Go.Proofs.YtojbicpchjiplaaGreatDoor.S5

/-
  Layer 5: the reference: Sign.
-/
namespace Go.Proofs.YtojbicpchjiplaaGreatDoor.S5
open Go.RowKit
namespace Sg
attribute [local go_sem] S3.B_size S3.B_app

end Sg
end Go.Proofs.YtojbicpchjiplaaGreatDoor.S5
