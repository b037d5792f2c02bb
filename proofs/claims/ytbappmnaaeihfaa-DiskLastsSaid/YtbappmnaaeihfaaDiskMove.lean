/-
  Layer 9 (disk): a machine beside another.
-/
import Derived.Test.YtbappmnaaeihfaaDiskDo
import Derived.Deep.RegionHeld3
namespace Go.Proofs.Ytbappmnaaeihfaa
open Go.RowKit
namespace Dk
/-- What is the machine's lies among the blocks that are as they were; Y names none of it. -/
theorem Dk.move {X Y : Nat → Prop} {w w' : World} {p : Nat} {D : MD} (h : Dk X w p D) (hk : ∀ k, k < w.heap.size → ¬ X k → w'.heap[k]? = w.heap[k]?) (hlt : ∀ k, Y k → k < w'.heap.size) (hY : ∀ k, Y k → X k ∨ w.heap.size ≤ k) : Dk Y w' p D := by
  obtain ⟨ho, vs, hv⟩ := h
  have hl : ∀ i, i < 8 → ∀ g, (vs i).ownBlock = some g → g < w.heap.size ∧ ¬ X g := fun i hi g hg => ⟨own_lt (hv.own i hi) hg, hv.offX i hi g hg⟩
  obtain ⟨cur, h1, h2⟩ := hv.blk
  refine ⟨ho, vs, ⟨cur, (hk p hv.p_lt hv.pX).trans h1, h2⟩, fun i hi => own_keep (hv.own i hi) (fun g hg => hk g (hl i hi g hg).1 (hl i hi g hg).2), hv.offp, fun i hi g hg hy => ?_, hv.apart, fun hy => ?_, hlt⟩
  · rcases hY g hy with h3 | h3
    · exact (hl i hi g hg).2 h3
    · have := (hl i hi g hg).1
      omega
  · rcases hY p hy with h3 | h3
    · exact hv.pX h3
    · have := hv.p_lt
      omega
end Dk
end Go.Proofs.Ytbappmnaaeihfaa
