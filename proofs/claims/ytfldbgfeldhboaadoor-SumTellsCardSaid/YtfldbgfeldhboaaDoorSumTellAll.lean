/-
  Layer 3: SumTells' walk.
-/
import Derived.Test.YtfldbgfeldhboaaDoorSumTell
import Derived.Test.YtfldbgfeldhboaaDoorSumRefSum
namespace Go.Proofs.YtfldbgfeldhboaaDoor
open Go.RowKit

theorem sumTells_walk (s : ByteArray) (w : World) (hW : Laid w) (hs : s.size ≤ 281474976710656) :
    Calls Tryd.prog 3 #[.string s] w fun e w' => e = .returned (.bool true) ∧ Good w w' :=
  tells_walk s.data.toList w hs hW (fun h w => refSha_any s.data.toList w h)
end Go.Proofs.YtfldbgfeldhboaaDoor
