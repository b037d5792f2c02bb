/-
  Layer 11: from the row's first world to what the package reads.
-/
import Derived.Test.YtcbhjagcfbinoaaDoorIdentLaid
import Derived.Test.YtcbhjagcfbinoaaDoorIdentFun
import Derived.Test.YtcbhjagcfbinoaaDoorShelf
namespace Go.Proofs.YtcbhjagcfbinoaaDoor
open Go.RowKit
namespace Idt
theorem laid_of {W : World} (hL : laidMetH Tryd.prog laidL W) (hs : W.ShapedOpen Tryd.prog) : Laid W :=
  ⟨laid_num hL, laid_sum hL, Tryd.laysM145.s1_3 W hs⟩
theorem pk_of {W : World} (hL : laidMetH Tryd.prog laidL W) (hs : W.ShapedOpen Tryd.prog) : Pk idOf W := pk (laid_of hL hs)
end Idt
end Go.Proofs.YtcbhjagcfbinoaaDoor
