/-
  What the rows list of the library's variables: the door's own run meets it, and the walks get it as 'Laid'.
-/
import Derived.Test.YtcbhjagcfbinoaaDoorNumLaw
import Derived.ProofKit
import Derived.LaidMore
import Derived.OpenShut
import Derived.Stop.Joined
import Derived.Stop.LaidErr
import Derived.ShutString
namespace Go.Proofs.YtcbhjagcfbinoaaDoor.S1
open Go.ChangeShapes Go.WideShapes Go.ChangeAt Go.WideMaps Go.WideElems Go.RowKit

def laidL : List (String × DataW Unit) := [("math/bits.deBruijn32tab", Rows.laid_math_bits_deBruijn32tab), ("math/bits.deBruijn64tab", Rows.laid_math_bits_deBruijn64tab), ("internal/strconv.uint64pow10", Rows.laid_internal_strconv_uint64pow10), ("strconv.ErrRange", Rows.laid_strconv_ErrRange), ("strconv.ErrSyntax", Rows.laid_strconv_ErrSyntax)]

theorem own : ownKnob Tryd.prog.godebug = none := by kernel_rfl
theorem tTab : (Tryd.prog.globals[5]?).map (·.type) = some 96 := by kernel_rfl
theorem tSyn : (Tryd.prog.globals[3]?).map (·.type) = some 53 := by kernel_rfl
theorem tRan : (Tryd.prog.globals[4]?).map (·.type) = some 53 := by kernel_rfl
theorem cTab : Tryd.prog.cellsOf 96 = 20 := by kernel_rfl
theorem cU64 : Tryd.prog.cellsOf 56 = 1 := by kernel_rfl
theorem cErr : Tryd.prog.cellsOf 94 = 1 := by kernel_rfl
theorem cStr : Tryd.prog.cellsOf 9 = 1 := by kernel_rfl
theorem star : "*" ++ "errors.errorString" = "*errors.errorString" := by decide
theorem rowErr : ∀ u, Tryd.prog.typeName? 3 u = some "*errors.errorString" → u = 92 := fun u h =>
  typeName_ptr_named (nm := "errors.errorString") (by rw [star]; kernel_rfl) (by kernel_rfl) (by decide) u (by rw [star]; exact h)

def doorSteps : Nat := 72
theorem door_met (os : Os) (args : Array Value) : laidMetH Tryd.prog laidL ((World.doorLaid Tryd.prog doorSteps os).forCall (fun _ _ => 0) ⟨#[], args, []⟩).memory :=
  laidMetH_of_parts3 (fuel := 8) (laidMet_of_run' 8 (by kernel_rfl) (by kernel_rfl)) (by kernel_rfl) (by kernel_rfl)

theorem laid_of {W : World} (h : laidMetH Tryd.prog laidL W) : Laid W := by
  rw [MakeChecks.laidMetH_plain _ _ _ (by kernel_rfl)] at h
  have h3 := h.tail.tail
  obtain ⟨a1, _, hr, _, _, _⟩ := laid_sentinel h3.tail gRan tRan Tryd.underlying53 rowErr Tryd.underlying92 Tryd.underlying94 rfl rfl Tryd.underlying9 cErr cStr
  obtain ⟨a0, _, hs, _, _, _⟩ := laid_sentinel h3.tail.tail gSyn tSyn Tryd.underlying53 rowErr Tryd.underlying92 Tryd.underlying94 rfl rfl Tryd.underlying9 cErr cStr
  exact ⟨Lib.tabIs_of_head gTab tTab Tryd.underlying96 Tryd.underlying56 cU64 cTab h3, ⟨_, _, hs⟩, ⟨_, _, hr⟩⟩
end Go.Proofs.YtcbhjagcfbinoaaDoor.S1
