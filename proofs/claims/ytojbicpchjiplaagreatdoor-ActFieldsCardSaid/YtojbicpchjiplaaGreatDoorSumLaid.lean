/-
  What the rows list of the program's variables: the door's own run meets it, and the walks get it as 'Laid'.
-/
import Derived.Test.YtojbicpchjiplaaGreatDoorSumAbs
import Derived.Test.YtojbicpchjiplaaGreatDoorCards
import Derived.ProofKit
import Derived.LaidMore
import Derived.OpenShut
import Derived.Stop.Joined
import Derived.Stop.LaidErr
import Derived.ShutString
import Derived.Lib.Strings
namespace Go.Proofs.YtojbicpchjiplaaGreatDoor.S3
open Go.ChangeShapes Go.WideShapes Go.ChangeAt Go.WideMaps Go.WideElems Go.RowKit

def laidL : List (String × DataW Unit) := [("agora/sum.constants", Rows.laid_agora_sum_constants), ("agora/sum.initial", Rows.laid_agora_sum_initial)]
def conZ : List Int := Sha.adds.map fun x => (x.toNat : Int)
def iniZ : List Int := Sha.firsts.map fun x => (x.toNat : Int)

theorem own : ownKnob Tryz.prog.godebug = none := by kernel_rfl
theorem gCon : Tryz.prog.globalNamed "agora/sum.constants" = some 1 := by kernel_rfl
theorem gIni : Tryz.prog.globalNamed "agora/sum.initial" = some 0 := by kernel_rfl
theorem tCon : (Tryz.prog.globals[1]?).map (·.type) = some 137 := by kernel_rfl
theorem tIni : (Tryz.prog.globals[0]?).map (·.type) = some 129 := by kernel_rfl
theorem cCon : Tryz.prog.cellsOf 137 = 64 := by kernel_rfl
theorem cIni : Tryz.prog.cellsOf 129 = 8 := by kernel_rfl
theorem cU32 : Tryz.prog.cellsOf 127 = 1 := by kernel_rfl
theorem laidL_eq : laidL = [("agora/sum.constants", Lib.tabData .u32 conZ), ("agora/sum.initial", Lib.tabData .u32 iniZ)] := by kernel_rfl
theorem iniZ_row : (iniZ.map fun z => Value.int .u32 z).toArray = (Ws Sha.firsts).toArray := by
  rw [iniZ, Ws, List.map_map]; rfl

def doorSteps : Nat := 19
theorem door_met (os : Os) (args : Array Value) : laidMetH Tryz.prog laidL ((World.doorLaid Tryz.prog doorSteps os).forCall (fun _ _ => 0) ⟨#[], args, []⟩).memory :=
  laidMetH_of_parts3 (fuel := 8) (laidMet_of_run' 8 (by kernel_rfl) (by kernel_rfl)) (by kernel_rfl) (by kernel_rfl)

theorem laid_of {W : World} (h : laidMetH Tryz.prog laidL W) : Laid W := by
  rw [MakeChecks.laidMetH_plain _ _ _ (by kernel_rfl), laidL_eq] at h
  have h1 := Lib.tabIs_of_head gCon tCon Tryz.underlying137 Tryz.underlying127 cU32 cCon h
  have h2 := Lib.tabIs_of_head gIni tIni Tryz.underlying129 Tryz.underlying127 cU32 cIni h.tail
  have hcon : ∀ j, j < 64 → W.cell? ⟨1, j, none⟩ = some (.int .u32 ((Sha.adds.getD j 0).toNat : Nat)) := by
    intro j hj
    have hl : j < Sha.adds.length := by rw [Sha.adds_length]; exact hj
    rw [Lib.TabIs.cell h1 gCon j (by rw [conZ, List.length_map]; exact hl), conZ, List.getD_eq_getElem?_getD, List.getD_eq_getElem?_getD, List.getElem?_map, List.getElem?_eq_getElem hl]
    rfl
  have hini : ∃ t fr, W.heap[0]? = some (.cells (Ws Sha.firsts).toArray t fr) := by
    rw [← iniZ_row]
    unfold Lib.TabIs World.var? at h2
    rw [gIni] at h2
    simp only [Option.bind_some] at h2
    split at h2
    · rename_i cs t fr hh
      injection h2 with h2
      exact ⟨t, fr, by rw [hh, h2]⟩
    · cases h2
  obtain ⟨t, fr, hi⟩ := hini
  exact ⟨hcon, ⟨t, fr, hi⟩, World.block_lt_of_cell? W _ (hcon 0 (by decide)), (Array.getElem?_eq_some_iff.1 hi).1⟩

/-- What a law's walk leaves. -/
structure Good (w w' : World) : Prop where
  one : True
  two : Below w.heap.size w w'
theorem Good.of {w w' : World} (h : Below w.heap.size w w') : Good w w' := ⟨trivial, h⟩
end Go.Proofs.YtojbicpchjiplaaGreatDoor.S3
