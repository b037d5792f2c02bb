/-
  Layer 11: what the rows list of variables, stages 1 and 3 together: the door's own run meets it, and the walks get it as both stages' 'Laid'.
-/
import Derived.Test.YtcbhjagcfbinoaaDoorNumLaid
import Derived.Test.YtcbhjagcfbinoaaDoorSumLaid
namespace Go.Proofs.YtcbhjagcfbinoaaDoor
open Go.ChangeShapes Go.WideShapes Go.ChangeAt Go.WideMaps Go.WideElems Go.RowKit
namespace Idt
def laidL : List (String × DataW Unit) := [("math/bits.deBruijn32tab", Rows.laid_math_bits_deBruijn32tab), ("math/bits.deBruijn64tab", Rows.laid_math_bits_deBruijn64tab), ("agora/sum.constants", Rows.laid_agora_sum_constants), ("agora/sum.initial", Rows.laid_agora_sum_initial), ("internal/strconv.uint64pow10", Rows.laid_internal_strconv_uint64pow10), ("strconv.ErrRange", Rows.laid_strconv_ErrRange), ("strconv.ErrSyntax", Rows.laid_strconv_ErrSyntax)]
theorem two_eq : [("agora/sum.constants", (Rows.laid_agora_sum_constants : DataW Unit)), ("agora/sum.initial", Rows.laid_agora_sum_initial)] = [("agora/sum.constants", Lib.tabData .u32 S3.conZ), ("agora/sum.initial", Lib.tabData .u32 S3.iniZ)] := S3.laidL_eq
theorem laidL_eq : laidL = [("math/bits.deBruijn32tab", Rows.laid_math_bits_deBruijn32tab), ("math/bits.deBruijn64tab", Rows.laid_math_bits_deBruijn64tab), ("agora/sum.constants", Lib.tabData .u32 S3.conZ), ("agora/sum.initial", Lib.tabData .u32 S3.iniZ), ("internal/strconv.uint64pow10", Rows.laid_internal_strconv_uint64pow10), ("strconv.ErrRange", Rows.laid_strconv_ErrRange), ("strconv.ErrSyntax", Rows.laid_strconv_ErrSyntax)] := by kernel_rfl
def doorSteps : Nat := 72
theorem door_met (os : Os) (args : Array Value) : laidMetH Tryd.prog laidL ((World.doorLaid Tryd.prog doorSteps os).forCall (fun _ _ => 0) ⟨#[], args, []⟩).memory :=
  laidMetH_of_parts3 (fuel := 8) (laidMet_of_run' 8 (by kernel_rfl) (by kernel_rfl)) (by kernel_rfl) (by kernel_rfl)
open S1 in
theorem laid_num {W : World} (h : laidMetH Tryd.prog laidL W) : S1.Laid W := by
  rw [MakeChecks.laidMetH_plain _ _ _ (by kernel_rfl)] at h
  have h3 := h.tail.tail.tail.tail
  obtain ⟨a1, _, hr, _, _, _⟩ := laid_sentinel h3.tail gRan tRan Tryd.underlying53 rowErr Tryd.underlying92 Tryd.underlying94 rfl rfl Tryd.underlying9 cErr cStr
  obtain ⟨a0, _, hs, _, _, _⟩ := laid_sentinel h3.tail.tail gSyn tSyn Tryd.underlying53 rowErr Tryd.underlying92 Tryd.underlying94 rfl rfl Tryd.underlying9 cErr cStr
  exact ⟨Lib.tabIs_of_head gTab tTab Tryd.underlying96 Tryd.underlying56 cU64 cTab h3, ⟨_, _, hs⟩, ⟨_, _, hr⟩⟩
open S3 in
theorem laid_sum {W : World} (h : laidMetH Tryd.prog laidL W) : S3.Laid W := by
  rw [MakeChecks.laidMetH_plain _ _ _ (by kernel_rfl), laidL_eq] at h
  have h0 := h.tail.tail
  have h1 := Lib.tabIs_of_head gCon tCon Tryd.underlying62 Tryd.underlying44 cU32 cCon h0
  have h2 := Lib.tabIs_of_head gIni tIni Tryd.underlying45 Tryd.underlying44 cU32 cIni h0.tail
  have hcon : ∀ j, j < 64 → W.cell? ⟨1, j, none⟩ = some (.int .u32 ((Sha.adds.getD j 0).toNat : Nat)) := by
    intro j hj
    have hl : j < Sha.adds.length := by rw [Sha.adds_length]; exact hj
    rw [Lib.TabIs.cell h1 gCon j (by rw [conZ, List.length_map]; exact hl), conZ, List.getD_eq_getElem?_getD, List.getD_eq_getElem?_getD, List.getElem?_map, List.getElem?_eq_getElem hl]
    rfl
  have hini : ∃ t fr, W.heap[0]? = some (.cells (Ws Sha.firsts).toArray t fr) := by
    rw [← iniZ_row]
    unfold Lib.TabIs World.var? at h2
    rw [gIni] at h2
    simp only [Option.bind_some] at h2
    split at h2
    · rename_i cs t fr hh
      injection h2 with h2
      exact ⟨t, fr, by rw [hh, h2]⟩
    · cases h2
  obtain ⟨t, fr, hi⟩ := hini
  exact ⟨hcon, ⟨t, fr, hi⟩, World.block_lt_of_cell? W _ (hcon 0 (by decide)), (Array.getElem?_eq_some_iff.1 hi).1⟩
end Idt
end Go.Proofs.YtcbhjagcfbinoaaDoor
