/-
  Layer 5: the laws' arguments that are structs of two ints, opened.
-/
import Derived.Test.YtlcgcpjhmbbgfaaDoorSignBase
import Derived.OpenShut
import Derived.ChangeSame
import Derived.ChangeSlices
namespace Go.Proofs.YtlcgcpjhmbbgfaaDoor
open Go.RowKit Go.ChangeShapes Go.WideShapes
namespace Sg
variable {H : Type} {enc : TypeId × Value → H} {w : World}
theorem cells_int : Tryd.prog.cellsOf 3 = 1 := by kernel_rfl
theorem cells_key : Tryd.prog.cellsOf 23 = 2 := by kernel_rfl
theorem cells_sig : Tryd.prog.cellsOf 30 = 2 := by kernel_rfl
theorem openPair {n : Nat} {a0 a1 : Value} {xs : List (DataW H × List MemPlace)} (hl : xs.length = 2) (h0 : DataW.trod enc Tryd.prog w 0 (fun _ => true) true n 3 [a0] = xs[0]?) (h1 : DataW.trod enc Tryd.prog w 0 (fun _ => true) true n 3 [a1] = xs[1]?) :
    ∃ x y : Int, a0 = .int .i64 x ∧ a1 = .int .i64 y ∧ S4.isI64 x ∧ S4.isI64 y := by
  rw [List.getElem?_eq_getElem (by omega)] at h0 h1
  obtain ⟨x, e0, _, w0⟩ := DataW.trod_int Tryd.underlying3 h0
  obtain ⟨y, e1, _, w1⟩ := DataW.trod_int Tryd.underlying3 h1
  injection e0 with e0 _
  injection e1 with e1 _
  exact ⟨x, y, e0, e1, bounds_i64 w0, bounds_i64 w1⟩
theorem openKey {v : Value} {d : DataW H} {p : List MemPlace} {b0 : Nat} (hval : Value.okWide Tryd.prog w .any b0 23 v) (h : DataW.Trod enc Tryd.prog w 0 (fun _ => true) true 23 v d p) :
    ∃ x y : Int, v = .agg #[.int .i64 x, .int .i64 y] ∧ S4.isI64 x ∧ S4.isI64 y := by
  obtain ⟨cs, rfl, _⟩ := okWide_struct Tryd.underlying23 hval
  obtain ⟨fuel, hf⟩ := h
  obtain ⟨xs, n, _, _, hlen, hxl, hg⟩ := DataW.trod_struct Tryd.underlying23 hf
  rw [cells_key] at hlen
  have hxl' : xs.length = 2 := hxl
  obtain ⟨l⟩ := cs
  match l, hlen with
  | [a0, a1], _ =>
    have h0 : DataW.trod enc Tryd.prog w 0 (fun _ => true) true n 3 [a0] = xs[0]? := by have := hg 0 _ rfl; simpa [cells_int, Value.cells] using this
    have h1 : DataW.trod enc Tryd.prog w 0 (fun _ => true) true n 3 [a1] = xs[1]? := by have := hg 1 _ rfl; simpa [cells_int, Value.cells] using this
    obtain ⟨x, y, rfl, rfl, wx, wy⟩ := openPair hxl' h0 h1
    exact ⟨x, y, rfl, wx, wy⟩
theorem openSig {v : Value} {d : DataW H} {p : List MemPlace} {b0 : Nat} (hval : Value.okWide Tryd.prog w .any b0 30 v) (h : DataW.Trod enc Tryd.prog w 0 (fun _ => true) true 30 v d p) :
    ∃ x y : Int, v = .agg #[.int .i64 x, .int .i64 y] ∧ S4.isI64 x ∧ S4.isI64 y := by
  obtain ⟨cs, rfl, _⟩ := okWide_struct Tryd.underlying30 hval
  obtain ⟨fuel, hf⟩ := h
  obtain ⟨xs, n, _, _, hlen, hxl, hg⟩ := DataW.trod_struct Tryd.underlying30 hf
  rw [cells_sig] at hlen
  have hxl' : xs.length = 2 := hxl
  obtain ⟨l⟩ := cs
  match l, hlen with
  | [a0, a1], _ =>
    have h0 : DataW.trod enc Tryd.prog w 0 (fun _ => true) true n 3 [a0] = xs[0]? := by have := hg 0 _ rfl; simpa [cells_int, Value.cells] using this
    have h1 : DataW.trod enc Tryd.prog w 0 (fun _ => true) true n 3 [a1] = xs[1]? := by have := hg 1 _ rfl; simpa [cells_int, Value.cells] using this
    obtain ⟨x, y, rfl, rfl, wx, wy⟩ := openPair hxl' h0 h1
    exact ⟨x, y, rfl, wx, wy⟩
end Sg
end Go.Proofs.YtlcgcpjhmbbgfaaDoor
