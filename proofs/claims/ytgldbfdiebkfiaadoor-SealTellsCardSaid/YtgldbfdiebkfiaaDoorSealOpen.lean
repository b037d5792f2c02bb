/-
  Arguments that are structs, opened into their fields.
-/
import Derived.Test.YtgldbfdiebkfiaaDoorSignBase
import Derived.OpenShut
import Derived.ChangeSame
import Derived.ChangeSlices
import Derived.ChangeArms
import Derived.SizedLaws
namespace Go.Proofs.YtgldbfdiebkfiaaDoor
open Go.RowKit Go.ChangeShapes Go.WideShapes
namespace Se
variable {H : Type} {enc : TypeId × Value → H} {w : World}
theorem cells_int : Tryd.prog.cellsOf 3 = 1 := by kernel_rfl
theorem cells_string : Tryd.prog.cellsOf 9 = 1 := by kernel_rfl
theorem cells_bool : Tryd.prog.cellsOf 4 = 1 := by kernel_rfl
theorem str_cell {fuel : Nat} {cs : List Value} {x : DataW H × List MemPlace} (h : DataW.trod enc Tryd.prog w 0 (fun _ => true) true fuel 9 cs = some x) (hz : ∀ n ∈ x.1.weights Tryd.prog 9, n ≤ reachBytes) :
    ∃ a : List UInt8, cs = [.string (S3.B a)] ∧ a.length ≤ 140737488355328 := by
  obtain ⟨s, rfl, rfl, _⟩ := DataW.trod_string Tryd.underlying9 h
  have h1 := hz s.data.toList.length (by simp [DataW.weights])
  have h2 := reachBytes_lt
  exact ⟨s.data.toList, rfl, by omega⟩
theorem int_cell {fuel : Nat} {cs : List Value} {x : DataW H × List MemPlace} (h : DataW.trod enc Tryd.prog w 0 (fun _ => true) true fuel 3 cs = some x) :
    ∃ a : Int, cs = [.int .i64 a] ∧ S4.isI64 a := by
  obtain ⟨z, rfl, rfl, hz⟩ := DataW.trod_int Tryd.underlying3 h
  exact ⟨z, rfl, bounds_i64 hz⟩
theorem bool_cell {fuel : Nat} {cs : List Value} {x : DataW H × List MemPlace} (h : DataW.trod enc Tryd.prog w 0 (fun _ => true) true fuel 4 cs = some x) :
    ∃ a : Bool, cs = [.bool a] := by
  obtain ⟨z, rfl, rfl⟩ := DataW.trod_bool Tryd.underlying4 h
  exact ⟨z, rfl⟩
theorem cells_Box : Tryd.prog.cellsOf 23 = 3 := by kernel_rfl
theorem open_Box {fuel : Nat} {cs : List Value} {x : DataW H × List MemPlace} (h : DataW.trod enc Tryd.prog w 0 (fun _ => true) true fuel 23 cs = some x) (hz : ∀ n ∈ x.1.weights Tryd.prog 23, n ≤ reachBytes) :
    ∃ (a0 : List UInt8) (a1 : List UInt8) (a2 : List UInt8), cs = [.string (S3.B a0), .string (S3.B a1), .string (S3.B a2)] ∧ a0.length ≤ 140737488355328 ∧ a1.length ≤ 140737488355328 ∧ a2.length ≤ 140737488355328 := by
  obtain ⟨xs, n, rfl, rfl, hlen, hxl, hg⟩ := DataW.trod_struct Tryd.underlying23 h
  rw [cells_Box] at hlen
  have hxl' : xs.length = 3 := hxl
  match cs, hlen with
  | [c0, c1, c2], _ =>
    match xs, hxl' with
    | [x0, x1, x2], _ =>
      have hz' : ∀ n ∈ DataW.weightsEach Tryd.prog [9, 9, 9] [x0.1, x1.1, x2.1], n ≤ reachBytes := by
        intro n hn
        refine hz n ?_
        unfold DataW.weights
        rw [Tryd.underlying23]
        exact hn
      have g0 : DataW.trod enc Tryd.prog w 0 (fun _ => true) true n 9 [c0] = some x0 := by simpa [cells_string] using hg 0 _ rfl
      obtain ⟨a0, e0, p0⟩ := str_cell g0 (fun n hn => hz' n (DataW.weights_mem_each (j := 0) rfl rfl n hn))
      cases e0
      have g1 : DataW.trod enc Tryd.prog w 0 (fun _ => true) true n 9 [c1] = some x1 := by simpa [cells_string] using hg 1 _ rfl
      obtain ⟨a1, e1, p1⟩ := str_cell g1 (fun n hn => hz' n (DataW.weights_mem_each (j := 1) rfl rfl n hn))
      cases e1
      have g2 : DataW.trod enc Tryd.prog w 0 (fun _ => true) true n 9 [c2] = some x2 := by simpa [cells_string] using hg 2 _ rfl
      obtain ⟨a2, e2, p2⟩ := str_cell g2 (fun n hn => hz' n (DataW.weights_mem_each (j := 2) rfl rfl n hn))
      cases e2
      exact ⟨a0, a1, a2, rfl, p0, p1, p2⟩
theorem openV_Box {v : Value} {d : DataW H} {p : List MemPlace} {b0 : Nat} (hval : Value.okWide Tryd.prog w .any b0 23 v) (h : DataW.Trod enc Tryd.prog w 0 (fun _ => true) true 23 v d p) (hz : ∀ n ∈ d.weights Tryd.prog 23, n ≤ reachBytes) :
    ∃ (a0 : List UInt8) (a1 : List UInt8) (a2 : List UInt8), v = .agg #[.string (S3.B a0), .string (S3.B a1), .string (S3.B a2)] ∧ a0.length ≤ 140737488355328 ∧ a1.length ≤ 140737488355328 ∧ a2.length ≤ 140737488355328 := by
  obtain ⟨cs, rfl, _⟩ := okWide_struct Tryd.underlying23 hval
  obtain ⟨fuel, hf⟩ := h
  obtain ⟨l⟩ := cs
  obtain ⟨a0, a1, a2, e, hp⟩ := open_Box hf hz
  have e' : l = _ := e
  subst e'
  exact ⟨a0, a1, a2, rfl, hp⟩
theorem cells_Wrap : Tryd.prog.cellsOf 25 = 5 := by kernel_rfl
theorem open_Wrap {fuel : Nat} {cs : List Value} {x : DataW H × List MemPlace} (h : DataW.trod enc Tryd.prog w 0 (fun _ => true) true fuel 25 cs = some x) (hz : ∀ n ∈ x.1.weights Tryd.prog 25, n ≤ reachBytes) :
    ∃ (a0 : Int) (a1 : Int) (a2 : List UInt8) (a3 : List UInt8) (a4 : List UInt8), cs = [.int .i64 a0, .int .i64 a1, .string (S3.B a2), .string (S3.B a3), .string (S3.B a4)] ∧ S4.isI64 a0 ∧ S4.isI64 a1 ∧ a2.length ≤ 140737488355328 ∧ a3.length ≤ 140737488355328 ∧ a4.length ≤ 140737488355328 := by
  obtain ⟨xs, n, rfl, rfl, hlen, hxl, hg⟩ := DataW.trod_struct Tryd.underlying25 h
  rw [cells_Wrap] at hlen
  have hxl' : xs.length = 3 := hxl
  match cs, hlen with
  | [c0, c1, c2, c3, c4], _ =>
    match xs, hxl' with
    | [x0, x1, x2], _ =>
      have hz' : ∀ n ∈ DataW.weightsEach Tryd.prog [3, 3, 23] [x0.1, x1.1, x2.1], n ≤ reachBytes := by
        intro n hn
        refine hz n ?_
        unfold DataW.weights
        rw [Tryd.underlying25]
        exact hn
      have g0 : DataW.trod enc Tryd.prog w 0 (fun _ => true) true n 3 [c0] = some x0 := by simpa [cells_int] using hg 0 _ rfl
      obtain ⟨a0, e0, p0⟩ := int_cell g0
      cases e0
      have g1 : DataW.trod enc Tryd.prog w 0 (fun _ => true) true n 3 [c1] = some x1 := by simpa [cells_int] using hg 1 _ rfl
      obtain ⟨a1, e1, p1⟩ := int_cell g1
      cases e1
      have g2 : DataW.trod enc Tryd.prog w 0 (fun _ => true) true n 23 [c2, c3, c4] = some x2 := by simpa [cells_Box] using hg 2 _ rfl
      obtain ⟨a2, a3, a4, e2, p2, p3, p4⟩ := open_Box g2 (fun n hn => hz' n (DataW.weights_mem_each (j := 2) rfl rfl n hn))
      cases e2
      exact ⟨a0, a1, a2, a3, a4, rfl, p0, p1, p2, p3, p4⟩
theorem openV_Wrap {v : Value} {d : DataW H} {p : List MemPlace} {b0 : Nat} (hval : Value.okWide Tryd.prog w .any b0 25 v) (h : DataW.Trod enc Tryd.prog w 0 (fun _ => true) true 25 v d p) (hz : ∀ n ∈ d.weights Tryd.prog 25, n ≤ reachBytes) :
    ∃ (a0 : Int) (a1 : Int) (a2 : List UInt8) (a3 : List UInt8) (a4 : List UInt8), v = .agg #[.int .i64 a0, .int .i64 a1, .string (S3.B a2), .string (S3.B a3), .string (S3.B a4)] ∧ S4.isI64 a0 ∧ S4.isI64 a1 ∧ a2.length ≤ 140737488355328 ∧ a3.length ≤ 140737488355328 ∧ a4.length ≤ 140737488355328 := by
  obtain ⟨cs, rfl, _⟩ := okWide_struct Tryd.underlying25 hval
  obtain ⟨fuel, hf⟩ := h
  obtain ⟨l⟩ := cs
  obtain ⟨a0, a1, a2, a3, a4, e, hp⟩ := open_Wrap hf hz
  have e' : l = _ := e
  subst e'
  exact ⟨a0, a1, a2, a3, a4, rfl, hp⟩
theorem cells_Case : Tryd.prog.cellsOf 27 = 13 := by kernel_rfl
theorem open_Case {fuel : Nat} {cs : List Value} {x : DataW H × List MemPlace} (h : DataW.trod enc Tryd.prog w 0 (fun _ => true) true fuel 27 cs = some x) (hz : ∀ n ∈ x.1.weights Tryd.prog 27, n ≤ reachBytes) :
    ∃ (a0 : List UInt8) (a1 : List UInt8) (a2 : List UInt8) (a3 : List UInt8) (a4 : List UInt8) (a5 : List UInt8) (a6 : Int) (a7 : Int) (a8 : Int) (a9 : Int) (a10 : List UInt8) (a11 : List UInt8) (a12 : List UInt8), cs = [.string (S3.B a0), .string (S3.B a1), .string (S3.B a2), .string (S3.B a3), .string (S3.B a4), .string (S3.B a5), .int .i64 a6, .int .i64 a7, .int .i64 a8, .int .i64 a9, .string (S3.B a10), .string (S3.B a11), .string (S3.B a12)] ∧ a0.length ≤ 140737488355328 ∧ a1.length ≤ 140737488355328 ∧ a2.length ≤ 140737488355328 ∧ a3.length ≤ 140737488355328 ∧ a4.length ≤ 140737488355328 ∧ a5.length ≤ 140737488355328 ∧ S4.isI64 a6 ∧ S4.isI64 a7 ∧ S4.isI64 a8 ∧ S4.isI64 a9 ∧ a10.length ≤ 140737488355328 ∧ a11.length ≤ 140737488355328 ∧ a12.length ≤ 140737488355328 := by
  obtain ⟨xs, n, rfl, rfl, hlen, hxl, hg⟩ := DataW.trod_struct Tryd.underlying27 h
  rw [cells_Case] at hlen
  have hxl' : xs.length = 7 := hxl
  match cs, hlen with
  | [c0, c1, c2, c3, c4, c5, c6, c7, c8, c9, c10, c11, c12], _ =>
    match xs, hxl' with
    | [x0, x1, x2, x3, x4, x5, x6], _ =>
      have hz' : ∀ n ∈ DataW.weightsEach Tryd.prog [9, 9, 9, 23, 3, 3, 25] [x0.1, x1.1, x2.1, x3.1, x4.1, x5.1, x6.1], n ≤ reachBytes := by
        intro n hn
        refine hz n ?_
        unfold DataW.weights
        rw [Tryd.underlying27]
        exact hn
      have g0 : DataW.trod enc Tryd.prog w 0 (fun _ => true) true n 9 [c0] = some x0 := by simpa [cells_string] using hg 0 _ rfl
      obtain ⟨a0, e0, p0⟩ := str_cell g0 (fun n hn => hz' n (DataW.weights_mem_each (j := 0) rfl rfl n hn))
      cases e0
      have g1 : DataW.trod enc Tryd.prog w 0 (fun _ => true) true n 9 [c1] = some x1 := by simpa [cells_string] using hg 1 _ rfl
      obtain ⟨a1, e1, p1⟩ := str_cell g1 (fun n hn => hz' n (DataW.weights_mem_each (j := 1) rfl rfl n hn))
      cases e1
      have g2 : DataW.trod enc Tryd.prog w 0 (fun _ => true) true n 9 [c2] = some x2 := by simpa [cells_string] using hg 2 _ rfl
      obtain ⟨a2, e2, p2⟩ := str_cell g2 (fun n hn => hz' n (DataW.weights_mem_each (j := 2) rfl rfl n hn))
      cases e2
      have g3 : DataW.trod enc Tryd.prog w 0 (fun _ => true) true n 23 [c3, c4, c5] = some x3 := by simpa [cells_Box] using hg 3 _ rfl
      obtain ⟨a3, a4, a5, e3, p3, p4, p5⟩ := open_Box g3 (fun n hn => hz' n (DataW.weights_mem_each (j := 3) rfl rfl n hn))
      cases e3
      have g4 : DataW.trod enc Tryd.prog w 0 (fun _ => true) true n 3 [c6] = some x4 := by simpa [cells_int] using hg 4 _ rfl
      obtain ⟨a6, e4, p6⟩ := int_cell g4
      cases e4
      have g5 : DataW.trod enc Tryd.prog w 0 (fun _ => true) true n 3 [c7] = some x5 := by simpa [cells_int] using hg 5 _ rfl
      obtain ⟨a7, e5, p7⟩ := int_cell g5
      cases e5
      have g6 : DataW.trod enc Tryd.prog w 0 (fun _ => true) true n 25 [c8, c9, c10, c11, c12] = some x6 := by simpa [cells_Wrap] using hg 6 _ rfl
      obtain ⟨a8, a9, a10, a11, a12, e6, p8, p9, p10, p11, p12⟩ := open_Wrap g6 (fun n hn => hz' n (DataW.weights_mem_each (j := 6) rfl rfl n hn))
      cases e6
      exact ⟨a0, a1, a2, a3, a4, a5, a6, a7, a8, a9, a10, a11, a12, rfl, p0, p1, p2, p3, p4, p5, p6, p7, p8, p9, p10, p11, p12⟩
theorem openV_Case {v : Value} {d : DataW H} {p : List MemPlace} {b0 : Nat} (hval : Value.okWide Tryd.prog w .any b0 27 v) (h : DataW.Trod enc Tryd.prog w 0 (fun _ => true) true 27 v d p) (hz : ∀ n ∈ d.weights Tryd.prog 27, n ≤ reachBytes) :
    ∃ (a0 : List UInt8) (a1 : List UInt8) (a2 : List UInt8) (a3 : List UInt8) (a4 : List UInt8) (a5 : List UInt8) (a6 : Int) (a7 : Int) (a8 : Int) (a9 : Int) (a10 : List UInt8) (a11 : List UInt8) (a12 : List UInt8), v = .agg #[.string (S3.B a0), .string (S3.B a1), .string (S3.B a2), .string (S3.B a3), .string (S3.B a4), .string (S3.B a5), .int .i64 a6, .int .i64 a7, .int .i64 a8, .int .i64 a9, .string (S3.B a10), .string (S3.B a11), .string (S3.B a12)] ∧ a0.length ≤ 140737488355328 ∧ a1.length ≤ 140737488355328 ∧ a2.length ≤ 140737488355328 ∧ a3.length ≤ 140737488355328 ∧ a4.length ≤ 140737488355328 ∧ a5.length ≤ 140737488355328 ∧ S4.isI64 a6 ∧ S4.isI64 a7 ∧ S4.isI64 a8 ∧ S4.isI64 a9 ∧ a10.length ≤ 140737488355328 ∧ a11.length ≤ 140737488355328 ∧ a12.length ≤ 140737488355328 := by
  obtain ⟨cs, rfl, _⟩ := okWide_struct Tryd.underlying27 hval
  obtain ⟨fuel, hf⟩ := h
  obtain ⟨l⟩ := cs
  obtain ⟨a0, a1, a2, a3, a4, a5, a6, a7, a8, a9, a10, a11, a12, e, hp⟩ := open_Case hf hz
  have e' : l = _ := e
  subst e'
  exact ⟨a0, a1, a2, a3, a4, a5, a6, a7, a8, a9, a10, a11, a12, rfl, hp⟩
end Se
end Go.Proofs.YtgldbfdiebkfiaaDoor
