/-
  Arguments that are structs, opened into their fields.
-/
import Derived.Test.YtojbicpchjiplaaGreatDoorActApp
import Derived.Test.YtojbicpchjiplaaGreatDoorIdentOpen
import Derived.Test.YtojbicpchjiplaaGreatDoorSignBase
import Derived.OpenShut
import Derived.ChangeSame
import Derived.ChangeSlices
import Derived.ChangeArms
import Derived.SizedLaws
namespace Go.Proofs.YtojbicpchjiplaaGreatDoor
open Go.RowKit Go.ChangeShapes Go.WideShapes Go.Deep
namespace Ao
variable {H : Type} {enc : TypeId × Value → H} {w : World}
theorem cells_int : Tryz.prog.cellsOf 3 = 1 := by kernel_rfl
theorem cells_string : Tryz.prog.cellsOf 9 = 1 := by kernel_rfl
theorem cells_bool : Tryz.prog.cellsOf 4 = 1 := by kernel_rfl
theorem str_cell {fuel : Nat} {cs : List Value} {x : DataW H × List MemPlace} (h : DataW.trod enc Tryz.prog w 0 (fun _ => true) true fuel 9 cs = some x) (hz : ∀ n ∈ x.1.weights Tryz.prog 9, n ≤ reachBytes) :
    ∃ a : List UInt8, cs = [.string (S3.B a)] ∧ a.length ≤ 140737488355328 := by
  obtain ⟨s, rfl, rfl, _⟩ := DataW.trod_string Tryz.underlying9 h
  have h1 := hz s.data.toList.length (by simp [DataW.weights])
  have h2 := reachBytes_lt
  exact ⟨s.data.toList, rfl, by omega⟩
theorem int_cell {fuel : Nat} {cs : List Value} {x : DataW H × List MemPlace} (h : DataW.trod enc Tryz.prog w 0 (fun _ => true) true fuel 3 cs = some x) :
    ∃ a : Int, cs = [.int .i64 a] ∧ S4.isI64 a := by
  obtain ⟨z, rfl, rfl, hz⟩ := DataW.trod_int Tryz.underlying3 h
  exact ⟨z, rfl, bounds_i64 hz⟩
theorem bool_cell {fuel : Nat} {cs : List Value} {x : DataW H × List MemPlace} (h : DataW.trod enc Tryz.prog w 0 (fun _ => true) true fuel 4 cs = some x) :
    ∃ a : Bool, cs = [.bool a] := by
  obtain ⟨z, rfl, rfl⟩ := DataW.trod_bool Tryz.underlying4 h
  exact ⟨z, rfl⟩
theorem cells_Box : Tryz.prog.cellsOf 24 = 3 := by kernel_rfl
set_option maxRecDepth 100000 in
theorem open_Box {fuel : Nat} {cs : List Value} {x : DataW H × List MemPlace} (h : DataW.trod enc Tryz.prog w 0 (fun _ => true) true fuel 24 cs = some x) (hz : ∀ n ∈ x.1.weights Tryz.prog 24, n ≤ reachBytes) :
    ∃ (a0 : List UInt8) (a1 : List UInt8) (a2 : List UInt8), cs = [.string (S3.B a0), .string (S3.B a1), .string (S3.B a2)] ∧ a0.length ≤ 140737488355328 ∧ a1.length ≤ 140737488355328 ∧ a2.length ≤ 140737488355328 := by
  obtain ⟨xs, n, rfl, rfl, hlen, hxl, hg⟩ := DataW.trod_struct Tryz.underlying24 h
  rw [cells_Box] at hlen
  have hxl' : xs.length = 3 := hxl
  match cs, hlen with
  | [c0, c1, c2], _ =>
    match xs, hxl' with
    | [x0, x1, x2], _ =>
      have hz' : ∀ n ∈ DataW.weightsEach Tryz.prog [9, 9, 9] [x0.1, x1.1, x2.1], n ≤ reachBytes := by
        intro n hn
        refine hz n ?_
        unfold DataW.weights
        rw [Tryz.underlying24]
        exact hn
      have g0 : DataW.trod enc Tryz.prog w 0 (fun _ => true) true n 9 [c0] = some x0 := by simpa [cells_string] using hg 0 _ rfl
      obtain ⟨a0, e0, p0⟩ := str_cell g0 (fun n hn => hz' n (DataW.weights_mem_each (j := 0) rfl rfl n hn))
      cases e0
      have g1 : DataW.trod enc Tryz.prog w 0 (fun _ => true) true n 9 [c1] = some x1 := by simpa [cells_string] using hg 1 _ rfl
      obtain ⟨a1, e1, p1⟩ := str_cell g1 (fun n hn => hz' n (DataW.weights_mem_each (j := 1) rfl rfl n hn))
      cases e1
      have g2 : DataW.trod enc Tryz.prog w 0 (fun _ => true) true n 9 [c2] = some x2 := by simpa [cells_string] using hg 2 _ rfl
      obtain ⟨a2, e2, p2⟩ := str_cell g2 (fun n hn => hz' n (DataW.weights_mem_each (j := 2) rfl rfl n hn))
      cases e2
      exact ⟨a0, a1, a2, rfl, p0, p1, p2⟩
set_option maxRecDepth 100000 in
theorem openV_Box {v : Value} {d : DataW H} {p : List MemPlace} {b0 : Nat} (hval : Value.okWide Tryz.prog w .any b0 24 v) (h : DataW.Trod enc Tryz.prog w 0 (fun _ => true) true 24 v d p) (hz : ∀ n ∈ d.weights Tryz.prog 24, n ≤ reachBytes) :
    ∃ (a0 : List UInt8) (a1 : List UInt8) (a2 : List UInt8), v = .agg #[.string (S3.B a0), .string (S3.B a1), .string (S3.B a2)] ∧ a0.length ≤ 140737488355328 ∧ a1.length ≤ 140737488355328 ∧ a2.length ≤ 140737488355328 := by
  obtain ⟨cs, rfl, _⟩ := okWide_struct Tryz.underlying24 hval
  obtain ⟨fuel, hf⟩ := h
  obtain ⟨l⟩ := cs
  obtain ⟨a0, a1, a2, e, hp⟩ := open_Box hf hz
  have e' : l = _ := e
  subst e'
  exact ⟨a0, a1, a2, rfl, hp⟩
theorem cells_Sig : Tryz.prog.cellsOf 27 = 2 := by kernel_rfl
set_option maxRecDepth 100000 in
theorem open_Sig {fuel : Nat} {cs : List Value} {x : DataW H × List MemPlace} (h : DataW.trod enc Tryz.prog w 0 (fun _ => true) true fuel 27 cs = some x) (hz : ∀ n ∈ x.1.weights Tryz.prog 27, n ≤ reachBytes) :
    ∃ (a0 : Int) (a1 : Int), cs = [.int .i64 a0, .int .i64 a1] ∧ S4.isI64 a0 ∧ S4.isI64 a1 := by
  obtain ⟨xs, n, rfl, rfl, hlen, hxl, hg⟩ := DataW.trod_struct Tryz.underlying27 h
  rw [cells_Sig] at hlen
  have hxl' : xs.length = 2 := hxl
  match cs, hlen with
  | [c0, c1], _ =>
    match xs, hxl' with
    | [x0, x1], _ =>
      have hz' : ∀ n ∈ DataW.weightsEach Tryz.prog [3, 3] [x0.1, x1.1], n ≤ reachBytes := by
        intro n hn
        refine hz n ?_
        unfold DataW.weights
        rw [Tryz.underlying27]
        exact hn
      have g0 : DataW.trod enc Tryz.prog w 0 (fun _ => true) true n 3 [c0] = some x0 := by simpa [cells_int] using hg 0 _ rfl
      obtain ⟨a0, e0, p0⟩ := int_cell g0
      cases e0
      have g1 : DataW.trod enc Tryz.prog w 0 (fun _ => true) true n 3 [c1] = some x1 := by simpa [cells_int] using hg 1 _ rfl
      obtain ⟨a1, e1, p1⟩ := int_cell g1
      cases e1
      exact ⟨a0, a1, rfl, p0, p1⟩
set_option maxRecDepth 100000 in
theorem openV_Sig {v : Value} {d : DataW H} {p : List MemPlace} {b0 : Nat} (hval : Value.okWide Tryz.prog w .any b0 27 v) (h : DataW.Trod enc Tryz.prog w 0 (fun _ => true) true 27 v d p) (hz : ∀ n ∈ d.weights Tryz.prog 27, n ≤ reachBytes) :
    ∃ (a0 : Int) (a1 : Int), v = .agg #[.int .i64 a0, .int .i64 a1] ∧ S4.isI64 a0 ∧ S4.isI64 a1 := by
  obtain ⟨cs, rfl, _⟩ := okWide_struct Tryz.underlying27 hval
  obtain ⟨fuel, hf⟩ := h
  obtain ⟨l⟩ := cs
  obtain ⟨a0, a1, e, hp⟩ := open_Sig hf hz
  have e' : l = _ := e
  subst e'
  exact ⟨a0, a1, rfl, hp⟩
theorem cells_Key : Tryz.prog.cellsOf 31 = 2 := by kernel_rfl
set_option maxRecDepth 100000 in
theorem open_Key {fuel : Nat} {cs : List Value} {x : DataW H × List MemPlace} (h : DataW.trod enc Tryz.prog w 0 (fun _ => true) true fuel 31 cs = some x) (hz : ∀ n ∈ x.1.weights Tryz.prog 31, n ≤ reachBytes) :
    ∃ (a0 : Int) (a1 : Int), cs = [.int .i64 a0, .int .i64 a1] ∧ S4.isI64 a0 ∧ S4.isI64 a1 := by
  obtain ⟨xs, n, rfl, rfl, hlen, hxl, hg⟩ := DataW.trod_struct Tryz.underlying31 h
  rw [cells_Key] at hlen
  have hxl' : xs.length = 2 := hxl
  match cs, hlen with
  | [c0, c1], _ =>
    match xs, hxl' with
    | [x0, x1], _ =>
      have hz' : ∀ n ∈ DataW.weightsEach Tryz.prog [3, 3] [x0.1, x1.1], n ≤ reachBytes := by
        intro n hn
        refine hz n ?_
        unfold DataW.weights
        rw [Tryz.underlying31]
        exact hn
      have g0 : DataW.trod enc Tryz.prog w 0 (fun _ => true) true n 3 [c0] = some x0 := by simpa [cells_int] using hg 0 _ rfl
      obtain ⟨a0, e0, p0⟩ := int_cell g0
      cases e0
      have g1 : DataW.trod enc Tryz.prog w 0 (fun _ => true) true n 3 [c1] = some x1 := by simpa [cells_int] using hg 1 _ rfl
      obtain ⟨a1, e1, p1⟩ := int_cell g1
      cases e1
      exact ⟨a0, a1, rfl, p0, p1⟩
set_option maxRecDepth 100000 in
theorem openV_Key {v : Value} {d : DataW H} {p : List MemPlace} {b0 : Nat} (hval : Value.okWide Tryz.prog w .any b0 31 v) (h : DataW.Trod enc Tryz.prog w 0 (fun _ => true) true 31 v d p) (hz : ∀ n ∈ d.weights Tryz.prog 31, n ≤ reachBytes) :
    ∃ (a0 : Int) (a1 : Int), v = .agg #[.int .i64 a0, .int .i64 a1] ∧ S4.isI64 a0 ∧ S4.isI64 a1 := by
  obtain ⟨cs, rfl, _⟩ := okWide_struct Tryz.underlying31 hval
  obtain ⟨fuel, hf⟩ := h
  obtain ⟨l⟩ := cs
  obtain ⟨a0, a1, e, hp⟩ := open_Key hf hz
  have e' : l = _ := e
  subst e'
  exact ⟨a0, a1, rfl, hp⟩
theorem cells_Wrap : Tryz.prog.cellsOf 50 = 5 := by kernel_rfl
set_option maxRecDepth 100000 in
theorem open_Wrap {fuel : Nat} {cs : List Value} {x : DataW H × List MemPlace} (h : DataW.trod enc Tryz.prog w 0 (fun _ => true) true fuel 50 cs = some x) (hz : ∀ n ∈ x.1.weights Tryz.prog 50, n ≤ reachBytes) :
    ∃ (a0 : Int) (a1 : Int) (a2 : List UInt8) (a3 : List UInt8) (a4 : List UInt8), cs = [.int .i64 a0, .int .i64 a1, .string (S3.B a2), .string (S3.B a3), .string (S3.B a4)] ∧ S4.isI64 a0 ∧ S4.isI64 a1 ∧ a2.length ≤ 140737488355328 ∧ a3.length ≤ 140737488355328 ∧ a4.length ≤ 140737488355328 := by
  obtain ⟨xs, n, rfl, rfl, hlen, hxl, hg⟩ := DataW.trod_struct Tryz.underlying50 h
  rw [cells_Wrap] at hlen
  have hxl' : xs.length = 3 := hxl
  match cs, hlen with
  | [c0, c1, c2, c3, c4], _ =>
    match xs, hxl' with
    | [x0, x1, x2], _ =>
      have hz' : ∀ n ∈ DataW.weightsEach Tryz.prog [3, 3, 24] [x0.1, x1.1, x2.1], n ≤ reachBytes := by
        intro n hn
        refine hz n ?_
        unfold DataW.weights
        rw [Tryz.underlying50]
        exact hn
      have g0 : DataW.trod enc Tryz.prog w 0 (fun _ => true) true n 3 [c0] = some x0 := by simpa [cells_int] using hg 0 _ rfl
      obtain ⟨a0, e0, p0⟩ := int_cell g0
      cases e0
      have g1 : DataW.trod enc Tryz.prog w 0 (fun _ => true) true n 3 [c1] = some x1 := by simpa [cells_int] using hg 1 _ rfl
      obtain ⟨a1, e1, p1⟩ := int_cell g1
      cases e1
      have g2 : DataW.trod enc Tryz.prog w 0 (fun _ => true) true n 24 [c2, c3, c4] = some x2 := by simpa [cells_Box] using hg 2 _ rfl
      obtain ⟨a2, a3, a4, e2, p2, p3, p4⟩ := open_Box g2 (fun n hn => hz' n (DataW.weights_mem_each (j := 2) rfl rfl n hn))
      cases e2
      exact ⟨a0, a1, a2, a3, a4, rfl, p0, p1, p2, p3, p4⟩
set_option maxRecDepth 100000 in
theorem openV_Wrap {v : Value} {d : DataW H} {p : List MemPlace} {b0 : Nat} (hval : Value.okWide Tryz.prog w .any b0 50 v) (h : DataW.Trod enc Tryz.prog w 0 (fun _ => true) true 50 v d p) (hz : ∀ n ∈ d.weights Tryz.prog 50, n ≤ reachBytes) :
    ∃ (a0 : Int) (a1 : Int) (a2 : List UInt8) (a3 : List UInt8) (a4 : List UInt8), v = .agg #[.int .i64 a0, .int .i64 a1, .string (S3.B a2), .string (S3.B a3), .string (S3.B a4)] ∧ S4.isI64 a0 ∧ S4.isI64 a1 ∧ a2.length ≤ 140737488355328 ∧ a3.length ≤ 140737488355328 ∧ a4.length ≤ 140737488355328 := by
  obtain ⟨cs, rfl, _⟩ := okWide_struct Tryz.underlying50 hval
  obtain ⟨fuel, hf⟩ := h
  obtain ⟨l⟩ := cs
  obtain ⟨a0, a1, a2, a3, a4, e, hp⟩ := open_Wrap hf hz
  have e' : l = _ := e
  subst e'
  exact ⟨a0, a1, a2, a3, a4, rfl, hp⟩
theorem bytes_wrap : Tryz.prog.bytesOf 50 = 64 := by kernel_rfl
theorem cells_strs : Tryz.prog.cellsOf 22 = 1 := by kernel_rfl
theorem cells_wraps : Tryz.prog.cellsOf 25 = 1 := by kernel_rfl
theorem cells_Act : Tryz.prog.cellsOf 29 = 20 := by kernel_rfl
theorem list_of {P : Nat → Ax.Wr → Prop} : ∀ n, (∀ i, i < n → ∃ v, P i v) → ∃ vs : List Ax.Wr, vs.length = n ∧ ∀ (i : Nat) (h : i < vs.length), P i vs[i]
  | 0, _ => ⟨[], rfl, fun i h => absurd h (by simp)⟩
  | n + 1, h => by
    obtain ⟨vs, hl, hp⟩ := list_of n (fun i hi => h i (by omega))
    obtain ⟨v, hv⟩ := h n (by omega)
    refine ⟨vs ++ [v], by simp [hl], fun i hi => ?_⟩
    rw [List.length_append, List.length_singleton] at hi
    rcases Nat.lt_or_ge i vs.length with h1 | h1
    · rw [List.getElem_append_left h1]; exact hp i h1
    · have e : i = vs.length := by omega
      subst e
      rw [List.getElem_append_right (Nat.le_refl _)]
      simp only [Nat.sub_self, List.getElem_singleton]
      rw [hl]
      exact hv
/-- The cells of a wrap at a place. -/
def WrC (w : World) (a : Addr) (i : Nat) (x : Ax.Wr) : Prop := ∀ k u, k < 5 → (Ax.wc x)[k]? = some u → w.cell? (a.add (5 * i + k)) = some u
theorem Ws_all {w : World} {a : Addr} : ∀ (l : List Ax.Wr), (∀ (i : Nat) (h : i < l.length), WrC w a i l[i]) → ∀ j u, (Ax.Ws l)[j]? = some u → w.cell? (a.add j) = some u := by
  intro l h j u hu
  have hj : j < 5 * l.length := by
    have := (List.getElem?_eq_some_iff.1 hu).1
    rwa [Ax.Ws_len] at this
  have hq : j / 5 < l.length := by omega
  have hs := Ax.Ws_get l (j / 5) (j % 5) hq (by omega)
  rw [show 5 * (j / 5) + j % 5 = j by omega] at hs
  have := h (j / 5) hq (j % 5) u (by omega) (hs.symm.trans hu)
  rwa [show 5 * (j / 5) + j % 5 = j by omega] at this
set_option maxRecDepth 100000 in
theorem open_wraps {fuel : Nat} {v : Value} {x : DataW H × List MemPlace} (h : DataW.trod enc Tryz.prog w 0 (fun _ => true) true fuel 25 [v] = some x) (hz : ∀ n ∈ x.1.weights Tryz.prog 25, n ≤ reachBytes) :
    ∃ (Q : Option Addr) (cap : Nat) (l : List Ax.Wr), v = .slice Q l.length cap ∧ S2.Row w w.heap.size Q (Ax.Ws l) ∧ l.length ≤ cap ∧ l.length ≤ 140737488355328 ∧ ∀ y ∈ l, y.box.nonce.length ≤ 281474976710656 ∧ y.box.data.length ≤ 281474976710656 ∧ y.box.tag.length ≤ 281474976710656 := by
  rcases open_slice Tryz.underlying25 h with ⟨hc, _⟩ | ⟨a, len, cap, m, n, D, Pl, hc, _, hl, hm, hmm, hx, hi⟩
  · injection hc with hc _
    exact ⟨none, 0, [], hc, .inl rfl, Nat.le_refl _, by decide, fun y hy => by cases hy⟩
  · injection hc with hc _
    simp only [if_true] at hmm
    rw [cells_Wrap] at hi
    have hwt : ∀ i, i < len → ∀ k ∈ (D i).weights Tryz.prog 50, k ≤ reachBytes := fun i hil k hk => hz k (by
      rw [hx]
      unfold DataW.weights
      rw [Tryz.underlying25]
      refine List.mem_cons_of_mem _ (List.mem_append_left _ ?_)
      exact S11.Idt.weights_mem_all (d := D i) (List.mem_map.2 ⟨i, by simp; omega, rfl⟩) _ hk)
    obtain ⟨l, hlen, hp⟩ := list_of (P := fun i x => WrC w a i x ∧ x.box.nonce.length ≤ 140737488355328 ∧ x.box.data.length ≤ 140737488355328 ∧ x.box.tag.length ≤ 140737488355328) len (fun i hil => by
      obtain ⟨cs', hcs, ht⟩ := hi i (by omega)
      obtain ⟨t, e, s1, s2, s3, hcs', _, _, z1, z2, z3⟩ := open_Wrap ht (hwt i hil)
      obtain ⟨_, hcl, hat⟩ := World.cells?_some hcs
      refine ⟨⟨t, e, ⟨s1, s2, s3⟩⟩, fun k u hk hu => ?_, z1, z2, z3⟩
      have h1 := hat k (by omega)
      rw [Go.Deep.add_add] at h1
      rw [Nat.mul_comm 5 i, h1, hcs']
      exact hu)
    have hsz : len ≤ 140737488355328 := by
      have h1 := hz ((((List.range len).map D).length + ((List.range (m - len)).map fun j => D (len + j)).length) * Tryz.prog.bytesOf 50) (by
        rw [hx]
        unfold DataW.weights
        rw [Tryz.underlying25]
        exact List.mem_cons_self)
      rw [bytes_wrap] at h1
      have h2 := reachBytes_lt
      simp at h1
      omega
    refine ⟨some a, cap, l, by rw [hlen]; exact hc, ?_, by omega, by omega, fun y hy => ?_⟩
    · rcases Nat.eq_zero_or_pos len with h0 | h0
      · left
        rw [List.eq_nil_of_length_eq_zero (by omega : l.length = 0)]
        rfl
      · refine .inr ⟨a, rfl, ?_, Ws_all l (fun i h => (hp i h).1)⟩
        have h1 := (hp 0 (by omega)).1 0 _ (by omega) rfl
        have := World.block_lt_of_cell? w _ h1
        rw [S2.add_block] at this
        exact this
    · obtain ⟨i, hi2, rfl⟩ := List.mem_iff_getElem.1 hy
      have := (hp i hi2).2
      omega
theorem cons_of {α : Type} {l : List α} {n : Nat} (h : l.length = n + 1) : ∃ x r, l = x :: r ∧ r.length = n := by
  cases l with
  | nil => simp at h
  | cons x r => exact ⟨x, r, rfl, by simpa using h⟩
set_option maxRecDepth 100000 in
set_option maxHeartbeats 1000000 in
theorem open_act {fuel : Nat} {cs : List Value} {x : DataW H × List MemPlace} (h : DataW.trod enc Tryz.prog w 0 (fun _ => true) true fuel 29 cs = some x) (hz : ∀ n ∈ x.1.weights Tryz.prog 29, n ≤ reachBytes) :
    ∃ (a : Ax.Ac) (e s : Int) (A : Option Addr) (nA cA : Nat) (Q : Option Addr) (nQ cQ : Nat), cs = Ax.cellsA a e s A nA cA Q nQ cQ ∧ Ax.Ap w w.heap.size a A nA cA Q nQ cQ ∧ Ax.Sz 281474976710656 140737488355328 a := by
  obtain ⟨xs, n, rfl, rfl, hlen, hxl, hg⟩ := DataW.trod_struct Tryz.underlying29 h
  rw [cells_Act] at hlen
  have hxl' : xs.length = 17 := hxl
  obtain ⟨c0, l0, rfl, m0⟩ := cons_of hlen
  obtain ⟨c1, l1, rfl, m1⟩ := cons_of m0
  obtain ⟨c2, l2, rfl, m2⟩ := cons_of m1
  obtain ⟨c3, l3, rfl, m3⟩ := cons_of m2
  obtain ⟨c4, l4, rfl, m4⟩ := cons_of m3
  obtain ⟨c5, l5, rfl, m5⟩ := cons_of m4
  obtain ⟨c6, l6, rfl, m6⟩ := cons_of m5
  obtain ⟨c7, l7, rfl, m7⟩ := cons_of m6
  obtain ⟨c8, l8, rfl, m8⟩ := cons_of m7
  obtain ⟨c9, l9, rfl, m9⟩ := cons_of m8
  obtain ⟨c10, l10, rfl, m10⟩ := cons_of m9
  obtain ⟨c11, l11, rfl, m11⟩ := cons_of m10
  obtain ⟨c12, l12, rfl, m12⟩ := cons_of m11
  obtain ⟨c13, l13, rfl, m13⟩ := cons_of m12
  obtain ⟨c14, l14, rfl, m14⟩ := cons_of m13
  obtain ⟨c15, l15, rfl, m15⟩ := cons_of m14
  obtain ⟨c16, l16, rfl, m16⟩ := cons_of m15
  obtain ⟨c17, l17, rfl, m17⟩ := cons_of m16
  obtain ⟨c18, l18, rfl, m18⟩ := cons_of m17
  obtain ⟨c19, l19, rfl, m19⟩ := cons_of m18
  obtain rfl := List.eq_nil_of_length_eq_zero m19
  obtain ⟨x0, k0, rfl, u0⟩ := cons_of hxl'
  obtain ⟨x1, k1, rfl, u1⟩ := cons_of u0
  obtain ⟨x2, k2, rfl, u2⟩ := cons_of u1
  obtain ⟨x3, k3, rfl, u3⟩ := cons_of u2
  obtain ⟨x4, k4, rfl, u4⟩ := cons_of u3
  obtain ⟨x5, k5, rfl, u5⟩ := cons_of u4
  obtain ⟨x6, k6, rfl, u6⟩ := cons_of u5
  obtain ⟨x7, k7, rfl, u7⟩ := cons_of u6
  obtain ⟨x8, k8, rfl, u8⟩ := cons_of u7
  obtain ⟨x9, k9, rfl, u9⟩ := cons_of u8
  obtain ⟨x10, k10, rfl, u10⟩ := cons_of u9
  obtain ⟨x11, k11, rfl, u11⟩ := cons_of u10
  obtain ⟨x12, k12, rfl, u12⟩ := cons_of u11
  obtain ⟨x13, k13, rfl, u13⟩ := cons_of u12
  obtain ⟨x14, k14, rfl, u14⟩ := cons_of u13
  obtain ⟨x15, k15, rfl, u15⟩ := cons_of u14
  obtain ⟨x16, k16, rfl, u16⟩ := cons_of u15
  obtain rfl := List.eq_nil_of_length_eq_zero u16
  have hz' : ∀ n ∈ DataW.weightsEach Tryz.prog [9, 3, 9, 3, 3, 9, 9, 3, 9, 22, 9, 24, 3, 25, 3, 3, 27] [x0.1, x1.1, x2.1, x3.1, x4.1, x5.1, x6.1, x7.1, x8.1, x9.1, x10.1, x11.1, x12.1, x13.1, x14.1, x15.1, x16.1], n ≤ reachBytes := by
    intro n hn
    refine hz n ?_
    unfold DataW.weights
    rw [Tryz.underlying29]
    exact hn
  have g0 : DataW.trod enc Tryz.prog w 0 (fun _ => true) true n 9 [c0] = some x0 := by simpa [cells_string] using hg 0 _ rfl
  obtain ⟨a0, e0, p0⟩ := str_cell g0 (fun n hn => hz' n (DataW.weights_mem_each (j := 0) rfl rfl n hn))
  cases e0
  have g1 : DataW.trod enc Tryz.prog w 0 (fun _ => true) true n 3 [c1] = some x1 := by simpa [cells_int] using hg 1 _ rfl
  obtain ⟨a1, e1, _⟩ := int_cell g1
  cases e1
  have g2 : DataW.trod enc Tryz.prog w 0 (fun _ => true) true n 9 [c2] = some x2 := by simpa [cells_string] using hg 2 _ rfl
  obtain ⟨a2, e2, p2⟩ := str_cell g2 (fun n hn => hz' n (DataW.weights_mem_each (j := 2) rfl rfl n hn))
  cases e2
  have g3 : DataW.trod enc Tryz.prog w 0 (fun _ => true) true n 3 [c3] = some x3 := by simpa [cells_int] using hg 3 _ rfl
  obtain ⟨a3, e3, _⟩ := int_cell g3
  cases e3
  have g4 : DataW.trod enc Tryz.prog w 0 (fun _ => true) true n 3 [c4] = some x4 := by simpa [cells_int] using hg 4 _ rfl
  obtain ⟨a4, e4, _⟩ := int_cell g4
  cases e4
  have g5 : DataW.trod enc Tryz.prog w 0 (fun _ => true) true n 9 [c5] = some x5 := by simpa [cells_string] using hg 5 _ rfl
  obtain ⟨a5, e5, p5⟩ := str_cell g5 (fun n hn => hz' n (DataW.weights_mem_each (j := 5) rfl rfl n hn))
  cases e5
  have g6 : DataW.trod enc Tryz.prog w 0 (fun _ => true) true n 9 [c6] = some x6 := by simpa [cells_string] using hg 6 _ rfl
  obtain ⟨a6, e6, p6⟩ := str_cell g6 (fun n hn => hz' n (DataW.weights_mem_each (j := 6) rfl rfl n hn))
  cases e6
  have g7 : DataW.trod enc Tryz.prog w 0 (fun _ => true) true n 3 [c7] = some x7 := by simpa [cells_int] using hg 7 _ rfl
  obtain ⟨a7, e7, _⟩ := int_cell g7
  cases e7
  have g8 : DataW.trod enc Tryz.prog w 0 (fun _ => true) true n 9 [c8] = some x8 := by simpa [cells_string] using hg 8 _ rfl
  obtain ⟨a8, e8, p8⟩ := str_cell g8 (fun n hn => hz' n (DataW.weights_mem_each (j := 8) rfl rfl n hn))
  cases e8
  have g9 : DataW.trod enc Tryz.prog w 0 (fun _ => true) true n 22 [c9] = some x9 := by simpa [cells_strs] using hg 9 _ rfl
  obtain ⟨A, cA, lA, eA, LA⟩ := S11.Idt.open_list g9 (fun n hn => hz' n (DataW.weights_mem_each (j := 9) rfl rfl n hn))
  cases eA
  have g10 : DataW.trod enc Tryz.prog w 0 (fun _ => true) true n 9 [c10] = some x10 := by simpa [cells_string] using hg 10 _ rfl
  obtain ⟨a10, e10, p10⟩ := str_cell g10 (fun n hn => hz' n (DataW.weights_mem_each (j := 10) rfl rfl n hn))
  cases e10
  have g11 : DataW.trod enc Tryz.prog w 0 (fun _ => true) true n 24 [c11, c12, c13] = some x11 := by simpa [cells_Box] using hg 11 _ rfl
  obtain ⟨a11, a12, a13, e11, p11, p12, p13⟩ := open_Box g11 (fun n hn => hz' n (DataW.weights_mem_each (j := 11) rfl rfl n hn))
  cases e11
  have g12 : DataW.trod enc Tryz.prog w 0 (fun _ => true) true n 3 [c14] = some x12 := by simpa [cells_int] using hg 12 _ rfl
  obtain ⟨a14, e12, _⟩ := int_cell g12
  cases e12
  have g13 : DataW.trod enc Tryz.prog w 0 (fun _ => true) true n 25 [c15] = some x13 := by simpa [cells_wraps] using hg 13 _ rfl
  obtain ⟨Q, cQ, lQ, eQ, rQ, hQ, zQ, bQ⟩ := open_wraps g13 (fun n hn => hz' n (DataW.weights_mem_each (j := 13) rfl rfl n hn))
  cases eQ
  have g14 : DataW.trod enc Tryz.prog w 0 (fun _ => true) true n 3 [c16] = some x14 := by simpa [cells_int] using hg 14 _ rfl
  obtain ⟨a16, e14, _⟩ := int_cell g14
  cases e14
  have g15 : DataW.trod enc Tryz.prog w 0 (fun _ => true) true n 3 [c17] = some x15 := by simpa [cells_int] using hg 15 _ rfl
  obtain ⟨a17, e15, _⟩ := int_cell g15
  cases e15
  have g16 : DataW.trod enc Tryz.prog w 0 (fun _ => true) true n 27 [c18, c19] = some x16 := by simpa [cells_Sig] using hg 16 _ rfl
  obtain ⟨a18, a19, e16, _, _⟩ := open_Sig g16 (fun n hn => hz' n (DataW.weights_mem_each (j := 16) rfl rfl n hn))
  cases e16
  exact ⟨⟨a0, a1, a2, a3, a4, a5, a6, a7, a8, lA, a10, ⟨a11, a12, a13⟩, a14, lQ, a16, a17⟩, a18, a19, A, lA.length, cA, Q, lQ.length, cQ, rfl, ⟨rfl, LA.cap, LA.row, rfl, hQ, rQ, Nat.le_refl _⟩,
    ⟨Nat.le_trans p0 (by decide), Nat.le_trans p2 (by decide), Nat.le_trans p5 (by decide), Nat.le_trans p6 (by decide), Nat.le_trans p8 (by decide), Nat.le_trans p10 (by decide), Nat.le_trans p11 (by decide), Nat.le_trans p12 (by decide), Nat.le_trans p13 (by decide), LA.len, LA.each, zQ, bQ⟩⟩
set_option maxRecDepth 100000 in
theorem openV_Act {v : Value} {d : DataW H} {p : List MemPlace} {b0 : Nat} (hval : Value.okWide Tryz.prog w .any b0 29 v) (h : DataW.Trod enc Tryz.prog w 0 (fun _ => true) true 29 v d p) (hz : ∀ n ∈ d.weights Tryz.prog 29, n ≤ reachBytes) :
    ∃ (a : Ax.Ac) (e s : Int) (A : Option Addr) (nA cA : Nat) (Q : Option Addr) (nQ cQ : Nat), v = Ax.vA a e s A nA cA Q nQ cQ ∧ Ax.Ap w w.heap.size a A nA cA Q nQ cQ ∧ Ax.Sz 281474976710656 140737488355328 a := by
  obtain ⟨cs, rfl, _⟩ := okWide_struct Tryz.underlying29 hval
  obtain ⟨fuel, hf⟩ := h
  obtain ⟨l⟩ := cs
  obtain ⟨a, e, s, A, nA, cA, Q, nQ, cQ, he, h1, h2⟩ := open_act hf hz
  have e' : l = _ := he
  subst e'
  exact ⟨a, e, s, A, nA, cA, Q, nQ, cQ, rfl, h1, h2⟩
end Ao
end Go.Proofs.YtojbicpchjiplaaGreatDoor
