/-
  Layer 2: the law's own 'read'.
-/
import Derived.Test.YtcgbamloemdilaaCodeVal
namespace Go.Proofs.Ytcgbamloemdilaa
open Go.RowKit
open Cd
attribute [local go_sem] B_size B_drop' B_take B_list B_app

def z0 : Sm := (0, [], [], [])
/-- A value of kind m is read: v; the reader is left behind it. -/
def RdRes (p m : Nat) (st : St) (W : World) (e : Ending) (w' : World) : Prop :=
  ∃ v : Vl, e = .returned (.agg v.cells) ∧ v.k = m ∧ v.sm m = val z0 (st.bind (decV m)) ∧ (v.ls = (val z0 (st.bind (decV m))).2.2.1 ∧ v.zs = (val z0 (st.bind (decV m))).2.2.2 ∧ v.s = (val z0 (st.bind (decV m))).2.1 ∧ v.n = (val z0 (st.bind (decV m))).1) ∧
    v.In w' w'.heap.size ∧ Rd 59 w' p (rest (st.bind (decV m))) ∧ W.grownBy w' (some p)
theorem rd_alloc {T : TypeId} {w : World} {g : Nat} {s : St} (h : Rd T w g s) (o : Obj) : Rd T (w.alloc o) g s := (Below.heap_alloc w o g (blk_lt h)).trans h
theorem rd_far {T : TypeId} {w : World} {g b i : Nat} {s : St} {u : Value} (h : Rd T w g s) (hne : g ≠ b) : Rd T (w.setCell ⟨b, i, none⟩ u) g s := (Below.heap_setCell w ⟨b, i, none⟩ u g hne).trans h
theorem grown_far {a w : World} {row : Option Nat} {b i : Nat} {u : Value} (h : a.grownBy w row) (hb : a.heap.size ≤ b) : a.grownBy (w.setCell ⟨b, i, none⟩ u) row :=
  ⟨h.os, h.tape, h.output, by simpa [World.setCell] using h.size, fun k hk hne => (Below.heap_setCell w ⟨b, i, none⟩ u k (by rintro rfl; exact absurd hk (by simpa using hb))).trans (h.block k hk hne)⟩
/-- Two blocks more are laid, and then the reader alone is written, and what is new. -/
theorem grown_two {w w1 : World} {p : Nat} {o o' : Obj} (h : ((w.alloc o).alloc o').grownBy w1 (some p)) : w.grownBy w1 (some p) := by
  have hz := h.size
  simp only [World.size_alloc] at hz
  refine ⟨h.os, h.tape, h.output, by omega, fun k hk hne => ?_⟩
  rw [h.block k (by simp; omega) hne, Below.heap_alloc _ _ _ (by simp; omega), Below.heap_alloc _ _ _ hk]
theorem blk_two {w w1 : World} {p : Nat} {cs cs' : Array Value} {T : TypeId} (h : ((w.alloc (.cells cs T)).alloc (.cells cs' T)).grownBy w1 (some p)) (hp : p < w.heap.size) :
    w1.heap[w.heap.size]? = some (.cells cs T (0, 0)) ∧ w1.heap[w.heap.size + 1]? = some (.cells cs' T (0, 0)) := by
  constructor
  · rw [h.block _ (by simp; omega) (by simp; omega), Below.heap_alloc _ _ _ (by simp)]
    exact heap_alloc_new w _
  · rw [h.block _ (by simp) (by simp; omega)]
    have := heap_alloc_new (w.alloc (.cells cs T)) (.cells cs' T)
    simpa using this
theorem row_far {w : World} {bd b i : Nat} {A : Option Addr} {xs : List Value} {u : Value} {lo : Nat} (h : RowIn w lo bd A xs) (hb : b < lo) : RowIn (w.setCell ⟨b, i, none⟩ u) lo bd A xs := by
  rcases h with h | ⟨a, rfl, h1, h2, hc⟩
  · exact .inl h
  · exact .inr ⟨a, rfl, h1, h2, fun j x hx => (World.cell?_setCell_other w ⟨b, i, none⟩ (a.add j) u (fun e => by
      have e2 : (a.add j).block = b := by rw [← e]
      rw [add_block] at e2
      omega)).trans (hc j x hx)⟩

set_option maxHeartbeats 4000000 in
set_option maxRecDepth 100000 in
theorem read0 (p : Nat) (st : St) (w : World) (h : Rd 59 w p st) (hl : (lft st).length ≤ 1099511627776) :
    Calls Try.prog 44 #[.pointer (some ⟨p, 0, none⟩), .int .i64 0] w (RdRes p 0 st w) := by
  have hp := blk_lt h
  have C := fun w h => num_any p st w h hl
  have hd : val z0 (st.bind (decV 0)) = ((((val 0 (st.bind (decN))) : Nat) : Int), [], [], []) ∧ rest (st.bind (decV 0)) = rest (st.bind (decN)) := by
    rcases st with _ | l
    · exact ⟨rfl, rfl⟩
    · simp only [Option.bind_some, decV]
      rcases decN l with _ | ⟨a, r⟩ <;> exact ⟨rfl, rfl⟩
  obtain ⟨z, hz⟩ : ∃ z, z = val 0 (st.bind (decN)) := ⟨_, rfl⟩
  obtain ⟨st', hs'⟩ : ∃ st', st' = rest (st.bind (decN)) := ⟨_, rfl⟩
  rw [← hs'] at C hd
  rw [← hz] at C hd
  have HD := Lib.hid hd
  have HC := Lib.hid C
  have H := Lib.hid h
  clear C h hz hs' hd
  go_enter Try.func44, Try.ntmps44
  go_wp2_with fail
  refine (HC.out _ (rd_alloc (rd_alloc H.out _) _)).mono ?_
  rintro e w1 ⟨rfl, h1, h2⟩
  obtain ⟨b0, b1⟩ := blk_two (cs := #[.int .i64 0, .int .i64 0, .string (B []), .slice none 0 0, .slice none 0 0]) (cs' := #[.int .i64 0, .int .i64 0, .string (B []), .slice none 0 0, .slice none 0 0]) h2 hp
  have HG := Lib.hid (grown_two h2)
  have H1 := Lib.hid h1
  have y0 := cell_at b0 0
  have y1 := cell_at b0 1
  have y2 := cell_at b0 2
  have y3 := cell_at b0 3
  have y4 := cell_at b0 4
  have f0 := free_at b0 0
  have f1 := free_at b0 1
  have f2 := free_at b0 2
  have f3 := free_at b0 3
  have f4 := free_at b0 4
  have x0 : w1.cell? ⟨w.heap.size + 1, 0, none⟩ = some (.int .i64 0) := cell_at b1 0
  have x1 : w1.cell? ⟨w.heap.size + 1, 1, none⟩ = some (.int .i64 0) := cell_at b1 1
  have x2 : w1.cell? ⟨w.heap.size + 1, 2, none⟩ = some (.string (B [])) := cell_at b1 2
  have x3 : w1.cell? ⟨w.heap.size + 1, 3, none⟩ = some (.slice none 0 0) := cell_at b1 3
  have x4 : w1.cell? ⟨w.heap.size + 1, 4, none⟩ = some (.slice none 0 0) := cell_at b1 4
  have g0 := free_at b1 0
  have g1 := free_at b1 1
  have g2 := free_at b1 2
  have g3 := free_at b1 3
  have g4 := free_at b1 4
  clear h1 h2 b0 b1
  go_wp2
  refine bodyPost_ret (v := .agg (Vl.cells ⟨0, z, [], none, [], 0, none, [], 0⟩)) (by simp [results, Try.results44, go_sem, Vl.cells, y0, y1, y2, y3, y4]) rfl ?_
  refine ⟨⟨0, z, [], none, [], 0, none, [], 0⟩, rfl, rfl, by rw [HD.out.1]; rfl, by rw [HD.out.1]; exact ⟨rfl, rfl, rfl, rfl⟩, ⟨.inl rfl, .inl rfl⟩, ?_, ?_⟩
  · rw [HD.out.2]
    exact rd_far (rd_far (rd_far (rd_far (rd_far (rd_far H1.out (by omega)) (by omega)) (by omega)) (by omega)) (by omega)) (by omega)
  · exact grown_far (grown_far (grown_far (grown_far (grown_far (grown_far HG.out (by omega)) (by omega)) (by omega)) (by omega)) (by omega)) (by omega)

set_option maxHeartbeats 4000000 in
set_option maxRecDepth 100000 in
theorem read1 (p : Nat) (st : St) (w : World) (h : Rd 59 w p st) (hl : (lft st).length ≤ 1099511627776) :
    Calls Try.prog 44 #[.pointer (some ⟨p, 0, none⟩), .int .i64 1] w (RdRes p 1 st w) := by
  have hp := blk_lt h
  have C := fun w h => int_any p st w h hl
  have hd : val z0 (st.bind (decV 1)) = ((val 0 (st.bind (decI))), [], [], []) ∧ rest (st.bind (decV 1)) = rest (st.bind (decI)) := by
    rcases st with _ | l
    · exact ⟨rfl, rfl⟩
    · simp only [Option.bind_some, decV]
      rcases decI l with _ | ⟨a, r⟩ <;> exact ⟨rfl, rfl⟩
  obtain ⟨z, hz⟩ : ∃ z, z = val 0 (st.bind (decI)) := ⟨_, rfl⟩
  obtain ⟨st', hs'⟩ : ∃ st', st' = rest (st.bind (decI)) := ⟨_, rfl⟩
  rw [← hs'] at C hd
  rw [← hz] at C hd
  have HD := Lib.hid hd
  have HC := Lib.hid C
  have H := Lib.hid h
  clear C h hz hs' hd
  go_enter Try.func44, Try.ntmps44
  go_wp2_with fail
  refine (HC.out _ (rd_alloc (rd_alloc H.out _) _)).mono ?_
  rintro e w1 ⟨rfl, h1, h2⟩
  obtain ⟨b0, b1⟩ := blk_two (cs := #[.int .i64 0, .int .i64 0, .string (B []), .slice none 0 0, .slice none 0 0]) (cs' := #[.int .i64 1, .int .i64 0, .string (B []), .slice none 0 0, .slice none 0 0]) h2 hp
  have HG := Lib.hid (grown_two h2)
  have H1 := Lib.hid h1
  have y0 := cell_at b0 0
  have y1 := cell_at b0 1
  have y2 := cell_at b0 2
  have y3 := cell_at b0 3
  have y4 := cell_at b0 4
  have f0 := free_at b0 0
  have f1 := free_at b0 1
  have f2 := free_at b0 2
  have f3 := free_at b0 3
  have f4 := free_at b0 4
  have x0 : w1.cell? ⟨w.heap.size + 1, 0, none⟩ = some (.int .i64 1) := cell_at b1 0
  have x1 : w1.cell? ⟨w.heap.size + 1, 1, none⟩ = some (.int .i64 0) := cell_at b1 1
  have x2 : w1.cell? ⟨w.heap.size + 1, 2, none⟩ = some (.string (B [])) := cell_at b1 2
  have x3 : w1.cell? ⟨w.heap.size + 1, 3, none⟩ = some (.slice none 0 0) := cell_at b1 3
  have x4 : w1.cell? ⟨w.heap.size + 1, 4, none⟩ = some (.slice none 0 0) := cell_at b1 4
  have g0 := free_at b1 0
  have g1 := free_at b1 1
  have g2 := free_at b1 2
  have g3 := free_at b1 3
  have g4 := free_at b1 4
  clear h1 h2 b0 b1
  go_wp2
  refine bodyPost_ret (v := .agg (Vl.cells ⟨1, z, [], none, [], 0, none, [], 0⟩)) (by simp [results, Try.results44, go_sem, Vl.cells, y0, y1, y2, y3, y4]) rfl ?_
  refine ⟨⟨1, z, [], none, [], 0, none, [], 0⟩, rfl, rfl, by rw [HD.out.1]; rfl, by rw [HD.out.1]; exact ⟨rfl, rfl, rfl, rfl⟩, ⟨.inl rfl, .inl rfl⟩, ?_, ?_⟩
  · rw [HD.out.2]
    exact rd_far (rd_far (rd_far (rd_far (rd_far (rd_far H1.out (by omega)) (by omega)) (by omega)) (by omega)) (by omega)) (by omega)
  · exact grown_far (grown_far (grown_far (grown_far (grown_far (grown_far HG.out (by omega)) (by omega)) (by omega)) (by omega)) (by omega)) (by omega)

set_option maxHeartbeats 4000000 in
set_option maxRecDepth 100000 in
theorem read2 (p : Nat) (st : St) (w : World) (h : Rd 59 w p st) (hl : (lft st).length ≤ 1099511627776) :
    Calls Try.prog 44 #[.pointer (some ⟨p, 0, none⟩), .int .i64 2] w (RdRes p 2 st w) := by
  have hp := blk_lt h
  have C := fun w h => text_any p st w h hl
  have hd : val z0 (st.bind (decV 2)) = (0, (val [] (st.bind (decT))), [], []) ∧ rest (st.bind (decV 2)) = rest (st.bind (decT)) := by
    rcases st with _ | l
    · exact ⟨rfl, rfl⟩
    · simp only [Option.bind_some, decV]
      rcases decT l with _ | ⟨a, r⟩ <;> exact ⟨rfl, rfl⟩
  obtain ⟨z, hz⟩ : ∃ z, z = val [] (st.bind (decT)) := ⟨_, rfl⟩
  obtain ⟨st', hs'⟩ : ∃ st', st' = rest (st.bind (decT)) := ⟨_, rfl⟩
  rw [← hs'] at C hd
  rw [← hz] at C hd
  have HD := Lib.hid hd
  have HC := Lib.hid C
  have H := Lib.hid h
  clear C h hz hs' hd
  go_enter Try.func44, Try.ntmps44
  go_wp2_with fail
  refine (HC.out _ (rd_alloc (rd_alloc H.out _) _)).mono ?_
  rintro e w1 ⟨rfl, h1, h2⟩
  obtain ⟨b0, b1⟩ := blk_two (cs := #[.int .i64 0, .int .i64 0, .string (B []), .slice none 0 0, .slice none 0 0]) (cs' := #[.int .i64 2, .int .i64 0, .string (B []), .slice none 0 0, .slice none 0 0]) h2 hp
  have HG := Lib.hid (grown_two h2)
  have H1 := Lib.hid h1
  have y0 := cell_at b0 0
  have y1 := cell_at b0 1
  have y2 := cell_at b0 2
  have y3 := cell_at b0 3
  have y4 := cell_at b0 4
  have f0 := free_at b0 0
  have f1 := free_at b0 1
  have f2 := free_at b0 2
  have f3 := free_at b0 3
  have f4 := free_at b0 4
  have x0 : w1.cell? ⟨w.heap.size + 1, 0, none⟩ = some (.int .i64 2) := cell_at b1 0
  have x1 : w1.cell? ⟨w.heap.size + 1, 1, none⟩ = some (.int .i64 0) := cell_at b1 1
  have x2 : w1.cell? ⟨w.heap.size + 1, 2, none⟩ = some (.string (B [])) := cell_at b1 2
  have x3 : w1.cell? ⟨w.heap.size + 1, 3, none⟩ = some (.slice none 0 0) := cell_at b1 3
  have x4 : w1.cell? ⟨w.heap.size + 1, 4, none⟩ = some (.slice none 0 0) := cell_at b1 4
  have g0 := free_at b1 0
  have g1 := free_at b1 1
  have g2 := free_at b1 2
  have g3 := free_at b1 3
  have g4 := free_at b1 4
  clear h1 h2 b0 b1
  go_wp2
  refine bodyPost_ret (v := .agg (Vl.cells ⟨2, 0, z, none, [], 0, none, [], 0⟩)) (by simp [results, Try.results44, go_sem, Vl.cells, y0, y1, y2, y3, y4]) rfl ?_
  refine ⟨⟨2, 0, z, none, [], 0, none, [], 0⟩, rfl, rfl, by rw [HD.out.1]; rfl, by rw [HD.out.1]; exact ⟨rfl, rfl, rfl, rfl⟩, ⟨.inl rfl, .inl rfl⟩, ?_, ?_⟩
  · rw [HD.out.2]
    exact rd_far (rd_far (rd_far (rd_far (rd_far (rd_far H1.out (by omega)) (by omega)) (by omega)) (by omega)) (by omega)) (by omega)
  · exact grown_far (grown_far (grown_far (grown_far (grown_far (grown_far HG.out (by omega)) (by omega)) (by omega)) (by omega)) (by omega)) (by omega)

set_option maxHeartbeats 4000000 in
set_option maxRecDepth 100000 in
theorem read3 (p : Nat) (st : St) (w : World) (h : Rd 59 w p st) (hl : (lft st).length ≤ 1099511627776) :
    Calls Try.prog 44 #[.pointer (some ⟨p, 0, none⟩), .int .i64 3] w (RdRes p 3 st w) := by
  have hp := blk_lt h
  have C := fun w h => (list_any p st w h hl).mono fun e w' h => lr_of (n := (val [] (st.bind (decL decT))).length) h (List.length_map ..)
  have hd : val z0 (st.bind (decV 3)) = (0, [], (val [] (st.bind (decL decT))), []) ∧ rest (st.bind (decV 3)) = rest (st.bind (decL decT)) := by
    rcases st with _ | l
    · exact ⟨rfl, rfl⟩
    · simp only [Option.bind_some, decV]
      rcases decL decT l with _ | ⟨a, r⟩ <;> exact ⟨rfl, rfl⟩
  obtain ⟨z, hz⟩ : ∃ z, z = val [] (st.bind (decL decT)) := ⟨_, rfl⟩
  obtain ⟨st', hs'⟩ : ∃ st', st' = rest (st.bind (decL decT)) := ⟨_, rfl⟩
  rw [← hs'] at C hd
  rw [← hz] at C hd
  have HD := Lib.hid hd
  have HC := Lib.hid C
  have H := Lib.hid h
  clear C h hz hs' hd
  go_enter Try.func44, Try.ntmps44
  go_wp2_with fail
  refine (HC.out _ (rd_alloc (rd_alloc H.out _) _)).mono ?_
  rintro e w1 ⟨A, c, rfl, hrow, h1, h2⟩
  obtain ⟨b0, b1⟩ := blk_two (cs := #[.int .i64 0, .int .i64 0, .string (B []), .slice none 0 0, .slice none 0 0]) (cs' := #[.int .i64 3, .int .i64 0, .string (B []), .slice none 0 0, .slice none 0 0]) h2 hp
  have HG := Lib.hid (grown_two h2)
  have H1 := Lib.hid h1
  have hlo : w.heap.size + 1 < w.heap.size + 1 + 1 := by omega
  have hrow' : RowIn w1 (w.heap.size + 1 + 1) w1.heap.size A (Ss z) := by
    have h := hrow
    simp only [World.size_alloc] at h
    exact h
  have HRW := Lib.hid hrow'
  clear hrow hrow'
  have y0 := cell_at b0 0
  have y1 := cell_at b0 1
  have y2 := cell_at b0 2
  have y3 := cell_at b0 3
  have y4 := cell_at b0 4
  have f0 := free_at b0 0
  have f1 := free_at b0 1
  have f2 := free_at b0 2
  have f3 := free_at b0 3
  have f4 := free_at b0 4
  have x0 : w1.cell? ⟨w.heap.size + 1, 0, none⟩ = some (.int .i64 3) := cell_at b1 0
  have x1 : w1.cell? ⟨w.heap.size + 1, 1, none⟩ = some (.int .i64 0) := cell_at b1 1
  have x2 : w1.cell? ⟨w.heap.size + 1, 2, none⟩ = some (.string (B [])) := cell_at b1 2
  have x3 : w1.cell? ⟨w.heap.size + 1, 3, none⟩ = some (.slice none 0 0) := cell_at b1 3
  have x4 : w1.cell? ⟨w.heap.size + 1, 4, none⟩ = some (.slice none 0 0) := cell_at b1 4
  have g0 := free_at b1 0
  have g1 := free_at b1 1
  have g2 := free_at b1 2
  have g3 := free_at b1 3
  have g4 := free_at b1 4
  clear h1 h2 b0 b1
  go_wp2
  refine bodyPost_ret (v := .agg (Vl.cells ⟨3, 0, [], A, z, c, none, [], 0⟩)) (by simp [results, Try.results44, go_sem, Vl.cells, y0, y1, y2, y3, y4]) rfl ?_
  refine ⟨⟨3, 0, [], A, z, c, none, [], 0⟩, rfl, rfl, by rw [HD.out.1]; rfl, by rw [HD.out.1]; exact ⟨rfl, rfl, rfl, rfl⟩, ⟨(row_far (row_far (row_far (row_far (row_far (row_far HRW.out (by omega)) (by omega)) (by omega)) (by omega)) (by omega)) (by omega)).row.more (by simp [World.setCell]), .inl rfl⟩, ?_, ?_⟩
  · rw [HD.out.2]
    exact rd_far (rd_far (rd_far (rd_far (rd_far (rd_far H1.out (by omega)) (by omega)) (by omega)) (by omega)) (by omega)) (by omega)
  · exact grown_far (grown_far (grown_far (grown_far (grown_far (grown_far HG.out (by omega)) (by omega)) (by omega)) (by omega)) (by omega)) (by omega)

set_option maxHeartbeats 4000000 in
set_option maxRecDepth 100000 in
theorem read4 (p : Nat) (st : St) (w : World) (h : Rd 59 w p st) (hl : (lft st).length ≤ 1099511627776) :
    Calls Try.prog 44 #[.pointer (some ⟨p, 0, none⟩), .int .i64 4] w (RdRes p 4 st w) := by
  have hp := blk_lt h
  have C := fun w h => (nums_any p st w h hl).mono fun e w' h => lr_of (n := (val [] (st.bind (decL decI))).length) h (List.length_map ..)
  have hd : val z0 (st.bind (decV 4)) = (0, [], [], (val [] (st.bind (decL decI)))) ∧ rest (st.bind (decV 4)) = rest (st.bind (decL decI)) := by
    rcases st with _ | l
    · exact ⟨rfl, rfl⟩
    · simp only [Option.bind_some, decV]
      rcases decL decI l with _ | ⟨a, r⟩ <;> exact ⟨rfl, rfl⟩
  obtain ⟨z, hz⟩ : ∃ z, z = val [] (st.bind (decL decI)) := ⟨_, rfl⟩
  obtain ⟨st', hs'⟩ : ∃ st', st' = rest (st.bind (decL decI)) := ⟨_, rfl⟩
  rw [← hs'] at C hd
  rw [← hz] at C hd
  have HD := Lib.hid hd
  have HC := Lib.hid C
  have H := Lib.hid h
  clear C h hz hs' hd
  go_enter Try.func44, Try.ntmps44
  go_wp2_with fail
  refine (HC.out _ (rd_alloc (rd_alloc H.out _) _)).mono ?_
  rintro e w1 ⟨A, c, rfl, hrow, h1, h2⟩
  obtain ⟨b0, b1⟩ := blk_two (cs := #[.int .i64 0, .int .i64 0, .string (B []), .slice none 0 0, .slice none 0 0]) (cs' := #[.int .i64 4, .int .i64 0, .string (B []), .slice none 0 0, .slice none 0 0]) h2 hp
  have HG := Lib.hid (grown_two h2)
  have H1 := Lib.hid h1
  have hlo : w.heap.size + 1 < w.heap.size + 1 + 1 := by omega
  have hrow' : RowIn w1 (w.heap.size + 1 + 1) w1.heap.size A (Zs z) := by
    have h := hrow
    simp only [World.size_alloc] at h
    exact h
  have HRW := Lib.hid hrow'
  clear hrow hrow'
  have y0 := cell_at b0 0
  have y1 := cell_at b0 1
  have y2 := cell_at b0 2
  have y3 := cell_at b0 3
  have y4 := cell_at b0 4
  have f0 := free_at b0 0
  have f1 := free_at b0 1
  have f2 := free_at b0 2
  have f3 := free_at b0 3
  have f4 := free_at b0 4
  have x0 : w1.cell? ⟨w.heap.size + 1, 0, none⟩ = some (.int .i64 4) := cell_at b1 0
  have x1 : w1.cell? ⟨w.heap.size + 1, 1, none⟩ = some (.int .i64 0) := cell_at b1 1
  have x2 : w1.cell? ⟨w.heap.size + 1, 2, none⟩ = some (.string (B [])) := cell_at b1 2
  have x3 : w1.cell? ⟨w.heap.size + 1, 3, none⟩ = some (.slice none 0 0) := cell_at b1 3
  have x4 : w1.cell? ⟨w.heap.size + 1, 4, none⟩ = some (.slice none 0 0) := cell_at b1 4
  have g0 := free_at b1 0
  have g1 := free_at b1 1
  have g2 := free_at b1 2
  have g3 := free_at b1 3
  have g4 := free_at b1 4
  clear h1 h2 b0 b1
  go_wp2
  refine bodyPost_ret (v := .agg (Vl.cells ⟨4, 0, [], none, [], 0, A, z, c⟩)) (by simp [results, Try.results44, go_sem, Vl.cells, y0, y1, y2, y3, y4]) rfl ?_
  refine ⟨⟨4, 0, [], none, [], 0, A, z, c⟩, rfl, rfl, by rw [HD.out.1]; rfl, by rw [HD.out.1]; exact ⟨rfl, rfl, rfl, rfl⟩, ⟨.inl rfl, (row_far (row_far (row_far (row_far (row_far (row_far HRW.out (by omega)) (by omega)) (by omega)) (by omega)) (by omega)) (by omega)).row.more (by simp [World.setCell])⟩, ?_, ?_⟩
  · rw [HD.out.2]
    exact rd_far (rd_far (rd_far (rd_far (rd_far (rd_far H1.out (by omega)) (by omega)) (by omega)) (by omega)) (by omega)) (by omega)
  · exact grown_far (grown_far (grown_far (grown_far (grown_far (grown_far HG.out (by omega)) (by omega)) (by omega)) (by omega)) (by omega)) (by omega)
end Go.Proofs.Ytcgbamloemdilaa
