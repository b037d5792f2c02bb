/-
  What a law's walk carries, whatever the stage: the world has only grown above the start and is laid; blocks of cells.
-/
import Derived.Test.YtfemgakfckabhaaDoorSumShaAny
import Derived.Test.YtfemgakfckabhaaDoorCodeRow
namespace Go.Proofs.YtfemgakfckabhaaDoor
open Go.RowKit
namespace Lk

theorem laid_below {W w : World} (hW : S3.Laid W) (h : Below W.heap.size W w) : S3.Laid w := by
  obtain ⟨h1, ⟨t, fr, h2⟩, h3, h4⟩ := hW
  exact ⟨fun j hj => (h.cell (p := ⟨1, j, none⟩) h3).trans (h1 j hj), ⟨t, fr, (h.block _ h4).trans h2⟩, Nat.lt_of_lt_of_le h3 h.size, Nat.lt_of_lt_of_le h4 h.size⟩
/-- The world has only grown above W, and is laid. -/
structure At (W w : World) : Prop where
  bel : Below W.heap.size W w
  laid : S3.Laid w
theorem At.start {W : World} (hW : S3.Laid W) : At W W := ⟨Below.refl _ _, hW⟩
theorem At.from {W w : World} (hW : S3.Laid W) (hb : Below W.heap.size W w) : At W w := ⟨hb, laid_below hW hb⟩
theorem At.step {W w w' : World} (h : At W w) (hb : Below w.heap.size w w') : At W w' := ⟨h.bel.trans (hb.mono h.bel.size), laid_below h.laid hb⟩
theorem At.alloc {W w : World} (h : At W w) (o : Obj) : At W (w.alloc o) := h.step ((Below.refl _ _).alloc (Nat.le_refl _) o)
theorem At.drew {W w : World} (h : At W w) : At W w.drew := h.step (Below.refl _ _).drew
/-- A block of cells. -/
structure Bl (w : World) (g : Nat) (cs : List Value) (t : TypeId) : Prop where
  row : w.heap[g]? = some (.cells cs.toArray t (0, 0))
theorem Bl.lt {w : World} {g : Nat} {cs : List Value} {t : TypeId} (h : Bl w g cs t) : g < w.heap.size := (Array.getElem?_eq_some_iff.1 h.row).1
theorem Bl.c {w : World} {g : Nat} {cs : List Value} {t : TypeId} (h : Bl w g cs t) (j : Nat) (v : Value) (e : cs[j]? = some v) : w.cell? ⟨g, j, none⟩ = some v := by
  rw [cell_of_row _ _ _ _ _ _ h.row, List.getElem?_toArray, e]
theorem Bl.step {w w' : World} {g : Nat} {cs : List Value} {t : TypeId} (h : Bl w g cs t) (hb : Below w.heap.size w w') : Bl w' g cs t :=
  ⟨(hb.block _ h.lt).trans h.row⟩
theorem Bl.alloc {w : World} {g : Nat} {cs : List Value} {t : TypeId} (h : Bl w g cs t) (o : Obj) : Bl (w.alloc o) g cs t := h.step ((Below.refl _ _).alloc (Nat.le_refl _) o)
theorem Bl.drew {w : World} {g : Nat} {cs : List Value} {t : TypeId} (h : Bl w g cs t) : Bl w.drew g cs t := h.step (Below.refl _ _).drew
theorem Bl.new (w : World) (cs : List Value) (t : TypeId) : Bl (w.alloc (.cells cs.toArray t)) w.heap.size cs t := ⟨heap_alloc_last _ _⟩
/-- A fresh row of strings. -/
theorem strs (w : World) (ls : List (List UInt8)) : S2.Row (w.alloc (.cells (ls.map fun s => Value.string (S3.B s)).toArray 9)) (w.alloc (.cells (ls.map fun s => Value.string (S3.B s)).toArray 9)).heap.size (some ⟨w.heap.size, 0, none⟩) (S2.Ss ls) := by
  refine .inr ⟨_, rfl, by simp, fun j u hu => ?_⟩
  have h := heap_alloc_last w (.cells (ls.map fun s => Value.string (S3.B s)).toArray 9)
  rw [Addr.add_lit, Nat.zero_add, cell_of_row _ _ _ _ _ _ h]
  rw [List.getElem?_toArray]
  exact hu
end Lk
end Go.Proofs.YtfemgakfckabhaaDoor
