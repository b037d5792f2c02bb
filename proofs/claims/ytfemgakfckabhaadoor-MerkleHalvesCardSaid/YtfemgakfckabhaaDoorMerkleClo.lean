/-
  Layer 8: a closure that appends to a captured slice of strings and calls itself through a captured variable: what it keeps.
-/
import Derived.Test.YtfemgakfckabhaaDoorMerkleRoot
import Derived.OrdersHeld
namespace Go.Proofs.YtfemgakfckabhaaDoor
open Go.RowKit
namespace Mk

/-- Above W0 lie the slice's variable (holding v), the closure's own (holding D), and the slice u of the call's own. -/
structure Cl (D : Value) (T : TypeId) (W0 w : World) (v u : Value) (acc : List Str) : Prop where
  l0 : S3.Laid W0
  at_ : Lk.At W0 w
  p : Lk.Bl w W0.heap.size [v] 22
  d : Lk.Bl w (W0.heap.size + 1) [D] T
  own : Own w (W0.heap.size + 2) u acc
theorem Cl.size {D : Value} {T : TypeId} {W0 w : World} {v u : Value} {acc : List Str} (h : Cl D T W0 w v u acc) : W0.heap.size + 2 ≤ w.heap.size := h.d.lt
theorem Cl.step {D : Value} {T : TypeId} {W0 w w' : World} {v u : Value} {acc : List Str} (h : Cl D T W0 w v u acc) (hb : Below w.heap.size w w') : Cl D T W0 w' v u acc :=
  ⟨h.l0, h.at_.step hb, h.p.step hb, h.d.step hb, h.own.step hb⟩
theorem Cl.drew {D : Value} {T : TypeId} {W0 w : World} {v u : Value} {acc : List Str} (h : Cl D T W0 w v u acc) : Cl D T W0 w.drew v u acc := h.step (Below.refl _ _).drew
theorem Cl.alloc {D : Value} {T : TypeId} {W0 w : World} {v u : Value} {acc : List Str} (h : Cl D T W0 w v u acc) (o : Obj) : Cl D T W0 (w.alloc o) v u acc := h.step ((Below.refl _ _).alloc (Nat.le_refl _) o)
theorem bl_grown {w w' : World} {g : Nat} {cs : List Value} {t : TypeId} {r : Option Nat} (h : Lk.Bl w g cs t) (hg : w.grownBy w' r) (hne : ¬ some g = r) : Lk.Bl w' g cs t := ⟨(hg.block g h.lt hne).trans h.row⟩
theorem Cl.app {D : Value} {T : TypeId} {W0 w w' : World} {v u u' : Value} {acc acc' : List Str} (h : Cl D T W0 w v u acc) (ho : Own w' (W0.heap.size + 2) u' acc') (hg : w.grownBy w' u.ownBlock) : Cl D T W0 w' v u' acc' := by
  have hge := h.own.ge
  refine ⟨h.l0, Lk.At.from h.l0 (h.at_.bel.grown hg h.at_.bel.size fun k hk => by have := hge k hk; omega), bl_grown h.p hg fun e => ?_, bl_grown h.d hg fun e => ?_, ho⟩
  · have := hge _ e.symm; omega
  · have := hge _ e.symm; omega
theorem Cl.put {D : Value} {T : TypeId} {W0 w : World} {v u : Value} {acc : List Str} (h : Cl D T W0 w v u acc) : Cl D T W0 (w.setCell ⟨W0.heap.size, 0, none⟩ u) u u acc := by
  refine ⟨h.l0, Lk.At.from h.l0 (h.at_.bel.setCell (Nat.le_refl _) u), ⟨?_⟩, ⟨?_⟩, ⟨ownsRow_setCell_below h.own.own (by show W0.heap.size < _; omega) u⟩⟩
  · refine (heap_setCell_same w _ 0 _ _ u h.p.row).trans ?_
    simp
  · exact (Below.heap_setCell w _ u _ (by show W0.heap.size + 1 ≠ W0.heap.size; omega)).trans h.d.row
theorem Cl.cellP {D : Value} {T : TypeId} {W0 w : World} {v u : Value} {acc : List Str} (h : Cl D T W0 w v u acc) : w.cell? ⟨W0.heap.size, 0, none⟩ = some v := h.p.c 0 _ rfl
theorem Cl.freeP {D : Value} {T : TypeId} {W0 w : World} {v u : Value} {acc : List Str} (h : Cl D T W0 w v u acc) : w.frozen? ⟨W0.heap.size, 0, none⟩ = false := frozen_of_row w _ 0 _ _ h.p.row
theorem Cl.cellD {D : Value} {T : TypeId} {W0 w : World} {v u : Value} {acc : List Str} (h : Cl D T W0 w v u acc) : w.cell? ⟨W0.heap.size + 1, 0, none⟩ = some D := h.d.c 0 _ rfl
/-- What the closure's call leaves. -/
def ClP (D : Value) (T : TypeId) (W0 : World) (acc : List Str) (e : Ending) (w' : World) : Prop := e = .returned (.tuple #[]) ∧ ∃ v, Cl D T W0 w' v v acc
end Mk
end Go.Proofs.YtfemgakfckabhaaDoor
