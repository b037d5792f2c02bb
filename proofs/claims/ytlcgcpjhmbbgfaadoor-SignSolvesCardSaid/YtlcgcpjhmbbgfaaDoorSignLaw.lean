/-
  Layer 5: what a law's walk carries: the world has only grown and is laid; blocks of two ints.
-/
import Derived.Test.YtlcgcpjhmbbgfaaDoorSignSmall
namespace Go.Proofs.YtlcgcpjhmbbgfaaDoor
open Go.RowKit
namespace Sg

/-- The world has only grown above W, and is laid. -/
structure At (W w : World) : Prop where
  bel : Below W.heap.size W w
  laid : S3.Laid w
theorem At.start {W : World} (hW : S3.Laid W) : At W W := ⟨Below.refl _ _, hW⟩
theorem At.step {W w w' : World} (h : At W w) (hb : Below w.heap.size w w') : At W w' := ⟨h.bel.trans (hb.mono h.bel.size), laid_below h.laid hb⟩
theorem At.alloc {W w : World} (h : At W w) (o : Obj) : At W (w.alloc o) := h.step ((Below.refl _ _).alloc (Nat.le_refl _) o)
theorem At.drew {W w : World} (h : At W w) : At W w.drew := h.step (Below.refl _ _).drew
/-- A block of two ints. -/
structure Blk (w : World) (g : Nat) (x y : Int) : Prop where
  lt : g < w.heap.size
  c0 : w.cell? ⟨g, 0, none⟩ = some (.int .i64 x)
  c1 : w.cell? ⟨g, 1, none⟩ = some (.int .i64 y)
theorem Blk.step {w w' : World} {g : Nat} {x y : Int} (h : Blk w g x y) (hb : Below w.heap.size w w') : Blk w' g x y :=
  ⟨Nat.lt_of_lt_of_le h.lt hb.size, (hb.cell (p := ⟨g, 0, none⟩) h.lt).trans h.c0, (hb.cell (p := ⟨g, 1, none⟩) h.lt).trans h.c1⟩
theorem Blk.alloc {w : World} {g : Nat} {x y : Int} (h : Blk w g x y) (o : Obj) : Blk (w.alloc o) g x y := h.step ((Below.refl _ _).alloc (Nat.le_refl _) o)
theorem Blk.drew {w : World} {g : Nat} {x y : Int} (h : Blk w g x y) : Blk w.drew g x y := h.step (Below.refl _ _).drew
theorem Blk.new (w : World) (x y : Int) (t : TypeId) : Blk (w.alloc (.cells #[.int .i64 x, .int .i64 y] t)) w.heap.size x y :=
  ⟨by simp, (cells2 w _ _ t).1, (cells2 w _ _ t).2⟩

theorem ofV_in {x : Int} (h0 : 1 ≤ x) (h1 : x ≤ 2305843009213693949) : ofV x = (x, ((pub x : Nat) : Int)) := if_pos ⟨h0, h1⟩
theorem ofV_out {x : Int} (h : ¬ (1 ≤ x ∧ x ≤ 2305843009213693949)) : ofV x = (0, 0) := if_neg h
theorem Rt_in {x : Int} (h0 : 1 ≤ x) (h1 : x ≤ 2305843009213693949) : Rt x (pub x : Nat) := ⟨h0, h1, rfl⟩
theorem not_Rt0 (y : Int) : ¬ Rt 0 y := fun h => by have := h.1; omega
theorem keyV_eq (s : List UInt8) : keyV s = (((sec (keyS s) : Nat) : Int), ((pub (sec (keyS s) : Nat) : Nat) : Int)) := ofV_in (by have := sec_lt (keyS s); omega) (by have := sec_lt (keyS s); omega)
theorem keyV_Rt (s : List UInt8) : Rt (keyV s).1 (keyV s).2 := by
  rw [keyV_eq]
  exact Rt_in (by have := sec_lt (keyS s); show (1 : Int) ≤ _; omega) (by have := sec_lt (keyS s); show _ ≤ (2305843009213693949 : Int); omega)
theorem Rt_range {x y : Int} (h : Rt x y) : isI x ∧ isI y ∧ 1 ≤ y ∧ y ≤ 2305843009213693950 := by
  obtain ⟨h1, h2, rfl⟩ := h
  have h3 := pub_lt x
  have h4 := pub_ne x
  refine ⟨?_, ?_, ?_, ?_⟩
  · unfold isI S4.isI64; omega
  · unfold isI S4.isI64; omega
  · omega
  · omega
theorem signV_Rt {x y : Int} {m : List UInt8} (h : Rt x y) : signV x y m = sigU x y (non x m : Nat) m := if_pos h
theorem signV_no {x y : Int} {m : List UInt8} (h : ¬ Rt x y) : signV x y m = (0, 0) := if_neg h
theorem sigU_range (x y u : Int) (m : List UInt8) : 0 ≤ (sigU x y u m).1 ∧ (sigU x y u m).1 < 2305843009213693950 ∧ 0 ≤ (sigU x y u m).2 ∧ (sigU x y u m).2 < 2305843009213693950 := by
  have h1 := chal_lt (pub u : Nat) y m
  unfold sigU
  refine ⟨by show (0 : Int) ≤ (chal (pub u : Nat) y m : Nat); omega, by show ((chal (pub u : Nat) y m : Nat) : Int) < _; omega, Int.emod_nonneg _ (by decide), Int.emod_lt_of_pos _ (by decide)⟩
theorem signV_holds {x y : Int} (m : List UInt8) (h : Rt x y) : verV y m (signV x y m).1 (signV x y m).2 = true := by
  rw [signV_Rt h]
  exact sig_holds x y _ m h
theorem signV_range {x y : Int} (m : List UInt8) (h : Rt x y) : 0 ≤ (signV x y m).1 ∧ (signV x y m).1 < 2305843009213693950 ∧ 0 ≤ (signV x y m).2 ∧ (signV x y m).2 < 2305843009213693950 := by
  rw [signV_Rt h]
  exact sigU_range x y _ m
end Sg
end Go.Proofs.YtlcgcpjhmbbgfaaDoor
