/-
  SignLand, SignSmall, SignLaw, SignLaw2: joined.
-/
import Derived.Test.YtojbicpchjiplaaGreatDoorSignRef5
/-
  Layer 5: what the package's functions are to hand back (proved of the landed code elsewhere), and the numbers of the law's own small example.
-/
namespace Go.Proofs.YtojbicpchjiplaaGreatDoor.S5
open Go.RowKit
namespace Sg

theorem laid_below {W w : World} (hW : S3.Laid W) (h : Below W.heap.size W w) : S3.Laid w := by
  obtain ⟨h1, ⟨t, fr, h2⟩, h3, h4⟩ := hW
  exact ⟨fun j hj => (h.cell (p := ⟨1, j, none⟩) h3).trans (h1 j hj), ⟨t, fr, (h.block _ h4).trans h2⟩, Nat.lt_of_lt_of_le h3 h.size, Nat.lt_of_lt_of_le h4 h.size⟩

/-! ### The example's numbers -/
theorem pow_lit (x k : Nat) (a e : Int) (r : Nat) (hx : a % 2305843009213693951 = x) (hk : S4.expo e = k) (hb : k < 2 ^ 62) (hr : S4.Gp.powm 2305843009213693951 x 62 k = r) : S4.powP a e = r := by
  rw [S4.powP, hx, hk, ← hr, S4.Gp.powm_eq _ _ _ _ hb, Int.toNat_natCast]
end Sg
end Go.Proofs.YtojbicpchjiplaaGreatDoor.S5

/-
  Layer 5: the law's own small example.
-/
namespace Go.Proofs.YtojbicpchjiplaaGreatDoor.S5
open Go.RowKit
namespace Sg
attribute [local go_sem] S3.B_size S3.B_app

end Sg
end Go.Proofs.YtojbicpchjiplaaGreatDoor.S5

/-
  Layer 5: what a law's walk carries: the world has only grown and is laid; blocks of two ints.
-/
namespace Go.Proofs.YtojbicpchjiplaaGreatDoor.S5
open Go.RowKit
namespace Sg

/-- The world has only grown above W, and is laid. -/
structure At (W w : World) : Prop where
  bel : Below W.heap.size W w
  laid : S3.Laid w
theorem At.start {W : World} (hW : S3.Laid W) : At W W := ⟨Below.refl _ _, hW⟩
theorem At.step {W w w' : World} (h : At W w) (hb : Below w.heap.size w w') : At W w' := ⟨h.bel.trans (hb.mono h.bel.size), laid_below h.laid hb⟩
theorem At.alloc {W w : World} (h : At W w) (o : Obj) : At W (w.alloc o) := h.step ((Below.refl _ _).alloc (Nat.le_refl _) o)
theorem At.drew {W w : World} (h : At W w) : At W w.drew := h.step (Below.refl _ _).drew
/-- A block of two ints. -/
structure Blk (w : World) (g : Nat) (x y : Int) : Prop where
  lt : g < w.heap.size
  c0 : w.cell? ⟨g, 0, none⟩ = some (.int .i64 x)
  c1 : w.cell? ⟨g, 1, none⟩ = some (.int .i64 y)
theorem Blk.step {w w' : World} {g : Nat} {x y : Int} (h : Blk w g x y) (hb : Below w.heap.size w w') : Blk w' g x y :=
  ⟨Nat.lt_of_lt_of_le h.lt hb.size, (hb.cell (p := ⟨g, 0, none⟩) h.lt).trans h.c0, (hb.cell (p := ⟨g, 1, none⟩) h.lt).trans h.c1⟩
theorem Blk.alloc {w : World} {g : Nat} {x y : Int} (h : Blk w g x y) (o : Obj) : Blk (w.alloc o) g x y := h.step ((Below.refl _ _).alloc (Nat.le_refl _) o)
theorem Blk.drew {w : World} {g : Nat} {x y : Int} (h : Blk w g x y) : Blk w.drew g x y := h.step (Below.refl _ _).drew
theorem Blk.new (w : World) (x y : Int) (t : TypeId) : Blk (w.alloc (.cells #[.int .i64 x, .int .i64 y] t)) w.heap.size x y :=
  ⟨by simp, (cells2 w _ _ t).1, (cells2 w _ _ t).2⟩

theorem ofV_in {x : Int} (h0 : 1 ≤ x) (h1 : x ≤ 2305843009213693949) : ofV x = (x, ((pub x : Nat) : Int)) := if_pos ⟨h0, h1⟩
theorem ofV_out {x : Int} (h : ¬ (1 ≤ x ∧ x ≤ 2305843009213693949)) : ofV x = (0, 0) := if_neg h
theorem signV_Rt {x y : Int} {m : List UInt8} (h : Rt x y) : signV x y m = sigU x y (non x m : Nat) m := if_pos h
theorem sigU_range (x y u : Int) (m : List UInt8) : 0 ≤ (sigU x y u m).1 ∧ (sigU x y u m).1 < 2305843009213693950 ∧ 0 ≤ (sigU x y u m).2 ∧ (sigU x y u m).2 < 2305843009213693950 := by
  have h1 := chal_lt (pub u : Nat) y m
  unfold sigU
  refine ⟨by show (0 : Int) ≤ (chal (pub u : Nat) y m : Nat); omega, by show ((chal (pub u : Nat) y m : Nat) : Int) < _; omega, Int.emod_nonneg _ (by decide), Int.emod_lt_of_pos _ (by decide)⟩
theorem signV_holds {x y : Int} (m : List UInt8) (h : Rt x y) : verV y m (signV x y m).1 (signV x y m).2 = true := by
  rw [signV_Rt h]
  exact sig_holds x y _ m h
theorem signV_range {x y : Int} (m : List UInt8) (h : Rt x y) : 0 ≤ (signV x y m).1 ∧ (signV x y m).1 < 2305843009213693950 ∧ 0 ≤ (signV x y m).2 ∧ (signV x y m).2 < 2305843009213693950 := by
  rw [signV_Rt h]
  exact sigU_range x y _ m
end Sg
end Go.Proofs.YtojbicpchjiplaaGreatDoor.S5

/-
  Layer 5: what the laws say, in plain Lean.
-/
namespace Go.Proofs.YtojbicpchjiplaaGreatDoor.S5
open Go.RowKit
namespace Sg

end Sg
end Go.Proofs.YtojbicpchjiplaaGreatDoor.S5
