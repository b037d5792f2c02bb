/-
  Layer 5: what the laws say, in plain Lean.
-/
import Derived.Test.YtlcgcpjhmbbgfaaDoorSignLaw
namespace Go.Proofs.YtlcgcpjhmbbgfaaDoor
open Go.RowKit
namespace Sg

theorem signV_comm {x y : Int} (m : List UInt8) (h : Rt x y) : comm y (signV x y m).1 (signV x y m).2 = (pub (non x m : Nat) : Nat) := by
  rw [signV_Rt h]
  obtain ⟨_, _, rfl⟩ := h
  exact comm_of x _ _
theorem signV_chal {x y : Int} (m : List UInt8) (h : Rt x y) : (signV x y m).1 = (chal (comm y (signV x y m).1 (signV x y m).2) y m : Nat) := by
  rw [signV_comm m h, signV_Rt h]
  rfl
theorem signV_Rg {x y : Int} (m : List UInt8) (h : Rt x y) : Rg y (signV x y m).1 (signV x y m).2 := by
  have h1 := signV_range m h
  obtain ⟨_, _, h2, h3⟩ := Rt_range h
  exact ⟨h2, h3, h1.1, by omega, h1.2.2.1, by omega⟩
/-- The signature of one message is accepted for another just where the challenges are the same. -/
theorem signV_binds {x y : Int} (m o : List UInt8) (h : Rt x y) : verV y o (signV x y m).1 (signV x y m).2 = decide (((chal (comm y (signV x y m).1 (signV x y m).2) y m : Nat) : Int) = (chal (comm y (signV x y m).1 (signV x y m).2) y o : Nat)) := by
  have hg := signV_Rg m h
  unfold verV
  apply decide_eq_decide.2
  have hc := signV_chal m h
  constructor
  · intro h2
    rw [← hc]
    exact h2.2.symm
  · intro h2
    refine ⟨hg, ?_⟩
    rw [← h2]
    exact hc.symm
/-- The moved response is accepted just where the challenge of the moved commitment is the same. -/
theorem signV_moves {x y : Int} (m : List UInt8) (d : Int) (h : Rt x y) : verV y m (signV x y m).1 (((signV x y m).2 + d) % 2305843009213693950) = decide (((chal (comm y (signV x y m).1 (signV x y m).2 * (pub d : Nat) % 2305843009213693951) y m : Nat) : Int) = (signV x y m).1) := by
  obtain ⟨g1, g2, g3, g4, g5, g6⟩ := signV_Rg m h
  unfold verV
  rw [comm_add]
  apply decide_eq_decide.2
  constructor
  · intro h2
    exact h2.2
  · intro h2
    refine ⟨⟨g1, g2, g3, g4, Int.emod_nonneg _ (by decide), ?_⟩, h2⟩
    have := Int.emod_lt_of_pos ((signV x y m).2 + d) (show (0 : Int) < 2305843009213693950 by decide)
    omega
/-- Two responses with one nonce: their difference. -/
theorem solves (u e f x : Int) : ((u + e * x % 2305843009213693950) % 2305843009213693950 - (u + f * x % 2305843009213693950) % 2305843009213693950) % 2305843009213693950 = (e - f) % 2305843009213693950 * x % 2305843009213693950 := by
  rw [S4.mulL, Int.sub_mul]
  generalize e * x = p
  generalize f * x = q
  omega
theorem ver_no {y : Int} {m : List UInt8} {E S : Int} (h : ¬ Rg y E S) : verV y m E S = false := decide_eq_false (fun x => h x.1)
end Sg
end Go.Proofs.YtlcgcpjhmbbgfaaDoor
