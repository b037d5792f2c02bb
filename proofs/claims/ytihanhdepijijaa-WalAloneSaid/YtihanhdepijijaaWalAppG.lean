/-
  Layer 10: append at an operation behind a guard; the laws' 'append(append([]string{}, ..), ..)'.
-/
import Derived.Test.YtihanhdepijijaaWalFile
namespace Go.Proofs.Ytihanhdepijijaa
open Go.RowKit
namespace Wl
open S9.Dk (Dk Fr MD By)
theorem wpList_app_g {o : Oper} {a : Act} {w : World} {ops : Array Oper} {rest : List Oper} {Q : Exit → Act → World → Prop}
    (hg : Region.wanted o (yielded ops a.tmps) = true) (s x : Operand) (hop : o.op = Op.call { callee := Callee.builtin Builtin.append, args := #[s, x], argTypes := #[32, 32] })
    {m c : Nat} {v : Value} {A : Option Addr} {lo ln : List Str} (hown : Own w v lo) (hsrc : S2.Row w w.heap.size A (S2.Ss ln)) (hs : a.eval s = v) (hx : a.eval x = .slice A m c) (hm : m = ln.length) (hn : lo.length + ln.length ≤ 16000000)
    (hK : ∀ v' w', Own w' v' (lo ++ ln) → w.grownBy w' v.ownBlock → (v'.ownBlock = v.ownBlock ∨ ∀ g, v'.ownBlock = some g → w.heap.size ≤ g) → wpList Try.prog ops Q rest (a.put o.dst v') w') :
    wpList Try.prog ops Q (o :: rest) a w := by
  refine wpList_step fun K hKK => ?_
  rw [if_pos hg]
  obtain ⟨v', w', hrun, r1, r2, r3⟩ := run_app (w := w) o.type hown hsrc (c := c) hm hn
  unfold Oper.wp
  simp [execOp, hop, resolve, invoke, builtin, hs, hx, hrun, Result.andThen]
  exact hKK _ _ (hK v' w' r1 r2 r3)
/-- A slice of the call's own, whose row is newer than B: behind an append all that lay below B is as it was. -/
structure New (B : Nat) (w : World) (v : Value) (l : List Str) : Prop where
  own : Own w v l
  new : ∀ g, v.ownBlock = some g → B ≤ g
  le : B ≤ w.heap.size
theorem New.made (w : World) : New w.heap.size (w.alloc (.cells #[] 9)) (.slice (some ⟨w.heap.size, 0, none⟩) 0 0) [] :=
  ⟨World.ownsRow_made w #[] 0 (Nat.zero_le _) (Nat.zero_le _) rfl, fun g hg => by simp only [Value.ownBlock, Option.some.injEq] at hg; omega, by simp⟩
theorem New.app {B : Nat} {w w' : World} {v v' : Value} {l l' : List Str} (h : New B w v l) (ho : Own w' v' l') (hg : w.grownBy w' v.ownBlock) (hp : v'.ownBlock = v.ownBlock ∨ ∀ g, v'.ownBlock = some g → w.heap.size ≤ g) : New B w' v' l' ∧ Below B w w' := by
  refine ⟨⟨ho, fun g hg2 => ?_, Nat.le_trans h.le hg.size⟩, (Below.refl B w).grown hg h.le h.new⟩
  rcases hp with h1 | h1
  · exact h.new g (h1.symm.trans hg2)
  · exact Nat.le_trans h.le (h1 g hg2)
theorem New.step {B : Nat} {w w' : World} {v : Value} {l : List Str} (h : New B w v l) (hb : Below w.heap.size w w') : New B w' v l :=
  ⟨h.own.keep fun g hg => hb.block g (h.own.lt hg), h.new, Nat.le_trans h.le hb.size⟩
end Wl
end Go.Proofs.Ytihanhdepijijaa
