/-
  Layer 8: append onto a slice of strings of the call's own, as a step of a region that draws, and as an operation of its own.
-/
import Derived.Test.YtfemgakfckabhaaDoorMerkleBase
namespace Go.Proofs.YtfemgakfckabhaaDoor
open Go.RowKit
namespace Mk

/-- The world has only grown above W. -/
structure Up (W w : World) : Prop where
  bel : Below W.heap.size W w
theorem Up.start (W : World) : Up W W := ⟨Below.refl _ _⟩
theorem Up.step {W w w' : World} (h : Up W w) (hb : Below w.heap.size w w') : Up W w' := ⟨h.bel.trans (hb.mono h.bel.size)⟩
theorem Up.alloc {W w : World} (h : Up W w) (o : Obj) : Up W (w.alloc o) := h.step ((Below.refl _ _).alloc (Nat.le_refl _) o)
theorem Up.drew {W w : World} (h : Up W w) : Up W w.drew := h.step (Below.refl _ _).drew
theorem Own.ge {w : World} {base : Nat} {v : Value} {l : List Str} (h : Own w base v l) : ∀ g, v.ownBlock = some g → base ≤ g := by
  intro g hg
  rcases h.own.2 with ⟨rfl, _⟩ | ⟨g', cap, cur, rfl, hb, _⟩
  · cases hg
  · simp only [Value.ownBlock, Option.some.injEq] at hg
    omega
theorem Up.grown {W w w' : World} {base : Nat} {v : Value} {l : List Str} (h : Up W w) (ho : Own w base v l) (hb : W.heap.size ≤ base) (hg : w.grownBy w' v.ownBlock) : Up W w' :=
  ⟨h.bel.grown hg h.bel.size (fun k hk => Nat.le_trans hb (ho.ge k hk))⟩
theorem below_grown {w w' : World} {base : Nat} {v : Value} {l : List Str} (ho : Own w base v l) (hb : base ≤ w.heap.size) (hg : w.grownBy w' v.ownBlock) : Below base w w' :=
  (Below.refl base w).grown hg hb (fun k hk => ho.ge k hk)

theorem run_app {w : World} {base m c : Nat} {v : Value} {A : Option Addr} {lo ln : List Str} (ty : TypeId) (hown : Own w base v lo) (hsrc : Rs w A ln) (hm : m = ln.length) (hn : lo.length + ln.length ≤ 100000) (b3 : base ≤ w.heap.size) :
    ∃ v' w', (Builtin.append_ #[22, 22] ty #[v, .slice A m c]).run Tryd.prog w = .ok v' w' ∧ Own w' base v' (lo ++ ln) ∧ w.grownBy w' v.ownBlock := by
  subst hm
  obtain ⟨i0, hi, hz0, hz1, hz2⟩ := info_parts infoStr
  cases A with
  | none =>
    have h0 : ln.length = 0 := by
      rcases hsrc.row with e | ⟨b, e, _⟩
      · rw [← Ss_len, e]; rfl
      · cases e
    obtain rfl := List.eq_nil_of_length_eq_zero h0
    refine ⟨v, w, ?_, by rw [List.append_nil]; exact hown, World.grownBy.refl w _⟩
    rcases hown.own.2 with ⟨rfl, _⟩ | ⟨g, cap, cur, rfl, _, _, hnc, _⟩
    · simp [Builtin.append_, run_underlying Tryd.underlying22, sizeOf, typeInfo, hi, Builtin.lenOf, Builtin.firstCells]
    · simp [Builtin.append_, run_underlying Tryd.underlying22, sizeOf, typeInfo, hi, Builtin.lenOf, Builtin.firstCells, hnc, storeCells]
  | some ad =>
    obtain ⟨v', w', hrun, r1, r2, _⟩ := run_append_own (P := Tryd.prog) (w := w) base 22 ty 9 i0 (.string ⟨#[]⟩) 1 16 Tryd.underlying22 hi hz0 hz1 hz2 rfl (by decide) v lo.length (Ss lo) hown.own ad ln.length c (Ss ln) (by rw [Ss_len, Nat.mul_one])
      (fun j u hu => by
        rcases hsrc.row with e | ⟨b, e, _, hc⟩
        · rw [e] at hu; simp at hu
        · injection e with e
          subst e
          exact hc j u hu) (Ss_one ln) (by unfold maxLen; omega) (by omega) b3
    exact ⟨v', w', hrun, ⟨by rw [List.length_append, Ss_app]; exact r1⟩, r2⟩

theorem step_app {o : Oper} {a : Act} {w : World} {ops : Array Oper} {K : Act → World → Prop} {Q : Exit → Act → World → Prop} {E : Prop}
    (hg : o.guard = none) (s x : Operand) (hop : o.op = Op.call { callee := Callee.builtin Builtin.append, args := #[s, x], argTypes := #[22, 22] })
    {base m c : Nat} {v : Value} {A : Option Addr} {lo ln : List Str} (hown : Own w base v lo) (hsrc : Rs w A ln) (hs : a.eval s = v) (hx : a.eval x = .slice A m c) (hm : m = ln.length) (hn : lo.length + ln.length ≤ 100000) (b3 : base ≤ w.heap.size)
    (hK : ∀ v' w', Own w' base v' (lo ++ ln) → w.grownBy w' v.ownBlock → K (a.put o.dst v') w') :
    if Region.wanted o (yielded ops a.tmps) = true then Oper.wp Tryd.prog o a w K Q else E := by
  have hw : Region.wanted o (yielded ops a.tmps) = true := by simp [Region.wanted, hg]
  rw [if_pos hw]
  obtain ⟨v', w', hrun, r1, r2⟩ := run_app (w := w) o.type hown hsrc (c := c) hm hn b3
  unfold Oper.wp
  simp [execOp, hop, resolve, invoke, builtin, hs, hx, hrun, Result.andThen]
  exact hK v' w' r1 r2

theorem wpList_app {o : Oper} {a : Act} {w : World} {ops : Array Oper} {rest : List Oper} {Q : Exit → Act → World → Prop}
    (hg : o.guard = none) (s x : Operand) (hop : o.op = Op.call { callee := Callee.builtin Builtin.append, args := #[s, x], argTypes := #[22, 22] })
    {base m c : Nat} {v : Value} {A : Option Addr} {lo ln : List Str} (hown : Own w base v lo) (hsrc : Rs w A ln) (hs : a.eval s = v) (hx : a.eval x = .slice A m c) (hm : m = ln.length) (hn : lo.length + ln.length ≤ 100000) (b3 : base ≤ w.heap.size)
    (hK : ∀ v' w', Own w' base v' (lo ++ ln) → w.grownBy w' v.ownBlock → wpList Tryd.prog ops Q rest (a.put o.dst v') w') :
    wpList Tryd.prog ops Q (o :: rest) a w := by
  refine wpList_plain hg fun K hKK => ?_
  obtain ⟨v', w', hrun, r1, r2⟩ := run_app (w := w) o.type hown hsrc (c := c) hm hn b3
  unfold Oper.wp
  simp [execOp, hop, resolve, invoke, builtin, hs, hx, hrun, Result.andThen]
  exact hKK _ _ (hK v' w' r1 r2)
theorem Own.lit {base : Nat} (w : World) (l : List Str) (hb : base ≤ w.heap.size) (hl : l.length ≤ 100000) : Own (w.alloc (.cells (Ss l).toArray 9)) base (.slice (some ⟨w.heap.size, 0, none⟩) l.length l.length) l :=
  ⟨World.ownsRow_lit w (Ss l).toArray l.length hb (by unfold maxLen; omega) (by rw [List.size_toArray, Ss_len, Nat.mul_one])⟩
theorem Own.sl3 {w : World} {base : Nat} {v : Value} {l : List Str} (h : Own w base v l) : ∃ (A : Option Addr) (n c : Nat), v = .slice A n c ∧ n = l.length ∧ n ≤ c := by
  obtain ⟨A, c, h1, h2⟩ := h.sl
  exact ⟨A, _, c, h1, rfl, h2⟩
/-- What a function that makes a slice of strings hands back. -/
def Gives (W : World) (l : List Str) (e : Ending) (w' : World) : Prop :=
  ∃ (A : Option Addr) (c n : Nat), e = .returned (.slice A n c) ∧ n = l.length ∧ n ≤ c ∧ Own w' W.heap.size (.slice A n c) l ∧ Below W.heap.size W w'
theorem Gives.mk_ {W w' : World} {v : Value} {l : List Str} (ho : Own w' W.heap.size v l) (hb : Below W.heap.size W w') : Gives W l (.returned v) w' := by
  obtain ⟨A, c, rfl, hc⟩ := ho.sl
  exact ⟨A, c, l.length, rfl, rfl, hc, ho, hb⟩
end Mk
end Go.Proofs.YtfemgakfckabhaaDoor
