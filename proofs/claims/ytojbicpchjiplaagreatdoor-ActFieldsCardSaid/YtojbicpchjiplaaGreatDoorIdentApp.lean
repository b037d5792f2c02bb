/-
  Layer 11: slices of strings, the argument's and the call's own; append and stores.
-/
import Derived.Test.YtojbicpchjiplaaGreatDoorIdentRefN
import Derived.Laws.OwnMore
import Derived.Maps.AppendAt
import Derived.Deep.Slices
import Derived.Deep.RegionHeld3
namespace Go.Proofs.YtojbicpchjiplaaGreatDoor.S11
open Go.RowKit
namespace Idt
theorem Ss_app (a b : List Str) : S2.Ss (a ++ b) = S2.Ss a ++ S2.Ss b := by simp [S2.Ss]
theorem Ss_set (l : List Str) (k : Nat) (s : Str) : S2.Ss (l.set k s) = (S2.Ss l).set k (.string (S2.B s)) := by simp [S2.Ss, List.map_set]
theorem Ss_one (l : List Str) : ∀ u ∈ S2.Ss l, u.oneCell' = true := by
  intro u hu
  obtain ⟨s, _, rfl⟩ := List.mem_map.1 hu
  rfl
theorem infoStr : (Tryz.prog.info? 9).map (fun i => (i.zero, i.size, i.bytes)) = some (some (.string ⟨#[]⟩), 1, 16) := by kernel_rfl
/-- Nothing has turned below the start. -/
structure At (W w : World) : Prop where
  bel : Below W.heap.size W w
theorem At.step {W w w' : World} (_ : At W w) (hb : Below W.heap.size W w') : At W w' := ⟨hb⟩
theorem At.drew {W w : World} (h : At W w) : At W w.drew := ⟨h.bel.drew⟩
theorem At.under {W w w' : World} {B : Nat} (h : At W w) (hb : Below B w w') (hB : W.heap.size ≤ B) : At W w' := ⟨h.bel.trans (hb.mono hB)⟩
/-- A slice of strings that lies below B. -/
structure Sl (w : World) (B : Nat) (A : Option Addr) (l : List Str) : Prop where
  row : S2.Row w B A (S2.Ss l)
  le : B ≤ w.heap.size
theorem Sl.now {w : World} {B : Nat} {A : Option Addr} {l : List Str} (h : Sl w B A l) : S2.Row w w.heap.size A (S2.Ss l) := h.row.more h.le
theorem Sl.under {w w' : World} {B B' : Nat} {A : Option Addr} {l : List Str} (h : Sl w B A l) (hb : Below B' w w') (hB : B ≤ B') : Sl w' B A l := ⟨h.row.below (hb.mono hB), Nat.le_trans h.le hb.size⟩
theorem Sl.drew {w : World} {B : Nat} {A : Option Addr} {l : List Str} (h : Sl w B A l) : Sl w.drew B A l := h.under (Below.refl _ _).drew (Nat.le_refl _)
/-- A row other than the one that an append may write stays. -/
theorem Sl.other {w w' : World} {B g g' : Nat} {l : List Str} (h : Sl w B (some ⟨g, 0, none⟩) l) (hg : w.grownBy w' (some g')) (hne : g' < g) : Sl w' B (some ⟨g, 0, none⟩) l := by
  refine ⟨?_, Nat.le_trans h.le hg.size⟩
  rcases h.row with h1 | ⟨a, h1, h2, h3⟩
  · exact .inl h1
  · injection h1 with h1
    subst h1
    refine .inr ⟨_, rfl, h2, fun j u hu => (World.cell?_of_block (w := w) ?_).trans (h3 j u hu)⟩
    rw [S2.add_block]
    exact hg.block g (Nat.lt_of_lt_of_le h2 h.le) (by simp only [ne_eq, Option.some.injEq]; omega)
/-- A slice of strings of the call's own. -/
structure Own (w : World) (base : Nat) (v : Value) (l : List Str) : Prop where
  own : w.ownsRow base 9 1 v l.length (S2.Ss l)
  le : base ≤ w.heap.size
theorem Own.drew {w : World} {base : Nat} {v : Value} {l : List Str} (h : Own w base v l) : Own w.drew base v l := ⟨h.own, h.le⟩
theorem alloc_under (w : World) (o : Obj) : Below w.heap.size w (w.alloc o) := (Below.refl _ _).alloc (Nat.le_refl _) o
theorem Own.step {w w' : World} {base : Nat} {v : Value} {l : List Str} (h : Own w base v l) (hb : Below w.heap.size w w') : Own w' base v l := by
  have hg : w.grownBy w' none := ⟨hb.os, hb.tape, hb.output, hb.size, fun k hk _ => hb.block k hk⟩
  refine ⟨h.own.kept hg ?_, Nat.le_trans h.le hb.size⟩
  cases hv : v.ownBlock with
  | none => exact .inl rfl
  | some g => exact .inr (by simp)
theorem Own.ge {w : World} {base : Nat} {v : Value} {l : List Str} (h : Own w base v l) : ∀ g, v.ownBlock = some g → base ≤ g := by
  intro g hg
  rcases h.own.2 with ⟨rfl, _⟩ | ⟨g', cap, cur, rfl, hb, _⟩
  · cases hg
  · simp only [Value.ownBlock, Option.some.injEq] at hg
    omega
theorem Own.grown {w w' : World} {base : Nat} {v : Value} {l : List Str} (ho : Own w base v l) (hg : w.grownBy w' v.ownBlock) : Below base w w' :=
  (Below.refl base w).grown hg ho.le (fun k hk => ho.ge k hk)
theorem Own.sl3 {w : World} {base : Nat} {v : Value} {l : List Str} (h : Own w base v l) : ∃ (A : Option Addr) (n c : Nat), v = .slice A n c ∧ n = l.length ∧ n ≤ c := by
  rcases h.own.2 with ⟨rfl, h0⟩ | ⟨g, cap, cur, rfl, _, _, hc, _⟩
  · exact ⟨none, 0, 0, rfl, h0.symm, Nat.le_refl _⟩
  · exact ⟨_, _, cap, rfl, rfl, hc⟩
theorem Own.sl {w : World} {base n c : Nat} {A : Option Addr} {l : List Str} (h : Own w base (.slice A n c) l) (hn : n = l.length) : Sl w w.heap.size A l := by
  subst hn
  exact ⟨S2.Row.of_own h.own, Nat.le_refl _⟩
theorem run_app {w : World} {base m c : Nat} {v : Value} {A : Option Addr} {lo ln : List Str} (ty : TypeId) (hown : Own w base v lo) (hsrc : S2.Row w w.heap.size A (S2.Ss ln)) (hm : m = ln.length) (hn : lo.length + ln.length ≤ 100000) :
    ∃ v' w', (Builtin.append_ #[22, 22] ty #[v, .slice A m c]).run Tryz.prog w = .ok v' w' ∧ Own w' base v' (lo ++ ln) ∧ Below base w w' ∧ w.grownBy w' v.ownBlock := by
  subst hm
  obtain ⟨i0, hi, hz0, hz1, hz2⟩ := info_parts infoStr
  cases A with
  | none =>
    have h0 : ln.length = 0 := by
      rcases hsrc with e | ⟨b, e, _⟩
      · rw [← S2.Ss_length, e]; rfl
      · cases e
    obtain rfl := List.eq_nil_of_length_eq_zero h0
    refine ⟨v, w, ?_, by rw [List.append_nil]; exact hown, Below.refl _ _, World.grownBy.refl w _⟩
    rcases hown.own.2 with ⟨rfl, _⟩ | ⟨g, cap, cur, rfl, _, _, hnc, _⟩
    · simp [Builtin.append_, run_underlying Tryz.underlying22, sizeOf, typeInfo, hi, Builtin.lenOf, Builtin.firstCells]
    · simp [Builtin.append_, run_underlying Tryz.underlying22, sizeOf, typeInfo, hi, Builtin.lenOf, Builtin.firstCells, hnc, storeCells]
  | some ad =>
    have hcell : ∀ j u, (S2.Ss ln)[j]? = some u → w.cell? (ad.add j) = some u := by
      rcases hsrc with e | ⟨b, e, _, hc⟩
      · intro j u hu
        rw [e] at hu
        simp at hu
      · obtain rfl := Option.some.inj e
        exact hc
    have hlen : (S2.Ss ln).length = ln.length * 1 := by rw [S2.Ss_length, Nat.mul_one]
    have h63 : lo.length + ln.length ≤ maxLen := Nat.le_trans hn (by unfold maxLen; exact Nat.le_of_ble_eq_true rfl)
    have hby : (lo.length + ln.length) * 16 ≤ 140737488355328 := by omega
    obtain ⟨v', w', hrun, r1, r2, _⟩ := run_append_own (P := Tryz.prog) (w := w) base 22 ty 9 i0 (.string ⟨#[]⟩) 1 16 Tryz.underlying22 hi hz0 hz1 hz2 rfl (Nat.le_of_ble_eq_true rfl) v lo.length (S2.Ss lo) hown.own ad ln.length c (S2.Ss ln) hlen hcell (Ss_one ln) h63 hby hown.le
    have hb := hown.grown r2
    exact ⟨v', w', hrun, ⟨by rw [List.length_append, Ss_app]; exact r1, Nat.le_trans hown.le hb.size⟩, hb, r2⟩
theorem step_app {o : Oper} {a : Act} {w : World} {ops : Array Oper} {K : Act → World → Prop} {Q : Exit → Act → World → Prop} {E : Prop}
    (hg : o.guard = none) (s x : Operand) (hop : o.op = Op.call { callee := Callee.builtin Builtin.append, args := #[s, x], argTypes := #[22, 22] })
    {base m c : Nat} {v : Value} {A : Option Addr} {lo ln : List Str} (hown : Own w base v lo) (hsrc : S2.Row w w.heap.size A (S2.Ss ln)) (hs : a.eval s = v) (hx : a.eval x = .slice A m c) (hm : m = ln.length) (hn : lo.length + ln.length ≤ 100000)
    (hK : ∀ v' w', Own w' base v' (lo ++ ln) → Below base w w' → w.grownBy w' v.ownBlock → K (a.put o.dst v') w') :
    if Region.wanted o (yielded ops a.tmps) = true then Oper.wp Tryz.prog o a w K Q else E := by
  have hw : Region.wanted o (yielded ops a.tmps) = true := by simp [Region.wanted, hg]
  rw [if_pos hw]
  obtain ⟨v', w', hrun, r1, r2, r3⟩ := run_app (w := w) o.type hown hsrc (c := c) hm hn
  unfold Oper.wp
  simp [execOp, hop, resolve, invoke, builtin, hs, hx, hrun, Result.andThen]
  exact hK v' w' r1 r2 r3
theorem wpList_app {o : Oper} {a : Act} {w : World} {ops : Array Oper} {rest : List Oper} {Q : Exit → Act → World → Prop}
    (hg : o.guard = none) (s x : Operand) (hop : o.op = Op.call { callee := Callee.builtin Builtin.append, args := #[s, x], argTypes := #[22, 22] })
    {base m c : Nat} {v : Value} {A : Option Addr} {lo ln : List Str} (hown : Own w base v lo) (hsrc : S2.Row w w.heap.size A (S2.Ss ln)) (hs : a.eval s = v) (hx : a.eval x = .slice A m c) (hm : m = ln.length) (hn : lo.length + ln.length ≤ 100000)
    (hK : ∀ v' w', Own w' base v' (lo ++ ln) → Below base w w' → wpList Tryz.prog ops Q rest (a.put o.dst v') w') :
    wpList Tryz.prog ops Q (o :: rest) a w := by
  refine wpList_plain hg fun K hKK => ?_
  obtain ⟨v', w', hrun, r1, r2, _⟩ := run_app (w := w) o.type hown hsrc (c := c) hm hn
  unfold Oper.wp
  simp [execOp, hop, resolve, invoke, builtin, hs, hx, hrun, Result.andThen]
  exact hKK _ _ (hK v' w' r1 r2)
/-- Where a slice of the call's own that is not empty lies. -/
theorem Own.blk {w : World} {base n c : Nat} {A : Option Addr} {l : List Str} (h : Own w base (.slice A n c) l) (hl : 1 ≤ l.length) : ∃ g, A = some ⟨g, 0, none⟩ := by
  rcases h.own.2 with ⟨_, h0⟩ | ⟨g, cap, cur, hv, _⟩
  · omega
  · injection hv with hA _ _
    exact ⟨g, hA⟩
theorem Own.set {w : World} {base g n c : Nat} {l : List Str} (h : Own w base (.slice (some ⟨g, 0, none⟩) n c) l) (hn : n = l.length) (j : Nat) (s : Str) :
    Own (w.setCell ⟨g, j, none⟩ (.string (S2.B s))) base (.slice (some ⟨g, 0, none⟩) n c) (l.set j s) ∧ Below base w (w.setCell ⟨g, j, none⟩ (.string (S2.B s))) := by
  subst hn
  obtain ⟨h1, h2⟩ := h.own.stored j (.string (S2.B s))
  have hb := h.grown h2
  exact ⟨⟨by rw [List.length_set, Ss_set]; exact h1, Nat.le_trans h.le hb.size⟩, hb⟩
theorem Own.cell {w : World} {base g n c : Nat} {l : List Str} (h : Own w base (.slice (some ⟨g, 0, none⟩) n c) l) (hn : n = l.length) {j : Nat} (hj : j < l.length) : w.cell? ⟨g, j, none⟩ = some (.string (S2.B l[j])) ∧ w.frozen? ⟨g, j, none⟩ = false := by
  subst hn
  refine ⟨?_, h.own.frozenAt j⟩
  rw [h.own.cellAt j (by omega), List.getElem?_eq_getElem (by rw [S2.Ss_length]; exact hj), S2.Ss_get]
end Idt
end Go.Proofs.YtojbicpchjiplaaGreatDoor.S11
