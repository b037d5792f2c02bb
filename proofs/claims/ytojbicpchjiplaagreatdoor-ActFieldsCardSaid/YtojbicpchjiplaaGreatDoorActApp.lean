/-
  Layer 12: slices of wraps, the argument's and the call's own; append.
-/
import Derived.Test.YtojbicpchjiplaaGreatDoorActPv
import Derived.Laws.OwnMore
import Derived.Maps.AppendAt
namespace Go.Proofs.YtojbicpchjiplaaGreatDoor
open Go.RowKit
namespace Ax
open S11.Idt (Str)
theorem Ws_app : ∀ a b : List Wr, Ws (a ++ b) = Ws a ++ Ws b
  | [], _ => rfl
  | x :: a, b => by rw [List.cons_append, Ws, Ws, Ws_app a b, List.append_assoc]
theorem Ws_one : ∀ l : List Wr, ∀ u ∈ Ws l, u.oneCell' = true
  | [], u, h => by cases h
  | x :: l, u, h => by
    rw [Ws, List.mem_append] at h
    rcases h with h | h
    · simp only [wc, List.mem_cons, List.not_mem_nil, or_false] at h
      rcases h with rfl | rfl | rfl | rfl | rfl <;> rfl
    · exact Ws_one l u h
theorem infoWr : (Tryz.prog.info? 50).map (fun i => (i.zero, i.size, i.bytes)) = some (some (.agg #[.int .i64 0, .int .i64 0, .string ⟨#[]⟩, .string ⟨#[]⟩, .string ⟨#[]⟩]), 5, 64) := by kernel_rfl
/-- A slice of wraps of the call's own. -/
structure OwnW (w : World) (base : Nat) (v : Value) (l : List Wr) : Prop where
  own : w.ownsRow base 50 5 v l.length (Ws l)
  le : base ≤ w.heap.size
theorem OwnW.drew {w : World} {base : Nat} {v : Value} {l : List Wr} (h : OwnW w base v l) : OwnW w.drew base v l := ⟨h.own, h.le⟩
theorem OwnW.lit (w : World) (l : List Wr) (hl : l.length ≤ 100000) : OwnW (w.alloc (.cells (Ws l).toArray 50)) w.heap.size (.slice (some ⟨w.heap.size, 0, none⟩) l.length l.length) l :=
  ⟨⟨by rw [Ws_len, Nat.mul_comm], .inr ⟨_, _, _, rfl, Nat.le_refl _, heap_alloc_new w _, Nat.le_refl _, by unfold maxLen; omega, by rw [List.size_toArray, Ws_len, Nat.mul_comm], by rw [List.take_of_length_le (by simp only; rw [Ws_len]; omega)]⟩⟩, by simp⟩
theorem OwnW.nil (w : World) : OwnW w w.heap.size (.slice none 0 0) [] := ⟨⟨rfl, .inl ⟨rfl, rfl⟩⟩, Nat.le_refl _⟩
theorem alloc_under (w : World) (o : Obj) : Below w.heap.size w (w.alloc o) := (Below.refl _ _).alloc (Nat.le_refl _) o
theorem OwnW.step {w w' : World} {base : Nat} {v : Value} {l : List Wr} (h : OwnW w base v l) (hb : Below w.heap.size w w') : OwnW w' base v l := by
  have hg : w.grownBy w' none := ⟨hb.os, hb.tape, hb.output, hb.size, fun k hk _ => hb.block k hk⟩
  refine ⟨h.own.kept hg ?_, Nat.le_trans h.le hb.size⟩
  cases hv : v.ownBlock with
  | none => exact .inl rfl
  | some g => exact .inr (by simp)
theorem OwnW.ge {w : World} {base : Nat} {v : Value} {l : List Wr} (h : OwnW w base v l) : ∀ g, v.ownBlock = some g → base ≤ g := by
  intro g hg
  rcases h.own.2 with ⟨rfl, _⟩ | ⟨g', cap, cur, rfl, hb, _⟩
  · cases hg
  · simp only [Value.ownBlock, Option.some.injEq] at hg
    omega
theorem OwnW.grown {w w' : World} {base : Nat} {v : Value} {l : List Wr} (ho : OwnW w base v l) (hg : w.grownBy w' v.ownBlock) : Below base w w' :=
  (Below.refl base w).grown hg ho.le (fun k hk => ho.ge k hk)
theorem OwnW.sl3 {w : World} {base : Nat} {v : Value} {l : List Wr} (h : OwnW w base v l) : ∃ (A : Option Addr) (n c : Nat), v = .slice A n c ∧ n = l.length ∧ n ≤ c := by
  rcases h.own.2 with ⟨rfl, h0⟩ | ⟨g, cap, cur, rfl, _, _, hc, _⟩
  · exact ⟨none, 0, 0, rfl, h0.symm, Nat.le_refl _⟩
  · exact ⟨_, _, cap, rfl, rfl, hc⟩
theorem OwnW.row {w : World} {base n c : Nat} {A : Option Addr} {l : List Wr} (h : OwnW w base (.slice A n c) l) : S2.Row w w.heap.size A (Ws l) := by
  rcases h.own.2 with ⟨_, h0⟩ | ⟨g, cap, cur, hv, _, hh, _⟩
  · exact .inl (by rw [List.eq_nil_of_length_eq_zero h0]; rfl)
  · injection hv with hA hn _
    subst hA
    have h' := h.own
    rw [← hn] at h'
    exact .inr ⟨_, rfl, (Array.getElem?_eq_some_iff.1 hh).1, h'.cells (g := g) rfl⟩
theorem run_appW {w : World} {base m c : Nat} {v : Value} {A : Option Addr} {lo ln : List Wr} (ty : TypeId) (hown : OwnW w base v lo) (hsrc : S2.Row w w.heap.size A (Ws ln)) (hm : m = ln.length) (hn : lo.length + ln.length ≤ 100000) :
    ∃ v' w', (Builtin.append_ #[25, 25] ty #[v, .slice A m c]).run Tryz.prog w = .ok v' w' ∧ OwnW w' base v' (lo ++ ln) ∧ Below base w w' ∧ w.grownBy w' v.ownBlock := by
  subst hm
  obtain ⟨i0, hi, hz0, hz1, hz2⟩ := info_parts infoWr
  cases A with
  | none =>
    have h0 : ln.length = 0 := by
      rcases hsrc with e | ⟨b, e, _⟩
      · have := Ws_len ln; rw [e] at this; simp at this; omega
      · cases e
    obtain rfl := List.eq_nil_of_length_eq_zero h0
    refine ⟨v, w, ?_, by rw [List.append_nil]; exact hown, Below.refl _ _, World.grownBy.refl w _⟩
    rcases hown.own.2 with ⟨rfl, _⟩ | ⟨g, cap, cur, rfl, _, _, hnc, _⟩
    · simp [Builtin.append_, run_underlying Tryz.underlying25, sizeOf, typeInfo, hi, Builtin.lenOf, Builtin.firstCells]
    · simp [Builtin.append_, run_underlying Tryz.underlying25, sizeOf, typeInfo, hi, Builtin.lenOf, Builtin.firstCells, hnc, storeCells]
  | some ad =>
    have hcell : ∀ j u, (Ws ln)[j]? = some u → w.cell? (ad.add j) = some u := by
      rcases hsrc with e | ⟨b, e, _, hc⟩
      · intro j u hu
        rw [e] at hu
        simp at hu
      · obtain rfl := Option.some.inj e
        exact hc
    have hlen : (Ws ln).length = ln.length * 5 := by rw [Ws_len, Nat.mul_comm]
    have h63 : lo.length + ln.length ≤ maxLen := Nat.le_trans hn (by unfold maxLen; exact Nat.le_of_ble_eq_true rfl)
    have hby : (lo.length + ln.length) * 64 ≤ 140737488355328 := by omega
    obtain ⟨v', w', hrun, r1, r2, _⟩ := run_append_own (P := Tryz.prog) (w := w) base 25 ty 50 i0 (.agg #[.int .i64 0, .int .i64 0, .string ⟨#[]⟩, .string ⟨#[]⟩, .string ⟨#[]⟩]) 5 64 Tryz.underlying25 hi hz0 hz1 hz2 rfl (Nat.le_of_ble_eq_true rfl) v lo.length (Ws lo) hown.own ad ln.length c (Ws ln) hlen hcell (Ws_one ln) h63 hby hown.le
    have hb := hown.grown r2
    exact ⟨v', w', hrun, ⟨by rw [List.length_append, Ws_app]; exact r1, Nat.le_trans hown.le hb.size⟩, hb, r2⟩
theorem step_appW {o : Oper} {a : Act} {w : World} {ops : Array Oper} {K : Act → World → Prop} {Q : Exit → Act → World → Prop} {E : Prop}
    (hg : o.guard = none) (s x : Operand) (hop : o.op = Op.call { callee := Callee.builtin Builtin.append, args := #[s, x], argTypes := #[25, 25] })
    {base m c : Nat} {v : Value} {A : Option Addr} {lo ln : List Wr} (hown : OwnW w base v lo) (hsrc : S2.Row w w.heap.size A (Ws ln)) (hs : a.eval s = v) (hx : a.eval x = .slice A m c) (hm : m = ln.length) (hn : lo.length + ln.length ≤ 100000)
    (hK : ∀ v' w', OwnW w' base v' (lo ++ ln) → Below base w w' → w.grownBy w' v.ownBlock → K (a.put o.dst v') w') :
    if Region.wanted o (yielded ops a.tmps) = true then Oper.wp Tryz.prog o a w K Q else E := by
  have hw : Region.wanted o (yielded ops a.tmps) = true := by simp [Region.wanted, hg]
  rw [if_pos hw]
  obtain ⟨v', w', hrun, r1, r2, r3⟩ := run_appW (w := w) o.type hown hsrc (c := c) hm hn
  unfold Oper.wp
  simp [execOp, hop, resolve, invoke, builtin, hs, hx, hrun, Result.andThen]
  exact hK v' w' r1 r2 r3
theorem wpList_appW {o : Oper} {a : Act} {w : World} {ops : Array Oper} {rest : List Oper} {Q : Exit → Act → World → Prop}
    (hg : o.guard = none) (s x : Operand) (hop : o.op = Op.call { callee := Callee.builtin Builtin.append, args := #[s, x], argTypes := #[25, 25] })
    {base m c : Nat} {v : Value} {A : Option Addr} {lo ln : List Wr} (hown : OwnW w base v lo) (hsrc : S2.Row w w.heap.size A (Ws ln)) (hs : a.eval s = v) (hx : a.eval x = .slice A m c) (hm : m = ln.length) (hn : lo.length + ln.length ≤ 100000)
    (hK : ∀ v' w', OwnW w' base v' (lo ++ ln) → Below base w w' → wpList Tryz.prog ops Q rest (a.put o.dst v') w') :
    wpList Tryz.prog ops Q (o :: rest) a w := by
  refine wpList_plain hg fun K hKK => ?_
  obtain ⟨v', w', hrun, r1, r2, _⟩ := run_appW (w := w) o.type hown hsrc (c := c) hm hn
  unfold Oper.wp
  simp [execOp, hop, resolve, invoke, builtin, hs, hx, hrun, Result.andThen]
  exact hKK _ _ (hK v' w' r1 r2)
/-- Only block g differs. -/
structure Only (g : Nat) (w w' : World) : Prop where
  size : w'.heap.size = w.heap.size
  blk : ∀ k, k ≠ g → w'.heap[k]? = w.heap[k]?
theorem row_only {w w' : World} {g base bd : Nat} {A : Option Addr} {xs : List Value} (h : S2.Row w bd A xs) (ho : Only g w w') (hA : ∀ a, A = some a → base ≤ a.block) (hg : g < base) : S2.Row w' bd A xs := by
  rcases h with h | ⟨a, rfl, hlt, hc⟩
  · exact .inl h
  · refine .inr ⟨a, rfl, hlt, fun j u hu => (World.cell?_of_block (w := w) ?_).trans (hc j u hu)⟩
    rw [S2.add_block]
    exact ho.blk _ (by have := hA a rfl; omega)
theorem OwnW.addr {w : World} {base n c : Nat} {A : Option Addr} {l : List Wr} (h : OwnW w base (.slice A n c) l) : ∀ a, A = some a → base ≤ a.block := by
  rintro a rfl
  exact h.ge a.block rfl
/-- Other wraps in an activity's cells. -/
theorem Av.putW {w : World} {bd bd' n c : Nat} {cs : List Value} {a : Ac} {e s : Int} {Q : Option Addr} {l : List Wr} (h : Av w bd cs a e s) (hr : S2.Row w bd' Q (Ws l)) (hn : n = l.length) (hc : n ≤ c) (h1 : bd ≤ bd') (h2 : bd' ≤ w.heap.size) :
    Av w bd' (cs.take 15 ++ [.slice Q n c] ++ cs.drop (15 + ([.slice Q n c] : List Value).length)) { a with wraps := l } e s := by
  obtain ⟨A, nA, cA, Q', nQ, cQ, rfl, hp⟩ := h
  exact ⟨A, nA, cA, Q, n, c, rfl, ⟨hp.hn, hp.hc, hp.rowA.more h1, hn, hc, hr, h2⟩⟩
theorem Av.toAt {w : World} {bd n c : Nat} {cs : List Value} {a : Ac} {e s : Int} {A : Option Addr} (h : Av w bd cs a e s) (h9 : cs[9]? = some (.slice A n c)) : n = a.to.length ∧ n ≤ c ∧ S2.Row w bd A (S2.Ss a.to) := by
  obtain ⟨A', n', c', h1, h2, h3, h4⟩ := h.to
  rw [h9] at h1
  simp only [Option.some.injEq, Value.slice.injEq] at h1
  obtain ⟨rfl, rfl, rfl⟩ := h1
  exact ⟨h2, h3, h4⟩
theorem Av.wrAt {w : World} {bd n c : Nat} {cs : List Value} {a : Ac} {e s : Int} {A : Option Addr} (h : Av w bd cs a e s) (h9 : cs[15]? = some (.slice A n c)) : n = a.wraps.length ∧ n ≤ c ∧ S2.Row w bd A (Ws a.wraps) := by
  obtain ⟨A', n', c', h1, h2, h3, h4⟩ := h.wraps
  rw [h9] at h1
  simp only [Option.some.injEq, Value.slice.injEq] at h1
  obtain ⟨rfl, rfl, rfl⟩ := h1
  exact ⟨h2, h3, h4⟩
end Ax
namespace Lk
/-- A part of an activity's block is stored: every other block is as it was. -/
theorem stX {p : String} {x y : Operand} {t ty : TypeId} {af : Array Edge} {a : _root_.Go.Act} {w : World} {ops : Array Oper} {rest : List Oper} {Q : Exit → _root_.Go.Act → World → Prop} (g k : Nat) (new : List Value) (v : Value) {cs : List Value} (hb : Bl w g cs 29)
    (hi : (Tryz.prog.info? t).map (·.size) = some new.length) (hv : v.cells = new.toArray) (hfit : k + new.length ≤ cs.length) (h1 : new.toArray.all (·.oneCell') = true)
    (hx : a.eval x = .pointer (some ⟨g, k, none⟩)) (hy : a.eval y = v)
    (h : ∀ w', Bl w' g (cs.take k ++ new ++ cs.drop (k + new.length)) 29 → Below g w w' → Ax.Only g w w' → wpList Tryz.prog ops Q rest (a.put none undef) w') :
    wpList Tryz.prog ops Q ({ dst := none, op := .store t x y, type := ty, pos := p, after := af, guard := none } :: rest) a w :=
  wpList_plain rfl fun _ hK => by
    have hst := run_storeCells_at Tryz.prog g k 29 new 0 cs.toArray w hb.row (by simpa using hfit) (fun v hv => (Array.all_eq_true_iff_forall_mem.1 h1) v (by simpa using hv))
    have hrun : (storeVar t ⟨g, k, none⟩ v).run Tryz.prog w = .ok () (w.setRow g (cs.take k ++ new ++ cs.drop (k + new.length)).toArray) := by
      cases hq : Tryz.prog.info? t with
      | none => simp [hq] at hi
      | some i =>
        have hs : new.length = i.size := by simp [hq] at hi; omega
        simp only [Nat.add_zero] at hst
        simp [storeVar, sizeOf, typeInfo, hq, hv, hs] at hst ⊢
        exact hst
    unfold Oper.wp execOp
    simp only [hx, hy, Instr.storeAt, Instr.sureAddr, Sem.run_bind, Sem.run_pure, Result.andThen_ok, hrun]
    exact hK _ _ (h _ ⟨setRow_heap w g _ _ _ _ hb.row⟩ ⟨rfl, rfl, rfl, by simp [World.setRow], fun k hk => setRow_other w g k _ (by omega)⟩ ⟨by simp [World.setRow], fun k hk => setRow_other w g k _ hk⟩)
end Lk
end Go.Proofs.YtojbicpchjiplaaGreatDoor
