/-
  Layer 10 (wal): slices of strings, in a row of their own or where nothing turns; a log in a world, over a machine.
-/
import Derived.Test.YtihanhdepijijaaDiskArm
import Derived.Test.YtihanhdepijijaaDiskRead
import Derived.Test.YtihanhdepijijaaCodeRd2
import Derived.Test.YtihanhdepijijaaWalMath
import Derived.Maps.AppendAt
import Derived.Laws.OwnMore
namespace Go.Proofs.Ytihanhdepijijaa
open Go.RowKit
namespace Wl
open S9.Dk (Dk Fr MD)


abbrev ptr (p : Nat) : Value := .pointer (some ⟨p, 0, none⟩)
theorem Ss_app (a b : List Str) : S2.Ss (a ++ b) = S2.Ss a ++ S2.Ss b := by simp [S2.Ss]
theorem Ss_take (l : List Str) (k : Nat) : S2.Ss (l.take k) = (S2.Ss l).take k := by simp [S2.Ss, List.map_take]
theorem Ss_one (l : List Str) : ∀ u ∈ S2.Ss l, u.oneCell' = true := by
  intro u hu
  obtain ⟨s, _, rfl⟩ := List.mem_map.1 hu
  rfl

/-! ### Slices of strings that lie where nothing turns -/
/-- A slice of strings within the blocks of X. -/
def Rx (X : Nat → Prop) (w : World) (A : Option Addr) (l : List Str) : Prop := S2.Ss l = [] ∨ ∃ a, A = some a ∧ X a.block ∧ ∀ j u, (S2.Ss l)[j]? = some u → w.cell? (a.add j) = some u
section
variable {X Y : Nat → Prop} {w w' : World} {A : Option Addr} {l : List Str}
theorem Rx.row (h : Rx X w A l) (hX : ∀ k, X k → k < w.heap.size) : S2.Row w w.heap.size A (S2.Ss l) := by
  rcases h with h | ⟨a, h1, h2, h3⟩
  · exact .inl h
  · exact .inr ⟨a, h1, hX _ h2, h3⟩
theorem Rx.of_row {bd : Nat} (h : S2.Row w bd A (S2.Ss l)) (hX : ∀ k, k < bd → X k) : Rx X w A l := by
  rcases h with h | ⟨a, h1, h2, h3⟩
  · exact .inl h
  · exact .inr ⟨a, h1, hX _ h2, h3⟩
theorem Rx.fr (h : Rx X w A l) (hf : Fr X w w') : Rx X w' A l := by
  rcases h with h | ⟨a, h1, h2, h3⟩
  · exact .inl h
  · exact .inr ⟨a, h1, h2, fun j u hu => (hf.cell (p := a.add j) (by rw [S2.add_block]; exact h2)).trans (h3 j u hu)⟩
theorem Rx.mono (h : Rx X w A l) (hXY : ∀ k, X k → Y k) : Rx Y w A l := by
  rcases h with h | ⟨a, h1, h2, h3⟩
  · exact .inl h
  · exact .inr ⟨a, h1, hXY _ h2, h3⟩
theorem Rx.nil (X : Nat → Prop) (w : World) (A : Option Addr) : Rx X w A [] := .inl rfl
theorem Rx.take (h : Rx X w A l) (k : Nat) : Rx X w A (l.take k) := by
  rcases h with h | ⟨a, h1, h2, h3⟩
  · exact .inl (by rw [Ss_take, h]; simp)
  · refine .inr ⟨a, h1, h2, fun j u hu => h3 j u ?_⟩
    rw [Ss_take, List.getElem?_take] at hu
    split at hu
    · exact hu
    · cases hu
theorem Rx.at_ (h : Rx X w A l) {k : Nat} (hk : k < l.length) : ∃ a, A = some a ∧ X a.block ∧ w.cell? (a.add k) = some (.string (S2.B l[k])) := by
  rcases h with h | ⟨a, h1, h2, h3⟩
  · rw [← S2.Ss_length, h] at hk; simp at hk
  · exact ⟨a, h1, h2, h3 k _ (by simp [S2.Ss, hk])⟩
end

/-! ### Slices of strings, each in a row of its own -/
def Own (w : World) (v : Value) (l : List Str) : Prop := w.ownsRow 0 9 1 v l.length (S2.Ss l)
section
variable {X : Nat → Prop} {w w' : World} {v : Value} {l : List Str}
theorem Own.nil (w : World) : Own w (.slice none 0 0) [] := World.ownsRow_nil _ _ _ _
theorem Own.lt (h : Own w v l) {g : Nat} (hg : v.ownBlock = some g) : g < w.heap.size := (World.ownsRow.lt h g hg).2
theorem Own.keep (h : Own w v l) (hk : ∀ g, v.ownBlock = some g → w'.heap[g]? = w.heap[g]?) : Own w' v l := S9.Dk.own_keep h hk
theorem Own.fr (h : Own w v l) (hf : Fr X w w') (hX : ∀ g, v.ownBlock = some g → X g) : Own w' v l := h.keep fun g hg => hf.block g (hX g hg)
theorem Own.sl (h : Own w v l) : ∃ (A : Option Addr) (n c : Nat), v = .slice A n c ∧ n = l.length ∧ n ≤ c := by
  rcases h.2 with ⟨rfl, h0⟩ | ⟨g, cap, cur, rfl, _, _, hc, _⟩
  · exact ⟨none, 0, 0, rfl, h0.symm, Nat.le_refl _⟩
  · exact ⟨_, _, cap, rfl, rfl, hc⟩
theorem Own.row {A : Option Addr} {n c : Nat} (h : Own w (.slice A n c) l) (hn : n = l.length) : S2.Row w w.heap.size A (S2.Ss l) := by
  subst hn
  exact S2.Row.of_own h
theorem Own.rx {A : Option Addr} {n c : Nat} (h : Own w (.slice A n c) l) (hX : ∀ g, (Value.slice A n c).ownBlock = some g → X g) : Rx X w A l := by
  rcases h.2 with ⟨hv, h0⟩ | ⟨g, cap, cur, hv, _, hh, _⟩
  · left
    have := h.1
    rw [h0] at this
    exact List.eq_nil_of_length_eq_zero (by simpa using this)
  · injection hv with hA _ _
    subst hA
    exact .inr ⟨_, rfl, hX g rfl, World.ownsRow.cells h (g := g) rfl⟩
end
theorem row_lit (w : World) (l : List Str) : S2.Row (w.alloc (.cells (S2.Ss l).toArray 9)) (w.alloc (.cells (S2.Ss l).toArray 9)).heap.size (some ⟨w.heap.size, 0, none⟩) (S2.Ss l) := by
  refine .inr ⟨_, rfl, by simp, fun j u hu => ?_⟩
  have h := heap_alloc_new w (.cells (S2.Ss l).toArray 9)
  rw [Addr.add_lit, Nat.zero_add, cell_of_row _ _ _ _ _ _ h, List.getElem?_toArray]
  exact hu
theorem row_one (w : World) (s : Str) : S2.Row (w.alloc (.cells #[.string (S2.B s)] 9)) (w.alloc (.cells #[.string (S2.B s)] 9)).heap.size (some ⟨w.heap.size, 0, none⟩) (S2.Ss [s]) := row_lit w [s]
theorem own_base {w : World} {base base' : Nat} {e : TypeId} {s : Nat} {v : Value} {n : Nat} {xs : List Value} (h : w.ownsRow base e s v n xs) (hb : base' ≤ base) : w.ownsRow base' e s v n xs := by
  refine ⟨h.1, ?_⟩
  rcases h.2 with h1 | ⟨g, cap, cur, e, hb1, h2⟩
  · exact .inl h1
  · exact .inr ⟨g, cap, cur, e, Nat.le_trans hb hb1, h2⟩
theorem infoStr : (Try.prog.info? 9).map (fun i => (i.zero, i.size, i.bytes)) = some (some (.string ⟨#[]⟩), 1, 16) := by kernel_rfl

set_option maxRecDepth 100000 in
/-- append onto a slice of strings in a row of its own. -/
theorem run_app {w : World} {m c : Nat} {v : Value} {A : Option Addr} {lo ln : List Str} (ty : TypeId) (hown : Own w v lo) (hsrc : S2.Row w w.heap.size A (S2.Ss ln)) (hm : m = ln.length) (hn : lo.length + ln.length ≤ 16000000) :
    ∃ v' w', (Builtin.append_ #[32, 32] ty #[v, .slice A m c]).run Try.prog w = .ok v' w' ∧ Own w' v' (lo ++ ln) ∧ w.grownBy w' v.ownBlock ∧ (v'.ownBlock = v.ownBlock ∨ ∀ g, v'.ownBlock = some g → w.heap.size ≤ g) := by
  subst hm
  obtain ⟨i0, hi, hz0, hz1, hz2⟩ := info_parts infoStr
  cases A with
  | none =>
    have h0 : ln.length = 0 := by
      rcases hsrc with e | ⟨b, e, _⟩
      · rw [← S2.Ss_length, e]; rfl
      · cases e
    obtain rfl := List.eq_nil_of_length_eq_zero h0
    refine ⟨v, w, ?_, by rw [List.append_nil]; exact hown, World.grownBy.refl w _, .inl rfl⟩
    rcases hown.2 with ⟨rfl, _⟩ | ⟨g, cap, cur, rfl, _, _, hnc, _⟩
    · simp [Builtin.append_, run_underlying Try.underlying32, sizeOf, typeInfo, hi, Builtin.lenOf, Builtin.firstCells]
    · simp [Builtin.append_, run_underlying Try.underlying32, sizeOf, typeInfo, hi, Builtin.lenOf, Builtin.firstCells, hnc, storeCells]
  | some ad =>
    have hcells : ∀ j u, (S2.Ss ln)[j]? = some u → w.cell? (ad.add j) = some u := fun j u hu => by
      rcases hsrc with e | ⟨b, e, _, hc⟩
      · rw [e] at hu; simp at hu
      · injection e with e
        subst e
        exact hc j u hu
    have h' : w.ownsRow 0 9 1 v lo.length (S2.Ss lo) := hown
    obtain ⟨v', w', hrun, r1, r2, _⟩ := run_append_own (P := Try.prog) (w := w) 0 32 ty 9 i0 (.string ⟨#[]⟩) 1 16 Try.underlying32 hi hz0 hz1 hz2 rfl (by decide) v lo.length (S2.Ss lo) h' ad ln.length c (S2.Ss ln) (by rw [S2.Ss_length, Nat.mul_one])
      hcells (Ss_one ln) (by unfold maxLen; omega) (by omega) (Nat.zero_le _)
    refine ⟨v', w', hrun, by unfold Own; rw [List.length_append, Ss_app]; exact r1, r2, ?_⟩
    -- where the new row lies
    rcases h'.2 with ⟨rfl, h0⟩ | ⟨g, cap, cur, rfl, _, hh, hnc, hcm, hcs, ht⟩
    · right
      obtain rfl : lo = [] := List.eq_nil_of_length_eq_zero h0
      obtain ⟨v2, w2, hrun2, hown2, _⟩ := run_append_own (P := Try.prog) (w := w) w.heap.size 32 ty 9 i0 (.string ⟨#[]⟩) 1 16 Try.underlying32 hi hz0 hz1 hz2 rfl (by decide) (.slice none 0 0) 0 [] (World.ownsRow_nil _ _ _ _) ad ln.length c (S2.Ss ln) (by rw [S2.Ss_length, Nat.mul_one])
        hcells (Ss_one ln) (by unfold maxLen; omega) (by simp at hn; omega) (Nat.le_refl _)
      rw [hrun] at hrun2
      injection hrun2 with e1 e2
      subst e1 e2
      exact fun g hg2 => (hown2.lt g hg2).1
    · rw [Nat.mul_one] at hcs
      by_cases hroom : lo.length + ln.length ≤ cap
      · left
        have hr := run_append_room (P := Try.prog) (w := w) 32 ty 9 i0 Try.underlying32 hi g lo.length cap cur hh ad ln.length c (S2.Ss ln) (by rw [hz1, S2.Ss_length, Nat.mul_one]) hcells (Ss_one ln) hroom (by rw [hz1, S2.Ss_length]; omega)
        rw [hrun] at hr
        injection hr with e1 e2
        subst e1
        rfl
      · right
        have hr := run_append_grow (P := Try.prog) (w := w) 32 ty 9 i0 (.string ⟨#[]⟩) Try.underlying32 hi hz0 ⟨g, 0, none⟩ lo.length cap (S2.Ss lo) (by rw [hz1, S2.Ss_length, Nat.mul_one]) (h'.cells (g := g) rfl) ad ln.length c (S2.Ss ln) (by rw [hz1, S2.Ss_length, Nat.mul_one]) hcells (by omega) (by omega) (growslice_fits (by omega) (by rw [hz2]; omega))
        rw [hrun] at hr
        injection hr with e1 e2
        subst e1
        intro g2 hg2
        simp only [Value.ownBlock, Option.some.injEq] at hg2
        omega
theorem wpList_app {o : Oper} {a : Act} {w : World} {ops : Array Oper} {rest : List Oper} {Q : Exit → Act → World → Prop}
    (hg : o.guard = none) (s x : Operand) (hop : o.op = Op.call { callee := Callee.builtin Builtin.append, args := #[s, x], argTypes := #[32, 32] })
    {m c : Nat} {v : Value} {A : Option Addr} {lo ln : List Str} (hown : Own w v lo) (hsrc : S2.Row w w.heap.size A (S2.Ss ln)) (hs : a.eval s = v) (hx : a.eval x = .slice A m c) (hm : m = ln.length) (hn : lo.length + ln.length ≤ 16000000)
    (hK : ∀ v' w', Own w' v' (lo ++ ln) → w.grownBy w' v.ownBlock → (v'.ownBlock = v.ownBlock ∨ ∀ g, v'.ownBlock = some g → w.heap.size ≤ g) → wpList Try.prog ops Q rest (a.put o.dst v') w') :
    wpList Try.prog ops Q (o :: rest) a w := by
  refine wpList_plain hg fun K hKK => ?_
  obtain ⟨v', w', hrun, r1, r2, r3⟩ := run_app (w := w) o.type hown hsrc (c := c) hm hn
  unfold Oper.wp
  simp [execOp, hop, resolve, invoke, builtin, hs, hx, hrun, Result.andThen]
  exact hKK _ _ (hK v' w' r1 r2 r3)
/-- What is the machine's lies among the blocks that are as they were; Y names none of it. -/
theorem dk_move {X Y : Nat → Prop} {w w' : World} {p : Nat} {D : MD} (h : Dk X w p D) (hk : ∀ k, k < w.heap.size → ¬ X k → w'.heap[k]? = w.heap[k]?) (hlt : ∀ k, Y k → k < w'.heap.size) (hY : ∀ k, Y k → X k ∨ w.heap.size ≤ k) : Dk Y w' p D := by
  obtain ⟨ho, vs, hv⟩ := h
  have hl : ∀ i, i < 8 → ∀ g, (vs i).ownBlock = some g → g < w.heap.size ∧ ¬ X g := fun i hi g hg => ⟨S9.Dk.own_lt (hv.own i hi) hg, hv.offX i hi g hg⟩
  obtain ⟨cur, h1, h2⟩ := hv.blk
  refine ⟨ho, vs, ⟨cur, (hk p hv.p_lt hv.pX).trans h1, h2⟩, fun i hi => S9.Dk.own_keep (hv.own i hi) (fun g hg => hk g (hl i hi g hg).1 (hl i hi g hg).2), hv.offp, fun i hi g hg hy => ?_, hv.apart, fun hy => ?_, hlt⟩
  · rcases hY g hy with h3 | h3
    · exact (hl i hi g hg).2 h3
    · have := (hl i hi g hg).1
      omega
  · rcases hY p hy with h3 | h3
    · exact hv.pX h3
    · have := hv.p_lt
      omega
theorem step_app {o : Oper} {a : Act} {w : World} {ops : Array Oper} {K : Act → World → Prop} {Q : Exit → Act → World → Prop} {E : Prop}
    (hg : o.guard = none) (s x : Operand) (hop : o.op = Op.call { callee := Callee.builtin Builtin.append, args := #[s, x], argTypes := #[32, 32] })
    {m c : Nat} {v : Value} {A : Option Addr} {lo ln : List Str} (hown : Own w v lo) (hsrc : S2.Row w w.heap.size A (S2.Ss ln)) (hs : a.eval s = v) (hx : a.eval x = .slice A m c) (hm : m = ln.length) (hn : lo.length + ln.length ≤ 16000000)
    (hK : ∀ v' w', Own w' v' (lo ++ ln) → w.grownBy w' v.ownBlock → (v'.ownBlock = v.ownBlock ∨ ∀ g, v'.ownBlock = some g → w.heap.size ≤ g) → K (a.put o.dst v') w') :
    if Region.wanted o (yielded ops a.tmps) = true then Oper.wp Try.prog o a w K Q else E := by
  have hw : Region.wanted o (yielded ops a.tmps) = true := by simp [Region.wanted, hg]
  rw [if_pos hw]
  obtain ⟨v', w', hrun, r1, r2, r3⟩ := run_app (w := w) o.type hown hsrc (c := c) hm hn
  unfold Oper.wp
  simp [execOp, hop, resolve, invoke, builtin, hs, hx, hrun, Result.andThen]
  exact hK v' w' r1 r2 r3
end Wl
end Go.Proofs.Ytihanhdepijijaa
