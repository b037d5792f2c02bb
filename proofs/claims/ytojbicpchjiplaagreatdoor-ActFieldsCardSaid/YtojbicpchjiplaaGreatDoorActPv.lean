/-
  ActKit, ActFew, ActPk, ActVal, ActPv: joined.
-/
import Derived.Test.YtojbicpchjiplaaGreatDoorActFacts
import Derived.Test.YtojbicpchjiplaaGreatDoorCodePut
import Derived.Test.YtojbicpchjiplaaGreatDoorCodeRd2
import Derived.Deep.Slices
import Derived.Deep.WholeRow
import Derived.Laws.Tables
import Derived.Laws.CopyRow
import Derived.Lib.Hide
import Derived.Deep.RegionHeld3
/-
  Layer 12: what a walk carries: the world has only grown above the start; blocks of cells; an activity in a world.
-/
namespace Go.Proofs.YtojbicpchjiplaaGreatDoor
open Go.RowKit
namespace Lk
/-- The world has only grown above W. -/
structure At (W w : World) : Prop where
  bel : Below W.heap.size W w
theorem At.start (W : World) : At W W := ⟨Below.refl _ _⟩
theorem At.step {W w w' : World} (h : At W w) (hb : Below w.heap.size w w') : At W w' := ⟨h.bel.trans (hb.mono h.bel.size)⟩
theorem At.alloc {W w : World} (h : At W w) (o : Obj) : At W (w.alloc o) := h.step ((Below.refl _ _).alloc (Nat.le_refl _) o)
theorem At.drew {W w : World} (h : At W w) : At W w.drew := h.step (Below.refl _ _).drew
theorem At.set {W w : World} (h : At W w) {g : Nat} (hg : W.heap.size ≤ g) (j : Nat) (v : Value) : At W (w.setCell ⟨g, j, none⟩ v) := ⟨h.bel.setCell (p := ⟨g, j, none⟩) hg v⟩
/-- A block of cells. -/
structure Bl (w : World) (g : Nat) (cs : List Value) (t : TypeId) : Prop where
  row : w.heap[g]? = some (.cells cs.toArray t (0, 0))
theorem Bl.lt {w : World} {g : Nat} {cs : List Value} {t : TypeId} (h : Bl w g cs t) : g < w.heap.size := (Array.getElem?_eq_some_iff.1 h.row).1
theorem Bl.c {w : World} {g : Nat} {cs : List Value} {t : TypeId} (h : Bl w g cs t) (j : Nat) (v : Value) (e : cs[j]? = some v) : w.cell? ⟨g, j, none⟩ = some v := by
  rw [cell_of_row _ _ _ _ _ _ h.row, List.getElem?_toArray, e]
theorem Bl.free {w : World} {g : Nat} {cs : List Value} {t : TypeId} (h : Bl w g cs t) (j : Nat) : w.frozen? ⟨g, j, none⟩ = false := frozen_of_row w g j _ t h.row
theorem Bl.step {w w' : World} {g : Nat} {cs : List Value} {t : TypeId} (h : Bl w g cs t) (hb : Below w.heap.size w w') : Bl w' g cs t :=
  ⟨(hb.block _ h.lt).trans h.row⟩
theorem Bl.alloc {w : World} {g : Nat} {cs : List Value} {t : TypeId} (h : Bl w g cs t) (o : Obj) : Bl (w.alloc o) g cs t := h.step ((Below.refl _ _).alloc (Nat.le_refl _) o)
theorem Bl.drew {w : World} {g : Nat} {cs : List Value} {t : TypeId} (h : Bl w g cs t) : Bl w.drew g cs t := h.step (Below.refl _ _).drew
theorem Bl.new (w : World) (cs : List Value) (t : TypeId) : Bl (w.alloc (.cells cs.toArray t)) w.heap.size cs t := ⟨heap_alloc_new _ _⟩
theorem Bl.set {w : World} {g : Nat} {cs : List Value} {t : TypeId} (h : Bl w g cs t) (j : Nat) (v : Value) : Bl (w.setCell ⟨g, j, none⟩ v) g (cs.set j v) t := by
  refine ⟨(heap_setCell_same w g j _ t v h.row).trans ?_⟩
  simp
theorem Bl.other {w : World} {g g' : Nat} {cs : List Value} {t : TypeId} (h : Bl w g cs t) (hne : g ≠ g') (j : Nat) (v : Value) : Bl (w.setCell ⟨g', j, none⟩ v) g cs t :=
  ⟨(heap_setCell_other w ⟨g', j, none⟩ g v hne).trans h.row⟩
end Lk
namespace Lk
theorem info20 : (Tryz.prog.info? 29).map (·.size) = some 20 := by kernel_rfl
/-- A whole activity out of its block, as one step. -/
theorem act_load {o : Oper} {a : _root_.Go.Act} {w : World} {ops : Array Oper} {rest : List Oper} {Q : Exit → _root_.Go.Act → World → Prop}
    (hg : Region.wanted o (yielded ops a.tmps) = true) (x : Operand) (ho : o.op = .load 29 x) (g : Nat) (hx : a.eval x = .pointer (some ⟨g, 0, none⟩)) {cs : List Value} (hb : Bl w g cs 29) (hl : cs.length = 20)
    (h : wpList Tryz.prog ops Q rest (a.put o.dst (.agg cs.toArray)) w) : wpList Tryz.prog ops Q (o :: rest) a w := by
  refine wpList_step fun K hK => ?_
  rw [if_pos hg]
  exact wp_load_row 29 x ho g hx 29 cs.toArray (0, 0) _ hb.row Tryz.underlying29 rfl (by rw [info20, List.size_toArray, hl]) (hK _ _ h)
/-- The same at an operation that is written out: it fails at once at another one. -/
theorem act_loadL {d : Option Tmp} {x : Operand} {ty : TypeId} {p : String} {af : Array Edge} {gd : Option (Nat × Bool)} {a : _root_.Go.Act} {w : World} {ops : Array Oper} {rest : List Oper} {Q : Exit → _root_.Go.Act → World → Prop}
    (hg : Region.wanted { dst := d, op := .load 29 x, type := ty, pos := p, after := af, guard := gd } (yielded ops a.tmps) = true) (g : Nat) (hx : a.eval x = .pointer (some ⟨g, 0, none⟩)) {cs : List Value} (hb : Bl w g cs 29) (hl : cs.length = 20)
    (h : wpList Tryz.prog ops Q rest (a.put d (.agg cs.toArray)) w) : wpList Tryz.prog ops Q ({ dst := d, op := .load 29 x, type := ty, pos := p, after := af, guard := gd } :: rest) a w :=
  act_load hg x rfl g hx hb hl h
/-- A whole activity into the block that was laid last: what lay before is as it was. -/
theorem act_new {o : Oper} {a : _root_.Go.Act} {w : World} {ops : Array Oper} {rest : List Oper} {Q : Exit → _root_.Go.Act → World → Prop}
    (hg : o.guard = none) (x y : Operand) (ho : o.op = .store 29 x y) (old cells : Array Value) (hx : a.eval x = .pointer (some ⟨w.heap.size, 0, none⟩)) (hy : a.eval y = .agg cells) (hold : old.size = 20) (hc : cells.size = 20) (h1 : cells.all (·.oneCell') = true)
    (h : ∀ w', Bl w' w.heap.size cells.toList 29 → Below w.heap.size w w' → wpList Tryz.prog ops Q rest (a.put o.dst undef) w') : wpList Tryz.prog ops Q (o :: rest) a (w.alloc (.cells old 29)) := by
  refine wpList_store_row hg 29 x y ho w.heap.size cells hx hy 29 old (heap_alloc_new _ _) (by rw [info20, hc]) (by rw [hold, hc]) h1 ?_
  rw [World.setRow_alloc_new]
  exact h _ ⟨heap_alloc_new _ _⟩ ((Below.refl _ _).alloc (Nat.le_refl _) _)
/-- An operation behind a guard that is not met. -/
theorem act_skip {o : Oper} {a : _root_.Go.Act} {w : World} {ops : Array Oper} {rest : List Oper} {Q : Exit → _root_.Go.Act → World → Prop}
    (hg : Region.wanted o (yielded ops a.tmps) = false) (h : wpList Tryz.prog ops Q rest (a.put o.dst undef) w) : wpList Tryz.prog ops Q (o :: rest) a w :=
  wpList_step fun K hK => by
    rw [if_neg (by rw [hg]; decide)]
    exact hK _ _ h
theorem built0 : Tryz.prog.built 29 [] = some #[.string (S2.B []), .int .i64 0, .string (S2.B []), .int .i64 0, .int .i64 0, .string (S2.B []), .string (S2.B []), .int .i64 0, .string (S2.B []), .slice none 0 0, .string (S2.B []), .string (S2.B []), .string (S2.B []), .string (S2.B []), .int .i64 0, .slice none 0 0, .int .i64 0, .int .i64 0, .int .i64 0, .int .i64 0] := by kernel_rfl
/-- The zero activity, as one step. -/
theorem act_zero {o : Oper} {a : _root_.Go.Act} {w : World} {ops : Array Oper} {rest : List Oper} {Q : Exit → _root_.Go.Act → World → Prop}
    (hg : Region.wanted o (yielded ops a.tmps) = true) (ho : o.op = .build 29 #[])
    (h : wpList Tryz.prog ops Q rest (a.put o.dst (.agg #[.string (S2.B []), .int .i64 0, .string (S2.B []), .int .i64 0, .int .i64 0, .string (S2.B []), .string (S2.B []), .int .i64 0, .string (S2.B []), .slice none 0 0, .string (S2.B []), .string (S2.B []), .string (S2.B []), .string (S2.B []), .int .i64 0, .slice none 0 0, .int .i64 0, .int .i64 0, .int .i64 0, .int .i64 0])) w) : wpList Tryz.prog ops Q (o :: rest) a w := by
  refine wpList_step fun K hK => ?_
  rw [if_pos hg]
  have e : ((#[] : Array (Nat × Operand)).map fun (i, x) => (i, a.eval x)).toList = [] := by simp
  refine wp_build 29 #[] ho (by rw [e, built0]; rfl) ?_
  rw [e, built0]
  exact hK _ _ h
theorem infoS : (Tryz.prog.info? 9).map (·.size) = some 1 := by kernel_rfl
theorem infoI : (Tryz.prog.info? 3).map (·.size) = some 1 := by kernel_rfl
theorem infoB : (Tryz.prog.info? 24).map (·.size) = some 3 := by kernel_rfl
theorem infoG : (Tryz.prog.info? 27).map (·.size) = some 2 := by kernel_rfl
/-- A part of a block is stored: what lies below the block is as it was. -/
theorem act_set {o : Oper} {a : _root_.Go.Act} {w : World} {ops : Array Oper} {rest : List Oper} {Q : Exit → _root_.Go.Act → World → Prop} (hgd : o.guard = none) (ty : TypeId) (x y : Operand) (ho : o.op = .store ty x y)
    (g k : Nat) (hx : a.eval x = .pointer (some ⟨g, k, none⟩)) (v : Value) (hy : a.eval y = v) (cells : Array Value) (hv : v.cells = cells)
    {t : TypeId} {old : List Value} (hg : Bl w g old t) (hi : (Tryz.prog.info? ty).map (·.size) = some cells.size)
    (hfit : k + cells.size ≤ old.length) (h1 : cells.all (·.oneCell') = true) (new : List Value) (hnew : old.take k ++ cells.toList ++ old.drop (k + cells.size) = new)
    (h : ∀ w', Bl w' g new t → Below g w w' → wpList Tryz.prog ops Q rest (a.put o.dst undef) w') : wpList Tryz.prog ops Q (o :: rest) a w :=
  wpList_plain hgd fun _ hK => by
    have hst := run_storeCells_at Tryz.prog g k t cells.toList 0 old.toArray w hg.row (by simpa using hfit) (fun v hv => (Array.all_eq_true_iff_forall_mem.1 h1) v (by simpa using hv))
    have hrun : (storeVar ty ⟨g, k, none⟩ v).run Tryz.prog w = .ok () (w.setRow g new.toArray) := by
      rw [← hnew]
      cases hq : Tryz.prog.info? ty with
      | none => simp [hq] at hi
      | some i =>
        have hs : cells.size = i.size := by simp [hq] at hi; omega
        simp only [Nat.add_zero, Array.length_toList] at hst
        simp [storeVar, sizeOf, typeInfo, hq, hv, hs] at hst ⊢
        exact hst
    unfold Oper.wp execOp
    simp only [ho, hx, hy, Instr.storeAt, Instr.sureAddr, Sem.run_bind, Sem.run_pure, Result.andThen_ok, hrun]
    exact hK _ _ (h _ ⟨setRow_heap w g _ _ t _ hg.row⟩ ⟨rfl, rfl, rfl, by simp [World.setRow], fun k hk => setRow_other w g k _ (by omega)⟩)
theorem At.under {W w w' : World} {g : Nat} (h : At W w) (hb : Below g w w') (hle : W.heap.size ≤ g) : At W w' := ⟨h.bel.trans (hb.mono hle)⟩
theorem Bl.under {w w' : World} {g g' : Nat} {cs : List Value} {t : TypeId} (h : Bl w g cs t) (hb : Below g' w w') (hlt : g < g') : Bl w' g cs t := ⟨(hb.block _ hlt).trans h.row⟩
end Lk
namespace Ax
open S11.Idt (Str)
abbrev V : Type := Value
/-- An activity with its signature, as a value. -/
def vA (a : Ac) (e s : Int) (A : Option Addr) (nA cA : Nat) (Q : Option Addr) (nQ cQ : Nat) : Value :=
  .agg #[.string (S2.B a.author), .int .i64 a.seq, .string (S2.B a.prev), .int .i64 a.kind, .int .i64 a.time, .string (S2.B a.object), .string (S2.B a.target), .int .i64 a.scope, .string (S2.B a.group), .slice A nA cA, .string (S2.B a.text), .string (S2.B a.body.nonce), .string (S2.B a.body.data), .string (S2.B a.body.tag), .int .i64 a.epoch, .slice Q nQ cQ, .int .i64 a.n, .int .i64 a.m, .int .i64 e, .int .i64 s]
def wc (w : Wr) : List Value := [.int .i64 w.to, .int .i64 w.eph, .string (S2.B w.box.nonce), .string (S2.B w.box.data), .string (S2.B w.box.tag)]
/-- The cells of a list of wraps. -/
def Ws : List Wr → List Value
  | [] => []
  | w :: l => wc w ++ Ws l
theorem Ws_len : ∀ l : List Wr, (Ws l).length = 5 * l.length
  | [] => rfl
  | w :: l => by
    rw [Ws, List.length_append, Ws_len l, List.length_cons]
    simp [wc]
    omega
theorem Ws_get : ∀ (l : List Wr) (j i : Nat) (hj : j < l.length), i < 5 → (Ws l)[5 * j + i]? = (wc l[j])[i]?
  | w :: l, 0, i, _, hi => by
    rw [Ws, List.getElem?_append_left (by simp [wc]; omega), Nat.mul_zero, Nat.zero_add]
    rfl
  | w :: l, j + 1, i, hj, hi => by
    rw [Ws, List.getElem?_append_right (by simp [wc]; omega)]
    have h := Ws_get l j i (by simpa using hj) hi
    rw [show 5 * (j + 1) + i - (wc w).length = 5 * j + i by simp [wc]; omega, h]
    rfl
theorem wr_at {w : World} {bd : Nat} {Q : Option Addr} {l : List Wr} (h : S2.Row w bd Q (Ws l)) {k : Nat} (hk : k < l.length) :
    ∃ a, Q = some a ∧ a.block < bd ∧ ∀ (j : Nat) (u : Value), (wc l[k])[j]? = some u → w.cell? ((a.add (k * 5)).add j) = some u := by
  have h0 := Ws_get l k 0 hk (by omega)
  rcases h with h | ⟨a, rfl, hlt, hc⟩
  · rw [h] at h0
    simp [wc] at h0
  · refine ⟨a, rfl, hlt, fun j u hu => ?_⟩
    have hj : j < 5 := by
      have := (List.getElem?_eq_some_iff.1 hu).1
      simpa [wc] using this
    rw [Go.Deep.add_add]
    exact hc _ u (by rw [Nat.mul_comm k 5, Ws_get l k j hk hj]; exact hu)
/-- An activity's lists lie below bd. -/
structure Ap (w : World) (bd : Nat) (a : Ac) (A : Option Addr) (nA cA : Nat) (Q : Option Addr) (nQ cQ : Nat) : Prop where
  hn : nA = a.to.length
  hc : nA ≤ cA
  rowA : S2.Row w bd A (S2.Ss a.to)
  hm : nQ = a.wraps.length
  hd : nQ ≤ cQ
  rowQ : S2.Row w bd Q (Ws a.wraps)
  le : bd ≤ w.heap.size
theorem Ap.under {w w' : World} {bd bd' : Nat} {a : Ac} {A : Option Addr} {nA cA : Nat} {Q : Option Addr} {nQ cQ : Nat} (h : Ap w bd a A nA cA Q nQ cQ) (hb : Below bd' w w') (hle : bd ≤ bd') : Ap w' bd a A nA cA Q nQ cQ :=
  ⟨h.hn, h.hc, h.rowA.below (hb.mono hle), h.hm, h.hd, h.rowQ.below (hb.mono hle), Nat.le_trans h.le hb.size⟩
theorem Ap.step {w w' : World} {bd : Nat} {a : Ac} {A : Option Addr} {nA cA : Nat} {Q : Option Addr} {nQ cQ : Nat} (h : Ap w bd a A nA cA Q nQ cQ) (hb : Below w.heap.size w w') : Ap w' bd a A nA cA Q nQ cQ := h.under hb h.le
theorem Ap.alloc {w : World} {bd : Nat} {a : Ac} {A : Option Addr} {nA cA : Nat} {Q : Option Addr} {nQ cQ : Nat} (h : Ap w bd a A nA cA Q nQ cQ) (o : Obj) : Ap (w.alloc o) bd a A nA cA Q nQ cQ := h.step ((Below.refl _ _).alloc (Nat.le_refl _) o)
theorem Ap.drew {w : World} {bd : Nat} {a : Ac} {A : Option Addr} {nA cA : Nat} {Q : Option Addr} {nQ cQ : Nat} (h : Ap w bd a A nA cA Q nQ cQ) : Ap w.drew bd a A nA cA Q nQ cQ := h.step (Below.refl _ _).drew
theorem Ap.now {w : World} {bd : Nat} {a : Ac} {A : Option Addr} {nA cA : Nat} {Q : Option Addr} {nQ cQ : Nat} (h : Ap w bd a A nA cA Q nQ cQ) : Ap w w.heap.size a A nA cA Q nQ cQ :=
  ⟨h.hn, h.hc, h.rowA.more h.le, h.hm, h.hd, h.rowQ.more h.le, Nat.le_refl _⟩
/-- Its lists are those of another activity. -/
theorem Ap.as {w : World} {bd : Nat} {a b : Ac} {A : Option Addr} {nA cA : Nat} {Q : Option Addr} {nQ cQ : Nat} (h : Ap w bd a A nA cA Q nQ cQ) (h1 : b.to = a.to) (h2 : b.wraps = a.wraps) : Ap w bd b A nA cA Q nQ cQ :=
  ⟨by rw [h1]; exact h.hn, h.hc, by rw [h1]; exact h.rowA, by rw [h2]; exact h.hm, h.hd, by rw [h2]; exact h.rowQ, h.le⟩
/-- Nothing in it is too long for any machine. -/
structure Sz (N M : Nat) (a : Ac) : Prop where
  author : a.author.length ≤ N
  prev : a.prev.length ≤ N
  object : a.object.length ≤ N
  target : a.target.length ≤ N
  group : a.group.length ≤ N
  text : a.text.length ≤ N
  nonce : a.body.nonce.length ≤ N
  data : a.body.data.length ≤ N
  tag : a.body.tag.length ≤ N
  to : a.to.length ≤ M
  tos : ∀ s ∈ a.to, s.length ≤ N
  wraps : a.wraps.length ≤ M
  boxes : ∀ w ∈ a.wraps, w.box.nonce.length ≤ N ∧ w.box.data.length ≤ N ∧ w.box.tag.length ≤ N
theorem Sz.mono {N M N' M' : Nat} {a : Ac} (h : Sz N M a) (h1 : N ≤ N') (h2 : M ≤ M') : Sz N' M' a :=
  ⟨Nat.le_trans h.author h1, Nat.le_trans h.prev h1, Nat.le_trans h.object h1, Nat.le_trans h.target h1, Nat.le_trans h.group h1, Nat.le_trans h.text h1, Nat.le_trans h.nonce h1, Nat.le_trans h.data h1, Nat.le_trans h.tag h1, Nat.le_trans h.to h2, fun s hs => Nat.le_trans (h.tos s hs) h1, Nat.le_trans h.wraps h2, fun w hw => ⟨Nat.le_trans (h.boxes w hw).1 h1, Nat.le_trans (h.boxes w hw).2.1 h1, Nat.le_trans (h.boxes w hw).2.2 h1⟩⟩
theorem Lim.sz {a : Ac} (h : Lim a) : Sz 1000 64 a := by
  have hb := bxOk_of h.body
  have hi := S11.Idt.ids_iff.1 h.to
  have h1 := h.author
  have h2 := h.prev
  have h3 := h.object
  have h4 := h.target
  have h5 := h.group
  have h6 := h.text
  refine ⟨by omega, by omega, by omega, by omega, by omega, by omega, by omega, by omega, by omega, hi.len, fun s hs => ?_, h.wraps.2, fun w hw => ?_⟩
  · have := id_len (hi.each s hs); omega
  · have hw := List.all_eq_true.1 h.wraps.1 w hw
    simp only [wrOk, Bool.and_eq_true] at hw
    have := bxOk_of (.inl hw.2.2)
    omega
end Ax
end Go.Proofs.YtojbicpchjiplaaGreatDoor

/-
  Layer 12: the law's bound on activities.
-/
namespace Go.Proofs.YtojbicpchjiplaaGreatDoor
open Go.RowKit
namespace Ax
open S11.Idt (Str)
attribute [local go_sem] S2.B_size S2.B_list S2.B_app
def sumL (l : List Str) : Nat := (l.map List.length).sum
def boxL (w : Wr) : Nat := w.box.nonce.length + w.box.data.length + w.box.tag.length
def sumB (l : List Wr) : Nat := (l.map boxL).sum
theorem sumL_succ (l : List Str) {k : Nat} (h : k < l.length) : sumL (l.take (k + 1)) = sumL (l.take k) + l[k].length := by
  unfold sumL
  rw [List.take_succ_eq_append_getElem h, List.map_append, List.sum_append]
  simp only [List.map_cons, List.map_nil, List.sum_cons, List.sum_nil, Nat.add_zero]
theorem sumB_succ (l : List Wr) {k : Nat} (h : k < l.length) : sumB (l.take (k + 1)) = sumB (l.take k) + boxL l[k] := by
  unfold sumB
  rw [List.take_succ_eq_append_getElem h, List.map_append, List.sum_append]
  simp only [List.map_cons, List.map_nil, List.sum_cons, List.sum_nil, Nat.add_zero]
theorem sumL_le (N : Nat) : ∀ l : List Str, (∀ s ∈ l, s.length ≤ N) → sumL l ≤ l.length * N
  | [], _ => by simp [sumL]
  | s :: l, h => by
    have h1 := sumL_le N l (fun t ht => h t (List.mem_cons_of_mem _ ht))
    have h2 := h s List.mem_cons_self
    simp only [sumL, List.map_cons, List.sum_cons, List.length_cons, Nat.succ_mul] at h1 ⊢
    omega
theorem sumB_le (N : Nat) : ∀ l : List Wr, (∀ w ∈ l, boxL w ≤ N) → sumB l ≤ l.length * N
  | [], _ => by simp [sumB]
  | s :: l, h => by
    have h1 := sumB_le N l (fun t ht => h t (List.mem_cons_of_mem _ ht))
    have h2 := h s List.mem_cons_self
    simp only [sumB, List.map_cons, List.sum_cons, List.length_cons, Nat.succ_mul] at h1 ⊢
    omega
theorem sumL_mem : ∀ (l : List Str) (s : Str), s ∈ l → s.length ≤ sumL l
  | t :: l, s, h => by
    simp only [sumL, List.map_cons, List.sum_cons]
    rcases List.mem_cons.1 h with rfl | h
    · omega
    · have := sumL_mem l s h; unfold sumL at this; omega
theorem sumB_mem : ∀ (l : List Wr) (s : Wr), s ∈ l → boxL s ≤ sumB l
  | t :: l, s, h => by
    simp only [sumB, List.map_cons, List.sum_cons]
    rcases List.mem_cons.1 h with rfl | h
    · omega
    · have := sumB_mem l s h; unfold sumB at this; omega
def headL (a : Ac) : Nat := a.author.length + a.prev.length + a.object.length + a.target.length + a.group.length + a.text.length + a.body.nonce.length + a.body.data.length + a.body.tag.length
def fewB (a : Ac) : Bool := (decide (a.to.length ≤ 70) && decide (a.wraps.length ≤ 70)) && decide (headL a + sumL a.to + sumB a.wraps ≤ 10000)
theorem few_sz {a : Ac} (h : fewB a = true) : Sz 10000 70 a := by
  simp only [fewB, Bool.and_eq_true, decide_eq_true_eq] at h
  obtain ⟨⟨h1, h2⟩, h3⟩ := h
  unfold headL at h3
  refine ⟨by omega, by omega, by omega, by omega, by omega, by omega, by omega, by omega, by omega, h1, fun s hs => ?_, h2, fun w hw => ?_⟩
  · have := sumL_mem _ s hs; omega
  · have := sumB_mem _ w hw
    unfold boxL at this
    omega
set_option maxHeartbeats 4000000 in
set_option maxRecDepth 100000 in
theorem few_any (a : Ac) (e s : Int) (A : Option Addr) (nA cA : Nat) (Q : Option Addr) (nQ cQ : Nat) (w : World) (hp : Ap w w.heap.size a A nA cA Q nQ cQ) (hz : Sz 281474976710656 140737488355328 a) :
    Calls Tryz.prog 10 #[vA a e s A nA cA Q nQ cQ] w fun x w' => x = .returned (.bool (fewB a)) ∧ Below w.heap.size w w' := by
  obtain ⟨au, sq, pv, kd, tm, ob, tg, sc, gr, to, tx, ⟨bn, bd, bt⟩, ep, ws, n, m⟩ := a
  obtain ⟨hn, hc, hrA, hm, hd, hrQ, _⟩ := hp
  obtain ⟨z1, z2, z3, z4, z5, z6, z7, z8, z9, z10, z11, z12, z13⟩ := hz
  simp only at hn hrA hm hrQ z1 z2 z3 z4 z5 z6 z7 z8 z9 z10 z11 z12 z13
  obtain ⟨r, hr⟩ : ∃ r, r = fewB ⟨au, sq, pv, kd, tm, ob, tg, sc, gr, to, tx, ⟨bn, bd, bt⟩, ep, ws, n, m⟩ := ⟨_, rfl⟩
  rw [← hr]
  obtain ⟨h0, hh0⟩ : ∃ h0 : Nat, h0 = au.length + pv.length + ob.length + tg.length + gr.length + tx.length + bn.length + bd.length + bt.length := ⟨_, rfl⟩
  have hr2 : r = ((decide (to.length ≤ 70) && decide (ws.length ≤ 70)) && decide (h0 + sumL to + sumB ws ≤ 10000)) := by rw [hr, hh0]; rfl
  have HR := Lib.hid hr2
  have y1 : (au.length : Int) ≤ 281474976710656 := by omega
  have y2 : (pv.length : Int) ≤ 281474976710656 := by omega
  have y3 : (ob.length : Int) ≤ 281474976710656 := by omega
  have y4 : (tg.length : Int) ≤ 281474976710656 := by omega
  have y5 : (gr.length : Int) ≤ 281474976710656 := by omega
  have y6 : (tx.length : Int) ≤ 281474976710656 := by omega
  have y7 : (bn.length : Int) ≤ 281474976710656 := by omega
  have y8 : (bd.length : Int) ≤ 281474976710656 := by omega
  have y9 : (bt.length : Int) ≤ 281474976710656 := by omega
  have y10 : (nA : Int) ≤ 140737488355328 := by omega
  have y11 : (nQ : Int) ≤ 140737488355328 := by omega
  have hh0I : (au.length : Int) + (pv.length : Int) + (ob.length : Int) + (tg.length : Int) + (gr.length : Int) + (tx.length : Int) + (bn.length : Int) + (bd.length : Int) + (bt.length : Int) = (h0 : Int) := by omega
  have h0le : h0 ≤ 2533274790395904 := by omega
  obtain ⟨cs, hcs⟩ : ∃ cs : List Value, cs = [.string (S2.B au), .int .i64 sq, .string (S2.B pv), .int .i64 kd, .int .i64 tm, .string (S2.B ob), .string (S2.B tg), .int .i64 sc, .string (S2.B gr), .slice A nA cA, .string (S2.B tx), .string (S2.B bn), .string (S2.B bd), .string (S2.B bt), .int .i64 ep, .slice Q nQ cQ, .int .i64 n, .int .i64 m, .int .i64 e, .int .i64 s] := ⟨_, rfl⟩
  have BL0 := Lk.Bl.new w cs 29
  rw [hcs] at BL0
  have c0 := BL0.c 0 _ rfl
  have c2 := BL0.c 2 _ rfl
  have c5 := BL0.c 5 _ rfl
  have c6 := BL0.c 6 _ rfl
  have c8 := BL0.c 8 _ rfl
  have c9 := BL0.c 9 _ rfl
  have c10 := BL0.c 10 _ rfl
  have c11 := BL0.c 11 _ rfl
  have c12 := BL0.c 12 _ rfl
  have c13 := BL0.c 13 _ rfl
  have c15 := BL0.c 15 _ rfl
  have hb0 := (Below.refl w.heap.size w).alloc (Nat.le_refl _) (.cells (List.toArray [.string (S2.B au), .int .i64 sq, .string (S2.B pv), .int .i64 kd, .int .i64 tm, .string (S2.B ob), .string (S2.B tg), .int .i64 sc, .string (S2.B gr), .slice A nA cA, .string (S2.B tx), .string (S2.B bn), .string (S2.B bd), .string (S2.B bt), .int .i64 ep, .slice Q nQ cQ, .int .i64 n, .int .i64 m, .int .i64 e, .int .i64 s]) 29)
  have HB0 := Lib.hid hb0
  have BL := Lib.hid BL0
  have HN := Lib.hid hn
  have HM := Lib.hid hm
  have HRA := Lib.hid hrA
  have HRQ := Lib.hid hrQ
  have Z11 := Lib.hid z11
  have Z13 := Lib.hid z13
  have H0 := Lib.hid h0le
  clear hn hc hrA hm hd hrQ z1 z2 z3 z4 z5 z6 z7 z8 z9 z10 z11 z12 z13 hr hr2 hh0 h0le BL0 hb0 hcs
  by_cases b1 : 70 < nA
  · have b1I : (70 : Int) < (nA : Int) := by omega
    have E := Lib.hid (show r = false by rw [HR.out, decide_eq_false (show ¬ to.length ≤ 70 by have := HN.out; omega), Bool.false_and, Bool.false_and])
    clear b1
    unfold vA
    go_enter Tryz.func10, Tryz.ntmps10
    go_wp2
    go_ret
    rw [E.out]
    exact ⟨rfl, HB0.out⟩
  have b1I : ¬ (70 : Int) < (nA : Int) := by omega
  by_cases b2 : 70 < nQ
  · have b2I : (70 : Int) < (nQ : Int) := by omega
    have E := Lib.hid (show r = false by rw [HR.out, decide_eq_false (show ¬ ws.length ≤ 70 by have := HM.out; omega), Bool.and_false, Bool.false_and])
    clear b1 b2
    unfold vA
    go_enter Tryz.func10, Tryz.ntmps10
    go_wp2
    go_ret
    rw [E.out]
    exact ⟨rfl, HB0.out⟩
  have b2I : ¬ (70 : Int) < (nQ : Int) := by omega
  have E := Lib.hid (show r = decide (h0 + sumL to + sumB ws ≤ 10000) by rw [HR.out, decide_eq_true (show to.length ≤ 70 by have := HN.out; omega), decide_eq_true (show ws.length ≤ 70 by have := HM.out; omega)]; rfl)
  have B1 := Lib.hid (show nA ≤ 70 by omega)
  have B2 := Lib.hid (show nQ ≤ 70 by omega)
  clear b1 b2 HR
  unfold vA
  go_enter Tryz.func10, Tryz.ntmps10
  go_wp2_with fail
  clear y1 y2 y3 y4 y5 y6 y7 y8 y9 c0 c2 c5 c6 c8 c10 c11 c12 c13
  generalize hw1 : w.alloc (.cells #[.string (S2.B au), .int .i64 sq, .string (S2.B pv), .int .i64 kd, .int .i64 tm, .string (S2.B ob), .string (S2.B tg), .int .i64 sc, .string (S2.B gr), .slice A nA cA, .string (S2.B tx), .string (S2.B bn), .string (S2.B bd), .string (S2.B bt), .int .i64 ep, .slice Q nQ cQ, .int .i64 n, .int .i64 m, .int .i64 e, .int .i64 s] 29) = w1 at *
  clear hw1 hh0I c15
  go_loopw [3, 4] (fun t i wr => ∃ k z : Nat, i = .int .i64 (k : Int) ∧ k ≤ nA ∧ t = .int .i64 (z : Int) ∧ z = h0 + sumL (to.take k) ∧ w1 = wr) (fun _ i _ => nA - (intOf i).toNat)
  case atStart => exact ⟨0, h0, rfl, Nat.zero_le _, by simp, by simp [sumL], rfl⟩
  case round =>
    obtain ⟨k, z, rfl, hk, rfl, hz, rfl⟩ := hrel
    have HZ := Lib.hid hz
    clear hz
    by_cases hc : k < nA
    · have hcI : (k : Int) < (nA : Int) := by omega
      have hkl : k < to.length := by have := HN.out; omega
      obtain ⟨a, rfl, _, hcell⟩ := (HRA.out.below HB0.out).str hkl
      have hsl := Z11.out _ (List.getElem_mem hkl)
      have hnx := sumL_succ to hkl
      have hzb : z ≤ 2533274790395904 + 70 * 281474976710656 := by
        have h1 := sumL_le 281474976710656 (to.take k) (fun s hs => Z11.out s (List.mem_of_mem_take hs))
        rw [List.length_take] at h1
        have h2 : min k to.length * 281474976710656 ≤ 70 * 281474976710656 := Nat.mul_le_mul_right _ (by have := B1.out; omega)
        have := HZ.out
        have := H0.out
        omega
      obtain ⟨x, hx⟩ : ∃ x, x = to[k] := ⟨_, rfl⟩
      rw [← hx] at hcell hsl hnx
      have hzI : (z : Int) ≤ 22236523160141824 := by omega
      have hxI : (x.length : Int) ≤ 281474976710656 := by omega
      have NX := Lib.hid (show z + x.length = h0 + sumL (to.take (k + 1)) by rw [hnx, HZ.out]; omega)
      have e1 : (z : Int) + (x.length : Int) = ((z + x.length : Nat) : Int) := by omega
      have E1 := Lib.hid e1
      clear hnx hx hsl hzb hkl e1 hk
      go_wp2
      go_roundw
      case rel => exact ⟨k + 1, z + x.length, by go_num, by omega, by rw [← E1.out], NX.out, by first | rfl | trivial⟩
      case measure => simp [intOf]; omega
    · have hcI : ¬ (k : Int) < (nA : Int) := by omega
      have HZ2 := Lib.hid (show z = h0 + sumL to by have := HZ.out; rwa [List.take_of_length_le (by have := HN.out; omega)] at this)
      clear HZ hk hc
      go_wp2_with fail
      clear hcI c9
      go_loopw [3, 5] (fun t i wr => ∃ k z : Nat, i = .int .i64 (k : Int) ∧ k ≤ nQ ∧ t = .int .i64 (z : Int) ∧ z = h0 + sumL to + sumB (ws.take k) ∧ Below w1.heap.size w1 wr) (fun _ i _ => nQ - (intOf i).toNat)
      case atStart => exact ⟨0, z, rfl, Nat.zero_le _, rfl, by rw [HZ2.out]; simp [sumB], Below.refl _ _⟩
      case round =>
        obtain ⟨k, z, rfl, hk, rfl, hz, hbw⟩ := hrel
        have HZ := Lib.hid hz
        have HB := Lib.hid hbw
        clear hz HZ2
        have c15 := (BL.out.step hbw).c 15 _ rfl
        clear hbw
        by_cases hc : k < nQ
        · have hcI : (k : Int) < (nQ : Int) := by omega
          have hkl : k < ws.length := by have := HM.out; omega
          obtain ⟨a, rfl, _, hcell⟩ := wr_at (HRQ.out.below (HB0.out.trans (HB.out.mono HB0.out.size))) hkl
          have hsl := Z13.out _ (List.getElem_mem hkl)
          have hnx := sumB_succ ws hkl
          have hzb : z ≤ 2533274790395904 + 70 * 281474976710656 + 70 * 844424930131968 := by
            have h1 := sumB_le 844424930131968 (ws.take k) (fun s hs => by
              have := Z13.out s (List.mem_of_mem_take hs)
              unfold boxL
              omega)
            rw [List.length_take] at h1
            have h2 : min k ws.length * 844424930131968 ≤ 70 * 844424930131968 := Nat.mul_le_mul_right _ (by have := B2.out; omega)
            have h3 := sumL_le 281474976710656 to Z11.out
            have h4 : to.length * 281474976710656 ≤ 70 * 281474976710656 := Nat.mul_le_mul_right _ (by have := B1.out; have := HN.out; omega)
            have := HZ.out
            have := H0.out
            omega
          obtain ⟨x, hx⟩ : ∃ x, x = ws[k] := ⟨_, rfl⟩
          rw [← hx] at hcell hsl hnx
          obtain ⟨xt, xe, ⟨xn, xd, xg⟩⟩ := x
          simp only [boxL] at hnx hsl
          obtain ⟨hs1, hs2, hs3⟩ := hsl
          have k2 : World.cell? _ ⟨(a.add (k * 5)).block, (a.add (k * 5)).off + 2, none⟩ = some (.string (S2.B xn)) := hcell 2 _ rfl
          have k3 : World.cell? _ ⟨(a.add (k * 5)).block, (a.add (k * 5)).off + 2 + 1, none⟩ = some (.string (S2.B xd)) := hcell 3 _ rfl
          have k4 : World.cell? _ ⟨(a.add (k * 5)).block, (a.add (k * 5)).off + 2 + 2, none⟩ = some (.string (S2.B xg)) := hcell 4 _ rfl
          have hzI : (z : Int) ≤ 81346268269379584 := by omega
          have x1 : (xn.length : Int) ≤ 281474976710656 := by omega
          have x2 : (xd.length : Int) ≤ 281474976710656 := by omega
          have x3 : (xg.length : Int) ≤ 281474976710656 := by omega
          have NX := Lib.hid (show z + xn.length + xd.length + xg.length = h0 + sumL to + sumB (ws.take (k + 1)) by rw [hnx, HZ.out]; omega)
          have e1 : (z : Int) + (xn.length : Int) + (xd.length : Int) + (xg.length : Int) = ((z + xn.length + xd.length + xg.length : Nat) : Int) := by omega
          have E1 := Lib.hid e1
          clear hnx hx hs1 hs2 hs3 hzb hkl e1 hk hcell
          go_wp2
          go_roundw
          case rel => exact ⟨k + 1, _, by go_num, by omega, by rw [E1.out], NX.out, HB.out.alloc HB.out.size _⟩
          case measure => simp [intOf]; omega
        · have hcI : ¬ (k : Int) < (nQ : Int) := by omega
          have HZ2 := Lib.hid (show z = h0 + sumL to + sumB ws by have := HZ.out; rwa [List.take_of_length_le (by have := HM.out; omega)] at this)
          have hb2 := Lib.hid (HB0.out.trans (HB.out.mono HB0.out.size))
          by_cases hq : z ≤ 10000
          · have hqI : (z : Int) ≤ 10000 := by omega
            have E2 := Lib.hid (show r = true by rw [E.out, ← HZ2.out, decide_eq_true hq])
            clear hq HZ hc hk
            go_wp2
            go_ret
            rw [E2.out]
            exact ⟨rfl, hb2.out⟩
          · have hqI : ¬ (z : Int) ≤ 10000 := by omega
            have E2 := Lib.hid (show r = false by rw [E.out, ← HZ2.out, decide_eq_false hq])
            clear hq HZ hc hk
            go_wp2
            go_ret
            rw [E2.out]
            exact ⟨rfl, hb2.out⟩
end Ax
end Go.Proofs.YtojbicpchjiplaaGreatDoor

/-
  Layer 12: what the laws ask of the package, as one structure: the laws' walks are written against it, and the package's own texts prove it.
-/
namespace Go.Proofs.YtojbicpchjiplaaGreatDoor
open Go.RowKit
namespace Ax
open S11.Idt (Str isId isName ids)
/-- F at the arguments answers v, whatever has been allotted since W. -/
def Ok (W : World) (F : FuncId) (args : Array Value) (v : Value) : Prop := ∀ w, Below W.heap.size W w → Calls Tryz.prog F args w fun e w' => e = .returned v ∧ Below w.heap.size w w'
/-- Layer 5: which keys are right, what they sign, what verifies. -/
structure Sg (keyOk : Int → Int → Bool) (sgn : Int → Int → Str → Int × Int) (ver : Int → Str → Int → Int → Bool) : Prop where
  range : ∀ s p m, keyOk s p = true → sigOk (sgn s p m).1 (sgn s p m).2 = true
  holds : ∀ s p m, keyOk s p = true → ver p m (sgn s p m).1 (sgn s p m).2 = true
  one : keyOk 1 37 = true
/-- An activity that is handed back. -/
def Gives (a : Ac) (e s : Int) (W : World) (x : Ending) (w' : World) : Prop := ∃ A nA cA Q nQ cQ, x = .returned (vA a e s A nA cA Q nQ cQ) ∧ Ap w' w'.heap.size a A nA cA Q nQ cQ ∧ Below W.heap.size W w'
def GivesB (a : Ac) (e s : Int) (ok : Bool) (W : World) (x : Ending) (w' : World) : Prop := ∃ A nA cA Q nQ cQ, x = .returned (.tuple #[vA a e s A nA cA Q nQ cQ, .bool ok]) ∧ Ap w' w'.heap.size a A nA cA Q nQ cQ ∧ Below W.heap.size W w'
/-- What Sign hands back. -/
def signed (keyOk : Int → Int → Bool) (sgn : Int → Int → Str → Int × Int) (k p : Int) (a : Ac) : Ac × Int × Int :=
  if keyOk k p = true ∧ good a = true then (a, sgn k p (coreB a)) else (ac0, 0, 0)
structure Pk (keyOk : Int → Int → Bool) (sgn : Int → Int → Str → Int × Int) (ver : Int → Str → Int → Int → Bool) (W : World) : Prop where
  sg : Sg keyOk sgn ver
  right : ∀ (a : Ac) (e s : Int) A nA cA Q nQ cQ (w : World), Below W.heap.size W w → Ap w w.heap.size a A nA cA Q nQ cQ → Sz 1000000 1000000 a → Calls Tryz.prog 18 #[vA a e s A nA cA Q nQ cQ] w fun x w' => x = .returned (.bool (valid a e s)) ∧ Below w.heap.size w w'
  posting : ∀ k : Int, Ok W 20 #[.int .i64 k] (.bool (posting k))
  core : ∀ (a : Ac) (e s : Int) A nA cA Q nQ cQ (w : World), Below W.heap.size W w → Ap w w.heap.size a A nA cA Q nQ cQ → Sz 1000000 1000000 a → Calls Tryz.prog 22 #[vA a e s A nA cA Q nQ cQ] w fun x w' => x = .returned (.string (S2.B (core a e s))) ∧ Below w.heap.size w w'
  bytes : ∀ (a : Ac) (e s : Int) A nA cA Q nQ cQ (w : World), Below W.heap.size W w → Ap w w.heap.size a A nA cA Q nQ cQ → Sz 1000000 1000000 a → Calls Tryz.prog 24 #[vA a e s A nA cA Q nQ cQ] w fun x w' => x = .returned (.string (S2.B (bytes a e s))) ∧ Below w.heap.size w w'
  read : ∀ (t : Str) (a : Ac) (e s : Int) (ok : Bool), IsRead t a e s ok → t.length ≤ 1000000 → ∀ w, Below W.heap.size W w → Calls Tryz.prog 11 #[.string (S2.B t)] w (GivesB a e s ok w)
  sign : ∀ (k p : Int) (a : Ac) (e s : Int) A nA cA Q nQ cQ (w : World), (-9223372036854775808 ≤ k ∧ k ≤ 9223372036854775807) → (-9223372036854775808 ≤ p ∧ p ≤ 9223372036854775807) → Below W.heap.size W w → Ap w w.heap.size a A nA cA Q nQ cQ → Sz 1000000 1000000 a →
    Calls Tryz.prog 13 #[.agg #[.int .i64 k, .int .i64 p], vA a e s A nA cA Q nQ cQ] w (Gives (signed keyOk sgn k p a).1 (signed keyOk sgn k p a).2.1 (signed keyOk sgn k p a).2.2 w)
  verify : ∀ (p : Int) (a : Ac) (e s : Int) A nA cA Q nQ cQ (w : World), (-9223372036854775808 ≤ p ∧ p ≤ 9223372036854775807) → Below W.heap.size W w → Ap w w.heap.size a A nA cA Q nQ cQ → Sz 1000000 1000000 a → Calls Tryz.prog 16 #[.int .i64 p, vA a e s A nA cA Q nQ cQ] w fun x w' => x = .returned (.bool (valid a e s && ver p (coreB a) e s)) ∧ Below w.heap.size w w'
  same : ∀ (a b : Ac) (e s e' s' : Int) A nA cA Q nQ cQ A' nA' cA' Q' nQ' cQ' (r : Bool) (w : World), Below W.heap.size W w → Ap w w.heap.size a A nA cA Q nQ cQ → Ap w w.heap.size b A' nA' cA' Q' nQ' cQ' → Sz 1000000 1000000 a → Sz 1000000 1000000 b → (r = true ↔ a = b ∧ e = e' ∧ s = s') →
    Calls Tryz.prog 26 #[vA a e s A nA cA Q nQ cQ, vA b e' s' A' nA' cA' Q' nQ' cQ'] w fun x w' => x = .returned (.bool r) ∧ Below w.heap.size w w'
  keyR : ∀ k p : Int, (-9223372036854775808 ≤ k ∧ k ≤ 9223372036854775807) → (-9223372036854775808 ≤ p ∧ p ≤ 9223372036854775807) → Ok W 28 #[.agg #[.int .i64 k, .int .i64 p]] (.bool (keyOk k p))
  verR : ∀ (p : Int) (m : Str) (e s : Int), (-9223372036854775808 ≤ p ∧ p ≤ 9223372036854775807) → m.length ≤ 1000000 → sigOk e s = true → Ok W 27 #[.int .i64 p, .string (S2.B m), .agg #[.int .i64 e, .int .i64 s]] (.bool (ver p m e s))
  idR : ∀ s : Str, s.length ≤ 1000000 → Ok W 29 #[.string (S2.B s)] (.bool (isId s))
  nameR : ∀ s : Str, s.length ≤ 1000000 → Ok W 31 #[.string (S2.B s)] (.bool (isName s))
  idsR : ∀ (A : Option Addr) (l : List Str) (n c : Nat) (w : World), Below W.heap.size W w → n = l.length → S2.Row w w.heap.size A (S2.Ss l) → n ≤ 1000000 → (∀ s ∈ l, s.length ≤ 1000000) → Calls Tryz.prog 30 #[.slice A n c] w fun e w' => e = .returned (.bool (ids l)) ∧ Below w.heap.size w w'
end Ax
end Go.Proofs.YtojbicpchjiplaaGreatDoor

/-
  Layer 12: activities as opaque cells: what a walk carries of them.
-/
namespace Go.Proofs.YtojbicpchjiplaaGreatDoor
open Go.RowKit
namespace Lk
/-- The run of a whole load out of a block. -/
theorem row_run {o : Oper} {a : _root_.Go.Act} {w : World} (ty : TypeId) {fs : Array Field} (hu : Tryz.prog.underlying ty = some (.struct fs)) (n : Nat) (hi : (Tryz.prog.info? ty).map (·.size) = some n)
    (x : Operand) (ho : o.op = .load ty x) (g : Nat) (hx : a.eval x = .pointer (some ⟨g, 0, none⟩)) {cs : List Value} (hb : Bl w g cs ty) (hl : cs.length = n) : (execOp a.eval o).run Tryz.prog w = .ok (.value (.agg cs.toArray)) w := by
  have h := run_loadVar_row w g ty ty cs.toArray (0, 0) (.struct fs) hb.row hu rfl (by rw [hi, List.size_toArray, hl])
  unfold execOp
  simp only [ho, hx, Instr.loadAt, Instr.sureAddr, Sem.run_bind, Sem.run_pure, Result.andThen_ok, h]
theorem act_run {o : Oper} {a : _root_.Go.Act} {w : World} (x : Operand) (ho : o.op = .load 29 x) (g : Nat) (hx : a.eval x = .pointer (some ⟨g, 0, none⟩)) {cs : List Value} (hb : Bl w g cs 29) (hl : cs.length = 20) : (execOp a.eval o).run Tryz.prog w = .ok (.value (.agg cs.toArray)) w :=
  row_run _ Tryz.underlying29 20 info20 x ho g hx hb hl
/-- A whole load behind a guard that is met or none: one operation that is written out. -/
theorem ld {d : Tmp} {x : Operand} {ty : TypeId} {p : String} {af : Array Edge} {gd : Option (Nat × Bool)} {a : _root_.Go.Act} {w : World} {ops : Array Oper} {rest : List Oper} {Q : Exit → _root_.Go.Act → World → Prop}
    (g : Nat) {cs : List Value} (hb : Bl w g cs 29) (hl : cs.length = 20) (hx : a.eval x = .pointer (some ⟨g, 0, none⟩)) (hg : Region.wanted { dst := some d, op := .load 29 x, type := ty, pos := p, after := af, guard := gd } (yielded ops a.tmps) = true)
    (h : wpList Tryz.prog ops Q rest (a.put (some d) (.agg cs.toArray)) w) : wpList Tryz.prog ops Q ({ dst := some d, op := .load 29 x, type := ty, pos := p, after := af, guard := gd } :: rest) a w :=
  act_load hg x rfl g hx hb hl h
/-- The cells of the zero activity. -/
def zc : List Value := [.string (S2.B []), .int .i64 0, .string (S2.B []), .int .i64 0, .int .i64 0, .string (S2.B []), .string (S2.B []), .int .i64 0, .string (S2.B []), .slice none 0 0, .string (S2.B []), .string (S2.B []), .string (S2.B []), .string (S2.B []), .int .i64 0, .slice none 0 0, .int .i64 0, .int .i64 0, .int .i64 0, .int .i64 0]
theorem zr {d : Tmp} {ty : TypeId} {p : String} {af : Array Edge} {gd : Option (Nat × Bool)} {a : _root_.Go.Act} {w : World} {ops : Array Oper} {rest : List Oper} {Q : Exit → _root_.Go.Act → World → Prop} {z : List Value} (hz : z = zc)
    (hg : Region.wanted { dst := some d, op := .build 29 #[], type := ty, pos := p, after := af, guard := gd } (yielded ops a.tmps) = true)
    (h : wpList Tryz.prog ops Q rest (a.put (some d) (.agg z.toArray)) w) : wpList Tryz.prog ops Q ({ dst := some d, op := .build 29 #[], type := ty, pos := p, after := af, guard := gd } :: rest) a w := by
  subst hz
  exact act_zero hg rfl h
/-- An activity out of some of its fields. -/
theorem bu0 {o : Oper} {fs : Array (Nat × Operand)} {a : _root_.Go.Act} {w : World} {ops : Array Oper} {rest : List Oper} {Q : Exit → _root_.Go.Act → World → Prop} (hg : Region.wanted o (yielded ops a.tmps) = true) (ho : o.op = .build 29 fs) (cells : Array Value)
    (hb : Tryz.prog.built 29 ((fs.map fun (i, x) => (i, a.eval x)).toList) = some cells)
    (h : wpList Tryz.prog ops Q rest (a.put o.dst (.agg cells)) w) : wpList Tryz.prog ops Q (o :: rest) a w := by
  refine wpList_step fun K hK => ?_
  rw [if_pos hg]
  have hk : K (a.put o.dst (.agg ((Tryz.prog.built 29 ((fs.map fun (i, x) => (i, a.eval x)).toList)).getD #[]))) w := by
    simp only [hb, Option.getD_some]
    exact hK _ _ h
  exact wp_build 29 fs ho (Option.isSome_iff_exists.2 ⟨_, hb⟩) hk
theorem bu {d : Tmp} {fs : Array (Nat × Operand)} {ty : TypeId} {p : String} {af : Array Edge} {gd : Option (Nat × Bool)} {a : _root_.Go.Act} {w : World} {ops : Array Oper} {rest : List Oper} {Q : Exit → _root_.Go.Act → World → Prop} (cs : List Value)
    (hb : Tryz.prog.built 29 ((fs.map fun (i, x) => (i, a.eval x)).toList) = some cs.toArray)
    (hg : Region.wanted { dst := some d, op := .build 29 fs, type := ty, pos := p, after := af, guard := gd } (yielded ops a.tmps) = true)
    (h : wpList Tryz.prog ops Q rest (a.put (some d) (.agg cs.toArray)) w) : wpList Tryz.prog ops Q ({ dst := some d, op := .build 29 fs, type := ty, pos := p, after := af, guard := gd } :: rest) a w :=
  bu0 (o := { dst := some d, op := .build 29 fs, type := ty, pos := p, after := af, guard := gd }) hg rfl cs.toArray hb h
/-- A new block: the store of a whole activity behind 'alloc'. -/
theorem nw {p : String} {x y : Operand} {ty : TypeId} {af : Array Edge} {a : _root_.Go.Act} {w : World} {ops : Array Oper} {rest : List Oper} {Q : Exit → _root_.Go.Act → World → Prop} {old : Array Value} (cs : List Value) (hl : cs.length = 20) (h1 : cs.toArray.all (·.oneCell') = true)
    (hx : a.eval x = .pointer (some ⟨w.heap.size, 0, none⟩)) (hy : a.eval y = .agg cs.toArray) (hold : old.size = 20)
    (h : ∀ w', Bl w' w.heap.size cs 29 → Below w.heap.size w w' → wpList Tryz.prog ops Q rest (a.put none undef) w') :
    wpList Tryz.prog ops Q ({ dst := none, op := .store 29 x y, type := ty, pos := p, after := af, guard := none } :: rest) a (w.alloc (.cells old 29)) :=
  act_new (o := { dst := none, op := .store 29 x y, type := ty, pos := p, after := af, guard := none }) rfl x y rfl old cs.toArray hx hy hold (by rw [List.size_toArray, hl]) h1 (fun w' hb hw => h w' (by simpa using hb) hw)
/-- A part of an activity's block is stored. -/
theorem st {p : String} {x y : Operand} {t ty : TypeId} {af : Array Edge} {a : _root_.Go.Act} {w : World} {ops : Array Oper} {rest : List Oper} {Q : Exit → _root_.Go.Act → World → Prop} (g k : Nat) (new : List Value) (v : Value) {cs : List Value} (hb : Bl w g cs 29)
    (hi : (Tryz.prog.info? t).map (·.size) = some new.length) (hv : v.cells = new.toArray) (hfit : k + new.length ≤ cs.length) (h1 : new.toArray.all (·.oneCell') = true)
    (hx : a.eval x = .pointer (some ⟨g, k, none⟩)) (hy : a.eval y = v)
    (h : ∀ w', Bl w' g (cs.take k ++ new ++ cs.drop (k + new.length)) 29 → Below g w w' → wpList Tryz.prog ops Q rest (a.put none undef) w') :
    wpList Tryz.prog ops Q ({ dst := none, op := .store t x y, type := ty, pos := p, after := af, guard := none } :: rest) a w :=
  act_set (o := { dst := none, op := .store t x y, type := ty, pos := p, after := af, guard := none }) rfl t x y rfl g k hx v hy new.toArray hv hb (by rw [hi, List.size_toArray]) (by rw [List.size_toArray]; exact hfit) h1 _ (by simp) h
end Lk
namespace Ax
open S11.Idt (Str)
/-- The cells of an activity with its signature. -/
def cellsA (a : Ac) (e s : Int) (A : Option Addr) (nA cA : Nat) (Q : Option Addr) (nQ cQ : Nat) : List Value :=
  [.string (S2.B a.author), .int .i64 a.seq, .string (S2.B a.prev), .int .i64 a.kind, .int .i64 a.time, .string (S2.B a.object), .string (S2.B a.target), .int .i64 a.scope, .string (S2.B a.group), .slice A nA cA, .string (S2.B a.text), .string (S2.B a.body.nonce), .string (S2.B a.body.data), .string (S2.B a.body.tag), .int .i64 a.epoch, .slice Q nQ cQ, .int .i64 a.n, .int .i64 a.m, .int .i64 e, .int .i64 s]
theorem vA_eq (a : Ac) (e s : Int) (A : Option Addr) (nA cA : Nat) (Q : Option Addr) (nQ cQ : Nat) : vA a e s A nA cA Q nQ cQ = .agg (cellsA a e s A nA cA Q nQ cQ).toArray := rfl
/-- The cells cs are the activity a with the signature (e, s); its lists lie below bd. -/
structure Av (w : World) (bd : Nat) (cs : List Value) (a : Ac) (e s : Int) : Prop where
  ex : ∃ A nA cA Q nQ cQ, cs = cellsA a e s A nA cA Q nQ cQ ∧ Ap w bd a A nA cA Q nQ cQ
namespace Av
variable {w w' : World} {bd : Nat} {cs : List Value} {a : Ac} {e s : Int}
theorem len (h : Av w bd cs a e s) : cs.length = 20 := by obtain ⟨A, nA, cA, Q, nQ, cQ, rfl, _⟩ := h; rfl
theorem one (h : Av w bd cs a e s) : cs.toArray.all (·.oneCell') = true := by obtain ⟨A, nA, cA, Q, nQ, cQ, rfl, _⟩ := h; simp [cellsA, Value.oneCell']
theorem le (h : Av w bd cs a e s) : bd ≤ w.heap.size := by obtain ⟨A, nA, cA, Q, nQ, cQ, _, hp⟩ := h; exact hp.le
theorem under {g : Nat} (h : Av w bd cs a e s) (hb : Below g w w') (hle : bd ≤ g) : Av w' bd cs a e s := by obtain ⟨A, nA, cA, Q, nQ, cQ, h1, hp⟩ := h; exact ⟨A, nA, cA, Q, nQ, cQ, h1, hp.under hb hle⟩
theorem step (h : Av w bd cs a e s) (hb : Below w.heap.size w w') : Av w' bd cs a e s := h.under hb h.le
theorem alloc (h : Av w bd cs a e s) (o : Obj) : Av (w.alloc o) bd cs a e s := h.step ((Below.refl _ _).alloc (Nat.le_refl _) o)
theorem drew (h : Av w bd cs a e s) : Av w.drew bd cs a e s := h.step (Below.refl _ _).drew
theorem now (h : Av w bd cs a e s) : Av w w.heap.size cs a e s := by obtain ⟨A, nA, cA, Q, nQ, cQ, h1, hp⟩ := h; exact ⟨A, nA, cA, Q, nQ, cQ, h1, hp.now⟩
theorem arg {A : Option Addr} {nA cA : Nat} {Q : Option Addr} {nQ cQ : Nat} (h : Ap w bd a A nA cA Q nQ cQ) : Av w bd (cellsA a e s A nA cA Q nQ cQ) a e s := ⟨_, _, _, _, _, _, rfl, h⟩
theorem author (h : Av w bd cs a e s) : cs[0]? = some (.string (S2.B a.author)) := by obtain ⟨A, nA, cA, Q, nQ, cQ, rfl, _⟩ := h; rfl
theorem seq (h : Av w bd cs a e s) : cs[1]? = some (.int .i64 a.seq) := by obtain ⟨A, nA, cA, Q, nQ, cQ, rfl, _⟩ := h; rfl
theorem prev (h : Av w bd cs a e s) : cs[2]? = some (.string (S2.B a.prev)) := by obtain ⟨A, nA, cA, Q, nQ, cQ, rfl, _⟩ := h; rfl
theorem kind (h : Av w bd cs a e s) : cs[3]? = some (.int .i64 a.kind) := by obtain ⟨A, nA, cA, Q, nQ, cQ, rfl, _⟩ := h; rfl
theorem time (h : Av w bd cs a e s) : cs[4]? = some (.int .i64 a.time) := by obtain ⟨A, nA, cA, Q, nQ, cQ, rfl, _⟩ := h; rfl
theorem object (h : Av w bd cs a e s) : cs[5]? = some (.string (S2.B a.object)) := by obtain ⟨A, nA, cA, Q, nQ, cQ, rfl, _⟩ := h; rfl
theorem target (h : Av w bd cs a e s) : cs[6]? = some (.string (S2.B a.target)) := by obtain ⟨A, nA, cA, Q, nQ, cQ, rfl, _⟩ := h; rfl
theorem scope (h : Av w bd cs a e s) : cs[7]? = some (.int .i64 a.scope) := by obtain ⟨A, nA, cA, Q, nQ, cQ, rfl, _⟩ := h; rfl
theorem group (h : Av w bd cs a e s) : cs[8]? = some (.string (S2.B a.group)) := by obtain ⟨A, nA, cA, Q, nQ, cQ, rfl, _⟩ := h; rfl
theorem text (h : Av w bd cs a e s) : cs[10]? = some (.string (S2.B a.text)) := by obtain ⟨A, nA, cA, Q, nQ, cQ, rfl, _⟩ := h; rfl
theorem nonce (h : Av w bd cs a e s) : cs[11]? = some (.string (S2.B a.body.nonce)) := by obtain ⟨A, nA, cA, Q, nQ, cQ, rfl, _⟩ := h; rfl
theorem data (h : Av w bd cs a e s) : cs[12]? = some (.string (S2.B a.body.data)) := by obtain ⟨A, nA, cA, Q, nQ, cQ, rfl, _⟩ := h; rfl
theorem tag (h : Av w bd cs a e s) : cs[13]? = some (.string (S2.B a.body.tag)) := by obtain ⟨A, nA, cA, Q, nQ, cQ, rfl, _⟩ := h; rfl
theorem epoch (h : Av w bd cs a e s) : cs[14]? = some (.int .i64 a.epoch) := by obtain ⟨A, nA, cA, Q, nQ, cQ, rfl, _⟩ := h; rfl
theorem n (h : Av w bd cs a e s) : cs[16]? = some (.int .i64 a.n) := by obtain ⟨A, nA, cA, Q, nQ, cQ, rfl, _⟩ := h; rfl
theorem m (h : Av w bd cs a e s) : cs[17]? = some (.int .i64 a.m) := by obtain ⟨A, nA, cA, Q, nQ, cQ, rfl, _⟩ := h; rfl
theorem sigE (h : Av w bd cs a e s) : cs[18]? = some (.int .i64 e) := by obtain ⟨A, nA, cA, Q, nQ, cQ, rfl, _⟩ := h; rfl
theorem sigS (h : Av w bd cs a e s) : cs[19]? = some (.int .i64 s) := by obtain ⟨A, nA, cA, Q, nQ, cQ, rfl, _⟩ := h; rfl
theorem to (h : Av w bd cs a e s) : ∃ A n c, cs[9]? = some (.slice A n c) ∧ n = a.to.length ∧ n ≤ c ∧ S2.Row w bd A (S2.Ss a.to) := by
  obtain ⟨A, nA, cA, Q, nQ, cQ, rfl, hp⟩ := h
  exact ⟨A, nA, cA, rfl, hp.hn, hp.hc, hp.rowA⟩
theorem wraps (h : Av w bd cs a e s) : ∃ Q n c, cs[15]? = some (.slice Q n c) ∧ n = a.wraps.length ∧ n ≤ c ∧ S2.Row w bd Q (Ws a.wraps) := by
  obtain ⟨A, nA, cA, Q, nQ, cQ, rfl, hp⟩ := h
  exact ⟨Q, nQ, cQ, rfl, hp.hm, hp.hd, hp.rowQ⟩
end Av
/-- Other cells j .. of the same lists. -/
theorem Av.put {w : World} {bd : Nat} {cs : List Value} {a b : Ac} {e s e' s' : Int} (h : Av w bd cs a e s) (k : Nat) (new : List Value) (h1 : b.to = a.to) (h2 : b.wraps = a.wraps)
    (h3 : ∀ A nA cA Q nQ cQ, (cellsA a e s A nA cA Q nQ cQ).take k ++ new ++ (cellsA a e s A nA cA Q nQ cQ).drop (k + new.length) = cellsA b e' s' A nA cA Q nQ cQ) : Av w bd (cs.take k ++ new ++ cs.drop (k + new.length)) b e' s' := by
  obtain ⟨A, nA, cA, Q, nQ, cQ, rfl, hp⟩ := h
  exact ⟨A, nA, cA, Q, nQ, cQ, h3 _ _ _ _ _ _, hp.as h1 h2⟩
theorem Av.zero (w : World) : Av w 0 Lk.zc ac0 0 0 := ⟨none, 0, 0, none, 0, 0, rfl, ⟨rfl, Nat.le_refl _, .inl rfl, rfl, Nat.le_refl _, .inl rfl, Nat.zero_le _⟩⟩
end Ax
end Go.Proofs.YtojbicpchjiplaaGreatDoor

/-
  Layer 12: what the laws ask of the package, over activities as opaque cells.
-/
namespace Go.Proofs.YtojbicpchjiplaaGreatDoor
open Go.RowKit
namespace Ax
open S11.Idt (Str isId isName ids)
variable {keyOk : Int → Int → Bool} {sgn : Int → Int → Str → Int × Int} {ver : Int → Str → Int → Int → Bool} {W : World}
/-- An activity that is handed back, as cells. -/
def GivesC (a : Ac) (e s : Int) (W : World) (x : Ending) (w' : World) : Prop := ∃ cs, x = .returned (.agg cs.toArray) ∧ Av w' w'.heap.size cs a e s ∧ Below W.heap.size W w'
def GivesT (a : Ac) (e s : Int) (ok : Bool) (W : World) (x : Ending) (w' : World) : Prop := ∃ cs, x = .returned (.tuple #[.agg cs.toArray, .bool ok]) ∧ Av w' w'.heap.size cs a e s ∧ Below W.heap.size W w'
theorem Pk.rightC (P : Pk keyOk sgn ver W) {bd : Nat} {cs : List Value} {a : Ac} {e s : Int} {w : World} (hb : Below W.heap.size W w) (h : Av w bd cs a e s) (hz : Sz 1000000 1000000 a) :
    Calls Tryz.prog 18 #[.agg cs.toArray] w fun x w' => x = .returned (.bool (valid a e s)) ∧ Below w.heap.size w w' := by
  obtain ⟨A, nA, cA, Q, nQ, cQ, rfl, hp⟩ := h
  exact P.right a e s A nA cA Q nQ cQ w hb hp.now hz
theorem Pk.coreC (P : Pk keyOk sgn ver W) {bd : Nat} {cs : List Value} {a : Ac} {e s : Int} {w : World} (hb : Below W.heap.size W w) (h : Av w bd cs a e s) (hz : Sz 1000000 1000000 a) :
    Calls Tryz.prog 22 #[.agg cs.toArray] w fun x w' => x = .returned (.string (S2.B (Ax.core a e s))) ∧ Below w.heap.size w w' := by
  obtain ⟨A, nA, cA, Q, nQ, cQ, rfl, hp⟩ := h
  exact P.core a e s A nA cA Q nQ cQ w hb hp.now hz
theorem Pk.bytesC (P : Pk keyOk sgn ver W) {bd : Nat} {cs : List Value} {a : Ac} {e s : Int} {w : World} (hb : Below W.heap.size W w) (h : Av w bd cs a e s) (hz : Sz 1000000 1000000 a) :
    Calls Tryz.prog 24 #[.agg cs.toArray] w fun x w' => x = .returned (.string (S2.B (Ax.bytes a e s))) ∧ Below w.heap.size w w' := by
  obtain ⟨A, nA, cA, Q, nQ, cQ, rfl, hp⟩ := h
  exact P.bytes a e s A nA cA Q nQ cQ w hb hp.now hz
theorem Pk.readC (P : Pk keyOk sgn ver W) {t : Str} {a : Ac} {e s : Int} {ok : Bool} (hr : IsRead t a e s ok) (ht : t.length ≤ 1000000) {w : World} (hb : Below W.heap.size W w) :
    Calls Tryz.prog 11 #[.string (S2.B t)] w (GivesT a e s ok w) :=
  (P.read t a e s ok hr ht w hb).mono fun _ _ ⟨A, nA, cA, Q, nQ, cQ, h1, h2, h3⟩ => ⟨_, h1, ⟨A, nA, cA, Q, nQ, cQ, rfl, h2⟩, h3⟩
theorem Pk.signC (P : Pk keyOk sgn ver W) {k p : Int} {bd : Nat} {cs : List Value} {a : Ac} {e s : Int} {w : World} (hk : -9223372036854775808 ≤ k ∧ k ≤ 9223372036854775807) (hq : -9223372036854775808 ≤ p ∧ p ≤ 9223372036854775807) (hb : Below W.heap.size W w) (h : Av w bd cs a e s) (hz : Sz 1000000 1000000 a) :
    Calls Tryz.prog 13 #[.agg #[.int .i64 k, .int .i64 p], .agg cs.toArray] w (GivesC (signed keyOk sgn k p a).1 (signed keyOk sgn k p a).2.1 (signed keyOk sgn k p a).2.2 w) := by
  obtain ⟨A, nA, cA, Q, nQ, cQ, rfl, hp⟩ := h
  exact (P.sign k p a e s A nA cA Q nQ cQ w hk hq hb hp.now hz).mono fun _ _ ⟨A, nA, cA, Q, nQ, cQ, h1, h2, h3⟩ => ⟨_, h1, ⟨A, nA, cA, Q, nQ, cQ, rfl, h2⟩, h3⟩
theorem Pk.verifyC (P : Pk keyOk sgn ver W) {p : Int} {bd : Nat} {cs : List Value} {a : Ac} {e s : Int} {w : World} (hq : -9223372036854775808 ≤ p ∧ p ≤ 9223372036854775807) (hb : Below W.heap.size W w) (h : Av w bd cs a e s) (hz : Sz 1000000 1000000 a) :
    Calls Tryz.prog 16 #[.int .i64 p, .agg cs.toArray] w fun x w' => x = .returned (.bool (valid a e s && ver p (coreB a) e s)) ∧ Below w.heap.size w w' := by
  obtain ⟨A, nA, cA, Q, nQ, cQ, rfl, hp⟩ := h
  exact P.verify p a e s A nA cA Q nQ cQ w hq hb hp.now hz
theorem Pk.sameC (P : Pk keyOk sgn ver W) {bd bd' : Nat} {cs ds : List Value} {a b : Ac} {e s e' s' : Int} {r : Bool} {w : World} (hb : Below W.heap.size W w) (h : Av w bd cs a e s) (h' : Av w bd' ds b e' s') (hz : Sz 1000000 1000000 a) (hz' : Sz 1000000 1000000 b) (hr : r = true ↔ a = b ∧ e = e' ∧ s = s') :
    Calls Tryz.prog 26 #[.agg cs.toArray, .agg ds.toArray] w fun x w' => x = .returned (.bool r) ∧ Below w.heap.size w w' := by
  obtain ⟨A, nA, cA, Q, nQ, cQ, rfl, hp⟩ := h
  obtain ⟨A', nA', cA', Q', nQ', cQ', rfl, hp'⟩ := h'
  exact P.same a b e s e' s' A nA cA Q nQ cQ A' nA' cA' Q' nQ' cQ' r w hb hp.now hp'.now hz hz' hr
theorem fewC {bd : Nat} {cs : List Value} {a : Ac} {e s : Int} {w : World} (h : Av w bd cs a e s) (hz : Sz 281474976710656 140737488355328 a) :
    Calls Tryz.prog 10 #[.agg cs.toArray] w fun x w' => x = .returned (.bool (fewB a)) ∧ Below w.heap.size w w' := by
  obtain ⟨A, nA, cA, Q, nQ, cQ, rfl, hp⟩ := h
  exact few_any a e s A nA cA Q nQ cQ w hp.now hz
theorem litE : (⟨#[]⟩ : ByteArray) = S2.B [] := rfl
theorem lit120 : (⟨#[120]⟩ : ByteArray) = S2.B [120] := rfl
theorem sz0 : Sz 1000000 1000000 ac0 := ⟨by simp [ac0], by simp [ac0], by simp [ac0], by simp [ac0], by simp [ac0], by simp [ac0], by simp [ac0, bx0], by simp [ac0, bx0], by simp [ac0, bx0], by simp [ac0], by simp [ac0], by simp [ac0], by simp [ac0]⟩
theorem valid_sz {a : Ac} {e s : Int} (h : valid a e s = true) : Sz 1000000 1000000 a := (Lim.sz (lim_of (valid_good h))).mono (by decide) (by decide)
theorem few_sz6 {a : Ac} (h : fewB a = true) : Sz 1000000 1000000 a := (few_sz h).mono (by decide) (by decide)
end Ax
end Go.Proofs.YtojbicpchjiplaaGreatDoor
