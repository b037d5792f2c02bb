/-
  Layer 9 (disk): a pointer that holds a machine in a world; what turns it; what turns nothing else.
-/
import Derived.Test.YtihanhdepijijaaDiskMath
import Derived.Test.YtihanhdepijijaaCodeRow
import Derived.Test.YtihanhdepijijaaCodeRd
namespace Go.Proofs.Ytihanhdepijijaa.S9
open Go.RowKit
namespace Dk

/-! ### Worlds that are the same at the blocks of a set -/
structure Fr (X : Nat → Prop) (w w' : World) : Prop where
  os : w'.os = w.os
  tape : w'.tape = w.tape
  output : w'.output = w.output
  size : w.heap.size ≤ w'.heap.size
  block : ∀ k, X k → w'.heap[k]? = w.heap[k]?
theorem Fr.refl (X : Nat → Prop) (w : World) : Fr X w w := ⟨rfl, rfl, rfl, Nat.le_refl _, fun _ _ => rfl⟩
theorem Fr.trans {X : Nat → Prop} {a b c : World} (h : Fr X a b) (k : Fr X b c) : Fr X a c :=
  ⟨k.os.trans h.os, k.tape.trans h.tape, k.output.trans h.output, Nat.le_trans h.size k.size, fun i hi => (k.block i hi).trans (h.block i hi)⟩
theorem Fr.weaken {X Y : Nat → Prop} {a b : World} (h : Fr X a b) (hY : ∀ k, Y k → X k) : Fr Y a b := ⟨h.os, h.tape, h.output, h.size, fun k hk => h.block k (hY k hk)⟩
theorem Fr.drew {X : Nat → Prop} {a b : World} (h : Fr X a b) : Fr X a b.drew := ⟨h.os, h.tape, h.output, h.size, h.block⟩
theorem Fr.set {X : Nat → Prop} {a b : World} (h : Fr X a b) (p : Addr) (v : Value) (hp : ¬ X p.block) : Fr X a (b.setCell p v) :=
  h.trans ⟨rfl, rfl, rfl, by simp [World.setCell], fun k hk => Below.heap_setCell _ _ _ _ (fun e => hp (e ▸ hk))⟩
theorem Fr.row {X : Nat → Prop} {a b : World} (h : Fr X a b) (g : Nat) (c : Array Value) (hp : ¬ X g) : Fr X a (b.setRow g c) :=
  h.trans ⟨rfl, rfl, rfl, by simp [World.setRow], fun k hk => setRow_other b g k c (fun e => hp (e ▸ hk))⟩
theorem Fr.of_below {X : Nat → Prop} {a b : World} {B : Nat} (h : Below B a b) (hX : ∀ k, X k → k < B) : Fr X a b := ⟨h.os, h.tape, h.output, h.size, fun k hk => h.block k (hX k hk)⟩
theorem Fr.below {X : Nat → Prop} {a b : World} {B : Nat} (h : Fr X a b) (hX : ∀ k, k < B → X k) : Below B a b := ⟨h.os, h.tape, h.output, h.size, fun k hk => h.block k (hX k hk)⟩
theorem Fr.cell {X : Nat → Prop} {a b : World} (h : Fr X a b) {p : Addr} (hp : X p.block) : b.cell? p = a.cell? p := World.cell?_of_block (h.block _ hp)

/-! ### Slices of bytes, each in a row of its own -/
theorem own_keep {w w' : World} {base : Nat} {e : TypeId} {s : Nat} {v : Value} {n : Nat} {xs : List Value} (h : w.ownsRow base e s v n xs) (hk : ∀ g, v.ownBlock = some g → w'.heap[g]? = w.heap[g]?) : w'.ownsRow base e s v n xs := by
  refine ⟨h.1, ?_⟩
  rcases h.2 with h2 | ⟨g, cap, cur, hv, hg, hh, r⟩
  · exact .inl h2
  · exact .inr ⟨g, cap, cur, hv, hg, (hk g (by rw [hv]; rfl)).trans hh, r⟩
theorem own_lt {w : World} {base : Nat} {e : TypeId} {s : Nat} {v : Value} {n : Nat} {xs : List Value} (h : w.ownsRow base e s v n xs) {g : Nat} (hg : v.ownBlock = some g) : g < w.heap.size := (h.lt g hg).2
/-- The bytes l as a slice of a row of their own. -/
def By (w : World) (v : Value) (l : Str) : Prop := w.ownsRow 0 5 1 v l.length (S2.U l)
theorem By.sl {w : World} {v : Value} {l : Str} (h : By w v l) : ∃ (A : Option Addr) (n c : Nat), v = .slice A n c ∧ n = l.length ∧ n ≤ c := by
  rcases h.2 with ⟨rfl, h0⟩ | ⟨g, cap, cur, rfl, _, _, hc, _⟩
  · exact ⟨none, 0, 0, rfl, h0.symm, Nat.le_refl _⟩
  · exact ⟨_, _, cap, rfl, rfl, hc⟩
theorem By.nil (w : World) : By w (.slice none 0 0) [] := World.ownsRow_nil _ _ _ _
/-- Cut down to k bytes. -/
theorem By.take {w : World} {A : Option Addr} {n c : Nat} {l : Str} (h : By w (.slice A n c) l) {k : Nat} (hk : k ≤ l.length) : By w (.slice A k c) (l.take k) := by
  have hl : (l.take k).length = k := by rw [List.length_take]; omega
  refine ⟨by rw [S2.U_length, Nat.mul_one], ?_⟩
  rcases h.2 with ⟨hv, h0⟩ | ⟨g, cap, cur, hv, hb, hg, hn, hm, hs, ht⟩
  · injection hv with h1 h2 h3
    subst h1 h3
    have : k = 0 := by omega
    subst this
    exact .inl ⟨rfl, hl⟩
  · injection hv with h1 h2 h3
    subst h1 h3
    refine .inr ⟨g, c, cur, by rw [hl], hb, hg, by omega, hm, hs, ?_⟩
    rw [hl, Nat.mul_one]
    rw [Nat.mul_one] at ht
    have e : S2.U (l.take k) = (S2.U l).take k := by simp [S2.U, List.map_take]
    rw [e, ← ht, List.take_take, Nat.min_eq_left hk]
theorem By.conv {w : World} {v : Value} {l : Str} (h : By w v l) : (convert 58 9 v).run Try.prog w = .ok (.string (S2.B l)) w := S2.conv_own h

set_option maxRecDepth 100000 in
/-- append(v, s...), s a string: in v's own row, or in a block that is new. -/
theorem run_append_str {w : World} {v : Value} {l s : Str} (ty : TypeId) (h : By w v l) (hn : l.length + s.length ≤ 100000000) :
    ∃ v' w', (Builtin.append_ #[58, 9] ty #[v, .string (S2.B s)]).run Try.prog w = .ok v' w' ∧ By w' v' (l ++ s) ∧ w.grownBy w' v.ownBlock ∧ (v'.ownBlock = v.ownBlock ∨ ∀ g, v'.ownBlock = some g → w.heap.size ≤ g) := by
  obtain ⟨i, hi, hz, hsize, hby⟩ := info_parts S2.infoByte
  have hs : (S2.B s).size = s.length := S2.B_size s
  have h' : w.ownsRow 0 5 1 v l.length (S2.U l) := h
  obtain ⟨v', w', hrun, hown, hg, _⟩ := Lib.run_append_own_string (P := Try.prog) w 0 58 9 ty 5 i Try.underlying58 Try.underlying9 hi hz hsize hby v l.length (S2.U l) h' (S2.B s) (by rw [hs]; unfold maxLen; omega) (by rw [hs]; omega) (Nat.zero_le _)
  rw [hs, S2.U_B, ← S2.U_append, ← List.length_append] at hown
  refine ⟨v', w', hrun, hown, hg, ?_⟩
  rcases h.2 with ⟨rfl, h0⟩ | ⟨g, cap, cur, rfl, _, hh, hnc, hcm, hcs, ht⟩
  · right
    obtain ⟨v2, w2, hrun2, hown2, _⟩ := Lib.run_append_own_string (P := Try.prog) w w.heap.size 58 9 ty 5 i Try.underlying58 Try.underlying9 hi hz hsize hby (.slice none 0 0) 0 [] (World.ownsRow_nil _ _ _ _) (S2.B s) (by rw [hs]; unfold maxLen; omega) (by rw [hs]; omega) (Nat.le_refl _)
    rw [hrun] at hrun2
    injection hrun2 with e1 e2
    subst e1 e2
    exact fun g hg2 => (hown2.lt g hg2).1
  · rw [Nat.mul_one] at hcs
    by_cases hroom : l.length + (S2.B s).size ≤ cap
    · left
      have hr := Lib.run_append_room_string (P := Try.prog) w 58 9 ty 5 i Try.underlying58 Try.underlying9 hi hsize g l.length cap cur hh (S2.B s) hroom (by omega)
      rw [hrun] at hr
      injection hr with e1 e2
      subst e1
      rfl
    · right
      have hr := Lib.run_append_grow_string (P := Try.prog) w 58 9 ty 5 i _ Try.underlying58 Try.underlying9 hi hz ⟨g, 0, none⟩ l.length cap (S2.U l) (by rw [hsize, S2.U_length, Nat.mul_one]) (h'.cells (g := g) rfl) (S2.B s) (by omega) (by rw [hs]; omega) (growslice_fits (by omega) (by rw [hby, hs]; omega))
      rw [hrun] at hr
      injection hr with e1 e2
      subst e1
      intro g2 hg2
      simp only [Value.ownBlock, Option.some.injEq] at hg2
      omega

/-! ### The machine in memory -/
structure Cur (cur : Array Value) (vs : Nat → Value) (D : MD) : Prop where
  size : cur.size = 27
  v : ∀ i, i < 8 → cur[i * 2]? = some (vs i)
  d : ∀ i, i < 8 → cur[i * 2 + 1]? = some (.int .i64 (D.dur i : Nat))
  down : cur[16]? = some (.bool D.down)
  lost : cur[17]? = some (.int .i64 D.lost)
  calls : cur[18]? = some (.int .i64 D.calls)
  keep : ∀ i, i < 8 → cur[19 + i]? = some (.int .i64 (D.keep i))
/-- The pointer to block p holds the machine D, whose files' slices are vs; all that is the machine's lies outside X. -/
structure Dv (X : Nat → Prop) (w : World) (p : Nat) (D : MD) (vs : Nat → Value) : Prop where
  blk : ∃ cur, w.heap[p]? = some (.cells cur 67 (0, 0)) ∧ Cur cur vs D
  own : ∀ i, i < 8 → By w (vs i) (D.text i)
  offp : ∀ i, i < 8 → (vs i).ownBlock ≠ some p
  offX : ∀ i, i < 8 → ∀ g, (vs i).ownBlock = some g → ¬ X g
  apart : ∀ i, i < 8 → ∀ j, j < 8 → i ≠ j → ∀ g, (vs i).ownBlock = some g → (vs j).ownBlock ≠ some g
  pX : ¬ X p
  lt : ∀ k, X k → k < w.heap.size
def Dk (X : Nat → Prop) (w : World) (p : Nat) (D : MD) : Prop := D.Ok ∧ ∃ vs, Dv X w p D vs

section
variable {X : Nat → Prop} {w w' : World} {p : Nat} {D : MD} {vs : Nat → Value}
theorem Dv.p_lt (h : Dv X w p D vs) : p < w.heap.size := by
  obtain ⟨cur, h1, _⟩ := h.blk
  exact (Array.getElem?_eq_some_iff.1 h1).1
/-- The old blocks are as they were; what has appeared since may be kept away from, too. -/
theorem Dv.more {Y : Nat → Prop} (h : Dv X w p D vs) (hb : Below w.heap.size w w') (hY : ∀ k, Y k → X k ∨ (w.heap.size ≤ k ∧ k < w'.heap.size)) : Dv Y w' p D vs := by
  have hlt : ∀ i, i < 8 → ∀ g, (vs i).ownBlock = some g → g < w.heap.size := fun i hi g hg => own_lt (h.own i hi) hg
  refine ⟨?_, fun i hi => own_keep (h.own i hi) (fun g hg => hb.block g (hlt i hi g hg)), h.offp, fun i hi g hg hy => ?_, h.apart, fun hy => ?_, fun k hk => ?_⟩
  · obtain ⟨cur, h1, h2⟩ := h.blk
    exact ⟨cur, (hb.block p h.p_lt).trans h1, h2⟩
  · rcases hY g hy with h1 | h1
    · exact h.offX i hi g hg h1
    · have := hlt i hi g hg
      omega
  · rcases hY p hy with h1 | h1
    · exact h.pX h1
    · have := h.p_lt
      omega
  · rcases hY k hk with h1 | h1
    · exact Nat.lt_of_lt_of_le (h.lt k h1) hb.size
    · exact h1.2
theorem Dv.step (h : Dv X w p D vs) (hb : Below w.heap.size w w') : Dv X w' p D vs := h.more hb (fun _ hk => .inl hk)
theorem Dv.alloc (h : Dv X w p D vs) (o : Obj) : Dv X (w.alloc o) p D vs := h.step ((Below.refl _ _).alloc (Nat.le_refl _) o)
theorem Dv.drew (h : Dv X w p D vs) : Dv X w.drew p D vs := h.step (Below.refl _ _).drew
theorem Dv.weaken {Y : Nat → Prop} (h : Dv X w p D vs) (hY : ∀ k, Y k → X k) : Dv Y w p D vs := h.more (Below.refl _ _) (fun k hk => .inl (hY k hk))
theorem Dk.more {Y : Nat → Prop} (h : Dk X w p D) (hb : Below w.heap.size w w') (hY : ∀ k, Y k → X k ∨ (w.heap.size ≤ k ∧ k < w'.heap.size)) : Dk Y w' p D := by
  obtain ⟨h0, vs, hv⟩ := h
  exact ⟨h0, vs, hv.more hb hY⟩
theorem Dk.step (h : Dk X w p D) (hb : Below w.heap.size w w') : Dk X w' p D := h.more hb (fun _ hk => .inl hk)
theorem Dk.alloc (h : Dk X w p D) (o : Obj) : Dk X (w.alloc o) p D := h.step ((Below.refl _ _).alloc (Nat.le_refl _) o)
theorem Dk.drew (h : Dk X w p D) : Dk X w.drew p D := h.step (Below.refl _ _).drew
theorem Dk.weaken {Y : Nat → Prop} (h : Dk X w p D) (hY : ∀ k, Y k → X k) : Dk Y w p D := h.more (Below.refl _ _) (fun k hk => .inl (hY k hk))
theorem Dk.lt (h : Dk X w p D) : ∀ k, X k → k < w.heap.size := by
  obtain ⟨_, vs, hv⟩ := h
  exact hv.lt
theorem Dk.ok (h : Dk X w p D) : D.Ok := h.1
theorem Fr.alloc {a b : World} (h : Fr X a b) (hlt : ∀ k, X k → k < b.heap.size) (o : Obj) : Fr X a (b.alloc o) :=
  h.trans (Fr.of_below ((Below.refl b.heap.size b).alloc (Nat.le_refl _) o) hlt)
/-- The cells. -/
theorem Dv.cell (h : Dv X w p D vs) : ∃ cur, Cur cur vs D ∧ ∀ k, w.cell? ⟨p, k, none⟩ = cur[k]? := by
  obtain ⟨cur, h1, h2⟩ := h.blk
  exact ⟨cur, h2, fun k => cell_of_row _ _ _ _ _ _ h1⟩
theorem Dv.c_v (h : Dv X w p D vs) {i : Nat} (hi : i < 8) : w.cell? ⟨p, i * 2, none⟩ = some (vs i) := by
  obtain ⟨cur, h1, h2⟩ := h.cell
  rw [h2, h1.v i hi]
theorem Dv.c_d (h : Dv X w p D vs) {i : Nat} (hi : i < 8) : w.cell? ⟨p, i * 2 + 1, none⟩ = some (.int .i64 (D.dur i : Nat)) := by
  obtain ⟨cur, h1, h2⟩ := h.cell
  rw [h2, h1.d i hi]
theorem Dv.c_down (h : Dv X w p D vs) : w.cell? ⟨p, 16, none⟩ = some (.bool D.down) := by
  obtain ⟨cur, h1, h2⟩ := h.cell
  rw [h2, h1.down]
theorem Dv.c_lost (h : Dv X w p D vs) : w.cell? ⟨p, 17, none⟩ = some (.int .i64 D.lost) := by
  obtain ⟨cur, h1, h2⟩ := h.cell
  rw [h2, h1.lost]
theorem Dv.c_calls (h : Dv X w p D vs) : w.cell? ⟨p, 18, none⟩ = some (.int .i64 D.calls) := by
  obtain ⟨cur, h1, h2⟩ := h.cell
  rw [h2, h1.calls]
theorem Dv.c_keep (h : Dv X w p D vs) {i : Nat} (hi : i < 8) : w.cell? ⟨p, 19 + i, none⟩ = some (.int .i64 (D.keep i)) := by
  obtain ⟨cur, h1, h2⟩ := h.cell
  rw [h2, h1.keep i hi]
theorem Dv.free (h : Dv X w p D vs) (k : Nat) : w.frozen? ⟨p, k, none⟩ = false := by
  obtain ⟨cur, h1, _⟩ := h.blk
  exact frozen_of_row w p k _ _ h1
/-- A store into the machine's own block. -/
theorem Dv.store (h : Dv X w p D vs) (k : Nat) (v : Value) {vs' : Nat → Value} {D' : MD} (hc : ∀ cur, Cur cur vs D → Cur (cur.setIfInBounds k v) vs' D')
    (ho : ∀ i, i < 8 → By w (vs' i) (D'.text i)) (hp : ∀ i, i < 8 → (vs' i).ownBlock ≠ some p) (hX : ∀ i, i < 8 → ∀ g, (vs' i).ownBlock = some g → ¬ X g)
    (ha : ∀ i, i < 8 → ∀ j, j < 8 → i ≠ j → ∀ g, (vs' i).ownBlock = some g → (vs' j).ownBlock ≠ some g) : Dv X (w.setCell ⟨p, k, none⟩ v) p D' vs' := by
  obtain ⟨cur, h1, h2⟩ := h.blk
  refine ⟨⟨_, heap_setCell_same w p k _ _ v h1, hc cur h2⟩, fun i hi => own_keep (ho i hi) (fun g hg => Below.heap_setCell _ _ _ _ ?_), hp, hX, ha, h.pX, fun k hk => by simpa [World.setCell] using h.lt k hk⟩
  intro e
  have e : g = p := e
  subst e
  exact hp i hi hg
theorem Dv.store_same (h : Dv X w p D vs) (k : Nat) (v : Value) {D' : MD} (hc : ∀ cur, Cur cur vs D → Cur (cur.setIfInBounds k v) vs D') (ht : D'.text = D.text) : Dv X (w.setCell ⟨p, k, none⟩ v) p D' vs :=
  h.store k v hc (fun i hi => by rw [ht]; exact h.own i hi) h.offp h.offX h.apart
theorem Dv.set_down (h : Dv X w p D vs) (b : Bool) : Dv X (w.setCell ⟨p, 16, none⟩ (.bool b)) p { D with down := b } vs := by
  refine h.store_same 16 _ (fun cur hc => ⟨by simp [hc.size], fun i hi => ?_, fun i hi => ?_, ?_, ?_, ?_, fun i hi => ?_⟩) rfl
  all_goals first | (rw [Array.getElem?_setIfInBounds_ne (by omega)]; first | exact hc.v i hi | exact hc.d i hi | exact hc.keep i hi | exact hc.lost | exact hc.calls) | simp [hc.size]
theorem Dv.set_lost (h : Dv X w p D vs) (z : Int) : Dv X (w.setCell ⟨p, 17, none⟩ (.int .i64 z)) p { D with lost := z } vs := by
  refine h.store_same 17 _ (fun cur hc => ⟨by simp [hc.size], fun i hi => ?_, fun i hi => ?_, ?_, ?_, ?_, fun i hi => ?_⟩) rfl
  all_goals first | (rw [Array.getElem?_setIfInBounds_ne (by omega)]; first | exact hc.v i hi | exact hc.d i hi | exact hc.keep i hi | exact hc.down | exact hc.calls) | simp [hc.size]
theorem Dv.set_calls (h : Dv X w p D vs) (z : Int) : Dv X (w.setCell ⟨p, 18, none⟩ (.int .i64 z)) p { D with calls := z } vs := by
  refine h.store_same 18 _ (fun cur hc => ⟨by simp [hc.size], fun i hi => ?_, fun i hi => ?_, ?_, ?_, ?_, fun i hi => ?_⟩) rfl
  all_goals first | (rw [Array.getElem?_setIfInBounds_ne (by omega)]; first | exact hc.v i hi | exact hc.d i hi | exact hc.keep i hi | exact hc.down | exact hc.lost) | simp [hc.size]
theorem Dv.set_dur (h : Dv X w p D vs) {f : Nat} (hf : f < 8) (n : Nat) : Dv X (w.setCell ⟨p, f * 2 + 1, none⟩ (.int .i64 (n : Nat))) p { D with dur := upd D.dur f n } vs := by
  refine h.store_same _ _ (fun cur hc => ⟨by simp [hc.size], fun i hi => ?_, fun i hi => ?_, ?_, ?_, ?_, fun i hi => ?_⟩) rfl
  · rw [Array.getElem?_setIfInBounds_ne (by omega)]; exact hc.v i hi
  · by_cases e : i = f
    · subst e
      rw [Array.getElem?_setIfInBounds_self_of_lt (by rw [hc.size]; omega)]
      simp [upd]
    · rw [Array.getElem?_setIfInBounds_ne (by omega), hc.d i hi]; show _ = some (Value.int IntKind.i64 (upd D.dur f n i : Nat)); rw [upd_other _ _ e]
  all_goals (rw [Array.getElem?_setIfInBounds_ne (by omega)]; first | exact hc.keep i hi | exact hc.down | exact hc.lost | exact hc.calls)
/-- File f's slice turned: of w's blocks that one alone has been written in w1 whose row it was; the new value lies in that row, in a block that has appeared first since, or nowhere. -/
theorem Dv.set_v {w1 : World} (h : Dv X w p D vs) {f : Nat} (hf : f < 8) (v : Value) (l : Str) (hg : w.grownBy w1 (vs f).ownBlock) (hn : v.ownBlock = (vs f).ownBlock ∨ ∀ g, v.ownBlock = some g → w.heap.size ≤ g) (ho : By w1 v l) :
    Dv X (w1.setCell ⟨p, f * 2, none⟩ v) p { D with text := upd D.text f l } (upd vs f v) ∧ Fr X w (w1.setCell ⟨p, f * 2, none⟩ v) := by
  have hs : ∀ i, i ≠ f → upd vs f v i = vs i := fun i hi => upd_other _ _ hi
  have hlt : ∀ i, i < 8 → ∀ g, (vs i).ownBlock = some g → g < w.heap.size := fun i hi g hg => own_lt (h.own i hi) hg
  have hpl := h.p_lt
  have hvp : v.ownBlock ≠ some p := by
    intro e
    rcases hn with h1 | h1
    · exact h.offp f hf (h1.symm.trans e)
    · have := h1 _ e; omega
  have hvX : ∀ g, v.ownBlock = some g → ¬ X g := by
    intro g e hx
    rcases hn with h1 | h1
    · exact h.offX f hf g (h1.symm.trans e) hx
    · have := h1 _ e; have := h.lt g hx; omega
  have hva : ∀ j, j < 8 → j ≠ f → ∀ g, v.ownBlock = some g → (vs j).ownBlock ≠ some g := by
    intro j hj hjf g e e2
    rcases hn with h1 | h1
    · exact h.apart f hf j hj (by omega) g (h1.symm.trans e) e2
    · have := h1 _ e; have := hlt j hj g e2; omega
  have hother : ∀ i, i < 8 → i ≠ f → By w1 (vs i) (D.text i) := fun i hi hif => own_keep (h.own i hi) (fun g e => hg.block g (hlt i hi g e) (fun e2 => h.apart i hi f hf hif g e e2.symm))
  obtain ⟨cur, h1, hc⟩ := h.blk
  have h1' : w1.heap[p]? = some (.cells cur 67 (0, 0)) := (hg.block p hpl (fun e => h.offp f hf e.symm)).trans h1
  have hset : ∀ k, k ≠ p → (w1.setCell ⟨p, f * 2, none⟩ v).heap[k]? = w1.heap[k]? := fun k hk => Below.heap_setCell _ _ _ _ hk
  refine ⟨⟨⟨_, heap_setCell_same w1 p (f * 2) _ _ v h1', ⟨by simp [hc.size], fun i hi => ?_, fun i hi => ?_, ?_, ?_, ?_, fun i hi => ?_⟩⟩, fun i hi => ?_, fun i hi => ?_, fun i hi => ?_, fun i hi j hj hij g hg2 => ?_, h.pX, fun k hk => ?_⟩, ?_⟩
  · by_cases e : i = f
    · subst e
      rw [Array.getElem?_setIfInBounds_self_of_lt (by rw [hc.size]; omega), upd_same]
    · rw [Array.getElem?_setIfInBounds_ne (by omega), hc.v i hi, hs i e]
  · rw [Array.getElem?_setIfInBounds_ne (by omega)]; exact hc.d i hi
  · rw [Array.getElem?_setIfInBounds_ne (by omega)]; exact hc.down
  · rw [Array.getElem?_setIfInBounds_ne (by omega)]; exact hc.lost
  · rw [Array.getElem?_setIfInBounds_ne (by omega)]; exact hc.calls
  · rw [Array.getElem?_setIfInBounds_ne (by omega)]; exact hc.keep i hi
  · by_cases e : i = f
    · subst e
      simp only [upd_same]
      exact own_keep ho (fun g hg2 => hset g (fun e => hvp (by rw [hg2, e])))
    · rw [hs i e]
      simp only [upd_other _ _ e]
      exact own_keep (hother i hi e) (fun g hg2 => hset g (fun e3 => h.offp i hi (by rw [hg2, e3])))
  · by_cases e : i = f
    · subst e; rw [upd_same]; exact hvp
    · rw [hs i e]; exact h.offp i hi
  · by_cases e : i = f
    · subst e; rw [upd_same]; exact hvX
    · rw [hs i e]; exact h.offX i hi
  · by_cases e : i = f
    · subst e
      rw [upd_same] at hg2
      rw [hs j (by omega)]
      exact hva j hj (by omega) g hg2
    · rw [hs i e] at hg2
      by_cases e2 : j = f
      · subst e2
        rw [upd_same]
        intro hv
        exact hva i hi e g hv hg2
      · rw [hs j e2]
        exact h.apart i hi j hj hij g hg2
  · have := h.lt k hk
    have := hg.size
    simp only [World.setCell, Array.size_modify]
    omega
  · refine ⟨hg.os, hg.tape, hg.output, by simpa [World.setCell] using hg.size, fun k hk => ?_⟩
    rw [hset k (fun e => h.pX (e ▸ hk))]
    exact hg.block k (h.lt k hk) (fun e => h.offX f hf k e.symm hk)
/-- Pointwise the same machine. -/
theorem Dv.congr (h : Dv X w p D vs) {D' : MD} (ht : ∀ i, i < 8 → D'.text i = D.text i) (hd : ∀ i, i < 8 → D'.dur i = D.dur i) (h1 : D'.down = D.down) (h2 : D'.lost = D.lost) (h3 : D'.calls = D.calls) (hk : ∀ i, i < 8 → D'.keep i = D.keep i) : Dv X w p D' vs := by
  obtain ⟨cur, hc, hh⟩ := h.blk
  refine ⟨⟨cur, hc, ⟨hh.size, hh.v, fun i hi => ?_, ?_, ?_, ?_, fun i hi => ?_⟩⟩, fun i hi => ?_, h.offp, h.offX, h.apart, h.pX, h.lt⟩
  · rw [hd i hi]; exact hh.d i hi
  · rw [h1]; exact hh.down
  · rw [h2]; exact hh.lost
  · rw [h3]; exact hh.calls
  · rw [hk i hi]; exact hh.keep i hi
  · rw [ht i hi]; exact h.own i hi
end
end Dk
end Go.Proofs.Ytihanhdepijijaa.S9
