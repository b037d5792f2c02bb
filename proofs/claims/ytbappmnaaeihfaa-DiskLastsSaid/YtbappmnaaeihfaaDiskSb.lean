/-
  Layer 9 (disk): the machine beside a table of eight strings, as the law DiskLasts has them in memory.
-/
import Derived.Test.YtbappmnaaeihfaaDiskSafe
import Derived.Test.YtbappmnaaeihfaaDiskMove
namespace Go.Proofs.Ytbappmnaaeihfaa
open Go.RowKit
namespace Dk
def SV (sf : Nat → Str) : List Value := (List.range 8).map fun i => Value.string (S2.B (sf i))
theorem SV_len (sf : Nat → Str) : (SV sf).length = 8 := by simp [SV]
theorem SV_get (sf : Nat → Str) {i : Nat} (h : i < 8) : (SV sf)[i]? = some (.string (S2.B (sf i))) := by simp [SV, h]
theorem SV_set (sf : Nat → Str) (i : Nat) (s : Str) : (SV sf).set i (.string (S2.B s)) = SV (upd sf i s) := by
  apply List.ext_getElem?
  intro j
  by_cases hj : j < 8
  · rw [SV_get _ hj, List.getElem?_set]
    by_cases e : i = j
    · subst e
      rw [if_pos rfl, if_pos (by rw [SV_len]; exact hj), upd_same]
    · rw [if_neg e, SV_get _ hj, upd_other _ _ (by omega)]
  · rw [List.getElem?_eq_none (by rw [List.length_set, SV_len]; omega), List.getElem?_eq_none (by rw [SV_len]; omega)]
/-- The table of eight strings in block g. -/
structure Sb (w : World) (g : Nat) (sf : Nat → Str) : Prop where
  row : w.heap[g]? = some (.cells (SV sf).toArray 9 (0, 0))
theorem Sb.c {w : World} {g : Nat} {sf : Nat → Str} (h : Sb w g sf) {i : Nat} (hi : i < 8) : w.cell? ⟨g, i, none⟩ = some (.string (S2.B (sf i))) := by
  rw [cell_of_row _ _ _ _ _ _ h.row, List.getElem?_toArray, SV_get _ hi]
theorem Sb.free {w : World} {g : Nat} {sf : Nat → Str} (h : Sb w g sf) (i : Nat) : w.frozen? ⟨g, i, none⟩ = false := frozen_of_row w g i _ _ h.row
theorem Sb.lt {w : World} {g : Nat} {sf : Nat → Str} (h : Sb w g sf) : g < w.heap.size := (Array.getElem?_eq_some_iff.1 h.row).1
theorem Sb.put {w : World} {g : Nat} {sf : Nat → Str} (h : Sb w g sf) (i : Nat) (s : Str) : Sb (w.setCell ⟨g, i, none⟩ (.string (S2.B s))) g (upd sf i s) := by
  refine ⟨(heap_setCell_same w g i _ _ _ h.row).trans ?_⟩
  rw [← SV_set]
  simp
theorem Sb.keep {w w' : World} {g : Nat} {sf : Nat → Str} (h : Sb w g sf) (hk : w'.heap[g]? = w.heap[g]?) : Sb w' g sf := ⟨hk.trans h.row⟩
theorem Sb.congr {w : World} {g : Nat} {sf sf' : Nat → Str} (h : Sb w g sf) (he : ∀ i, i < 8 → sf' i = sf i) : Sb w g sf' := by
  refine ⟨h.row.trans ?_⟩
  have : SV sf = SV sf' := List.map_congr_left fun i hi => by rw [he i (List.mem_range.1 hi)]
  rw [this]
/-- Stores elsewhere do not touch the machine. -/
theorem Dk.elsewhere {X : Nat → Prop} {w : World} {p : Nat} {D : MD} (h : Dk X w p D) {g : Nat} (hg : X g) (i : Nat) (v : Value) : Dk X (w.setCell ⟨g, i, none⟩ v) p D :=
  h.move (fun k _ hn => Below.heap_setCell _ _ _ _ (fun e => hn (by have e : k = g := e; rw [e]; exact hg))) (fun k hk => by simpa [World.setCell] using h.lt k hk) (fun k hk => .inl hk)
/-- What DiskLasts has in memory: the machine D at p, the table sf in block gs, nothing turned in X since W; the blocks of E are as they were in V. -/
structure Rd (X E : Nat → Prop) (W V w : World) (p gs : Nat) (D : MD) (sf : Nat → Str) : Prop where
  dk : Dk (fun k => X k ∨ k = gs ∨ E k) w p D
  sb : Sb w gs sf
  fr : Fr X W w
  ef : Fr E V w
  nX : ¬ X gs
  nE : ¬ E gs
section
variable {X E : Nat → Prop} {W V w w' : World} {p gs : Nat} {D D' : MD} {sf : Nat → Str}
theorem Rd.call (h : Rd X E W V w p gs D sf) (hd : Dk (fun k => X k ∨ k = gs ∨ E k) w' p D') (hf : Fr (fun k => X k ∨ k = gs ∨ E k) w w') : Rd X E W V w' p gs D' sf :=
  ⟨hd, h.sb.keep (hf.block gs (.inr (.inl rfl))), h.fr.trans (hf.weaken fun _ hk => .inl hk), h.ef.trans (hf.weaken fun _ hk => .inr (.inr hk)), h.nX, h.nE⟩
theorem Rd.put (h : Rd X E W V w p gs D sf) (i : Nat) (s : Str) : Rd X E W V (w.setCell ⟨gs, i, none⟩ (.string (S2.B s))) p gs D (upd sf i s) :=
  ⟨h.dk.elsewhere (.inr (.inl rfl)) i _, h.sb.put i s, h.fr.set _ _ h.nX, h.ef.set _ _ h.nE, h.nX, h.nE⟩
theorem Rd.drew (h : Rd X E W V w p gs D sf) : Rd X E W V w.drew p gs D sf :=
  ⟨h.dk.drew, h.sb.keep rfl, h.fr.drew, h.ef.drew, h.nX, h.nE⟩
theorem Rd.drewN (h : Rd X E W V w p gs D sf) (n : Nat) : Rd X E W V (w.drewN n) p gs D sf :=
  ⟨h.dk.step ⟨rfl, rfl, rfl, Nat.le_refl _, fun _ _ => rfl⟩, h.sb.keep rfl, h.fr.trans ⟨rfl, rfl, rfl, Nat.le_refl _, fun _ _ => rfl⟩, h.ef.trans ⟨rfl, rfl, rfl, Nat.le_refl _, fun _ _ => rfl⟩, h.nX, h.nE⟩
theorem Rd.congr (h : Rd X E W V w p gs D sf) {sf' : Nat → Str} (he : ∀ i, i < 8 → sf' i = sf i) : Rd X E W V w p gs D sf' := ⟨h.dk, h.sb.congr he, h.fr, h.ef, h.nX, h.nE⟩
/-- Blocks that are new are let in; what was kept apart before is let go. -/
theorem Rd.open_ {E' : Nat → Prop} (h : Rd X E W V w p gs D sf) (hb : Below w.heap.size w w') (hE : ∀ k, E' k → w.heap.size ≤ k ∧ k < w'.heap.size) : Rd X E' W w' w' p gs D sf := by
  have hl := h.sb.lt
  refine ⟨h.dk.more hb (fun k hk => ?_), h.sb.keep (hb.block gs hl), h.fr.trans (Fr.of_below hb (fun k hk => h.dk.lt k (.inl hk))), Fr.refl _ _, h.nX, fun he => ?_⟩
  · rcases hk with hk | hk | hk
    · exact .inl (.inl hk)
    · exact .inl (.inr (.inl hk))
    · exact .inr (hE k hk)
  · have := (hE gs he).1
    omega
theorem Rd.close (h : Rd X E W V w p gs D sf) : Rd X (fun _ => False) W W w p gs D sf :=
  ⟨h.dk.weaken (fun k hk => by rcases hk with hk | hk | hk; exact .inl hk; exact .inr (.inl hk); exact hk.elim), h.sb, h.fr, ⟨h.fr.os, h.fr.tape, h.fr.output, h.fr.size, fun k hk => hk.elim⟩, h.nX, fun he => he⟩
/-- A store into a block of E. -/
theorem Rd.outer (h : Rd X E W V w p gs D sf) {g : Nat} (hg : E g) (hX : ¬ X g) (i : Nat) (v : Value) : Rd X E W (w.setCell ⟨g, i, none⟩ v) (w.setCell ⟨g, i, none⟩ v) p gs D sf :=
  ⟨h.dk.elsewhere (.inr (.inr hg)) i v, h.sb.keep (Below.heap_setCell _ _ _ _ (fun e => h.nE (by have e : gs = g := e; rw [e]; exact hg))), h.fr.set _ _ hX, Fr.refl _ _, h.nX, h.nE⟩
end
/-- The table of DiskLasts when it is new. -/
theorem Rd.start {X : Nat → Prop} {W w : World} {p : Nat} {D : MD} (h : Dk X w p D) (f : Fr X W w) : Rd X (fun _ => False) W W (w.alloc (.cells (SV fun _ => []).toArray 9)) p w.heap.size D (fun _ => []) := by
  have hb : Below w.heap.size w (w.alloc (.cells (SV fun _ => []).toArray 9)) := (Below.refl _ _).alloc (Nat.le_refl _) _
  have hf : Fr X W (w.alloc (.cells (SV fun _ => []).toArray 9)) := f.alloc h.lt _
  refine ⟨h.more hb (fun k hk => ?_), ⟨heap_alloc_new w _⟩, hf, ⟨hf.os, hf.tape, hf.output, hf.size, fun k hk => hk.elim⟩, fun hx => ?_, fun he => he⟩
  · rcases hk with hk | hk | hk
    · exact .inl hk
    · subst hk; exact .inr (by simp)
    · exact hk.elim
  · have := h.lt _ hx
    omega
/-- The first j strings are those of t, the others those of s. -/
def mix (t s : Nat → Str) (j : Nat) : Nat → Str := fun i => if i < j then t i else s i
theorem mix_step (t s : Nat → Str) (j : Nat) : upd (mix t s j) j (t j) = mix t s (j + 1) := by
  funext i
  unfold upd mix
  by_cases e : i = j
  · subst e; simp
  · have : (i < j + 1) ↔ i < j := by omega
    simp [e, this]
theorem mix_at (t s : Nat → Str) (j : Nat) : mix t s j j = s j := by simp [mix]
theorem mix_zero (t s : Nat → Str) : mix t s 0 = s := by funext i; simp [mix]
theorem mix_all (t s : Nat → Str) {i : Nat} (h : i < 8) : mix t s 8 i = t i := by simp [mix, h]
end Dk
end Go.Proofs.Ytbappmnaaeihfaa
