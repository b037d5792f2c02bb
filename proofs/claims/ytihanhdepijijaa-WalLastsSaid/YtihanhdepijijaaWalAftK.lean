/-
  Layer 10: after: what its walk carries.
-/
import Derived.Test.YtihanhdepijijaaWalFew
import Derived.Test.YtihanhdepijijaaWalAppG
namespace Go.Proofs.Ytihanhdepijijaa
open Go.RowKit
namespace Wl
open S9.Dk (Dk Fr MD isI Rz)

/-- Stores elsewhere do not touch the log. -/
theorem Lg.elsewhere {X : Nat → Prop} {w : World} {x p : Nat} {f : Int} {R : List Str} {D : MD} (h : Lg X w x p f R D) {g : Nat} (hg : X g) (i : Nat) (u : Value) : Lg X (w.setCell ⟨g, i, none⟩ u) x p f R D := by
  obtain ⟨v, hv⟩ := h
  have hk : ∀ k, k ≠ g → (w.setCell ⟨g, i, none⟩ u).heap[k]? = w.heap[k]? := fun k hk => Below.heap_setCell _ _ _ _ hk
  refine ⟨v, hv.log.keep fun k hk2 => hk k (fun e => ?_), dk_move hv.disk (fun k _ hn => hk k (fun e => hn (e ▸ .inl hg))) (fun k hk2 => by simpa [World.setCell] using hv.disk.lt k hk2) (fun k hk2 => .inl hk2)⟩
  subst e
  rcases hk2 with e | e
  · exact hv.log.xX (e ▸ hg)
  · exact hv.log.vX _ e hg
/-- All, its rows in blocks that are new. -/
theorem All_new {X : Nat → Prop} {w : World} {x p : Nat} {f : Int} {R : List Str} {D : MD} (h : Lg X w x p f R D) (hR : R.length ≤ 16000000) :
    Calls Try.prog 13 #[ptr x] w fun e w' => ∃ A n c, e = .returned (.slice A n c) ∧ n = R.length ∧ n ≤ c ∧ Rx (fun k => w.heap.size ≤ k ∧ k < w'.heap.size) w' A R ∧ Own w' (.slice A n c) R ∧ (∀ g, (Value.slice A n c).ownBlock = some g → w.heap.size ≤ g) ∧ Lg (upTo X w.heap.size w'.heap.size) w' x p f R D ∧ Below w.heap.size w w' := by
  refine (All_any X x p f R D w h hR).mono ?_
  rintro e w' ⟨v, rfl, ho, hnew, hb⟩
  obtain ⟨A, n, c, rfl, hn, hc⟩ := ho.sl
  exact ⟨A, n, c, rfl, hn, hc, ho.rx fun g hg => ⟨hnew g hg, ho.lt hg⟩, ho, hnew, h.let_in hb, hb⟩
/-- A slice of strings that stays. -/
structure Sl (X : Nat → Prop) (w : World) (A : Option Addr) (n c : Nat) (l : List Str) : Prop where
  row : Rx X w A l
  len : n = l.length
  small : l.length ≤ 2000
theorem Sl.fr {X : Nat → Prop} {w w' : World} {A : Option Addr} {n c : Nat} {l : List Str} (h : Sl X w A n c l) (hf : Fr X w w') : Sl X w' A n c l := ⟨h.row.fr hf, h.len, h.small⟩
theorem Sl.mono {X Y : Nat → Prop} {w : World} {A : Option Addr} {n c : Nat} {l : List Str} (h : Sl X w A n c l) (hXY : ∀ k, X k → Y k) : Sl Y w A n c l := ⟨h.row.mono hXY, h.len, h.small⟩
theorem Sl.nil (X : Nat → Prop) (w : World) : Sl X w none 0 0 [] := ⟨.inl rfl, rfl, Nat.zero_le _⟩
/-- A row that stays is written, or a new one made, and let in. -/
theorem Lg.grow_in {X : Nat → Prop} {w w' : World} {x p : Nat} {f : Int} {R : List Str} {D : MD} {row : Option Nat} (h : Lg X w x p f R D) (hg : w.grownBy w' row) (hr : ∀ g, row = some g → X g) : Lg (upTo X w.heap.size w'.heap.size) w' x p f R D := by
  obtain ⟨v, hv⟩ := h
  have hk : ∀ k, k < w.heap.size → ¬ X k → w'.heap[k]? = w.heap[k]? := fun k hk hn => hg.block k hk (fun e => hn (hr k e.symm))
  have hext : ∀ k, ext x v k → k < w.heap.size ∧ ¬ X k := fun k hk2 => ⟨hv.log.ext_lt hk2, fun e => by
    rcases hk2 with rfl | hk2
    · exact hv.log.xX e
    · exact hv.log.vX k hk2 e⟩
  refine ⟨v, (hv.log.keep fun k hk2 => hk k (hext k hk2).1 (hext k hk2).2).into fun k hk2 e => ?_, dk_move hv.disk (fun k hk2 hn => hg.block k hk2 (fun e => hn (.inl (hr k e.symm)))) (fun k hk2 => ?_) (fun k hk2 => ?_)⟩
  · have := hext k hk2
    rcases e with e | e
    · exact this.2 e
    · omega
  · rcases hk2 with (hk2 | hk2) | hk2
    · exact Nat.lt_of_lt_of_le (hv.lt k hk2) hg.size
    · exact hk2.2
    · exact Nat.lt_of_lt_of_le (hext k hk2).1 hg.size
  · rcases hk2 with (hk2 | hk2) | hk2
    · exact .inl (.inl hk2)
    · exact .inr hk2.1
    · exact .inl (.inr hk2)
/-- The blocks of after's own. -/
def ownB (Z : Nat → Prop) (b h : Nat) (k : Nat) : Prop := Z k ∨ k = b ∨ k = b + 1 ∨ k = h
def hopeC (A1 : Option Addr) (n1 c1 : Nat) (A2 : Option Addr) (n2 c2 : Nat) (A3 : Option Addr) (n3 c3 : Nat) (t : Bool) : Array Value := #[.slice A1 n1 c1, .slice A2 n2 c2, .slice A3 n3 c3, .bool t]
structure Af (X Z : Nat → Prop) (w0 w : World) (b h x p : Nat) (a : Ac) (R : List Str) (D : MD) (hc : Array Value) : Prop where
  sub : ∀ k, X k → Z k
  lg : Lg (ownB Z b h) w x p 2 R D
  fr : Fr X w0 w
  act : w.heap[b]? = some (.cells #[.int .i64 a.Do, .string (S2.B a.S), .slice a.A a.L.length a.c, .int .i64 a.N, .slice a.A' a.K.length a.c'] 36 (0, 0))
  zero : w.heap[b + 1]? = some (.cells #[.slice none 0 0, .slice none 0 0, .slice none 0 0, .bool false] 34 (0, 0))
  hope : w.heap[h]? = some (.cells hc 34 (0, 0))
  nb : ¬ Z b
  nz : ¬ Z (b + 1)
  nh : ¬ Z h
  bh : b + 1 < h
section
variable {X Z Z' : Nat → Prop} {w0 w w' : World} {b h x p : Nat} {a : Ac} {R R' : List Str} {D D' : MD} {hc : Array Value}
theorem Af.call (s : Af X Z w0 w b h x p a R D hc) (hl : Lg (ownB Z b h) w' x p 2 R' D') (hf : Fr (ownB Z b h) w w') : Af X Z w0 w' b h x p a R' D' hc :=
  ⟨s.sub, hl, s.fr.trans (hf.weaken fun k hk => .inl (s.sub k hk)), (hf.block b (.inr (.inl rfl))).trans s.act, (hf.block _ (.inr (.inr (.inl rfl)))).trans s.zero, (hf.block h (.inr (.inr (.inr rfl)))).trans s.hope, s.nb, s.nz, s.nh, s.bh⟩
theorem Af.z (hf : Fr (ownB Z b h) w w') : Fr Z w w' := hf.weaken fun _ hk => .inl hk
theorem Af.below (s : Af X Z w0 w b h x p a R D hc) (hb : Below w.heap.size w w') : Af X Z w0 w' b h x p a R D hc := s.call (s.lg.step hb) (Fr.of_below hb s.lg.lt)
theorem Af.store (s : Af X Z w0 w b h x p a R D hc) (i : Nat) (u : Value) : Af X Z w0 (w.setCell ⟨h, i, none⟩ u) b h x p a R D (hc.setIfInBounds i u) ∧ Fr Z w (w.setCell ⟨h, i, none⟩ u) := by
  have hk : ∀ k, k ≠ h → (w.setCell ⟨h, i, none⟩ u).heap[k]? = w.heap[k]? := fun k hk => Below.heap_setCell _ _ _ _ hk
  have := s.bh
  exact ⟨⟨s.sub, s.lg.elsewhere (.inr (.inr (.inr rfl))) i u, s.fr.set _ _ (fun e => s.nh (s.sub _ e)), (hk b (by omega)).trans s.act, (hk _ (by omega)).trans s.zero, heap_setCell_same w h i _ _ u s.hope, s.nb, s.nz, s.nh, s.bh⟩, (Fr.refl _ _).set _ _ s.nh⟩
/-- New blocks let in. -/
theorem Af.let_in (s : Af X Z w0 w b h x p a R D hc) (hb : Below w.heap.size w w') (hl : Lg (upTo (ownB Z b h) w.heap.size w'.heap.size) w' x p 2 R D) : Af X (upTo Z w.heap.size w'.heap.size) w0 w' b h x p a R D hc := by
  have hbl := S2.blk_lt s.act
  have hzl := S2.blk_lt s.zero
  have hhl := S2.blk_lt s.hope
  have hf : Fr (ownB Z b h) w w' := Fr.of_below hb s.lg.lt
  have no : ∀ k, k < w.heap.size → ¬ Z k → ¬ upTo Z w.heap.size w'.heap.size k := fun k hk hn e => by
    rcases e with e | e
    · exact hn e
    · omega
  refine ⟨fun k hk => .inl (s.sub k hk), hl.weaken fun k hk => ?_, s.fr.trans (hf.weaken fun k hk => .inl (s.sub k hk)), (hf.block b (.inr (.inl rfl))).trans s.act, (hf.block _ (.inr (.inr (.inl rfl)))).trans s.zero, (hf.block h (.inr (.inr (.inr rfl)))).trans s.hope, no _ hbl s.nb, no _ hzl s.nz, no _ hhl s.nh, s.bh⟩
  rcases hk with (hk | hk) | hk
  · exact .inl (.inl hk)
  · exact .inr hk
  · exact .inl (.inr hk)
end
theorem Af.grow {X Z : Nat → Prop} {w0 w w' : World} {b h x p : Nat} {a : Ac} {R : List Str} {D : MD} {hc : Array Value} {row : Option Nat} (s : Af X Z w0 w b h x p a R D hc) (hg : w.grownBy w' row) (hr : ∀ g, row = some g → Z g ∧ ¬ X g) :
    Af X (upTo Z w.heap.size w'.heap.size) w0 w' b h x p a R D hc ∧ Fr X w w' := by
  have hbl := S2.blk_lt s.act
  have hzl := S2.blk_lt s.zero
  have hhl := S2.blk_lt s.hope
  have hk : ∀ k, k < w.heap.size → ¬ Z k → w'.heap[k]? = w.heap[k]? := fun k hk hn => hg.block k hk (fun e => hn (hr k e.symm).1)
  have hXl : ∀ k, X k → k < w.heap.size := fun k hk => s.lg.lt k (.inl (s.sub k hk))
  have hf : Fr X w w' := ⟨hg.os, hg.tape, hg.output, hg.size, fun k hkx => hg.block k (hXl k hkx) (fun e => (hr k e.symm).2 hkx)⟩
  have no : ∀ k, k < w.heap.size → ¬ Z k → ¬ upTo Z w.heap.size w'.heap.size k := fun k hk hn e => by
    rcases e with e | e
    · exact hn e
    · omega
  have hl := s.lg.grow_in hg (fun g e => .inl (hr g e).1)
  refine ⟨⟨fun k hk => .inl (s.sub k hk), hl.weaken fun k hk => ?_, s.fr.trans hf, (hk b hbl s.nb).trans s.act, (hk _ hzl s.nz).trans s.zero, (hk h hhl s.nh).trans s.hope, no _ hbl s.nb, no _ hzl s.nz, no _ hhl s.nh, s.bh⟩, hf⟩
  rcases hk with (hk | hk) | hk
  · exact .inl (.inl hk)
  · exact .inr hk
  · exact .inl (.inr hk)
/-- What after hands back. -/
structure Aft (X X' : Nat → Prop) (w w' : World) (x p : Nat) (R R' : List Str) (D' : MD) (s' al sf fr : List Str) : Prop where
  sub : ∀ k, X k → X' k
  fr : Fr X w w'
  lg : Lg X' w' x p 2 R' D'
  len : R'.length ≤ max (R.length + 1) 12
  good : Good c4 D' 2 R' s' ∨ Hope c4 D' 2 al sf
theorem Lg.isDown {X : Nat → Prop} {w : World} {x p : Nat} {f : Int} {R : List Str} {D : MD} (h : Lg X w x p f R D) : Calls Try.prog 11 #[ptr p] w fun e w' => e = .returned (.bool D.down) ∧ w = w' := by
  obtain ⟨v, hv⟩ := h
  exact S9.Dk.down_any _ p D w hv.disk
theorem lapp_len (D : MD) (f : Int) (R : List Str) (s : Str) : (lapp c4 D f R s).2.1.length ≤ R.length + 1 := by
  unfold lapp
  split
  · simp
  · simp only
    split <;> simp
theorem lrew_len (D : MD) (f : Int) (R L : List Str) : (lrew c4 D f R L).2.1.length ≤ max R.length L.length := by
  unfold lrew
  split
  · simp only
    split
    · exact Nat.le_max_right _ _
    · exact Nat.le_max_left _ _
  · exact Nat.le_max_left _ _
theorem step_store_row {o : Oper} {a : Act} {w : World} {ops : Array Oper} {K : Act → World → Prop} {Q : Exit → Act → World → Prop} {E : Prop} (hgd : o.guard = none) (ty : TypeId) (x y : Operand) (ho : o.op = .store ty x y)
    (g : Nat) (cells : Array Value) (hx : a.eval x = .pointer (some ⟨g, 0, none⟩)) (hy : a.eval y = .agg cells)
    (t : TypeId) (old : Array Value) (hg : w.heap[g]? = some (.cells old t (0, 0))) (hi : (Try.prog.info? ty).map (·.size) = some cells.size)
    (hold : old.size = cells.size) (h1 : cells.all (·.oneCell') = true)
    (hK : K (a.put o.dst undef) (w.setRow g cells)) : if Region.wanted o (yielded ops a.tmps) = true then Oper.wp Try.prog o a w K Q else E := by
  have hw : Region.wanted o (yielded ops a.tmps) = true := by simp [Region.wanted, hgd]
  rw [if_pos hw]
  exact wp_store_row ty x y ho g cells hx hy t old hg hi hold h1 hK
theorem Af.last {X Z : Nat → Prop} {w0 w : World} {b h x p : Nat} {a : Ac} {R : List Str} {D : MD} {hc : Array Value} (s : Af X Z w0 w b h x p a R D hc) (cs : Array Value) :
    Lg Z (w.drew.setRow (b + 1) cs) x p 2 R D ∧ Fr X w0 (w.drew.setRow (b + 1) cs) ∧ Fr Z w (w.drew.setRow (b + 1) cs) ∧ (w.drew.setRow (b + 1) cs).heap[b + 1]? = some (.cells cs 34 (0, 0)) := by
  have hk : ∀ k, k ≠ b + 1 → (w.drew.setRow (b + 1) cs).heap[k]? = w.heap[k]? := fun k hk => setRow_other w.drew (b + 1) k cs hk
  refine ⟨?_, (s.fr.drew).row _ _ (fun e => s.nz (s.sub _ e)), ((Fr.refl _ _).drew).row _ _ s.nz, setRow_heap w.drew (b + 1) _ cs _ (0, 0) s.zero⟩
  obtain ⟨v, hv⟩ := s.lg
  have hg : ownB Z b h (b + 1) := .inr (.inr (.inl rfl))
  have h1 : Lg (ownB Z b h) (w.drew.setRow (b + 1) cs) x p 2 R D := by
    refine ⟨v, hv.log.keep fun k hk2 => hk k (fun e => ?_), dk_move hv.disk (fun k _ hn => hk k (fun e => hn (e ▸ .inl hg))) (fun k hk2 => by simpa [World.setRow] using hv.disk.lt k hk2) (fun k hk2 => .inl hk2)⟩
    subst e
    rcases hk2 with e | e
    · exact hv.log.xX (e ▸ hg)
    · exact hv.log.vX _ e hg
  exact h1.weaken fun k hk2 => .inl hk2
theorem hope_cells {w : World} {h : Nat} {c0 c1 c2 c3 : Value} {t : TypeId} (hh : w.heap[h]? = some (.cells #[c0, c1, c2, c3] t (0, 0))) : ∀ (j : Nat) (v : Value), [c0, c1, c2, c3][j]? = some v → w.drew.cell? ((⟨h, 0, none⟩ : Addr).add j) = some v := fun j v hv => by
  rw [Addr.add_lit, Nat.zero_add]
  exact (S2.cell_at hh j).trans (by rw [List.getElem?_toArray]; exact hv)
theorem results_hope {tmps : Array Value} {w : World} {b : Nat} {v c0 c1 c2 c3 : Value} (h8 : tmps.getD 8 undef = v) (h9 : tmps.getD 9 undef = .pointer (some ⟨b + 1, 0, none⟩)) (hh : w.heap[b + 1]? = some (.cells #[c0, c1, c2, c3] 34 (0, 0))) :
    (results Try.f12 tmps).run Try.prog w = .ok (.tuple #[v, .agg #[c0, c1, c2, c3]]) w := by
  have hl := S9.Dk.run_loadVar_part (P := Try.prog) w ⟨b + 1, 0, none⟩ 34 [c0, c1, c2, c3] _ (hope_cells hh) Try.underlying34 rfl (by kernel_rfl)
  simp only [Array.getD_eq_getD_getElem?] at h8 h9
  simp [results, h8, h9, asAddr, hl]
end Wl
end Go.Proofs.Ytihanhdepijijaa
