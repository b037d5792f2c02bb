/-
  Layer 10: what a law's walk carries: the world has turned nothing that is to stay, a log over a machine; calls lifted to it.
-/
import Derived.Test.YtihanhdepijijaaWalOpn
import Derived.Test.YtihanhdepijijaaWalRef
namespace Go.Proofs.Ytihanhdepijijaa
open Go.RowKit
namespace Wl
open S9.Dk (Dk Fr MD By isI)

/-- What a law carries: X0 is to stay, X is kept as well. -/
structure Ca (X0 X : Nat → Prop) (W w : World) : Prop where
  sub : ∀ k, X0 k → X k
  fr : Fr X0 W w
  lt : ∀ k, X k → k < w.heap.size
section
variable {X0 X Y : Nat → Prop} {W w w' : World}
theorem Ca.next (h : Ca X0 X W w) (hf : Fr X w w') : Ca X0 X W w' := ⟨h.sub, h.fr.trans (hf.weaken h.sub), fun k hk => Nat.lt_of_lt_of_le (h.lt k hk) hf.size⟩
theorem Ca.more (h : Ca X0 X W w) (hY : ∀ k, X k → Y k) (hl : ∀ k, Y k → k < w.heap.size) : Ca X0 Y W w := ⟨fun k hk => hY k (h.sub k hk), h.fr, hl⟩
theorem Ca.below (h : Ca X0 X W w) (hb : Below w.heap.size w w') : Ca X0 X W w' := h.next (Fr.of_below hb h.lt)
theorem Ca.end_ (h : Ca X0 X W w) (hX : ∀ k, k < W.heap.size → X0 k) : Below W.heap.size W w := h.fr.below hX
theorem Ca.start (W : World) : Ca (fun k => k < W.heap.size) (fun k => k < W.heap.size) W W := ⟨fun _ h => h, Fr.refl _ _, fun _ h => h⟩
end
/-- The blocks between two sizes, let in. -/
def upTo (X : Nat → Prop) (a b : Nat) (k : Nat) : Prop := X k ∨ (a ≤ k ∧ k < b)
section
variable {X Y : Nat → Prop} {w w' : World} {x p : Nat} {f : Int} {R : List Str} {D D' : MD}
theorem Lg.let_in (h : Lg X w x p f R D) (hb : Below w.heap.size w w') : Lg (upTo X w.heap.size w'.heap.size) w' x p f R D := h.more hb fun _ hk => hk
theorem Ca.let_in {X0 : Nat → Prop} {W : World} (h : Ca X0 X W w) (hb : Below w.heap.size w w') : Ca X0 (upTo X w.heap.size w'.heap.size) W w' :=
  (h.below hb).more (fun _ hk => .inl hk) fun k hk => by
    rcases hk with hk | hk
    · exact Nat.lt_of_lt_of_le (h.lt k hk) hb.size
    · exact hk.2
theorem Lg.drop (h : Lg X w x p f R D) : Dk X w p D := by
  obtain ⟨v, hv⟩ := h
  exact hv.disk.weaken (Lv.sub X x v)
/-- A call on the machine, with the log beside. -/
theorem Lg.via {F : FuncId} {args : Array Value} {Q : Ending → Prop} (h : Lg X w x p f R D) (hc : ∀ Y : Nat → Prop, Dk Y w p D → (∀ k, X k → Y k) → Calls Try.prog F args w fun e w' => Q e ∧ Dk Y w' p D' ∧ Fr Y w w') :
    Calls Try.prog F args w fun e w' => Q e ∧ Lg X w' x p f R D' ∧ Fr X w w' := by
  obtain ⟨v, hv⟩ := h
  refine (hc _ hv.disk (Lv.sub X x v)).mono ?_
  rintro e w' ⟨h1, h2, h3⟩
  exact ⟨h1, ⟨v, hv.fr h3 h2⟩, h3.weaken (Lv.sub X x v)⟩
/-- All, its rows let in. -/
theorem All_in (h : Lg X w x p f R D) (hR : R.length ≤ 16000000) :
    Calls Try.prog 13 #[ptr x] w fun e w' => ∃ A n c, e = .returned (.slice A n c) ∧ n = R.length ∧ n ≤ c ∧ Rx (upTo X w.heap.size w'.heap.size) w' A R ∧ Lg (upTo X w.heap.size w'.heap.size) w' x p f R D ∧ Below w.heap.size w w' := by
  refine (All_any X x p f R D w h hR).mono ?_
  rintro e w' ⟨v, rfl, ho, hnew, hb⟩
  obtain ⟨A, n, c, rfl, hn, hc⟩ := ho.sl
  exact ⟨A, n, c, rfl, hn, hc, ho.rx fun g hg => .inr ⟨hnew g hg, ho.lt hg⟩, h.let_in hb, hb⟩
/-- Crash with no list. -/
theorem crash_none (h : Lg X w x p f R D) : Calls Try.prog 14 #[ptr p, .slice none 0 0] w fun e w' => e = .returned (.tuple #[]) ∧ Lg X w' x p f R (D.Crash []) ∧ Fr X w w' :=
  h.via fun Y hd _ => S9.Dk.Crash_any Y p D [] none 0 0 rfl (fun x hx => by cases hx) w (.inl rfl) hd
theorem start_lg (h : Lg X w x p f R D) : Calls Try.prog 28 #[ptr p] w fun e w' => e = .returned (.tuple #[]) ∧ Lg X w' x p f R D.start ∧ Fr X w w' :=
  h.via fun Y hd _ => S9.Dk.start_any Y p D w hd
/-- Open where the rows and the answer are known. -/
theorem Open_ok (h : Dk X w p D) {Ro : List Str} {D2 : MD} (hr : lopen c4 D f = ((some Ro, 0), D2)) :
    Calls Try.prog 10 #[ptr p, .int .i64 f] w fun e w' => ∃ x, e = .returned (.tuple #[ptr x, .int .i64 0]) ∧ Lg X w' x p f Ro D2 ∧ Fr X w w' := by
  refine (Open_any X p D f w h).mono ?_
  rintro e w' ⟨h1, h2⟩
  rw [hr] at h1
  obtain ⟨x, h3, h4⟩ := h1
  exact ⟨x, h3, h4, h2⟩
end
/-- A literal, let in. -/
theorem lit_in {X : Nat → Prop} (w : World) (l : List Str) : Rx (upTo X w.heap.size (w.alloc (.cells (S2.Ss l).toArray 9)).heap.size) (w.alloc (.cells (S2.Ss l).toArray 9)) (some ⟨w.heap.size, 0, none⟩) l := by
  rcases row_lit w l with h | ⟨a, h1, h2, h3⟩
  · exact .inl h
  · cases h1
    exact .inr ⟨_, rfl, .inr ⟨Nat.le_refl _, h2⟩, h3⟩
theorem alloc_below (w : World) (o : Obj) : Below w.heap.size w (w.alloc o) := (Below.refl _ _).alloc (Nat.le_refl _) o
end Wl
end Go.Proofs.Ytihanhdepijijaa
