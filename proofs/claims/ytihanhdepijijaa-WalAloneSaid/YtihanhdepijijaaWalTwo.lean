/-
  Layer 10: several logs over one machine.
-/
import Derived.Test.YtihanhdepijijaaWalTornM
import Derived.Test.YtihanhdepijijaaWalFile
import Derived.Test.YtihanhdepijijaaWalLow
namespace Go.Proofs.Ytihanhdepijijaa
open Go.RowKit
namespace Wl
open S9.Dk (Dk Fr MD By upd upd_same upd_other kof)
section
variable {X : Nat → Prop} {w w' : World} {x y z p : Nat} {f g k : Int} {v : Value} {R R' M N Ro : List Str} {D D' D2 : MD}
theorem Lo.out (h : Lo X w x p f v R) {i : Nat} (hi : ext x v i) : ¬ X i := by
  rcases hi with rfl | hi
  · exact h.xX
  · exact h.vX i hi
theorem Lg.of (h : Lo X w x p f v R) (hd : Dk (plus X x v) w p D) : Lg X w x p f R D := ⟨v, h, hd⟩
/-- Two logs over one machine; the first one is at hand. -/
def Two (X : Nat → Prop) (w : World) (p x : Nat) (f : Int) (R : List Str) (y : Nat) (g : Int) (M : List Str) (D : MD) : Prop := ∃ u, Lo X w y p g u M ∧ Lg (plus X y u) w x p f R D
theorem Two.first (h : Two X w p x f R y g M D) : Lg X w x p f R D := by
  obtain ⟨u, _, h⟩ := h
  exact h.weaken (Lv.sub X y u)
theorem Two.second (h : Two X w p x f R y g M D) : Lg X w y p g M D := by
  obtain ⟨u, hy, h⟩ := h
  exact Lg.of hy h.drop
theorem Two.swap (h : Two X w p x f R y g M D) : Two X w p y g M x f R D := by
  obtain ⟨u, hy, v, hv⟩ := h
  refine ⟨v, hv.log.into fun i hi hx => hv.log.out hi (.inl hx), u, hy.into fun i hi hx => ?_, hv.disk.weaken fun i hi => ?_⟩
  · rcases hx with hx | hx
    · exact hy.out hi hx
    · exact hv.log.out hx (.inr hi)
  · rcases hi with (hi | hi) | hi
    · exact .inl (.inl hi)
    · exact .inr hi
    · exact .inl (.inr hi)
/-- A call of the first log. -/
theorem Two.via {F : FuncId} {args : Array Value} {Q : Ending → Prop} (h : Two X w p x f R y g M D) (hc : ∀ Y : Nat → Prop, Lg Y w x p f R D → (∀ k, X k → Y k) → Calls Try.prog F args w fun e w' => Q e ∧ Lg Y w' x p f R' D' ∧ Fr Y w w') :
    Calls Try.prog F args w fun e w' => Q e ∧ Two X w' p x f R' y g M D' ∧ Fr X w w' := by
  obtain ⟨u, hy, hx⟩ := h
  refine (hc _ hx (Lv.sub X y u)).mono ?_
  rintro e w' ⟨h1, h2, h3⟩
  exact ⟨h1, ⟨u, hy.fr h3, h2⟩, h3.weaken (Lv.sub X y u)⟩
theorem Two.step (h : Two X w p x f R y g M D) (hb : Below w.heap.size w w') : Two X w' p x f R y g M D := by
  obtain ⟨u, hy, hx⟩ := h
  exact ⟨u, hy.keep fun k hk => hb.block k (hy.ext_lt hk), hx.step hb⟩
/-- Another log of the machine is opened. -/
theorem Open_second (h : Lg X w x p f R D) (hr : lopen c4 D g = ((some Ro, 0), D2)) :
    Calls Try.prog 10 #[ptr p, .int .i64 g] w fun e w' => ∃ y, e = .returned (.tuple #[ptr y, .int .i64 0]) ∧ Two X w' p y g Ro x f R D2 ∧ Fr X w w' := by
  obtain ⟨v, hv⟩ := h
  refine (Open_ok hv.disk hr).mono ?_
  rintro e w' ⟨y, rfl, h1, h2⟩
  exact ⟨y, rfl, ⟨v, hv.log.fr h2, h1⟩, h2.weaken (Lv.sub X x v)⟩
/-- Three logs over one machine. -/
def Three (X : Nat → Prop) (w : World) (p x : Nat) (f : Int) (R : List Str) (y : Nat) (g : Int) (M : List Str) (z : Nat) (k : Int) (N : List Str) (D : MD) : Prop := ∃ u, Lo X w y p g u M ∧ Two (plus X y u) w p x f R z k N D
theorem Open_third (h : Two X w p x f R y g M D) (hr : lopen c4 D k = ((some Ro, 0), D2)) :
    Calls Try.prog 10 #[ptr p, .int .i64 k] w fun e w' => ∃ z, e = .returned (.tuple #[ptr z, .int .i64 0]) ∧ Three X w' p x f R y g M z k Ro D2 ∧ Fr X w w' := by
  obtain ⟨u, hy, hx⟩ := h
  refine (Open_second hx hr).mono ?_
  rintro e w' ⟨z, rfl, h1, h2⟩
  exact ⟨z, rfl, ⟨u, hy.fr h2, h1.swap⟩, h2.weaken (Lv.sub X y u)⟩
theorem Three.flush (h : Three X w p x f R y g M z k N D) (he : D.flush f = (0, D2)) :
    Calls Try.prog 26 #[ptr x] w fun e w' => e = .returned (.int .i64 0) ∧ Lg X w' x p f R D2 ∧ Lg X w' y p g M D2 ∧ Lg X w' z p k N D2 ∧ Fr X w w' := by
  obtain ⟨u, hy, h⟩ := h
  refine (h.via (Q := fun e => e = .returned (.int .i64 0)) (R' := R) (D' := D2) fun Y hd _ => ?_).mono ?_
  · refine (Flush_any Y x p f R D w hd).mono ?_
    rintro e w' ⟨rfl, h1, h2⟩
    rw [he] at h1 ⊢
    exact ⟨rfl, h1, h2⟩
  · rintro e w' ⟨rfl, h1, h2⟩
    exact ⟨rfl, h1.first.weaken (Lv.sub X y u), Lg.of (hy.fr h2) h1.first.drop, h1.second.weaken (Lv.sub X y u), h2.weaken (Lv.sub X y u)⟩
end
/-! ### The machine of the law -/
/-- The rows of the two logs. -/
structure Al (D : MD) (R M : List Str) : Prop where
  calm : Calm D
  t0 : D.text 0 = records c4 R
  t2 : D.text 2 = records c4 M
section
variable {D : MD} {R M L : List Str} {s : Str}
theorem alone_open : ∃ D1 D2, lopen c4 MD.new 0 = ((some [], 0), D1) ∧ lopen c4 D1 2 = ((some [], 0), D2) ∧ Al D2 [] [] := by
  obtain ⟨D1, e1, p1⟩ := peace_open MD.new 0 new_calm (by omega) (fi := 0) rfl
  have hrw : (rows c4 (MD.new.text 0)).1 = [] := by decide +kernel
  rw [hrw] at e1 p1
  obtain ⟨D2, e2, p2⟩ := peace_open D1 2 p1.calm (by omega) (fi := 2) rfl
  have ht : D1.text 2 = MD.new.text 0 := (p1.rest 2 (by omega) (by omega)).1
  rw [ht, hrw] at e2 p2
  exact ⟨D1, D2, e1, e2, p2.calm, ((p2.rest 0 (by omega) (by omega)).1).trans p1.text, p2.text⟩
theorem alone_app (h : Al D R M) (hs : okRow s) (hl : (records c4 R).length + (record c4 s).length ≤ 16777216) : lapp c4 D 0 R s = (0, R ++ [s], D.put 0 (record c4 s)) ∧ Al (D.put 0 (record c4 s)) (R ++ [s]) M := by
  refine ⟨lapp0 (fi := 0) (f := 0) rfl h.calm (by omega) h.t0 hs hl, put_calm h.calm 0 _, ?_, ?_⟩
  · rw [put_text, h.t0, records_append, records_one]
  · exact (upd_other D.text (i := 0) (j := 2) (D.text 0 ++ record c4 s) (by decide)).trans h.t2
theorem alone_rew (h : Al D R M) (hL : ∀ s ∈ L, okRow s) (hl : (records c4 L).length ≤ 16777216) : ∃ D', lrew c4 D 2 M L = (0, L, D') ∧ Al D' R L := by
  obtain ⟨D', e, p⟩ := lrew_calm (R := M) h.calm (f := 2) (by omega) hL hl
  exact ⟨D', e, p.calm, ((p.rest 0 (by omega) (by omega)).1).trans h.t0, p.text⟩
/-- What the machine goes through behind the loop. -/
structure Done (D : MD) (R M : List Str) (D1 D2 D3 D4 : MD) : Prop where
  z : lopen c4 D 2 = ((some M, 0), D1)
  flush : D1.flush 0 = (0, D2)
  u : lopen c4 (D2.Crash []).start 0 = ((some R, 0), D3)
  v : lopen c4 D3 2 = ((some M, 0), D4)
theorem alone_done (h : Al D R M) (hR : ∀ s ∈ R, okRow s) (hM : ∀ s ∈ M, okRow s) : ∃ D1 D2 D3 D4, Done D R M D1 D2 D3 D4 := by
  obtain ⟨D1, e1, p1⟩ := peace_open D 2 h.calm (by omega) (fi := 2) rfl
  rw [h.t2, rows_whole c4_len hM] at e1 p1
  have e2 : D1.flush 0 = (0, D1.settle 0) := p1.calm.flush (g := 0) (by omega)
  have t0 : D1.text 0 = records c4 R := ((p1.rest 0 (by omega) (by omega)).1).trans h.t0
  obtain ⟨D2, hD2⟩ : ∃ D2, D2 = D1.settle 0 := ⟨_, rfl⟩
  have c2 : Calm D2 := by rw [hD2]; exact ⟨p1.calm.down, p1.calm.lost, p1.calm.calls⟩
  have q0 : D2.text 0 = records c4 R := by rw [hD2]; exact t0
  have q2 : D2.text 2 = records c4 M := by rw [hD2]; exact p1.text
  have u0 : D2.dur 0 = (records c4 R).length := by
    rw [hD2]
    show upd D1.dur 0 (D1.text 0).length 0 = _
    rw [upd_same, t0]
  have u2 : D2.dur 2 = (records c4 M).length := by
    rw [hD2]
    show upd D1.dur 0 (D1.text 0).length 2 = _
    rw [upd_other _ _ (by decide)]
    exact p1.dur
  rw [← hD2] at e2
  have hcr : D2.Crash [] = D2.crash (kof []) := by unfold MD.Crash; rw [c2.down, if_neg (by decide)]
  obtain ⟨E, hE⟩ : ∃ E, E = (D2.Crash []).start := ⟨_, rfl⟩
  have hc : Calm E := by rw [hE, hcr]; exact ⟨rfl, c2.lost, rfl⟩
  have r0 : E.text 0 = records c4 R := by
    rw [hE, hcr]
    show (D2.text 0).take (D2.dur 0 + min (Int.toNat (kof [] 0)) ((D2.text 0).length - D2.dur 0)) = _
    rw [q0, u0, List.take_of_length_le (by omega)]
  have r2 : E.text 2 = records c4 M := by
    rw [hE, hcr]
    show (D2.text 2).take (D2.dur 2 + min (Int.toNat (kof [] 2)) ((D2.text 2).length - D2.dur 2)) = _
    rw [q2, u2, List.take_of_length_le (by omega)]
  obtain ⟨D3, e3, p3⟩ := peace_open E 0 hc (by omega) (fi := 0) rfl
  rw [r0, rows_whole c4_len hR] at e3 p3
  obtain ⟨D4, e4, p4⟩ := peace_open D3 2 p3.calm (by omega) (fi := 2) rfl
  rw [(p3.rest 2 (by omega) (by omega)).1, r2, rows_whole c4_len hM] at e4
  rw [hE] at e3
  exact ⟨D1, D2, D3, D4, e1, e2, e3, e4⟩
end
end Wl
end Go.Proofs.Ytihanhdepijijaa
