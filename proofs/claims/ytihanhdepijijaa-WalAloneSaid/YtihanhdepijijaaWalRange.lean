/-
  A range over a function whose iterator keeps state of its own in blocks of one type T (a reader): the caller's invariant abides the turning of such blocks. A region that draws, within a round.
-/
import Derived.RangeFuncNested
import Derived.RangeFuncBound
import Derived.RangeFuncCalls
import Derived.RangeFuncLeaves
import Derived.RangeFuncFrom
import Derived.Deep.RegionHeld
import Derived.WalkKit
import Derived.OwnWalkIn
namespace Go.Proofs.Ytihanhdepijijaa
open Go.RowKit
namespace Wl

/-- What is said abides the turning of a block at or beyond B that holds cells of type T. -/
def BidesT {β : Type} (T : TypeId) (B : Nat) (J : β → World → Prop) : Prop :=
  ∀ s U V row, J s U → U.grownBy V row → (∀ r, row = some r → B ≤ r ∧ ∃ cs fr, U.heap[r]? = some (.cells cs T fr)) → J s V
/-- .. and of a block there that holds no cells. -/
def BidesI {β : Type} (T : TypeId) (B : Nat) (I : β → World → Prop) : Prop :=
  ∀ s U V row, I s U → U.grownBy V row → (∀ r, row = some r → B ≤ r ∧ ∃ o : Obj, U.heap[r]? = some o ∧ (o.isCells = false ∨ ∃ cs fr, o = .cells cs T fr)) → I s V
theorem BidesI.put {β : Type} {T : TypeId} {B : Nat} {I : β → World → Prop} (h : BidesI T B I) {s : β} {U : World} {l : Nat} {o : Obj} (o' : Obj) (hs : I s U) (hB : B ≤ l) (hl : U.heap[l]? = some o) (ho : o.isCells = false) : I s (U.putObj l o') :=
  h s U _ (some l) hs (grownBy_putObj' U l o') (fun r e => by cases e; exact ⟨hB, o, hl, .inl ho⟩)
theorem BidesI.alloc {β : Type} {T : TypeId} {B : Nat} {I : β → World → Prop} (h : BidesI T B I) {s : β} {U : World} (o : Obj) (hs : I s U) : I s (U.alloc o) :=
  h s U _ none hs (World.grownBy_alloc U o none) (fun r e => by cases e)
theorem BidesI.and {β : Type} {T : TypeId} {B : Nat} {I I' : β → World → Prop} (h : BidesI T B I) (h' : BidesI T B I') : BidesI T B (fun s W => I s W ∧ I' s W) := fun s U V row hs hg hr => ⟨h s U V row hs.1 hg hr, h' s U V row hs.2 hg hr⟩

/-- The iterator's contract. -/
def SeqT {α : Type} (P : Program) (T : TypeId) (m gf : Nat) (lb : Array Value) (encs : α → Array Value) (Kp : World → World → Prop) (S : List α → Prop) (N : Nat) (w0 : World) : Prop :=
  ∀ (l : Nat) (J : List α → World → Prop) (W : World), Below w0.heap.size w0 W → BidesT T W.heap.size J →
    (∀ pre x U, J pre U → pre.length < N → YieldAt Fence.wide (m - 1) P l (encs x) U fun e V => e = .returned (.bool true) ∧ J (pre ++ [x]) V ∧ Kp U V) →
    J [] W → CallsIn Fence.wide m P gf (#[.func (.yield l) #[] #[]] ++ lb) W fun e V => (∃ v, e = .returned v) ∧ ∃ xs, S xs ∧ J xs V

/-- How a body that goes on leaves. -/
def goesOn (Kp : World → World → Prop) (I : World → Prop) (W : World) : Exit → Act → World → Prop
  | .normal, _, V => KeepsOthers W V ∧ Kp W V ∧ I V
  | _, _, _ => False

theorem range_law {α : Type} {P : Program} {T : TypeId} {n : Nat} {g : Operand} {ps : Array Tmp} {assign body : Code} {Q : Exit → Act → World → Prop} {a : Act} {w : World}
    (gf : Nat) (lb : Array Value) (hg : a.eval g = .func (.func gf) #[] lb) (eg : ∀ args w, (callFunc gf args).run P w = .ok (.enter gf args) w)
    (encs : α → Array Value) (hps : ∀ x, (encs x).size = ps.size) (Kp : World → World → Prop) (S : List α → Prop)
    (N : Nat) (hseq : SeqT P T (n - 1) gf lb encs Kp S N w)
    (hKt : ∀ {A B C : World}, Kp A B → Kp B C → Kp A C) (hKb : ∀ (U : World) (l : Nat) (o o' : Obj), w.heap.size ≤ l → U.heap[l]? = some o → o.isCells = false → Kp U (U.putObj l o'))
    (I : List α → World → Prop) (hI : BidesI T w.heap.size I) (h0 : I [] w) (a₁ : α → Act)
    (hassign : ∀ (l : Nat) (x : α) (W : World) (K : Act → World → Prop), K (a₁ x) W →
      assign.wpIn (Fence.wide.inRound l) (n - 1 - 1) P (Exit.then K (fun _ _ _ => False)) { tmps := (ps.zip (encs x)).foldl (fun t (p, v) => t.setIfInBounds p v) a.tmps, defers := [] } W)
    (hbody : ∀ (l : Nat) (pre : List α) (x : α) (W : World), I pre W → pre.length < N → body.wpIn (Fence.wide.inRound l) (n - 1 - 1) P (goesOn Kp (I (pre ++ [x])) W) (a₁ x) W)
    (hdone : ∀ (D : Nat) (xs : List α) (W : World), w.heap.size ≤ D → S xs → I xs W → W.heap[D]? = some (.deferred (some [])) → Q .normal { a with defers := { target := .collected D, args := #[] } :: a.defers } W) :
    (Code.rangeFunc g ps assign body).wpIn Fence.wide n P Q a w := by
  refine wpIn_rangeFunc fun fn _ => ?_
  -- the loop's record, ready, busy, done
  obtain ⟨rec, hrec⟩ : ∃ rec : LoopState → Loop, rec = fun st => { state := st, pending := none, fn, tmps := a.tmps, params := ps, assign, body, defers := w.heap.size } := ⟨_, rfl⟩
  obtain ⟨D, hD⟩ : ∃ D, D = w.heap.size := ⟨_, rfl⟩
  obtain ⟨L, hL⟩ : ∃ L, L = w.heap.size + 1 := ⟨_, rfl⟩
  obtain ⟨W1, hW1⟩ : ∃ W1, W1 = (w.alloc (.deferred (some []))).alloc (.loop (rec .ready)) := ⟨_, rfl⟩
  have hDL : D ≠ L := by omega
  have kD : W1.heap[D]? = some (.deferred (some [])) := by
    rw [hW1, hD]; exact (Below.heap_alloc _ _ _ (by simp)).trans (World.alloc_heap_new w _)
  have kL : W1.heap[L]? = some (.loop (rec .ready)) := by
    rw [hW1, hL]
    have := World.alloc_heap_new (w.alloc (.deferred (some []))) (.loop (rec .ready))
    rwa [World.size_alloc] at this
  have i1 : I [] W1 := by rw [hW1]; exact hI.alloc _ (hI.alloc _ h0)
  have b1 : Below w.heap.size w W1 := by
    rw [hW1]; exact ((Below.refl _ w).alloc (Nat.le_refl _) _).alloc (by simp) _
  have s1 : W1.heap.size = w.heap.size + 2 := by rw [hW1]; simp
  refine ⟨L, [{ target := .collected D, args := #[] }], W1, { target := .fn (.func gf) lb, args := #[.func (.yield L) #[] #[]] }, W1, gf, #[.func (.yield L) #[] #[]] ++ lb, W1, ?_, ?_, fun _ _ => trivial, ?_, fun h => absurd h (by simp [Fence.wide]), ?_⟩
  · rw [hL, hD, hW1, hrec]
    exact run_enterLoop_outer _ _ _ _ _
  · simp only [resolve, hg]
    simp [go_sem]
  · simp [invoke, go_sem, eg]
  refine (hseq L (fun pre W => I pre W ∧ W.heap[L]? = some (.loop (rec .ready)) ∧ W.heap[D]? = some (.deferred (some []))) W1 b1 ?_ ?_ ⟨i1, kL, kD⟩).mono ?_
  · -- the invariant abides the iterator's own blocks
    rintro s U V row ⟨hs, hl, hd⟩ hg2 hr
    have other : ∀ (k : Nat) (o : Obj), U.heap[k]? = some o → o.isCells = false → V.heap[k]? = some o := fun k o hk ho => by
      refine (hg2.block k (Array.getElem?_eq_some_iff.1 hk).1 fun e => ?_).trans hk
      obtain ⟨_, cs, fr, hc⟩ := hr k e.symm
      rw [hk] at hc
      cases hc
      cases ho
    refine ⟨hI s U V row hs hg2 fun r e => ?_, other _ _ hl rfl, other _ _ hd rfl⟩
    obtain ⟨h1, cs, fr, h2⟩ := hr r e
    exact ⟨by omega, _, h2, .inr ⟨cs, fr, rfl⟩⟩
  · -- a round
    rintro pre x U ⟨hi, hl, hd⟩ hN
    have hlt : L < U.heap.size := (Array.getElem?_eq_some_iff.1 hl).1
    have hy := run_yield (P := P) (args := encs x) hl (by rw [hrec]; exact hps x)
    rw [hrec] at hy
    refine ⟨fn, _, assign, body, hy, roundIn_of_wpIn trivial (hassign L x U _ ⟨_, run_beginRound hl (by rw [hrec]), ?_⟩)⟩
    have hb : ({ rec .ready with state := .busy } : Loop) = rec .busy := by rw [hrec]
    rw [hb]
    have l2 : (U.putObj L (.loop (rec .busy))).heap[L]? = some (.loop (rec .busy)) := World.putObj_heap_same hlt
    have d2 : (U.putObj L (.loop (rec .busy))).heap[D]? = some (.deferred (some [])) := (World.putObj_heap_other hDL).trans hd
    have k2 : Kp U (U.putObj L (.loop (rec .busy))) := hKb _ _ _ _ (by omega) hl rfl
    refine wpIn_mono (hbody L pre x _ (hI.put _ hi (by omega) hl rfl) hN) ?_
    rintro e a3 V hp
    cases e <;> first | exact hp.elim | skip
    obtain ⟨ko, kp, hi3⟩ := hp
    have l3 : V.heap[L]? = some (.loop (rec .busy)) := ko.same _ _ l2 rfl
    have d3 : V.heap[D]? = some (.deferred (some [])) := ko.same _ _ d2 rfl
    have he := run_endRound (P := P) none l3
    have hb2 : ({ rec .busy with state := .ready, pending := none } : Loop) = rec .ready := by rw [hrec]
    simp only [Option.isNone_none, if_true] at he
    rw [hb2] at he
    refine ⟨_, _, he, rfl, ⟨hI.put _ hi3 (by omega) l3 rfl, World.putObj_heap_same (Array.getElem?_eq_some_iff.1 l3).1, (World.putObj_heap_other hDL).trans d3⟩, hKt (hKt k2 kp) (hKb _ _ _ _ (by omega) l3 rfl)⟩
  · -- behind the iterator
    rintro e V ⟨⟨v, rfl⟩, xs, hS, hi, hl, hd⟩
    have he := run_endLoop (P := P) hl (by rw [hrec]; simp)
    have hp : (rec .ready).pending = none := by rw [hrec]
    rw [hp] at he
    exact ⟨none, _, he, hdone D xs _ (by omega) hS (hI.put _ hi (by omega) hl rfl) ((World.putObj_heap_other hDL).trans hd)⟩

/-! ### A region that draws, within a round -/
theorem upon_wide {P : Program} {l n : Nat} {o : Oper} {a : Act} {K K' : Act → World → Prop} {Q : Exit → Act → World → Prop} (hK : ∀ a w, K a w → K' a w) {r : Result Next} (h : o.upon P a K Q r) : o.uponIn (Fence.wide.inRound l) n P a K' Q r := by
  cases r with
  | ok x w' =>
    cases x with
    | value v => exact hK _ _ h
    | skip => exact hK _ _ h
    | defer d => exact hK _ _ h
    | enter f args =>
      rw [Oper.upon_enter] at h
      rw [Oper.uponIn_enter]
      refine ⟨fun hs => absurd hs (by simp [Fence.wide]), CallsIn.inRound l (callsIn_wide.2 (Calls.mono h fun e w'' he => ?_))⟩
      cases e with
      | returned v => exact hK _ _ he
      | panicked c => exact he
      | outgrown => exact he
    | row row args =>
      rw [Oper.upon_row] at h
      rw [Oper.uponIn_row]
      refine ⟨fun hs => absurd hs (by simp [Fence.wide]), fun c cs _ => ?_⟩
      obtain ⟨v, w2, hr, hs⟩ := h c cs
      exact ⟨v, w2, hK _ _ hr, stepsIn_wide.2 hs⟩
    | _ => exact h.elim
  | halt x w' =>
    cases x <;> first | exact h | exact h.elim
theorem ops_wide {P : Program} {l n : Nat} {ops : Array Oper} {Q : Exit → Act → World → Prop} (hQ : ¬ LetsOut Q) (hd : ∀ (i : Nat) (o : Oper), ops[i]? = some o → ∀ c, o.op ≠ .defer c) :
    ∀ (order : List Nat) (a : Act) (w : World), wpOps P ops Q order a w → wpOpsIn (Fence.wide.inRound l) n P ops Q order a w := by
  intro order
  induction order with
  | nil => intro a w h; exact h
  | cons i rest ih =>
    intro a w h
    unfold wpOps at h
    unfold wpOpsIn
    cases ho : ops[i]? with
    | none => rw [ho] at h; exact ih a w h
    | some o =>
      rw [ho] at h
      simp only at h ⊢
      split
      · rename_i hw
        rw [if_pos hw] at h
        rcases h with h | h
        · refine ⟨fun _ _ => trivial, ?_⟩
          rw [show (Fence.wide.inRound l).round = some l from rfl, Oper.semAt_some l _ _ (hd i o ho)]
          exact upon_wide ih h
        · exact absurd h.2 hQ
      · rename_i hw
        rw [if_neg hw] at h
        exact ⟨fun _ _ => trivial, ih _ _ h⟩
/-- A region that draws, in a round: by the laws of plain code. -/
theorem region_wide {P : Program} {l n id : Nat} {ops : Array Oper} {Q : Exit → Act → World → Prop} {a : Act} {w : World} {S : World → Prop} (hm : P.follows .mixedOrders = true) (hQ : ¬ LetsOut Q) (hd : (ops.toList.all fun o => match o.op with | .defer _ => false | _ => true) = true)
    (hS : S w.drew) (h : S w.drew → wpAnyH P .any ops Q S ops.size (Array.replicate ops.size false) a w.drew) : (Code.region id ops true).wpIn (Fence.wide.inRound l) n P Q a w :=
  wpIn_region_draw fun t => by
    simp only [Region.schedule, hm, Bool.true_or, if_true]
    refine ops_wide hQ (fun i o hi c hc => ?_) _ _ _ (wpAny_sound ops.size t _ a _ (wpAny_of_held _ _ _ _ (h hS)))
    have := List.all_eq_true.1 hd o (by rw [Array.mem_toList_iff]; exact Array.mem_of_getElem? hi)
    rw [hc] at this
    cases this
end Wl
end Go.Proofs.Ytihanhdepijijaa
