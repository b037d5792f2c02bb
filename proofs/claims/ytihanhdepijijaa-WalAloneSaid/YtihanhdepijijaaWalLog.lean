/-
  Layer 10 (wal) in plain Lean: a log over a machine (layer 9's), as chapter 10 says it, and what a crash leaves of it. No program.
-/
import Derived.Test.YtihanhdepijijaaWalMath
import Derived.Test.YtihanhdepijijaaDiskMath
namespace Go.Proofs.Ytihanhdepijijaa
namespace Wl
open S9.Dk (MD isF upd upd_same upd_other isF_iff isF_nat)

section
variable (c4 : Str → Str)
/-- The bytes of the valid part. -/
def valid (b : Str) : Nat := b.length - (rows c4 b).2.length
def open1 (D : MD) (f : Int) : Int × MD := if valid c4 (D.read f).1 < (D.read f).1.length then D.cut f (valid c4 (D.read f).1 : Nat) else (0, D)
def open2 (p : Int × MD) (f : Int) : Int × MD := if p.1 = 0 ∧ 0 < p.2.size (f + 1) then p.2.cut (f + 1) 0 else p
def open3 (p : Int × MD) (f : Int) : Int × MD := if p.1 = 0 then p.2.flush f else p
def lopen (D : MD) (f : Int) : (Option (List Str) × Int) × MD :=
  if f < 0 ∨ 6 < f then ((none, 1), D)
  else if (D.read f).2 ≠ 0 then ((none, (D.read f).2), D)
  else if (open3 (open2 (open1 c4 D f) f) f).1 = 0 then ((some (rows c4 (D.read f).1).1, 0), (open3 (open2 (open1 c4 D f) f) f).2)
  else ((none, (open3 (open2 (open1 c4 D f) f) f).1), (open3 (open2 (open1 c4 D f) f) f).2)
/-- Append: the answer, the rows, the machine. -/
def lapp (D : MD) (f : Int) (R : List Str) (s : Str) : Int × List Str × MD :=
  if 1048576 < s.length then (7, R, D) else ((D.app f (record c4 s)).1, if (D.app f (record c4 s)).1 = 0 then R ++ [s] else R, (D.app f (record c4 s)).2)
def rew1 (D : MD) (f : Int) : Int × MD := if 0 < D.size (f + 1) then D.cut (f + 1) 0 else (0, D)
def rew2 (p : Int × MD) (f : Int) (L : List Str) : Int × MD := if p.1 = 0 then p.2.app (f + 1) (records c4 L) else p
def rew3 (p : Int × MD) (f : Int) : Int × MD := if p.1 = 0 then p.2.flush (f + 1) else p
def rew4 (p : Int × MD) (f : Int) : Int × MD := if p.1 = 0 then p.2.turn f (f + 1) else p
def rewE (D : MD) (f : Int) (L : List Str) : Int × MD := rew4 (rew3 (rew2 c4 (rew1 D f) f L) f) f
def lrew (D : MD) (f : Int) (R L : List Str) : Int × List Str × MD :=
  if L.all (fun s => decide (s.length ≤ 1048576)) then ((rewE c4 D f L).1, if (rewE c4 D f L).1 = 0 then L else R, (rewE c4 D f L).2) else (7, R, D)
end

/-! ### What one operation of the machine does to one file -/
/-- The machine is up, and file f is as it was. -/
structure Stay (D D' : MD) (f : Nat) : Prop where
  down : D'.down = false
  text : D'.text f = D.text f
  dur : D'.dur f = D.dur f
/-- The machine has crashed. -/
structure Gone (D D' : MD) (f : Nat) : Prop where
  down : D'.down = true
  text : ∃ k, D.dur f ≤ k ∧ D'.text f = (D.text f).take k
theorem Stay.refl {D : MD} (h : D.down = false) (f : Nat) : Stay D D f := ⟨h, rfl, rfl⟩
theorem Stay.trans {A B C : MD} {f : Nat} (h : Stay A B f) (k : Stay B C f) : Stay A C f := ⟨k.down, k.text.trans h.text, k.dur.trans h.dur⟩
theorem Stay.gone {A B C : MD} {f : Nat} (h : Stay A B f) (k : Gone B C f) : Gone A C f := by
  obtain ⟨n, h1, h2⟩ := k.text
  exact ⟨k.down, n, by rw [← h.dur]; exact h1, by rw [h2, h.text]⟩
theorem crash_gone (D : MD) (k : Nat → Int) (f : Nat) : Gone D (D.crash k) f := ⟨rfl, D.cutAt k f, by unfold MD.cutAt; omega, rfl⟩
theorem tick_two {D : MD} (h : D.down = false) (f : Nat) : (D.hit = true → Gone D D.tick f) ∧ (D.hit = false → Stay D D.tick f) := by
  unfold MD.hit MD.tick
  constructor
  · intro hh
    have hc : D.calls = 1 := by simpa [h] using hh
    rw [if_neg (by rw [h, hc]; decide), if_pos hc]
    exact crash_gone D _ f
  · intro hh
    have hc : ¬ D.calls = 1 := by simpa [h] using hh
    split
    · exact Stay.refl h f
    · exact ⟨h, rfl, rfl⟩
theorem chk_up {D : MD} (h : D.down = false) (f : Int) : D.chk1 f = if isF f then 0 else 1 := by simp [MD.chk1, h]
/-- What an operation on another file, or one that fails, leaves of file f. -/
def Other (D : MD) (p : Int × MD) (f : Nat) : Prop := (p.1 = 8 → Gone D p.2 f) ∧ (p.1 ≠ 8 → Stay D p.2 f)
theorem Other.id {D : MD} (h : D.down = false) (f : Nat) {e : Int} (he : e ≠ 8) : Other D (e, D) f := ⟨fun h => absurd h he, fun _ => Stay.refl h f⟩
theorem Other.next {D : MD} {p q : Int × MD} {f : Nat} (h : Other D p f) (he : p.1 ≠ 8) (hq : Other p.2 q f) : Other D q f :=
  ⟨fun h8 => (h.2 he).gone (hq.1 h8), fun h8 => (h.2 he).trans (hq.2 h8)⟩
theorem appE_ne {D : MD} (h : D.down = false) (g : Int) (s : Str) : D.appE g s ≠ 8 := by
  unfold MD.appE
  cases hf : isF g with
  | false => rw [show D.chk1 g = 1 by simp [MD.chk1, h, hf], if_pos (by decide)]; decide
  | true =>
    rw [show D.chk1 g = 0 by simp [MD.chk1, h, hf], if_neg (by decide)]
    split <;> decide
theorem app_other {D : MD} (h : D.down = false) {g : Int} {f : Nat} (hg : g.toNat ≠ f) (s : Str) : Other D (D.app g s) f := by
  have ht := tick_two (D := D.app1 g s) (f := f) (by unfold MD.app1; split <;> exact h)
  have e1 : (D.app1 g s).text f = D.text f := by
    unfold MD.app1
    split
    · show upd D.text _ _ f = _
      rw [upd_other _ _ (fun e => hg e.symm)]
    · rfl
  have e2 : (D.app1 g s).dur f = D.dur f := by unfold MD.app1; split <;> rfl
  have e3 : (D.app1 g s).hit = D.hit := by unfold MD.app1; split <;> rfl
  have hst : Stay D (D.app1 g s) f := ⟨by unfold MD.app1; split <;> exact h, e1, e2⟩
  have hne := appE_ne h g s
  unfold MD.app
  rw [e3] at ht
  cases hh : D.hit with
  | true => exact ⟨fun _ => hst.gone (ht.1 hh), fun h8 => absurd rfl h8⟩
  | false => exact ⟨fun h8 => absurd (show D.appE g s = 8 from h8) hne, fun _ => hst.trans (ht.2 hh)⟩
theorem flush_other {D : MD} (h : D.down = false) {g : Int} {f : Nat} (hg : g.toNat ≠ f) : Other D (D.flush g) f := by
  have ht := tick_two h f
  unfold MD.flush
  cases hh : D.hit with
  | true => exact ⟨fun _ => ht.1 hh, fun h8 => absurd rfl h8⟩
  | false =>
    have hs := ht.2 hh
    generalize D.tick = T at *
    show Other D (T.flush1 g) f
    unfold MD.flush1
    cases hf : isF g with
    | false =>
      rw [show T.chk1 g = 1 by simp [MD.chk1, hs.down, hf], if_pos (by decide)]
      exact ⟨fun h8 => absurd (show (1 : Int) = 8 from h8) (by decide), fun _ => hs⟩
    | true =>
      rw [show T.chk1 g = 0 by simp [MD.chk1, hs.down, hf], if_neg (by decide)]
      split
      · exact ⟨fun h8 => absurd (show (18 : Int) = 8 from h8) (by decide), fun _ => ⟨hs.down, hs.text, hs.dur⟩⟩
      · refine ⟨fun h8 => absurd (show (0 : Int) = 8 from h8) (by decide), fun _ => ⟨hs.down, hs.text, ?_⟩⟩
        show upd T.dur g.toNat _ f = _
        rw [upd_other _ _ (fun e => hg e.symm)]
        exact hs.dur
theorem cut_other {D : MD} (h : D.down = false) {g : Int} {f : Nat} (hg : g.toNat ≠ f) (n : Int) : Other D (D.cut g n) f := by
  have ht := tick_two h f
  unfold MD.cut
  cases hh : D.hit with
  | true => exact ⟨fun _ => ht.1 hh, fun h8 => absurd rfl h8⟩
  | false =>
    have hs := ht.2 hh
    generalize D.tick = T at *
    show Other D (T.cut1 g n) f
    unfold MD.cut1
    cases hf : isF g with
    | false =>
      rw [show T.chk1 g = 1 by simp [MD.chk1, hs.down, hf], if_pos (by decide)]
      exact ⟨fun h8 => absurd (show (1 : Int) = 8 from h8) (by decide), fun _ => hs⟩
    | true =>
      rw [show T.chk1 g = 0 by simp [MD.chk1, hs.down, hf], if_neg (by decide)]
      split
      · exact ⟨fun h8 => absurd (show (1 : Int) = 8 from h8) (by decide), fun _ => hs⟩
      · refine ⟨fun h8 => absurd (show (0 : Int) = 8 from h8) (by decide), fun _ => ⟨hs.down, ?_, ?_⟩⟩
        · show upd T.text g.toNat _ f = _
          rw [upd_other _ _ (fun e => hg e.symm)]
          exact hs.text
        · show upd T.dur g.toNat _ f = _
          rw [upd_other _ _ (fun e => hg e.symm)]
          exact hs.dur

/-! ### A log, and what a crash leaves of it -/
/-- The machine is up; file f holds the records of R; the rows of safe, a beginning of R, are durable. -/
structure Good (c4 : Str → Str) (D : MD) (f : Nat) (R safe : List Str) : Prop where
  down : D.down = false
  text : D.text f = records c4 R
  ok : ∀ s ∈ R, okRow s
  pre : safe <+: R
  dur : (records c4 safe).length ≤ D.dur f
/-- The machine has crashed: file f holds a beginning of the records of A, and all the rows of safe. -/
structure Hope (c4 : Str → Str) (D : MD) (f : Nat) (A safe : List Str) : Prop where
  down : D.down = true
  text : ∃ k, (records c4 safe).length ≤ k ∧ D.text f = (records c4 A).take k
  ok : ∀ s ∈ A, okRow s
  pre : safe <+: A
section
variable {c4 : Str → Str} {D D' : MD} {f : Nat} {R safe : List Str}
theorem Good.stay (h : Good c4 D f R safe) (hs : Stay D D' f) : Good c4 D' f R safe := ⟨hs.down, hs.text.trans h.text, h.ok, h.pre, by rw [hs.dur]; exact h.dur⟩
theorem Good.gone (h : Good c4 D f R safe) (hs : Gone D D' f) : Hope c4 D' f R safe := by
  obtain ⟨k, h1, h2⟩ := hs.text
  exact ⟨hs.down, ⟨k, Nat.le_trans h.dur h1, by rw [h2, h.text]⟩, h.ok, h.pre⟩
theorem Good.other (h : Good c4 D f R safe) {p : Int × MD} (hp : Other D p f) : (p.1 = 8 → Hope c4 p.2 f R safe) ∧ (p.1 ≠ 8 → Good c4 p.2 f R safe) :=
  ⟨fun h8 => h.gone (hp.1 h8), fun h8 => h.stay (hp.2 h8)⟩
/-- One row more that may not have come through. -/
theorem Hope.snoc (h : Hope c4 D f R safe) {s : Str} (hs : okRow s) : Hope c4 D f (R ++ [s]) safe := by
  obtain ⟨k, h1, h2⟩ := h.text
  refine ⟨h.down, ⟨min k (records c4 R).length, ?_, ?_⟩, fun u hu => ?_, h.pre.trans (List.prefix_append _ _)⟩
  · have : (records c4 safe).length ≤ (records c4 R).length := by
      obtain ⟨t, ht⟩ := h.pre
      rw [← ht, records_append, List.length_append]
      omega
    omega
  · rw [h2, records_append, ← List.take_take, List.take_left]
  · rcases List.mem_append.1 hu with hu | hu
    · exact h.ok u hu
    · rw [List.mem_singleton] at hu
      subst hu
      exact hs
theorem lapp_good (hf : f < 8) (h : Good c4 D f R safe) (s : Str) :
    ((lapp c4 D f R s).1 = 8 → Hope c4 (lapp c4 D f R s).2.2 f (R ++ [s]) safe) ∧ ((lapp c4 D f R s).1 ≠ 8 → Good c4 (lapp c4 D f R s).2.2 f (lapp c4 D f R s).2.1 safe) := by
  unfold lapp
  split
  · exact ⟨fun h8 => absurd (show (7 : Int) = 8 from h8) (by decide), fun _ => h⟩
  · rename_i hlen
    have hs : okRow s := by unfold okRow; omega
    have hfi : isF (f : Int) = true := by rw [isF_iff]; omega
    have hne := appE_ne h.down (f : Int) (record c4 s)
    have ht := tick_two (D := D.app1 (f : Int) (record c4 s)) (f := f) (by unfold MD.app1; split <;> exact h.down)
    have e3 : (D.app1 (f : Int) (record c4 s)).hit = D.hit := by unfold MD.app1; split <;> rfl
    rw [e3] at ht
    have hg : (D.appE f (record c4 s) = 0 → Good c4 (D.app1 f (record c4 s)) f (R ++ [s]) safe) ∧ (D.appE f (record c4 s) ≠ 0 → Good c4 (D.app1 f (record c4 s)) f R safe) := by
      unfold MD.app1
      constructor
      · intro he
        rw [if_pos he]
        refine ⟨h.down, ?_, ?_, h.pre.trans (List.prefix_append _ _), h.dur⟩
        · show upd D.text f (D.text f ++ record c4 s) f = _
          rw [upd_same, h.text, records_append, records_one]
        · intro u hu
          rcases List.mem_append.1 hu with hu | hu
          · exact h.ok u hu
          · rw [List.mem_singleton] at hu
            subst hu
            exact hs
      · intro he
        rw [if_neg he]
        exact h
    unfold MD.app
    cases hh : D.hit with
    | true =>
      refine ⟨fun _ => ?_, fun h8 => absurd rfl h8⟩
      have hgone := ht.1 hh
      by_cases he : D.appE f (record c4 s) = 0
      · exact (hg.1 he).gone hgone
      · exact ((hg.2 he).gone hgone).snoc hs
    | false =>
      refine ⟨fun h8 => absurd (show D.appE f (record c4 s) = 8 from h8) hne, fun _ => ?_⟩
      have hst := ht.2 hh
      show Good c4 (D.app1 f (record c4 s)).tick f (if D.appE f (record c4 s) = 0 then R ++ [s] else R) safe
      split
      · rename_i he
        exact (hg.1 he).stay hst
      · rename_i he
        exact (hg.2 he).stay hst
theorem lflush_good (hf : f < 8) (h : Good c4 D f R safe) :
    ((D.flush f).1 = 8 → Hope c4 (D.flush f).2 f R safe) ∧ ((D.flush f).1 = 0 → Good c4 (D.flush f).2 f R R) ∧ ((D.flush f).1 ≠ 8 → Good c4 (D.flush f).2 f R safe) := by
  have hfi : isF (f : Int) = true := by rw [isF_iff]; omega
  have ht := tick_two h.down f
  unfold MD.flush
  cases hh : D.hit with
  | true => exact ⟨fun _ => h.gone (ht.1 hh), fun h0 => absurd (show (8 : Int) = 0 from h0) (by decide), fun h8 => absurd rfl h8⟩
  | false =>
    have hs := h.stay (ht.2 hh)
    generalize D.tick = T at *
    show ((T.flush1 f).1 = 8 → Hope c4 (T.flush1 f).2 f R safe) ∧ ((T.flush1 f).1 = 0 → Good c4 (T.flush1 f).2 f R R) ∧ ((T.flush1 f).1 ≠ 8 → Good c4 (T.flush1 f).2 f R safe)
    unfold MD.flush1
    rw [show T.chk1 (f : Int) = 0 by simp [MD.chk1, hs.down, hfi], if_neg (by decide)]
    split
    · exact ⟨fun h8 => absurd (show (18 : Int) = 8 from h8) (by decide), fun h0 => absurd (show (18 : Int) = 0 from h0) (by decide), fun _ => ⟨hs.down, hs.text, hs.ok, hs.pre, hs.dur⟩⟩
    · have hd : (T.settle (f : Int).toNat).dur f = (records c4 R).length := by
        show upd T.dur f (T.text f).length f = _
        rw [upd_same, hs.text]
      refine ⟨fun h8 => absurd (show (0 : Int) = 8 from h8) (by decide), fun _ => ⟨hs.down, hs.text, hs.ok, List.prefix_refl _, by rw [hd]; exact Nat.le_refl _⟩, fun _ => ⟨hs.down, hs.text, hs.ok, hs.pre, ?_⟩⟩
      show _ ≤ (T.settle (f : Int).toNat).dur f
      rw [hd]
      obtain ⟨t, ht⟩ := hs.pre
      rw [← ht, records_append, List.length_append]
      omega
theorem crash_hope (h : Good c4 D f R safe) (ks : List Int) : Hope c4 (D.Crash ks) f R safe := by
  unfold MD.Crash
  rw [if_neg (by simp [h.down])]
  exact h.gone (crash_gone D _ f)
theorem lose_good (h : Good c4 D f R safe) (n : Int) : Good c4 (D.lose n) f R safe := ⟨h.down, h.text, h.ok, h.pre, h.dur⟩
theorem arm_good (h : Good c4 D f R safe) (n : Int) (ks : List Int) : Good c4 (D.arm n ks) f R safe := by
  unfold MD.arm
  split <;> exact ⟨h.down, h.text, h.ok, h.pre, h.dur⟩
end
end Wl
end Go.Proofs.Ytihanhdepijijaa
