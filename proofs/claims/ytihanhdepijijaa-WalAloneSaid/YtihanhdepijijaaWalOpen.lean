/-
  Layer 10 (wal) in plain Lean: Rewrite under a planned crash; every call on a machine on which nothing is planned and nothing to be lost; Open behind a crash. No program.
-/
import Derived.Test.YtihanhdepijijaaWalLog
namespace Go.Proofs.Ytihanhdepijijaa
namespace Wl
open S9.Dk (MD isF upd upd_same upd_other isF_iff isF_nat kof)

/-! ### Rewrite -/
theorem cut_zero {D : MD} {g : Int} (h : (D.cut g 0).1 = 0) : (D.cut g 0).2.text g.toNat = [] := by
  unfold MD.cut at *
  cases hh : D.hit with
  | true => simp only [hh] at h; exact absurd (show (8 : Int) = 0 from h) (by decide)
  | false =>
    simp only [hh] at h ⊢
    generalize D.tick = T at *
    have h' : (T.cut1 g 0).1 = 0 := h
    show (T.cut1 g 0).2.text g.toNat = []
    unfold MD.cut1 at *
    split at h'
    · contradiction
    · rename_i h1
      rw [if_neg h1]
      split at h'
      · exact absurd (show (1 : Int) = 0 from h') (by decide)
      · rename_i h2
        rw [if_neg h2]
        show upd T.text g.toNat ((T.text g.toNat).take (Int.toNat 0)) g.toNat = []
        rw [upd_same]
        rfl
theorem app_ok {D : MD} {g : Int} {s : Str} (hd : D.down = false) (h : (D.app g s).1 = 0) : (D.app g s).2.text g.toNat = D.text g.toNat ++ s := by
  unfold MD.app at *
  cases hh : D.hit with
  | true => simp only [hh] at h; exact absurd (show (8 : Int) = 0 from h) (by decide)
  | false =>
    simp only [hh] at h ⊢
    have h' : D.appE g s = 0 := h
    have e3 : (D.app1 g s).hit = D.hit := by unfold MD.app1; split <;> rfl
    have ht := (tick_two (D := D.app1 g s) (by unfold MD.app1; split <;> exact hd) g.toNat).2 (e3.trans hh)
    rw [ht.text]
    unfold MD.app1
    rw [if_pos h']
    show upd D.text g.toNat (D.text g.toNat ++ s) g.toNat = _
    rw [upd_same]
theorem flush_ok {D : MD} {g : Int} (hd : D.down = false) (h : (D.flush g).1 = 0) : (D.flush g).2.text g.toNat = D.text g.toNat ∧ (D.flush g).2.dur g.toNat = (D.text g.toNat).length := by
  unfold MD.flush at *
  cases hh : D.hit with
  | true => simp only [hh] at h; exact absurd (show (8 : Int) = 0 from h) (by decide)
  | false =>
    have ht := (tick_two hd g.toNat).2 hh
    simp only [hh] at h ⊢
    generalize D.tick = T at *
    have h' : (T.flush1 g).1 = 0 := h
    show (T.flush1 g).2.text g.toNat = _ ∧ (T.flush1 g).2.dur g.toNat = _
    unfold MD.flush1 at *
    split at h'
    · contradiction
    · rename_i h1
      rw [if_neg h1]
      split at h'
      · exact absurd (show (18 : Int) = 0 from h') (by decide)
      · rename_i h2
        rw [if_neg h2]
        refine ⟨ht.text, ?_⟩
        show upd T.dur g.toNat (T.text g.toNat).length g.toNat = _
        rw [upd_same, ht.text]
theorem turn_three {D : MD} (hd : D.down = false) {f g : Int} (hg : g.toNat ≠ f.toNat) : ((D.turn f g).1 = 8 → Gone D (D.turn f g).2 f.toNat) ∧ ((D.turn f g).1 ≠ 8 → (D.turn f g).1 ≠ 0 → Stay D (D.turn f g).2 f.toNat) ∧
    ((D.turn f g).1 = 0 → (D.turn f g).2.down = false ∧ (D.turn f g).2.text f.toNat = D.text g.toNat ∧ (D.turn f g).2.dur f.toNat = D.dur g.toNat) := by
  have ht := tick_two hd f.toNat
  have htg := tick_two hd g.toNat
  unfold MD.turn
  cases hh : D.hit with
  | true => exact ⟨fun _ => ht.1 hh, fun h8 => absurd rfl h8, fun h0 => absurd (show (8 : Int) = 0 from h0) (by decide)⟩
  | false =>
    have hs := ht.2 hh
    have hsg := htg.2 hh
    generalize D.tick = T at *
    show ((T.turn1 f g).1 = 8 → Gone D (T.turn1 f g).2 f.toNat) ∧ ((T.turn1 f g).1 ≠ 8 → (T.turn1 f g).1 ≠ 0 → Stay D (T.turn1 f g).2 f.toNat) ∧ ((T.turn1 f g).1 = 0 → (T.turn1 f g).2.down = false ∧ (T.turn1 f g).2.text f.toNat = D.text g.toNat ∧ (T.turn1 f g).2.dur f.toNat = D.dur g.toNat)
    unfold MD.turn1
    have hc : T.chk2 f g = 0 ∨ T.chk2 f g = 1 := by
      unfold MD.chk2
      rw [hs.down, if_neg (by decide)]
      split
      · exact .inl rfl
      · exact .inr rfl
    rcases hc with hc | hc
    · rw [hc, if_neg (by decide)]
      split
      · exact ⟨fun h8 => absurd (show (1 : Int) = 8 from h8) (by decide), fun _ _ => hs, fun h0 => absurd (show (1 : Int) = 0 from h0) (by decide)⟩
      · split
        · exact ⟨fun h8 => absurd (show (9 : Int) = 8 from h8) (by decide), fun _ _ => hs, fun h0 => absurd (show (9 : Int) = 0 from h0) (by decide)⟩
        · refine ⟨fun h8 => absurd (show (0 : Int) = 8 from h8) (by decide), fun _ h0 => absurd rfl h0, fun _ => ⟨hs.down, ?_, ?_⟩⟩
          · show upd (upd T.text f.toNat (T.text g.toNat)) g.toNat [] f.toNat = _
            rw [upd_other _ _ (fun e => hg e.symm), upd_same, hsg.text]
          · show upd (upd T.dur f.toNat (T.dur g.toNat)) g.toNat 0 f.toNat = _
            rw [upd_other _ _ (fun e => hg e.symm), upd_same, hsg.dur]
    · rw [hc, if_pos (by decide)]
      exact ⟨fun h8 => absurd (show (1 : Int) = 8 from h8) (by decide), fun _ _ => hs, fun h0 => absurd (show (1 : Int) = 0 from h0) (by decide)⟩
section
variable {c4 : Str → Str} {D : MD} {f : Nat} {R safe : List Str}
theorem rew1_spec (hd : D.down = false) (hf : f < 7) : Other D (rew1 D f) f ∧ ((rew1 D f).1 = 0 → (rew1 D f).2.text (f + 1) = []) := by
  unfold rew1
  have hg : ((f : Int) + 1).toNat = f + 1 := by omega
  split
  · refine ⟨cut_other hd (by omega) 0, fun h => ?_⟩
    have := cut_zero h
    rwa [hg] at this
  · rename_i h0
    refine ⟨Other.id hd f (by decide), fun _ => ?_⟩
    unfold MD.size at h0
    rw [if_pos (by rw [isF_iff]; omega), hg] at h0
    exact List.eq_nil_of_length_eq_zero (by simpa using h0)
theorem lrew_good (hf : f < 7) (h : Good c4 D f R safe) (L : List Str) :
    ((lrew c4 D f R L).1 = 8 → Hope c4 (lrew c4 D f R L).2.2 f R safe) ∧ ((lrew c4 D f R L).1 = 0 → Good c4 (lrew c4 D f R L).2.2 f L L ∧ (lrew c4 D f R L).2.1 = L) ∧
    ((lrew c4 D f R L).1 ≠ 8 → (lrew c4 D f R L).1 ≠ 0 → Good c4 (lrew c4 D f R L).2.2 f R safe ∧ (lrew c4 D f R L).2.1 = R) := by
  unfold lrew
  cases hL : L.all (fun s => decide (s.length ≤ 1048576)) with
  | false => exact ⟨fun h8 => absurd (show (7 : Int) = 8 from h8) (by decide), fun h0 => absurd (show (7 : Int) = 0 from h0) (by decide), fun _ _ => ⟨h, rfl⟩⟩
  | true =>
    have hLo : ∀ s ∈ L, okRow s := fun s hs => show s.length ≤ 1048576 from of_decide_eq_true (List.all_eq_true.1 hL s hs)
    have hg : ((f : Int) + 1).toNat = f + 1 := by omega
    simp only [if_true]
    obtain ⟨o1, t1⟩ := rew1_spec h.down hf
    have o2 : Other D (rew2 c4 (rew1 D f) f L) f ∧ ((rew2 c4 (rew1 D f) f L).1 = 0 → (rew2 c4 (rew1 D f) f L).2.text (f + 1) = records c4 L) := by
      unfold rew2
      split
      · rename_i h0
        have hd1 := (o1.2 (by rw [h0]; decide)).down
        refine ⟨o1.next (by rw [h0]; decide) (app_other hd1 (by omega) _), fun hz => ?_⟩
        have := app_ok hd1 hz
        rw [hg, t1 h0] at this
        exact this
      · rename_i h0
        exact ⟨o1, fun hz => absurd hz h0⟩
    obtain ⟨p2, hp2⟩ : ∃ p2, p2 = rew2 c4 (rew1 D f) f L := ⟨_, rfl⟩
    rw [← hp2] at o2
    have o3 : Other D (rew3 p2 f) f ∧ ((rew3 p2 f).1 = 0 → (rew3 p2 f).2.text (f + 1) = records c4 L ∧ (rew3 p2 f).2.dur (f + 1) = (records c4 L).length) := by
      unfold rew3
      split
      · rename_i h0
        have hd1 := (o2.1.2 (by rw [h0]; decide)).down
        refine ⟨o2.1.next (by rw [h0]; decide) (flush_other hd1 (by omega)), fun hz => ?_⟩
        have := flush_ok hd1 hz
        rw [hg, o2.2 h0] at this
        exact this
      · rename_i h0
        exact ⟨o2.1, fun hz => absurd hz h0⟩
    obtain ⟨p3, hp3⟩ : ∃ p3, p3 = rew3 p2 f := ⟨_, rfl⟩
    rw [← hp3] at o3
    have he : rewE c4 D f L = rew4 p3 f := by unfold rewE; rw [← hp2, ← hp3]
    rw [he]
    unfold rew4
    split
    · rename_i h0
      have hd3 := o3.1.2 (by rw [h0]; decide)
      obtain ⟨q8, qe, q0⟩ := turn_three hd3.down (f := (f : Int)) (g := (f : Int) + 1) (by omega)
      rw [hg, Int.toNat_natCast] at *
      refine ⟨fun h8 => h.gone (hd3.gone (q8 h8)), fun hz => ?_, fun h8 hz => ?_⟩
      · obtain ⟨r1, r2, r3⟩ := q0 hz
        obtain ⟨s1, s2⟩ := o3.2 h0
        exact ⟨⟨r1, r2.trans s1, hLo, List.prefix_refl _, by rw [r3, s2]; exact Nat.le_refl _⟩, if_pos hz⟩
      · exact ⟨h.stay (hd3.trans (qe h8 hz)), if_neg hz⟩
    · rename_i h0
      exact ⟨fun h8 => h.gone (o3.1.1 h8), fun hz => absurd hz h0, fun h8 _ => ⟨h.stay (o3.1.2 h8), rfl⟩⟩

/-! ### A machine on which nothing is planned and nothing to be lost -/
structure Calm (D : MD) : Prop where
  down : D.down = false
  lost : D.lost = 0
  calls : D.calls = 0
theorem Calm.hit {D : MD} (h : Calm D) : D.hit = false := by simp [MD.hit, h.calls]
theorem Calm.tick {D : MD} (h : Calm D) : D.tick = D := by unfold MD.tick; rw [if_pos (.inr h.calls)]
theorem Calm.chk {D : MD} (h : Calm D) {g : Nat} (hg : g < 8) : D.chk1 (g : Int) = 0 := by simp [MD.chk1, h.down, isF]; omega
theorem Calm.size {D : MD} {g : Nat} (hg : g < 8) : D.size (g : Int) = (D.text g).length := by
  unfold MD.size
  rw [if_pos (by rw [isF_iff]; omega)]
  rfl
theorem Calm.read {D : MD} (h : Calm D) {g : Nat} (hg : g < 8) : D.read (g : Int) = (D.text g, 0) := by
  unfold MD.read
  rw [h.chk hg, if_neg (by decide)]
  rfl
theorem Calm.app {D : MD} (h : Calm D) {g : Nat} (hg : g < 8) {s : Str} (hl : (D.text g).length + s.length ≤ 16777216) : D.app (g : Int) s = (0, D.put g s) := by
  have hE : D.appE (g : Int) s = 0 := by
    unfold MD.appE
    rw [h.chk hg, if_neg (by decide), Calm.size hg, if_neg (by omega)]
  unfold MD.app MD.app1
  rw [hE, h.hit, if_pos rfl]
  show ((0 : Int), (D.put g s).tick) = _
  rw [show (D.put g s).tick = D.put g s from Calm.tick ⟨h.down, h.lost, h.calls⟩]
theorem Calm.flush {D : MD} (h : Calm D) {g : Nat} (hg : g < 8) : D.flush (g : Int) = (0, D.settle g) := by
  unfold MD.flush
  rw [h.hit, h.tick]
  show D.flush1 (g : Int) = _
  unfold MD.flush1
  rw [h.chk hg, if_neg (by decide), if_neg (by rw [h.lost]; decide)]
  rfl
theorem Calm.cut {D : MD} (h : Calm D) {g : Nat} (hg : g < 8) {n : Nat} (hn : n ≤ (D.text g).length) : D.cut (g : Int) (n : Int) = (0, D.trunc g n) := by
  unfold MD.cut
  rw [h.hit, h.tick]
  show D.cut1 (g : Int) (n : Int) = _
  unfold MD.cut1
  rw [h.chk hg, if_neg (by decide), Calm.size hg, if_neg (by omega)]
  rfl
theorem Calm.turn {D : MD} (h : Calm D) {g k : Nat} (hg : g < 8) (hk : k < 8) (hne : g ≠ k) (hd : (D.text k).length ≤ D.dur k) : D.turn (g : Int) (k : Int) = (0, D.swap g k) := by
  unfold MD.turn
  rw [h.hit, h.tick]
  show D.turn1 (g : Int) (k : Int) = _
  unfold MD.turn1
  simp only [Int.toNat_natCast]
  rw [show D.chk2 (g : Int) (k : Int) = 0 by simp [MD.chk2, h.down, isF]; omega, if_neg (by decide), if_neg (by omega), if_neg (by omega)]
/-- What a call in peace leaves: file f holds the records of R, all durable; the file behind it is empty; the others are as they were. -/
structure Peace (c4 : Str → Str) (D D' : MD) (f : Nat) (R : List Str) : Prop where
  calm : Calm D'
  text : D'.text f = records c4 R
  dur : D'.dur f = (records c4 R).length
  next : D'.text (f + 1) = []
  rest : ∀ g, g ≠ f → g ≠ f + 1 → D'.text g = D.text g ∧ D'.dur g = D.dur g
theorem lopen_calm (h4 : ∀ s, (c4 s).length = 4) (h : Calm D) (hf : f < 7) : ∃ D', lopen c4 D f = ((some (rows c4 (D.text f)).1, 0), D') ∧ Peace c4 D D' f (rows c4 (D.text f)).1 := by
  have hr := h.read (g := f) (by omega)
  obtain ⟨hb, hok, hn⟩ := rows_spec h4 (D.text f)
  obtain ⟨l, hl⟩ : ∃ l, l = (rows c4 (D.text f)).1 := ⟨_, rfl⟩
  obtain ⟨r, hrr⟩ : ∃ r, r = (rows c4 (D.text f)).2 := ⟨_, rfl⟩
  rw [← hl, ← hrr] at hb
  have hv : valid c4 (D.text f) = (records c4 l).length := by
    unfold valid
    rw [← hrr]
    have := congrArg List.length hb
    rw [List.length_append] at this
    omega
  -- step 1
  have s1 : ∃ D1, open1 c4 D f = (0, D1) ∧ Calm D1 ∧ D1.text f = records c4 l ∧ (∀ g, g ≠ f → D1.text g = D.text g ∧ D1.dur g = D.dur g) := by
    unfold open1
    rw [hr]
    simp only
    rw [hv]
    split
    · rename_i hlt
      refine ⟨D.trunc f (records c4 l).length, h.cut (by omega) (by omega), ⟨h.down, h.lost, h.calls⟩, ?_, fun g hg => ⟨?_, ?_⟩⟩
      · show upd D.text f ((D.text f).take (records c4 l).length) f = _
        rw [upd_same, hb, List.take_left]
      · show upd D.text f _ g = _
        rw [upd_other _ _ hg]
      · show upd D.dur f _ g = _
        rw [upd_other _ _ hg]
    · rename_i hge
      refine ⟨D, rfl, h, ?_, fun g _ => ⟨rfl, rfl⟩⟩
      have hl2 := congrArg List.length hb
      rw [List.length_append] at hl2
      have : r = [] := List.eq_nil_of_length_eq_zero (by omega)
      rw [this, List.append_nil] at hb
      exact hb
  obtain ⟨D1, e1, c1, t1, o1⟩ := s1
  have s2 : ∃ D2, open2 (0, D1) f = (0, D2) ∧ Calm D2 ∧ D2.text f = records c4 l ∧ D2.text (f + 1) = [] ∧ (∀ g, g ≠ f → g ≠ f + 1 → D2.text g = D.text g ∧ D2.dur g = D.dur g) := by
    unfold open2
    have hsz : D1.size ((f : Int) + 1) = (D1.text (f + 1)).length := by
      have := Calm.size (D := D1) (g := f + 1) (by omega)
      simpa using this
    simp only [hsz]
    split
    · have hc := c1.cut (g := f + 1) (n := 0) (by omega) (Nat.zero_le _)
      refine ⟨D1.trunc (f + 1) 0, by simpa using hc, ⟨c1.down, c1.lost, c1.calls⟩, ?_, ?_, fun g hg hg2 => ⟨?_, ?_⟩⟩
      · show upd D1.text (f + 1) _ f = _
        rw [upd_other _ _ (by omega)]
        exact t1
      · show upd D1.text (f + 1) ((D1.text (f + 1)).take 0) (f + 1) = _
        rw [upd_same]
        rfl
      · show upd D1.text (f + 1) _ g = _
        rw [upd_other _ _ hg2]
        exact (o1 g hg).1
      · show upd D1.dur (f + 1) _ g = _
        rw [upd_other _ _ hg2]
        exact (o1 g hg).2
    · rename_i h0
      refine ⟨D1, rfl, c1, t1, ?_, fun g hg _ => o1 g hg⟩
      have : ¬ 0 < (D1.text (f + 1)).length := fun hp => h0 ⟨trivial, hp⟩
      exact List.eq_nil_of_length_eq_zero (by omega)
  obtain ⟨D2, e2, c2, t2, n2, o2⟩ := s2
  have e3 : open3 (0, D2) f = (0, D2.settle f) := by
    unfold open3
    rw [if_pos rfl]
    exact c2.flush (by omega)
  refine ⟨D2.settle f, ?_, ⟨c2.down, c2.lost, c2.calls⟩, by rw [← hl]; exact t2, ?_, n2, fun g hg hg2 => ⟨(o2 g hg hg2).1, ?_⟩⟩
  · unfold lopen
    rw [if_neg (by omega), hr, if_neg (by simp), e1, e2, e3]
    simp
  · show upd D2.dur f (D2.text f).length f = _
    rw [upd_same, t2, hl]
  · show upd D2.dur f _ g = _
    rw [upd_other _ _ hg]
    exact (o2 g hg hg2).2
/-- Open behind a crash: the rows are a beginning of those that were there, and begin with those that were safe. -/
theorem open_hope (h4 : ∀ s, (c4 s).length = 4) {A : List Str} (h : Hope c4 D f A safe) (hf : f < 7) :
    ∃ now D', lopen c4 (((D.start).lose 0).arm 0 []) f = ((some now, 0), D') ∧ now <+: A ∧ safe <+: now ∧ Peace c4 (((D.start).lose 0).arm 0 []) D' f now := by
  have hc : Calm (((D.start).lose 0).arm 0 []) := by
    unfold MD.arm
    rw [if_neg (by decide)]
    exact ⟨rfl, rfl, rfl⟩
  obtain ⟨k, hk, ht⟩ := h.text
  have ht2 : (((D.start).lose 0).arm 0 []).text f = (records c4 A).take k := by
    unfold MD.arm
    rw [if_neg (by decide)]
    exact ht
  obtain ⟨D', e, hp⟩ := lopen_calm h4 hc hf
  rw [ht2] at e hp
  obtain ⟨p1, p2⟩ := rows_safe h4 h.ok h.pre hk
  exact ⟨_, D', e, p1, p2, hp⟩
theorem lapp_calm (h : Calm D) (hf : f < 8) (ht : D.text f = records c4 R) {s : Str} (hs : okRow s) (hl : (records c4 R).length + (record c4 s).length ≤ 16777216) : lapp c4 D f R s = (0, R ++ [s], D.put f (record c4 s)) := by
  unfold lapp
  rw [if_neg (by unfold okRow at hs; omega), h.app hf (by rw [ht]; exact hl), if_pos rfl]
theorem lrew_calm (h : Calm D) (hf : f < 7) {L : List Str} (hL : ∀ s ∈ L, okRow s) (hl : (records c4 L).length ≤ 16777216) : ∃ D', lrew c4 D f R L = (0, L, D') ∧ Peace c4 D D' f L := by
  have hall : L.all (fun s => decide (s.length ≤ 1048576)) = true := List.all_eq_true.2 fun s hs => decide_eq_true (hL s hs)
  have s1 : ∃ D1, rew1 D f = (0, D1) ∧ Calm D1 ∧ D1.text (f + 1) = [] ∧ (∀ g, g ≠ f + 1 → D1.text g = D.text g ∧ D1.dur g = D.dur g) := by
    unfold rew1
    have hsz : D.size ((f : Int) + 1) = (D.text (f + 1)).length := by
      have := Calm.size (D := D) (g := f + 1) (by omega)
      simpa using this
    rw [hsz]
    split
    · have hc := h.cut (g := f + 1) (n := 0) (by omega) (Nat.zero_le _)
      refine ⟨D.trunc (f + 1) 0, by simpa using hc, ⟨h.down, h.lost, h.calls⟩, ?_, fun g hg => ⟨?_, ?_⟩⟩
      · show upd D.text (f + 1) ((D.text (f + 1)).take 0) (f + 1) = _
        rw [upd_same]
        rfl
      · show upd D.text (f + 1) _ g = _
        rw [upd_other _ _ hg]
      · show upd D.dur (f + 1) _ g = _
        rw [upd_other _ _ hg]
    · exact ⟨D, rfl, h, List.eq_nil_of_length_eq_zero (by omega), fun g _ => ⟨rfl, rfl⟩⟩
  obtain ⟨D1, e1, c1, t1, o1⟩ := s1
  have e2 : rew2 c4 (0, D1) f L = (0, D1.put (f + 1) (records c4 L)) := by
    unfold rew2
    rw [if_pos rfl]
    have := c1.app (g := f + 1) (s := records c4 L) (by omega) (by rw [t1]; simpa using hl)
    simpa using this
  obtain ⟨D2, hD2⟩ : ∃ D2, D2 = D1.put (f + 1) (records c4 L) := ⟨_, rfl⟩
  have c2 : Calm D2 := by rw [hD2]; exact ⟨c1.down, c1.lost, c1.calls⟩
  have t2 : D2.text (f + 1) = records c4 L := by
    rw [hD2]
    show upd D1.text (f + 1) (D1.text (f + 1) ++ records c4 L) (f + 1) = _
    rw [upd_same, t1]
    rfl
  have o2 : ∀ g, g ≠ f + 1 → D2.text g = D.text g ∧ D2.dur g = D.dur g := fun g hg => by
    rw [hD2]
    refine ⟨?_, (o1 g hg).2⟩
    show upd D1.text (f + 1) _ g = _
    rw [upd_other _ _ hg]
    exact (o1 g hg).1
  have e3 : rew3 (0, D2) f = (0, D2.settle (f + 1)) := by
    unfold rew3
    rw [if_pos rfl]
    have := c2.flush (g := f + 1) (by omega)
    simpa using this
  have c3 : Calm (D2.settle (f + 1)) := ⟨c2.down, c2.lost, c2.calls⟩
  have d3 : (D2.settle (f + 1)).dur (f + 1) = (records c4 L).length := by
    show upd D2.dur (f + 1) (D2.text (f + 1)).length (f + 1) = _
    rw [upd_same, t2]
  have e4 : rew4 (0, D2.settle (f + 1)) f = (0, (D2.settle (f + 1)).swap f (f + 1)) := by
    unfold rew4
    rw [if_pos rfl]
    have := c3.turn (g := f) (k := f + 1) (by omega) (by omega) (by omega) (by rw [d3]; show (D2.text (f + 1)).length ≤ _; rw [t2]; exact Nat.le_refl _)
    simpa using this
  refine ⟨(D2.settle (f + 1)).swap f (f + 1), ?_, ⟨c3.down, c3.lost, c3.calls⟩, ?_, ?_, ?_, fun g hg hg2 => ⟨?_, ?_⟩⟩
  · unfold lrew rewE
    rw [hall, if_pos rfl, e1, e2, ← hD2, e3, e4]
    simp
  · show upd (upd D2.text f (D2.text (f + 1))) (f + 1) [] f = _
    rw [upd_other _ _ (by omega), upd_same, t2]
  · show upd (upd (D2.settle (f + 1)).dur f ((D2.settle (f + 1)).dur (f + 1))) (f + 1) 0 f = _
    rw [upd_other _ _ (by omega), upd_same, d3]
  · show upd (upd D2.text f (D2.text (f + 1))) (f + 1) [] (f + 1) = _
    rw [upd_same]
  · show upd (upd D2.text f (D2.text (f + 1))) (f + 1) [] g = _
    rw [upd_other _ _ hg2, upd_other _ _ hg]
    exact (o2 g hg2).1
  · show upd (upd (upd D2.dur (f + 1) (D2.text (f + 1)).length) f _) (f + 1) 0 g = _
    rw [upd_other _ _ hg2, upd_other _ _ hg, upd_other _ _ hg2]
    exact (o2 g hg2).2
end
end Wl
end Go.Proofs.Ytihanhdepijijaa
