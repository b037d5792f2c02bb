/-
  Layer 12 in plain Lean: what validity says of the fields.
-/
import Derived.Test.YtojbicpchjiplaaGreatDoorActMath
namespace Go.Proofs.YtojbicpchjiplaaGreatDoor
namespace Ax
open S11.Idt (Str isId isName ids)
open S2.Cd
theorem emp {α : Type} {l : List α} : l.isEmpty = true ↔ l = [] := List.isEmpty_iff
theorem bxZ_iff (b : Bx) : bxZ b = true ↔ b = bx0 := by
  obtain ⟨x, y, z⟩ := b
  simp only [bxZ, bx0, Bool.and_eq_true, emp, Bx.mk.injEq]
structure Zer (a : Ac) : Prop where
  object : a.object = []
  target : a.target = []
  scope : a.scope = 0
  group : a.group = []
  to : a.to = []
  text : a.text = []
  body : a.body = bx0
  epoch : a.epoch = 0
  wraps : a.wraps = []
  n : a.n = 0
  m : a.m = 0
theorem zer_iff (a : Ac) : zer a = true ↔ Zer a := by
  simp only [zer, Bool.and_eq_true, emp, bxZ_iff, decide_eq_true_eq]
  exact ⟨fun ⟨h1, h2, h3, h4, h5, h6, h7, h8, h9, h10, h11⟩ => ⟨h1, h2, h3, h4, h5, h6, h7, h8, h9, h10, h11⟩, fun h => ⟨h.object, h.target, h.scope, h.group, h.to, h.text, h.body, h.epoch, h.wraps, h.n, h.m⟩⟩
/-- The kinds, and what each asks of its fields. -/
inductive Fits (a : Ac) : Prop
  | begin_ (k : a.kind = 0) (h1 : isName a.text = true) (h2 : home a = true) (z : Zer { a with text := [], n := 0, m := 0 })
  | move (k : a.kind = 18) (h2 : home a = true) (z : Zer { a with n := 0, m := 0 })
  | post (k : a.kind = 1) (h : audOk a = true) (z : Zer (bare a))
  | reply (k : a.kind = 2 ∨ a.kind = 3 ∨ a.kind = 14) (h : audOk a = true) (h2 : a.object.length = 32) (z : Zer { bare a with object := [] })
  | like (k : a.kind = 4 ∨ a.kind = 5 ∨ a.kind = 6 ∨ a.kind = 13 ∨ a.kind = 20) (h2 : a.object.length = 32) (z : Zer { a with object := [] })
  | follow (k : 7 ≤ a.kind ∧ a.kind ≤ 11) (h2 : isId a.target = true) (z : Zer { a with target := [] })
  | report (k : a.kind = 12 ∨ a.kind = 21) (h2 : a.object.length = 32) (h3 : a.text.length ≤ 500) (z : Zer { a with object := [], text := [] })
  | circle (k : a.kind = 15) (h : ids a.to = true) (h2 : isName a.group = true) (z : Zer { a with group := [], to := [] })
  | grant (k : a.kind = 16) (h : ids a.to = true) (h1 : 1 ≤ a.scope) (h2 : a.scope ≤ 3) (h3 : grOk a = true) (h4 : epOk a.epoch = true) (h5 : wrapped a = true) (z : Zer { a with scope := 0, group := [], to := [], epoch := 0, wraps := [] })
  | label (k : a.kind = 17) (h : labOk a = true) (z : Zer { a with text := [], object := [], target := [] })
  | setup (k : a.kind = 19) (h : ids a.to = true) (h1 : a.to ≠ []) (h2 : wrapped a = true) (h3 : 1 ≤ a.n) (h4 : a.n ≤ a.to.length) (h5 : pub a.m = true) (z : Zer { a with to := [], wraps := [], n := 0, m := 0 })
  | judge (k : a.kind = 22) (h2 : a.object.length = 32) (h3 : 0 ≤ a.n) (h4 : a.n ≤ 1) (z : Zer { a with object := [], n := 0 })
  | list (k : a.kind = 23) (h2 : isId a.target = true) (h3 : a.text.length ≤ 500) (h4 : 0 ≤ a.n) (h5 : a.n ≤ 1099511627776) (z : Zer { a with target := [], text := [], n := 0 })
theorem fits_of {a : Ac} (h : fits a = true) : Fits a := by
  unfold fits at h
  by_cases k : a.kind = 0
  · rw [if_pos k] at h
    simp only [Bool.and_eq_true, zer_iff] at h
    exact .begin_ k h.1.1 h.1.2 h.2
  rw [if_neg k] at h
  by_cases k : a.kind = 18
  · rw [if_pos k] at h
    simp only [Bool.and_eq_true, zer_iff] at h
    exact .move k h.1 h.2
  rw [if_neg k] at h
  by_cases k : a.kind = 1
  · rw [if_pos k] at h
    simp only [Bool.and_eq_true, zer_iff] at h
    exact .post k h.1 h.2
  rw [if_neg k] at h
  by_cases k : a.kind = 2 ∨ a.kind = 3 ∨ a.kind = 14
  · rw [if_pos k] at h
    simp only [Bool.and_eq_true, zer_iff, dig32, decide_eq_true_eq] at h
    exact .reply k h.1.1 h.1.2 h.2
  rw [if_neg k] at h
  by_cases k : a.kind = 4 ∨ a.kind = 5 ∨ a.kind = 6 ∨ a.kind = 13 ∨ a.kind = 20
  · rw [if_pos k] at h
    simp only [Bool.and_eq_true, zer_iff, dig32, decide_eq_true_eq] at h
    exact .like k h.1 h.2
  rw [if_neg k] at h
  by_cases k : 7 ≤ a.kind ∧ a.kind ≤ 11
  · rw [if_pos k] at h
    simp only [Bool.and_eq_true, zer_iff] at h
    exact .follow k h.1 h.2
  rw [if_neg k] at h
  by_cases k : a.kind = 12 ∨ a.kind = 21
  · rw [if_pos k] at h
    simp only [Bool.and_eq_true, zer_iff, dig32, decide_eq_true_eq] at h
    exact .report k h.1.1 h.1.2 h.2
  rw [if_neg k] at h
  by_cases k : a.kind = 15
  · rw [if_pos k] at h
    simp only [Bool.and_eq_true, zer_iff] at h
    exact .circle k h.1.1 h.1.2 h.2
  rw [if_neg k] at h
  by_cases k : a.kind = 16
  · rw [if_pos k] at h
    simp only [Bool.and_eq_true, zer_iff, decide_eq_true_eq] at h
    exact .grant k h.1.1 h.1.2.1.1 h.1.2.1.2 h.1.2.2.1 h.1.2.2.2.1 h.1.2.2.2.2 h.2
  rw [if_neg k] at h
  by_cases k : a.kind = 17
  · rw [if_pos k] at h
    simp only [Bool.and_eq_true, zer_iff] at h
    exact .label k h.1 h.2
  rw [if_neg k] at h
  by_cases k : a.kind = 19
  · rw [if_pos k] at h
    simp only [Bool.and_eq_true, zer_iff, decide_eq_true_eq, Bool.not_eq_true', List.isEmpty_eq_false_iff] at h
    exact .setup k h.1.1 h.1.2.1 h.1.2.2.1 h.1.2.2.2.1.1 h.1.2.2.2.1.2 h.1.2.2.2.2 h.2
  rw [if_neg k] at h
  by_cases k : a.kind = 22
  · rw [if_pos k] at h
    simp only [Bool.and_eq_true, zer_iff, dig32, decide_eq_true_eq] at h
    exact .judge k h.1.1 h.1.2.1 h.1.2.2 h.2
  rw [if_neg k] at h
  by_cases k : a.kind = 23
  · rw [if_pos k] at h
    simp only [Bool.and_eq_true, zer_iff, decide_eq_true_eq] at h
    exact .list k h.1.1 h.1.2.1 h.1.2.2.1 h.1.2.2.2 h.2
  rw [if_neg k] at h
  cases h
theorem of_fits {a : Ac} (h : Fits a) : fits a = true := by
  unfold fits
  cases h with
  | begin_ k h1 h2 z => rw [if_pos k, h1, h2, (zer_iff _).2 z]; rfl
  | move k h2 z => rw [if_neg (by omega), if_pos k, h2, (zer_iff _).2 z]; rfl
  | post k h z => rw [if_neg (by omega), if_neg (by omega), if_pos k, h, (zer_iff _).2 z]; rfl
  | reply k h h2 z => rw [if_neg (by omega), if_neg (by omega), if_neg (by omega), if_pos k, h, (zer_iff _).2 z]; simp [dig32, h2]
  | like k h2 z => rw [if_neg (by omega), if_neg (by omega), if_neg (by omega), if_neg (by omega), if_pos k, (zer_iff _).2 z]; simp [dig32, h2]
  | follow k h2 z => rw [if_neg (by omega), if_neg (by omega), if_neg (by omega), if_neg (by omega), if_neg (by omega), if_pos k, (zer_iff _).2 z, h2]; rfl
  | report k h2 h3 z => rw [if_neg (by omega), if_neg (by omega), if_neg (by omega), if_neg (by omega), if_neg (by omega), if_neg (by omega), if_pos k, (zer_iff _).2 z]; simp [dig32, h2, h3]
  | circle k h h2 z => rw [if_neg (by omega), if_neg (by omega), if_neg (by omega), if_neg (by omega), if_neg (by omega), if_neg (by omega), if_neg (by omega), if_pos k, (zer_iff _).2 z, h, h2]; rfl
  | grant k h h1 h2 h3 h4 h5 z => rw [if_neg (by omega), if_neg (by omega), if_neg (by omega), if_neg (by omega), if_neg (by omega), if_neg (by omega), if_neg (by omega), if_neg (by omega), if_pos k, (zer_iff _).2 z, h, h3, h4, h5, decide_eq_true h1, decide_eq_true h2]; rfl
  | label k h z => rw [if_neg (by omega), if_neg (by omega), if_neg (by omega), if_neg (by omega), if_neg (by omega), if_neg (by omega), if_neg (by omega), if_neg (by omega), if_neg (by omega), if_pos k, (zer_iff _).2 z, h]; rfl
  | setup k h h1 h2 h3 h4 h5 z => rw [if_neg (by omega), if_neg (by omega), if_neg (by omega), if_neg (by omega), if_neg (by omega), if_neg (by omega), if_neg (by omega), if_neg (by omega), if_neg (by omega), if_neg (by omega), if_pos k, (zer_iff _).2 z, h, h2, h5, decide_eq_true h3, decide_eq_true h4]; simpa using h1
  | judge k h2 h3 h4 z => rw [if_neg (by omega), if_neg (by omega), if_neg (by omega), if_neg (by omega), if_neg (by omega), if_neg (by omega), if_neg (by omega), if_neg (by omega), if_neg (by omega), if_neg (by omega), if_neg (by omega), if_pos k, (zer_iff _).2 z]; simp [dig32, h2, h3, h4]
  | list k h2 h3 h4 h5 z => rw [if_neg (by omega), if_neg (by omega), if_neg (by omega), if_neg (by omega), if_neg (by omega), if_neg (by omega), if_neg (by omega), if_neg (by omega), if_neg (by omega), if_neg (by omega), if_neg (by omega), if_neg (by omega), if_pos k, (zer_iff _).2 z, h2]; simp [h3, h4, h5]
/-! ### Bounds of a valid activity's fields -/
structure Aud (a : Ac) : Prop where
  ids : ids a.to = true
  gr : grOk a = true
  scope0 : 0 ≤ a.scope
  scope3 : a.scope ≤ 3
  epoch : epOk a.epoch = true
  text : a.text.length ≤ 500
  body : bxOk a.body = true ∨ a.body = bx0
theorem aud_of {a : Ac} (h : audOk a = true) : Aud a := by
  simp only [audOk, Bool.and_eq_true] at h
  obtain ⟨h1, h2, h3⟩ := h
  split at h3
  · simp only [Bool.and_eq_true, decide_eq_true_eq, bxZ_iff] at h3
    exact ⟨h1, h2, by omega, by omega, by rw [h3.1]; rfl, h3.2.1, .inr h3.2.2⟩
  split at h3
  · simp only [Bool.and_eq_true, emp] at h3
    exact ⟨h1, h2, by omega, by omega, h3.1, by rw [h3.2.1]; simp, .inl h3.2.2⟩
  split at h3
  · simp only [Bool.and_eq_true, emp] at h3
    exact ⟨h1, h2, by omega, by omega, h3.1, by rw [h3.2.1]; simp, .inl h3.2.2.1⟩
  · cases h3
structure Lim (a : Ac) : Prop where
  author : a.author.length = 16
  seq : 0 ≤ a.seq ∧ a.seq ≤ 1073741824
  prev : a.prev.length ≤ 32
  kind : 0 ≤ a.kind ∧ a.kind ≤ 23
  time : 0 ≤ a.time ∧ a.time ≤ 1099511627776
  object : a.object.length ≤ 32
  target : a.target.length ≤ 16
  scope : 0 ≤ a.scope ∧ a.scope ≤ 3
  group : a.group.length ≤ 24
  to : ids a.to = true
  text : a.text.length ≤ 500
  body : bxOk a.body = true ∨ a.body = bx0
  epoch : epOk a.epoch = true
  wraps : a.wraps.all wrOk = true ∧ a.wraps.length ≤ 64
  n : 0 ≤ a.n ∧ a.n < 2305843009213693951
  m : 0 ≤ a.m ∧ a.m < 2305843009213693951
theorem gr_len {a : Ac} (h : grOk a = true) : a.group.length ≤ 24 := by
  unfold grOk at h
  split at h
  · exact (S11.Idt.name_pos h).2
  · rw [emp.1 h]; simp
theorem id_len {s : Str} (h : isId s = true) : s.length = 16 := by
  simp only [isId, Bool.and_eq_true, decide_eq_true_eq] at h
  exact h.2
theorem ids_len {l : List Str} (h : ids l = true) : l.length ≤ 64 := (S11.Idt.ids_iff.1 h).len
theorem ids_nil : ids [] = true := by decide
theorem home_of {a : Ac} (h : home a = true) : (1 ≤ a.n ∧ a.n < 2305843009213693951) ∧ 0 ≤ a.m ∧ a.m < 20 := by
  simpa only [home, pub, Bool.and_eq_true, decide_eq_true_eq] using h
theorem pub_of {n : Int} (h : pub n = true) : 1 ≤ n ∧ n < 2305843009213693951 := by
  simpa only [pub, Bool.and_eq_true, decide_eq_true_eq] using h
structure Head (a : Ac) : Prop where
  author : isId a.author = true
  seq : 0 ≤ a.seq ∧ a.seq ≤ 1073741824
  time : 0 ≤ a.time ∧ a.time ≤ 1099511627776
  begin_ : a.seq = 0 ↔ a.kind = 0
  prev0 : a.seq = 0 ↔ a.prev = []
  prev : a.seq ≠ 0 → a.prev.length = 32
  fits : Fits a
theorem head_of {a : Ac} (h : good a = true) : Head a := by
  simp only [good, headOk, Bool.and_eq_true, decide_eq_true_eq] at h
  obtain ⟨⟨h1, h2, h3⟩, h4, h5⟩ := h
  unfold seqOk at h4
  split at h4
  · rename_i h0
    simp only [Bool.and_eq_true, emp, decide_eq_true_eq] at h4
    exact ⟨h1, h2, h3, by simp [h0, h4.2], by simp [h0, h4.1], fun h => absurd h0 h, fits_of h5⟩
  · rename_i h0
    simp only [Bool.and_eq_true, dig32, decide_eq_true_eq, Bool.not_eq_true', decide_eq_false_iff_not] at h4
    refine ⟨h1, h2, h3, by simp [h0, h4.2], ⟨fun h => absurd h h0, fun h => ?_⟩, fun _ => h4.1, fits_of h5⟩
    rw [h] at h4
    simp at h4
theorem lim_of {a : Ac} (h : good a = true) : Lim a := by
  have H := head_of h
  have hp : a.prev.length ≤ 32 := by
    by_cases h0 : a.seq = 0
    · rw [H.prev0.1 h0]; simp
    · have := H.prev h0; omega
  have ha := id_len H.author
  cases H.fits with
  | begin_ k h1 h2 z =>
    obtain ⟨z1, z2, z3, z4, z5, z6, z7, z8, z9, z10, z11⟩ := z
    simp only at z1 z2 z3 z4 z5 z7 z8 z9
    have := (S11.Idt.name_pos h1).2
    have hh := home_of h2
    exact ⟨ha, H.seq, hp, by omega, H.time, by rw [z1]; simp, by rw [z2]; simp, by omega, by rw [z4]; simp, by rw [z5]; exact ids_nil, by omega, .inr z7, by rw [z8]; rfl, by rw [z9]; simp, by omega, by omega⟩
  | move k h2 z =>
    obtain ⟨z1, z2, z3, z4, z5, z6, z7, z8, z9, z10, z11⟩ := z
    simp only at z1 z2 z3 z4 z5 z6 z7 z8 z9
    have hh := home_of h2
    exact ⟨ha, H.seq, hp, by omega, H.time, by rw [z1]; simp, by rw [z2]; simp, by omega, by rw [z4]; simp, by rw [z5]; exact ids_nil, by rw [z6]; simp, .inr z7, by rw [z8]; rfl, by rw [z9]; simp, by omega, by omega⟩
  | post k h z =>
    obtain ⟨z1, z2, z3, z4, z5, z6, z7, z8, z9, z10, z11⟩ := z
    simp only [bare] at z1 z2 z9 z10 z11
    have A := aud_of h
    exact ⟨ha, H.seq, hp, by omega, H.time, by rw [z1]; simp, by rw [z2]; simp, ⟨A.scope0, A.scope3⟩, gr_len A.gr, A.ids, A.text, A.body, A.epoch, by rw [z9]; simp, by omega, by omega⟩
  | reply k h h2 z =>
    obtain ⟨z1, z2, z3, z4, z5, z6, z7, z8, z9, z10, z11⟩ := z
    simp only [bare] at z2 z9 z10 z11
    have A := aud_of h
    exact ⟨ha, H.seq, hp, by omega, H.time, by omega, by rw [z2]; simp, ⟨A.scope0, A.scope3⟩, gr_len A.gr, A.ids, A.text, A.body, A.epoch, by rw [z9]; simp, by omega, by omega⟩
  | like k h2 z =>
    obtain ⟨z1, z2, z3, z4, z5, z6, z7, z8, z9, z10, z11⟩ := z
    simp only at z2 z3 z4 z5 z6 z7 z8 z9 z10 z11
    exact ⟨ha, H.seq, hp, by omega, H.time, by omega, by rw [z2]; simp, by omega, by rw [z4]; simp, by rw [z5]; exact ids_nil, by rw [z6]; simp, .inr z7, by rw [z8]; rfl, by rw [z9]; simp, by omega, by omega⟩
  | follow k h2 z =>
    obtain ⟨z1, z2, z3, z4, z5, z6, z7, z8, z9, z10, z11⟩ := z
    simp only at z1 z3 z4 z5 z6 z7 z8 z9 z10 z11
    have := id_len h2
    exact ⟨ha, H.seq, hp, by omega, H.time, by rw [z1]; simp, by omega, by omega, by rw [z4]; simp, by rw [z5]; exact ids_nil, by rw [z6]; simp, .inr z7, by rw [z8]; rfl, by rw [z9]; simp, by omega, by omega⟩
  | report k h2 h3 z =>
    obtain ⟨z1, z2, z3, z4, z5, z6, z7, z8, z9, z10, z11⟩ := z
    simp only at z2 z3 z4 z5 z7 z8 z9 z10 z11
    exact ⟨ha, H.seq, hp, by omega, H.time, by omega, by rw [z2]; simp, by omega, by rw [z4]; simp, by rw [z5]; exact ids_nil, h3, .inr z7, by rw [z8]; rfl, by rw [z9]; simp, by omega, by omega⟩
  | circle k h h2 z =>
    obtain ⟨z1, z2, z3, z4, z5, z6, z7, z8, z9, z10, z11⟩ := z
    simp only at z1 z2 z3 z6 z7 z8 z9 z10 z11
    exact ⟨ha, H.seq, hp, by omega, H.time, by rw [z1]; simp, by rw [z2]; simp, by omega, (S11.Idt.name_pos h2).2, h, by rw [z6]; simp, .inr z7, by rw [z8]; rfl, by rw [z9]; simp, by omega, by omega⟩
  | grant k h h1 h2 h3 h4 h5 z =>
    obtain ⟨z1, z2, z3, z4, z5, z6, z7, z8, z9, z10, z11⟩ := z
    simp only at z1 z2 z6 z7 z10 z11
    simp only [wrapped, Bool.and_eq_true, decide_eq_true_eq] at h5
    have := ids_len h
    exact ⟨ha, H.seq, hp, by omega, H.time, by rw [z1]; simp, by rw [z2]; simp, by omega, gr_len h3, h, by rw [z6]; simp, .inr z7, h4, ⟨h5.1, by omega⟩, by omega, by omega⟩
  | label k h z =>
    obtain ⟨z1, z2, z3, z4, z5, z6, z7, z8, z9, z10, z11⟩ := z
    simp only at z3 z4 z5 z7 z8 z9 z10 z11
    simp only [labOk, Bool.and_eq_true] at h
    have h1 := (S11.Idt.name_pos h.1).2
    have ho : a.object.length ≤ 32 ∧ a.target.length ≤ 16 := by
      have h2 := h.2
      split at h2
      · rename_i h3
        rw [emp.1 h3]
        have := id_len h2
        exact ⟨by simp, by omega⟩
      · simp only [dig32, Bool.and_eq_true, decide_eq_true_eq, emp] at h2
        rw [h2.2]
        exact ⟨by omega, by simp⟩
    exact ⟨ha, H.seq, hp, by omega, H.time, ho.1, ho.2, by omega, by rw [z4]; simp, by rw [z5]; exact ids_nil, by omega, .inr z7, by rw [z8]; rfl, by rw [z9]; simp, by omega, by omega⟩
  | setup k h h1 h2 h3 h4 h5 z =>
    obtain ⟨z1, z2, z3, z4, z5, z6, z7, z8, z9, z10, z11⟩ := z
    simp only at z1 z2 z3 z4 z6 z7 z8
    simp only [wrapped, Bool.and_eq_true, decide_eq_true_eq] at h2
    have := ids_len h
    have := pub_of h5
    exact ⟨ha, H.seq, hp, by omega, H.time, by rw [z1]; simp, by rw [z2]; simp, by omega, by rw [z4]; simp, h, by rw [z6]; simp, .inr z7, by rw [z8]; rfl, ⟨h2.1, by omega⟩, by omega, by omega⟩
  | judge k h2 h3 h4 z =>
    obtain ⟨z1, z2, z3, z4, z5, z6, z7, z8, z9, z10, z11⟩ := z
    simp only at z2 z3 z4 z5 z6 z7 z8 z9 z11
    exact ⟨ha, H.seq, hp, by omega, H.time, by omega, by rw [z2]; simp, by omega, by rw [z4]; simp, by rw [z5]; exact ids_nil, by rw [z6]; simp, .inr z7, by rw [z8]; rfl, by rw [z9]; simp, by omega, by omega⟩
  | list k h2 h3 h4 h5 z =>
    obtain ⟨z1, z2, z3, z4, z5, z6, z7, z8, z9, z10, z11⟩ := z
    simp only at z1 z3 z4 z5 z7 z8 z9 z11
    have := id_len h2
    exact ⟨ha, H.seq, hp, by omega, H.time, by rw [z1]; simp, by omega, by omega, by rw [z4]; simp, by rw [z5]; exact ids_nil, h3, .inr z7, by rw [z8]; rfl, by rw [z9]; simp, by omega, by omega⟩
end Ax
end Go.Proofs.YtojbicpchjiplaaGreatDoor
