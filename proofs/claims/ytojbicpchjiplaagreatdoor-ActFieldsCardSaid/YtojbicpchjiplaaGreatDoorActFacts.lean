/-
  Layer 12 in plain Lean: what the laws of fields and of audiences say.
-/
import Derived.Test.YtojbicpchjiplaaGreatDoorActEnc
namespace Go.Proofs.YtojbicpchjiplaaGreatDoor
namespace Ax
open S11.Idt (Str isId isName ids)
open S2.Cd
/-! ### Fields of other kinds -/
theorem fit_object {a : Ac} (h : Fits a) : a.object = [] ∨ a.object.length = 32 := by
  cases h with
  | begin_ k h1 h2 z => exact .inl z.object
  | move k h2 z => exact .inl z.object
  | post k h z => exact .inl z.object
  | reply k h h2 z => exact .inr h2
  | like k h2 z => exact .inr h2
  | follow k h2 z => exact .inl z.object
  | report k h2 h3 z => exact .inr h2
  | circle k h h2 z => exact .inl z.object
  | grant k h h1 h2 h3 h4 h5 z => exact .inl z.object
  | label k h z =>
    simp only [labOk, Bool.and_eq_true] at h
    have h2 := h.2
    split at h2
    · rename_i h3; exact .inl (emp.1 h3)
    · simp only [dig32, Bool.and_eq_true, decide_eq_true_eq] at h2; exact .inr h2.1
  | setup k h h1 h2 h3 h4 h5 z => exact .inl z.object
  | judge k h2 h3 h4 z => exact .inr h2
  | list k h2 h3 h4 h5 z => exact .inl z.object
theorem fit_target {a : Ac} (h : Fits a) : a.target = [] ∨ a.target.length = 16 := by
  cases h with
  | begin_ k h1 h2 z => exact .inl z.target
  | move k h2 z => exact .inl z.target
  | post k h z => exact .inl z.target
  | reply k h h2 z => exact .inl z.target
  | like k h2 z => exact .inl z.target
  | follow k h2 z => exact .inr (id_len h2)
  | report k h2 h3 z => exact .inl z.target
  | circle k h h2 z => exact .inl z.target
  | grant k h h1 h2 h3 h4 h5 z => exact .inl z.target
  | label k h z =>
    simp only [labOk, Bool.and_eq_true] at h
    have h2 := h.2
    split at h2
    · exact .inr (id_len h2)
    · simp only [dig32, Bool.and_eq_true, decide_eq_true_eq, emp] at h2; exact .inl h2.2
  | setup k h h1 h2 h3 h4 h5 z => exact .inl z.target
  | judge k h2 h3 h4 z => exact .inl z.target
  | list k h2 h3 h4 h5 z => exact .inr (id_len h2)
theorem wrapped_of {a : Ac} (h : wrapped a = true) : a.wraps.all wrOk = true ∧ a.wraps.length = a.to.length := by
  simpa only [wrapped, Bool.and_eq_true, decide_eq_true_eq] using h
theorem fit_wraps {a : Ac} (h : Fits a) : (a.wraps.all wrOk = true ∧ ((a.kind = 16 ∨ a.kind = 19) → a.wraps.length = a.to.length)) ∧ (¬ (a.kind = 16 ∨ a.kind = 19) → a.wraps = []) := by
  have key : ∀ {b : Ac}, a.wraps = [] → ¬ (a.kind = 16 ∨ a.kind = 19) → (a.wraps.all wrOk = true ∧ ((a.kind = 16 ∨ a.kind = 19) → a.wraps.length = a.to.length)) ∧ (¬ (a.kind = 16 ∨ a.kind = 19) → a.wraps = []) := fun h1 h2 => ⟨⟨by rw [h1]; rfl, fun h => absurd h h2⟩, fun _ => h1⟩
  cases h with
  | begin_ k h1 h2 z => exact key (b := a) z.wraps (by omega)
  | move k h2 z => exact key (b := a) z.wraps (by omega)
  | post k h z => exact key (b := a) z.wraps (by omega)
  | reply k h h2 z => exact key (b := a) z.wraps (by omega)
  | like k h2 z => exact key (b := a) z.wraps (by omega)
  | follow k h2 z => exact key (b := a) z.wraps (by omega)
  | report k h2 h3 z => exact key (b := a) z.wraps (by omega)
  | circle k h h2 z => exact key (b := a) z.wraps (by omega)
  | grant k h h1 h2 h3 h4 h5 z => exact ⟨⟨(wrapped_of h5).1, fun _ => (wrapped_of h5).2⟩, fun h => absurd (.inl k) h⟩
  | label k h z => exact key (b := a) z.wraps (by omega)
  | setup k h h1 h2 h3 h4 h5 z => exact ⟨⟨(wrapped_of h2).1, fun _ => (wrapped_of h2).2⟩, fun h => absurd (.inr k) h⟩
  | judge k h2 h3 h4 z => exact key (b := a) z.wraps (by omega)
  | list k h2 h3 h4 h5 z => exact key (b := a) z.wraps (by omega)
theorem aud_cases {a : Ac} (h : audOk a = true) : (a.scope = 0 ∧ a.epoch = 0 ∧ a.body = bx0) ∨ (a.scope ≠ 0 ∧ a.text = [] ∧ bxOk a.body = true) := by
  simp only [audOk, Bool.and_eq_true] at h
  obtain ⟨h1, h2, h3⟩ := h
  split at h3
  · simp only [Bool.and_eq_true, decide_eq_true_eq, bxZ_iff] at h3
    exact .inl ⟨‹_›, h3.1, h3.2.2⟩
  split at h3
  · simp only [Bool.and_eq_true, emp] at h3
    exact .inr ⟨‹_›, h3.2.1, h3.2.2⟩
  split at h3
  · simp only [Bool.and_eq_true, emp] at h3
    exact .inr ⟨‹_›, h3.2.1, h3.2.2.1⟩
  · cases h3
theorem fit_epoch {a : Ac} (h : Fits a) (hk : a.kind ≠ 16) (hs : a.scope = 0) : a.epoch = 0 := by
  cases h with
  | post k h z =>
    rcases aud_cases h with h1 | h1
    · exact h1.2.1
    · exact absurd hs h1.1
  | reply k h h2 z =>
    rcases aud_cases h with h1 | h1
    · exact h1.2.1
    · exact absurd hs h1.1
  | grant k => exact absurd k hk
  | begin_ k h1 h2 z => exact z.epoch
  | move k h2 z => exact z.epoch
  | like k h2 z => exact z.epoch
  | follow k h2 z => exact z.epoch
  | report k h2 h3 z => exact z.epoch
  | circle k h h2 z => exact z.epoch
  | label k h z => exact z.epoch
  | setup k h h1 h2 h3 h4 h5 z => exact z.epoch
  | judge k h2 h3 h4 z => exact z.epoch
  | list k h2 h3 h4 h5 z => exact z.epoch
theorem fit_m {a : Ac} (h : Fits a) (hk : a.kind ≠ 0 ∧ a.kind ≠ 18 ∧ a.kind ≠ 19) : a.m = 0 := by
  cases h with
  | begin_ k => exact absurd k hk.1
  | move k => exact absurd k hk.2.1
  | setup k => exact absurd k hk.2.2
  | post k h z => exact z.m
  | reply k h h2 z => exact z.m
  | like k h2 z => exact z.m
  | follow k h2 z => exact z.m
  | report k h2 h3 z => exact z.m
  | circle k h h2 z => exact z.m
  | grant k h h1 h2 h3 h4 h5 z => exact z.m
  | label k h z => exact z.m
  | judge k h2 h3 h4 z => exact z.m
  | list k h2 h3 h4 h5 z => exact z.m
theorem no_good {b : Ac} (h : ¬ Fits b) : good b = false := by
  cases hb : good b with
  | false => rfl
  | true => exact absurd (head_of hb).fits h
theorem more_epoch {a : Ac} (h : good a = true) (hk : a.kind ≠ 16) (hs : a.scope = 0) : good { a with epoch := a.epoch + 1 } = false := no_good fun hb => by
  have h1 := fit_epoch (head_of h).fits hk hs
  have h2 := fit_epoch hb hk hs
  simp only at h2
  omega
theorem less_m {a : Ac} (h : good a = true) (hk : a.kind ≠ 0 ∧ a.kind ≠ 18 ∧ a.kind ≠ 19) : good { a with m := a.m - 1 } = false := no_good fun hb => by
  have h1 := fit_m (head_of h).fits hk
  have h2 := fit_m hb hk
  simp only at h2
  omega
theorem more_object {a : Ac} (h : good a = true) (x : UInt8) : good { a with object := a.object ++ [x] } = false := no_good fun hb => by
  rcases fit_object hb with h2 | h2
  · simp at h2
  · rcases fit_object (head_of h).fits with h1 | h1
    · simp [h1] at h2
    · simp [h1] at h2
theorem more_target {a : Ac} (h : good a = true) (x : UInt8) : good { a with target := a.target ++ [x] } = false := no_good fun hb => by
  rcases fit_target hb with h2 | h2
  · simp at h2
  · rcases fit_target (head_of h).fits with h1 | h1
    · simp [h1] at h2
    · simp [h1] at h2
theorem more_wraps {a : Ac} : good { a with wraps := ⟨1, 1, bx0⟩ :: a.wraps } = false := no_good fun hb => by
  have h2 := (fit_wraps hb).1.1
  have : wrOk ⟨1, 1, bx0⟩ = false := by decide
  simp only [List.all_cons, this, Bool.false_and] at h2
  cases h2
theorem fit_follow {a : Ac} (h : Fits a) (hk : 7 ≤ a.kind ∧ a.kind ≤ 11) : isId a.target = true ∧ a.object = [] ∧ a.text = [] ∧ a.to = [] := by
  cases h with
  | follow k h2 z => exact ⟨h2, z.object, z.text, z.to⟩
  | begin_ k => omega
  | move k => omega
  | post k => omega
  | reply k => omega
  | like k => omega
  | report k => omega
  | circle k => omega
  | grant k => omega
  | label k => omega
  | setup k => omega
  | judge k => omega
  | list k => omega
/-! ### Audiences -/
theorem posting_of {k : Int} (h : posting k = true) : 1 ≤ k ∧ k ≤ 3 := by simpa only [posting, Bool.and_eq_true, decide_eq_true_eq] using h
theorem fit_aud {a : Ac} (h : Fits a) (hk : posting a.kind = true) : audOk a = true := by
  have hk := posting_of hk
  cases h with
  | post k h z => exact h
  | reply k h h2 z => exact h
  | begin_ k => omega
  | move k => omega
  | like k => omega
  | follow k => omega
  | report k => omega
  | circle k => omega
  | grant k => omega
  | label k => omega
  | setup k => omega
  | judge k => omega
  | list k => omega
theorem bx0_no : bxOk bx0 = false := by decide
theorem box_len {b : Bx} (h : bxOk b = true) : b.nonce.length = 32 := by
  simp only [bxOk, Bool.and_eq_true, decide_eq_true_eq] at h
  exact h.1
theorem fit_sealed {a : Ac} (h : Fits a) (hk : posting a.kind = true) (hs : a.scope ≠ 0) : a.text = [] ∧ a.body.nonce.length = 32 := by
  rcases aud_cases (fit_aud h hk) with h1 | h1
  · exact absurd h1.1 hs
  · exact ⟨h1.2.1, box_len h1.2.2⟩
/-- With another audience a posting is valid exactly if the audience is. -/
theorem good_aud {a b : Ac} (hp : posting a.kind = true) (ha : good a = true) (hs : bare b = bare a) : good b = audOk b := by
  have hh : headOk b = headOk a := show headOk (bare b) = headOk (bare a) by rw [hs]
  have hq : seqOk b = seqOk a := show seqOk (bare b) = seqOk (bare a) by rw [hs]
  have hk : b.kind = a.kind := show (bare b).kind = (bare a).kind by rw [hs]
  have ho : b.object = a.object := show (bare b).object = (bare a).object by rw [hs]
  have hg := ha
  simp only [good, Bool.and_eq_true] at hg
  have H := fits_of hg.2.2
  have hp := posting_of hp
  unfold good
  rw [hh, hq, hg.1, hg.2.1, Bool.true_and, Bool.true_and]
  have key : fits b = true ↔ audOk b = true := by
    constructor
    · intro h
      exact fit_aud (fits_of h) (by rw [hk]; simp only [posting, Bool.and_eq_true, decide_eq_true_eq]; omega)
    · intro h
      apply of_fits
      cases H with
      | post k h' z => exact .post (hk.trans k) h (by rw [hs]; exact z)
      | reply k h' h2 z => exact .reply (by rw [hk]; exact k) h (by rw [ho]; exact h2) (by rw [hs]; exact z)
      | begin_ k => omega
      | move k => omega
      | like k => omega
      | follow k => omega
      | report k => omega
      | circle k => omega
      | grant k => omega
      | label k => omega
      | setup k => omega
      | judge k => omega
      | list k => omega
  exact Bool.eq_iff_iff.2 key
theorem aud_public {a : Ac} (hp : posting a.kind = true) (ha : good a = true) (t : Str) :
    good { a with scope := 0, group := [], epoch := 0, text := t, body := bx0 } = decide (t.length ≤ 500) := by
  rw [good_aud (b := { a with scope := 0, group := [], epoch := 0, text := t, body := bx0 }) hp ha rfl]
  have hi := (lim_of ha).to
  simp only [audOk, grOk, hi, if_true, bxZ, bx0]
  simp
theorem aud_other {a : Ac} (hp : posting a.kind = true) (ha : good a = true) {sc : Int} {g : Str} (hc : good { a with scope := sc, group := g } = true) :
    (0 ≤ sc ∧ sc ≤ 3) ∧ (sc = 2 ↔ g ≠ []) ∧ (g ≠ [] → isName g = true) ∧ (sc = 0 ↔ a.scope = 0) := by
  have hl := (lim_of hc).scope
  have hA := fit_aud (head_of ha).fits hp
  have hC := fit_aud (head_of hc).fits hp
  have hg : grOk { a with scope := sc, group := g } = true := by
    simp only [audOk, Bool.and_eq_true] at hC
    exact hC.2.1
  have h2 : (sc = 2 ↔ g ≠ []) ∧ (g ≠ [] → isName g = true) := by
    simp only [grOk] at hg
    split at hg
    · rename_i h
      have := (S11.Idt.name_pos hg).1
      exact ⟨⟨fun _ => by intro e; rw [e] at this; simp at this, fun _ => h⟩, fun _ => hg⟩
    · rename_i h
      have := emp.1 hg
      exact ⟨⟨fun e => absurd e h, fun e => absurd this e⟩, fun e => absurd this e⟩
  refine ⟨hl, h2.1, h2.2, ?_⟩
  rcases aud_cases hA with h3 | h3
  · rcases aud_cases hC with h4 | h4
    · simp only at h4
      exact ⟨fun _ => h3.1, fun _ => h4.1⟩
    · simp only at h4
      rw [h3.2.2, bx0_no] at h4
      cases h4.2.2
  · rcases aud_cases hC with h4 | h4
    · simp only at h4
      rw [h4.2.2, bx0_no] at h3
      cases h3.2.2
    · simp only at h4
      exact ⟨fun e => absurd e h4.1, fun e => absurd e h3.1⟩
/-! ### Lengths -/
theorem numB_le (n : Int) : (numB n).length ≤ 9 := by
  unfold numB
  split
  · simp
  · exact encN_len _
theorem encT_le (s : Str) : (encT s).length ≤ s.length + 9 := by
  unfold encT
  rw [List.length_append]
  have := encN_len s.length
  omega
theorem bxB_le {b : Bx} (h : bxOk b = true ∨ b = bx0) : (bxB b).length ≤ 600 := by
  have h1 := bxOk_of h
  have h2 := encT_le b.nonce
  have h3 := encT_le b.data
  have h4 := encT_le b.tag
  simp only [bxB, List.length_append]
  omega
set_option maxHeartbeats 1000000 in
theorem core_le {a : Ac} (h : Lim a) : (coreB a).length ≤ 60000 := by
  have hi := S11.Idt.ids_iff.1 h.to
  have hL : (encL encT a.to).length ≤ 1609 := by
    have h1 := encM_le (enc := encT) 25 a.to (fun s hs => by have := encT_le s; have := id_len (hi.each s hs); omega)
    have h2 : a.to.length * 25 ≤ 1600 := by have := hi.len; omega
    have h3 := encN_len a.to.length
    unfold encL
    rw [List.length_append]
    omega
  have hW : (encL wrB a.wraps).length ≤ 39561 := by
    have h1 := encM_le (enc := wrB) 618 a.wraps (fun w hw => by
      have hw := List.all_eq_true.1 h.wraps.1 w hw
      simp only [wrOk, Bool.and_eq_true] at hw
      have h1 := numB_le w.to
      have h2 := numB_le w.eph
      have h3 := bxB_le (.inl hw.2.2)
      simp only [wrB, List.length_append]
      omega)
    have h2 : a.wraps.length * 618 ≤ 39552 := by have := h.wraps.2; omega
    have h3 := encN_len a.wraps.length
    unfold encL
    rw [List.length_append]
    omega
  have hB := bxB_le h.body
  have t1 := encT_le a.author
  have t2 := encT_le a.prev
  have t3 := encT_le a.object
  have t4 := encT_le a.target
  have t5 := encT_le a.group
  have t6 := encT_le a.text
  have n1 := numB_le a.seq
  have n2 := numB_le a.kind
  have n3 := numB_le a.time
  have n4 := numB_le a.scope
  have n5 := numB_le a.epoch
  have n6 := numB_le a.n
  have n7 := numB_le a.m
  have l1 := h.author
  have l2 := h.prev
  have l3 := h.object
  have l4 := h.target
  have l5 := h.group
  have l6 := h.text
  simp only [coreB, List.length_append, actT_len]
  omega
theorem bytes_le {a : Ac} {e s : Int} (h : valid a e s = true) : (bytesB a e s).length ≤ 61000 := by
  have h1 := core_le (lim_of (valid_good h))
  have h2 := numB_le e
  have h3 := numB_le s
  simp only [bytesB, List.length_append]
  omega
end Ax
end Go.Proofs.YtojbicpchjiplaaGreatDoor
