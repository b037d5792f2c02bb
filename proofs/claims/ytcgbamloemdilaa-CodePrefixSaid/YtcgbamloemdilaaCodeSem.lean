/-
  Layer 2 in plain Lean: values of the five kinds, written and read. No program.
-/
import Derived.Test.YtcgbamloemdilaaCodeDec
namespace Go.Proofs.Ytcgbamloemdilaa
namespace Cd

/-- A value of whatever kind: the part that its kind does not use is empty. -/
abbrev Sm := Int × List UInt8 × List (List UInt8) × List Int
def encV : Nat → Sm → List UInt8
  | 0, x => encN x.1.toNat
  | 1, x => encI x.1
  | 2, x => encT x.2.1
  | 3, x => encL encT x.2.2.1
  | _, x => encL encI x.2.2.2
def decV : Nat → List UInt8 → Option (Sm × List UInt8)
  | 0, l => (decN l).map fun p => (((p.1 : Int), [], [], []), p.2)
  | 1, l => (decI l).map fun p => ((p.1, [], [], []), p.2)
  | 2, l => (decT l).map fun p => ((0, p.1, [], []), p.2)
  | 3, l => (decL decT l).map fun p => ((0, [], p.1, []), p.2)
  | _, l => (decL decI l).map fun p => ((0, [], [], p.1), p.2)
def okV : Nat → Sm → Prop
  | 0, x => 0 ≤ x.1 ∧ okN x.1.toNat ∧ x.2 = ([], [], [])
  | 1, x => okI x.1 ∧ x.2 = ([], [], [])
  | 2, x => okT x.2.1 ∧ x.1 = 0 ∧ x.2.2 = ([], [])
  | 3, x => okL okT x.2.2.1 ∧ x.1 = 0 ∧ x.2.1 = [] ∧ x.2.2.2 = []
  | _, x => okL okI x.2.2.2 ∧ x.1 = 0 ∧ x.2.1 = [] ∧ x.2.2.1 = []

theorem codec_map {α β : Type} {enc : α → List UInt8} {dec : List UInt8 → Option (α × List UInt8)} {ok : α → Prop} (h : Codec enc dec ok) (f : α → β) (g : β → α) (okb : β → Prop)
    (h1 : ∀ b, okb b → ok (g b) ∧ f (g b) = b) (h2 : ∀ a, ok a → okb (f a) ∧ g (f a) = a) : Codec (fun b => enc (g b)) (fun l => (dec l).map fun p => (f p.1, p.2)) okb where
  back := fun b r hb => by
    obtain ⟨ho, he⟩ := h1 b hb
    rw [h.back _ r ho]
    simp [he]
  again := fun l b r hd => by
    rcases hl : dec l with _ | ⟨a, r'⟩
    · rw [hl] at hd; cases hd
    · rw [hl] at hd
      simp only [Option.map_some, Option.some.injEq, Prod.mk.injEq] at hd
      obtain ⟨rfl, rfl⟩ := hd
      obtain ⟨e, ha⟩ := h.again _ _ _ hl
      obtain ⟨ho, hg⟩ := h2 a ha
      rw [hg]
      exact ⟨e, ho⟩
theorem codecV (k : Nat) : Codec (encV k) (decV k) (okV k) := by
  match k with
  | 0 => exact codec_map codecN (fun n => ((n : Int), [], [], [])) (fun x => x.1.toNat) (okV 0) (fun b hb => ⟨hb.2.1, by
      obtain ⟨n, t⟩ := b
      obtain ⟨h1, h2, h3⟩ := hb
      simp only at h1 h3
      subst h3
      rw [Int.toNat_of_nonneg h1]⟩) (fun a ha => ⟨⟨by simp, by simpa using ha, rfl⟩, by simp⟩)
  | 1 => exact codec_map codecI (fun n => (n, [], [], [])) (fun x => x.1) (okV 1) (fun b hb => ⟨hb.1, by
      obtain ⟨n, t⟩ := b
      obtain ⟨h1, h3⟩ := hb
      simp only at h3
      subst h3
      rfl⟩) (fun a ha => ⟨⟨ha, rfl⟩, rfl⟩)
  | 2 => exact codec_map codecT (fun n => (0, n, [], [])) (fun x => x.2.1) (okV 2) (fun b hb => ⟨hb.1, by
      obtain ⟨n, s, t⟩ := b
      obtain ⟨h1, h2, h3⟩ := hb
      simp only at h2 h3
      subst h2
      subst h3
      rfl⟩) (fun a ha => ⟨⟨ha, rfl, rfl⟩, rfl⟩)
  | 3 => exact codec_map codecTs (fun n => (0, [], n, [])) (fun x => x.2.2.1) (okV 3) (fun b hb => ⟨hb.1, by
      obtain ⟨n, s, t, u⟩ := b
      obtain ⟨h1, h2, h3, h4⟩ := hb
      simp only at h2 h3 h4
      subst h2
      subst h3
      subst h4
      rfl⟩) (fun a ha => ⟨⟨ha, rfl, rfl, rfl⟩, rfl⟩)
  | k + 4 =>
    exact codec_map codecIs (fun n => (0, [], [], n)) (fun x => x.2.2.2) (okV (k + 4)) (fun b hb => ⟨hb.1, by
      obtain ⟨n, s, t, u⟩ := b
      obtain ⟨h1, h2, h3, h4⟩ := hb
      simp only at h2 h3 h4
      subst h2
      subst h3
      subst h4
      rfl⟩) (fun a ha => ⟨⟨ha, rfl, rfl, rfl⟩, rfl⟩)
/-- The values of a list, each with its kind, one behind the other. -/
def encVs : List (Nat × Sm) → List UInt8
  | [] => []
  | x :: r => encV x.1 x.2 ++ encVs r
theorem encVs_snoc (l : List (Nat × Sm)) (x : Nat × Sm) : encVs (l ++ [x]) = encVs l ++ encV x.1 x.2 := by
  induction l with
  | nil => simp [encVs]
  | cons b r ih => rw [List.cons_append, encVs, encVs, ih, List.append_assoc]
theorem encVs_drop (l : List (Nat × Sm)) (k : Nat) (h : k < l.length) : encVs (l.drop k) = encV l[k].1 l[k].2 ++ encVs (l.drop (k + 1)) := by
  rw [List.drop_eq_getElem_cons h]
  rfl
theorem encVs_take (l : List (Nat × Sm)) (k : Nat) (h : k < l.length) : encVs (l.take (k + 1)) = encVs (l.take k) ++ encV l[k].1 l[k].2 := by
  rw [List.take_succ_eq_append_getElem h, encVs_snoc]
end Cd
end Go.Proofs.Ytcgbamloemdilaa
