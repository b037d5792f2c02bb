/-
  Layer 2 in plain Lean: values of the five kinds, written and read. No program.
-/
import Derived.Test.YtojbicpchjiplaaGreatDoorCodeDec
namespace Go.Proofs.YtojbicpchjiplaaGreatDoor.S2
namespace Cd

theorem codec_map {α β : Type} {enc : α → List UInt8} {dec : List UInt8 → Option (α × List UInt8)} {ok : α → Prop} (h : Codec enc dec ok) (f : α → β) (g : β → α) (okb : β → Prop)
    (h1 : ∀ b, okb b → ok (g b) ∧ f (g b) = b) (h2 : ∀ a, ok a → okb (f a) ∧ g (f a) = a) : Codec (fun b => enc (g b)) (fun l => (dec l).map fun p => (f p.1, p.2)) okb where
  back := fun b r hb => by
    obtain ⟨ho, he⟩ := h1 b hb
    rw [h.back _ r ho]
    simp [he]
  again := fun l b r hd => by
    rcases hl : dec l with _ | ⟨a, r'⟩
    · rw [hl] at hd; cases hd
    · rw [hl] at hd
      simp only [Option.map_some, Option.some.injEq, Prod.mk.injEq] at hd
      obtain ⟨rfl, rfl⟩ := hd
      obtain ⟨e, ha⟩ := h.again _ _ _ hl
      obtain ⟨ho, hg⟩ := h2 a ha
      rw [hg]
      exact ⟨e, ho⟩
end Cd
end Go.Proofs.YtojbicpchjiplaaGreatDoor.S2
