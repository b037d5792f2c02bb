/-
  Layer 11: the landed package keeps what the laws ask of it.
-/
import Derived.Test.YtcbhjagcfbinoaaDoorIdentFunH
import Derived.Test.YtcbhjagcfbinoaaDoorIdentFunO
import Derived.Test.YtcbhjagcfbinoaaDoorIdentFunI
namespace Go.Proofs.YtcbhjagcfbinoaaDoor
open Go.RowKit
namespace Idt
/-- What the package reads of variables. -/
structure Laid (W : World) : Prop where
  num : S1.Laid W
  sum : S3.Laid W
  max : ∃ m, W.cell? ⟨2, 0, none⟩ = some (.int .i64 m)
theorem Laid.numAt {W w : World} (h : Laid W) (hb : Below W.heap.size W w) : S1.Laid w := h.num.below hb
theorem Laid.maxAt {W w : World} (h : Laid W) (hb : Below W.heap.size W w) : ∃ m, w.cell? ⟨2, 0, none⟩ = some (.int .i64 m) := by
  obtain ⟨m, hm⟩ := h.max
  exact ⟨m, (hb.cell (p := ⟨2, 0, none⟩) (World.block_lt_of_cell? W _ hm)).trans hm⟩
theorem pk {W : World} (h : Laid W) : Pk idOf W where
  of16 := idOf_id
  of := fun n hn w hb => of_any h.sum n w hb hn.2
  right := fun s hs => Ok.below fun w => right_any s w (by omega)
  name := fun s hs => Ok.below fun w => name_any s w (by omega)
  handle := fun s n hs hn w hb => (handle_any s n w (h.numAt hb) (by omega) hn).mono fun _ _ ⟨h1, h2⟩ => ⟨h1, hb.trans (h2.mono hb.size)⟩
  parse := fun s hs => by
    have key : ∀ w, Below W.heap.size W w → Calls Tryd.prog 10 #[.string (S2.B s)] w fun e w' => ParseAns s e ∧ Below W.heap.size W w' := fun w hb =>
      (parse_any s w (h.numAt hb) (h.maxAt hb) hs).mono fun _ _ ⟨h1, h2⟩ => ⟨h1, hb.trans (h2.mono hb.size)⟩
    have hq : (∃ b m, Hd s b m) ∨ ∀ b m, ¬ Hd s b m := by
      by_cases h : ∃ b m, Hd s b m
      · exact .inl h
      · exact .inr fun b m hd => h ⟨b, m, hd⟩
    have use : ∀ a n ok, IsParse s a n ok → Ok W 10 #[.string (S2.B s)] (.tuple #[.string (S2.B a), .int .i64 n, .bool ok]) := fun a n ok hp w hb =>
      (key w hb).mono fun _ _ ⟨⟨b, m, ok', hp', h1⟩, h2⟩ => by
        obtain ⟨rfl, rfl, rfl⟩ := parse_uniq hp hp'
        exact ⟨h1, h2⟩
    rcases hq with ⟨b, m, hd⟩ | hno
    · exact ⟨b, m, true, .inl ⟨rfl, hd⟩, use _ _ _ (.inl ⟨rfl, hd⟩)⟩
    · exact ⟨[], 0, false, .inr ⟨rfl, rfl, rfl, hno⟩, use _ _ _ (.inr ⟨rfl, rfl, rfl, hno⟩)⟩
  ids := fun A l n c w hb hn hr hn2 hs => (ids_any A l n c w hn hr (by omega) (fun s h => by have := hs s h; omega)).mono fun _ _ ⟨h1, h2⟩ => ⟨h1, hb.trans (h2.mono hb.size)⟩
end Idt
end Go.Proofs.YtcbhjagcfbinoaaDoor
