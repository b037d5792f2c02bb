/-
  Layer 11: what the laws ask of the package, as one structure: the laws' walks are written against it, and the package's own texts prove it.
-/
import Derived.Test.YtcbhjagcfbinoaaDoorIdentRefP
namespace Go.Proofs.YtcbhjagcfbinoaaDoor
open Go.RowKit
namespace Idt
/-- F at the arguments answers v, whatever has been allotted since W. -/
def Ok (W : World) (F : FuncId) (args : Array Value) (v : Value) : Prop := ∀ w, Below W.heap.size W w → Calls Tryd.prog F args w fun e w' => e = .returned v ∧ Below W.heap.size W w'
theorem Ok.same {W : World} {F : FuncId} {args : Array Value} {v : Value} (h : ∀ w, Calls Tryd.prog F args w fun e w' => e = .returned v ∧ w = w') : Ok W F args v := fun w hb => (h w).mono fun _ _ ⟨h1, h2⟩ => ⟨h1, h2 ▸ hb⟩
theorem Ok.below {W : World} {F : FuncId} {args : Array Value} {v : Value} (h : ∀ w, Calls Tryd.prog F args w fun e w' => e = .returned v ∧ Below w.heap.size w w') : Ok W F args v := fun w hb => (h w).mono fun _ _ ⟨h1, h2⟩ => ⟨h1, hb.trans (h2.mono hb.size)⟩
/-- The package's contracts; idf: what Of answers. -/
structure Pk (idf : Int → Str) (W : World) : Prop where
  of16 : ∀ n, isId (idf n) = true
  of : ∀ n : Int, -9223372036854775808 ≤ n ∧ n ≤ 9223372036854775807 → Ok W 12 #[.int .i64 n] (.string (S2.B (idf n)))
  right : ∀ s : Str, s.length ≤ 1000000 → Ok W 14 #[.string (S2.B s)] (.bool (isId s))
  name : ∀ s : Str, s.length ≤ 1000000 → Ok W 16 #[.string (S2.B s)] (.bool (isName s))
  handle : ∀ (s : Str) (n : Int), s.length ≤ 1000000 → -9223372036854775808 ≤ n ∧ n ≤ 9223372036854775807 → Ok W 18 #[.string (S2.B s), .int .i64 n] (.string (S2.B (handle s n)))
  parse : ∀ s : Str, s.length ≤ 1000000 → ∃ a n ok, IsParse s a n ok ∧ Ok W 10 #[.string (S2.B s)] (.tuple #[.string (S2.B a), .int .i64 n, .bool ok])
  ids : ∀ (A : Option Addr) (l : List Str) (n c : Nat) (w : World), Below W.heap.size W w → n = l.length → S2.Row w w.heap.size A (S2.Ss l) → n ≤ 1000000 → (∀ s ∈ l, s.length ≤ 1000000) → Calls Tryd.prog 20 #[.slice A n c] w fun e w' => e = .returned (.bool (ids l)) ∧ Below W.heap.size W w'
theorem Pk.parse_yes {idf : Int → Str} {W : World} (h : Pk idf W) {s a : Str} {n : Int} (hs : s.length ≤ 1000000) (hd : Hd s a n) : Ok W 10 #[.string (S2.B s)] (.tuple #[.string (S2.B a), .int .i64 n, .bool true]) := by
  obtain ⟨b, m, ok, h1, h2⟩ := h.parse s hs
  obtain ⟨rfl, rfl, rfl⟩ := parse_uniq h1 (.inl ⟨rfl, hd⟩)
  exact h2
theorem Pk.parse_no {idf : Int → Str} {W : World} (h : Pk idf W) {s : Str} (hs : s.length ≤ 1000000) (hd : ∀ b m, ¬ Hd s b m) : Ok W 10 #[.string (S2.B s)] (.tuple #[.string (S2.B []), .int .i64 0, .bool false]) := by
  obtain ⟨b, m, ok, h1, h2⟩ := h.parse s hs
  obtain ⟨rfl, rfl, rfl⟩ := parse_uniq h1 (.inr ⟨rfl, rfl, rfl, hd⟩)
  exact h2
theorem row_lit (w : World) (l : List Str) : S2.Row (w.alloc (.cells (S2.Ss l).toArray 9)) (w.alloc (.cells (S2.Ss l).toArray 9)).heap.size (some ⟨w.heap.size, 0, none⟩) (S2.Ss l) := by
  refine .inr ⟨_, rfl, by simp, fun j u hu => ?_⟩
  have h := heap_alloc_new w (.cells (S2.Ss l).toArray 9)
  rw [Addr.add_lit, Nat.zero_add, cell_of_row _ _ _ _ _ _ h, List.getElem?_toArray]
  exact hu
/-! ### The small example -/
def ann : Str := [97, 110, 110]
theorem hd_ann3 : Hd [97, 110, 110, 64, 51] ann 3 := ⟨by decide, by decide, by decide, by decide +kernel⟩
theorem itoa_03 : ∀ k : Nat, k < 20 → Lib.itoa (k : Int) ≠ [48, 51] := by decide +kernel
theorem no_ann03 (b : Str) (m : Int) : ¬ Hd [97, 110, 110, 64, 48, 51] b m := fun h => by
  have h1 := split_one (a := [97, 110, 110]) (x := [48, 51]) (by decide) (name_at h.name) h.eq
  have h2 := itoa_03 m.toNat (by have := h.hi; omega)
  rw [Int.toNat_of_nonneg h.lo] at h2
  exact h2 h1.2.symm
def twoIds : List Str := [[48, 48, 48, 48, 48, 48, 48, 48, 48, 48, 48, 48, 48, 48, 48, 48], [48, 48, 48, 48, 48, 48, 48, 48, 48, 48, 48, 48, 48, 48, 48, 102]]
theorem twoIds_ok : ids twoIds = true := by decide +kernel
set_option maxHeartbeats 2000000 in
set_option maxRecDepth 100000 in
theorem small_any {idf : Int → Str} {W : World} (P : Pk idf W) : Ok W 9 #[] (.bool true) := by
  intro w hb0
  have k1 := Lib.hid (show Ok W 10 #[.string ⟨#[97, 110, 110, 64, 51]⟩] (.tuple #[.string ⟨#[97, 110, 110]⟩, .int .i64 3, .bool true]) from P.parse_yes (by decide) hd_ann3)
  have k2 := Lib.hid (show Ok W 10 #[.string ⟨#[97, 110, 110, 64, 48, 51]⟩] (.tuple #[.string ⟨#[]⟩, .int .i64 0, .bool false]) from P.parse_no (by decide) no_ann03)
  have k3 := Lib.hid (show Ok W 14 #[.string ⟨#[48, 48, 49, 49, 50, 50, 51, 51, 97, 97, 98, 98, 99, 99, 100, 100]⟩] (.bool true) from P.right [48, 48, 49, 49, 50, 50, 51, 51, 97, 97, 98, 98, 99, 99, 100, 100] (by decide))
  have k4 := Lib.hid (show Ok W 14 #[.string ⟨#[48, 48, 49, 49, 50, 50, 51, 51, 65, 65, 66, 66, 67, 67, 68, 68]⟩] (.bool false) from P.right [48, 48, 49, 49, 50, 50, 51, 51, 65, 65, 66, 66, 67, 67, 68, 68] (by decide))
  have k5 := Lib.hid (show Ok W 16 #[.string ⟨#[97, 95, 49]⟩] (.bool true) from P.name [97, 95, 49] (by decide))
  have k6 := Lib.hid (show Ok W 16 #[.string ⟨#[49, 97]⟩] (.bool false) from P.name [49, 97] (by decide))
  have hh : handle ann 3 = [97, 110, 110, 64, 51] := hd_ann3.handle
  have k7 := P.handle ann 3 (by decide) (by decide)
  rw [hh] at k7
  have k7' := Lib.hid (show Ok W 18 #[.string ⟨#[97, 110, 110]⟩, .int .i64 3] (.string ⟨#[97, 110, 110, 64, 51]⟩) from k7)
  have k8 := Lib.hid fun (w : World) (hb : Below W.heap.size W (w.alloc (.cells (S2.Ss twoIds).toArray 9))) => P.ids (some ⟨w.heap.size, 0, none⟩) twoIds 2 2 _ hb rfl (row_lit w twoIds) (by decide) (by decide)
  rw [twoIds_ok] at k8
  have h16 : (idf 37).length = 16 := by
    have := P.of16 37
    simp only [isId, Bool.and_eq_true, decide_eq_true_eq] at this
    exact this.2
  have h16I : ((S2.B (idf 37)).size : Int) = 16 := by rw [S2.B_size]; omega
  have k9 := Lib.hid (P.of 37 (by decide))
  obtain ⟨x, hx⟩ : ∃ x, x = S2.B (idf 37) := ⟨_, rfl⟩
  rw [← hx] at k9 h16I
  clear hx h16 hh k7
  have HB := Lib.hid hb0
  clear hb0
  go_enter Tryd.func9, Tryd.ntmps9
  go_wp2_with fail
  refine (k1.out _ HB.out).mono ?_
  rintro e w1 ⟨rfl, hb⟩
  replace HB := Lib.hid hb
  clear hb k1
  go_wp2_with fail
  refine (k2.out _ HB.out).mono ?_
  rintro e w1 ⟨rfl, hb⟩
  replace HB := Lib.hid hb
  clear hb k2
  go_wp2_with fail
  refine (k3.out _ HB.out).mono ?_
  rintro e w1 ⟨rfl, hb⟩
  replace HB := Lib.hid hb
  clear hb k3
  go_wp2_with fail
  refine (k4.out _ HB.out).mono ?_
  rintro e w1 ⟨rfl, hb⟩
  replace HB := Lib.hid hb
  clear hb k4
  go_wp2_with fail
  refine (k5.out _ HB.out).mono ?_
  rintro e w1 ⟨rfl, hb⟩
  replace HB := Lib.hid hb
  clear hb k5
  go_wp2_with fail
  refine (k6.out _ HB.out).mono ?_
  rintro e w1 ⟨rfl, hb⟩
  replace HB := Lib.hid hb
  clear hb k6
  go_wp2_with fail
  refine (k7'.out _ HB.out).mono ?_
  rintro e w1 ⟨rfl, hb⟩
  replace HB := Lib.hid hb
  clear hb k7'
  go_wp2_with fail
  refine (k8.out _ (HB.out.alloc HB.out.size _)).mono ?_
  rintro e w1 ⟨rfl, hb⟩
  replace HB := Lib.hid hb
  clear hb k8
  go_wp2_with fail
  refine (k9.out _ HB.out).mono ?_
  rintro e w1 ⟨rfl, hb⟩
  replace HB := Lib.hid hb
  clear hb k9
  go_wp2
  go_ret
  exact ⟨rfl, HB.out⟩
end Idt
end Go.Proofs.YtcbhjagcfbinoaaDoor
