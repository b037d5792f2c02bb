/-
  Layer 1 (num): the contracts over worlds that have grown since a first one, and the law's own 'small'.
-/
import Derived.Test.YtecoieacgjkkpaaDoorNumText
namespace Go.Proofs.YtecoieacgjkkpaaDoor
open Go.RowKit

/-- w has grown out of W, and the listed variables hold what they held. -/
def Good (W w : World) : Prop := Laid w ∧ Below W.heap.size W w
theorem Good.refl {w : World} (h : Laid w) : Good w w := ⟨h, Below.refl _ _⟩
theorem Good.step {W w w' : World} (h : Good W w) (hb : Below w.heap.size w w') : Good W w' := ⟨h.1.below hb, h.2.trans (hb.mono h.2.size)⟩

theorem text_g {W w : World} (n : Int) (l : List UInt8) (hg : Good W w) (hn : isI64 n) (hl : Lib.itoa n = l) :
    Calls Tryd.prog 15 #[.int .i64 n] w fun e w' => e = .returned (.string ⟨l.toArray⟩) ∧ Good W w' :=
  (text_any n w hg.1 hn).mono fun _ _ ⟨h1, h2⟩ => ⟨by rw [h1, hl], hg.step h2⟩
theorem parse_g {W w : World} (s : ByteArray) (low high : Int) (hg : Good W w) (hs : s.size ≤ 281474976710656) :
    Calls Tryd.prog 9 #[.string s, .int .i64 low, .int .i64 high] w fun e w' => (∃ x ok, ParseIs s.data.toList low high x ok ∧ e = .returned (.tuple #[.int .i64 x, .bool ok])) ∧ Good W w' :=
  (parse_any s low high w hg.1 hs).mono fun _ _ ⟨h1, h2⟩ => ⟨h1, hg.step h2⟩
theorem parse_yes {W w : World} (s : ByteArray) (low high n : Int) (hg : Good W w) (hs : s.size ≤ 281474976710656) (hn : isI64 n) (he : Lib.itoa n = s.data.toList) (h1 : low ≤ n) (h2 : n ≤ high) :
    Calls Tryd.prog 9 #[.string s, .int .i64 low, .int .i64 high] w fun e w' => e = .returned (.tuple #[.int .i64 n, .bool true]) ∧ Good W w' := by
  refine (parse_g s low high hg hs).mono fun e w' ⟨⟨x, ok, hp, h⟩, hg'⟩ => ⟨?_, hg'⟩
  rcases hp with ⟨rfl, hx, e1, _, _⟩ | ⟨_, _, hno⟩
  · rw [h, Dec.itoa_inj hx hn (e1.trans he.symm)]
  · exact absurd ⟨n, hn, he, h1, h2⟩ hno
theorem parse_none {W w : World} (s : ByteArray) (low high : Int) (hg : Good W w) (hs : s.size ≤ 281474976710656) (hno : ∀ n, isI64 n → Lib.itoa n = s.data.toList → low ≤ n → n ≤ high → False) :
    Calls Tryd.prog 9 #[.string s, .int .i64 low, .int .i64 high] w fun e w' => e = .returned (.tuple #[.int .i64 0, .bool false]) ∧ Good W w' := by
  refine (parse_g s low high hg hs).mono fun e w' ⟨⟨x, ok, hp, h⟩, hg'⟩ => ⟨?_, hg'⟩
  rcases hp with ⟨rfl, hx, e1, h1, h2⟩ | ⟨rfl, rfl, _⟩
  · exact (hno x hx e1 h1 h2).elim
  · exact h
theorem none_of {l : List UInt8} {v : Int} (h : Lib.atoiAll l = .ok v) (h' : Lib.itoa v ≠ l) : ∀ n, isI64 n → Lib.itoa n = l → False := by
  intro n hn he
  have := Dec.atoiAll_itoa n hn
  rw [he, h] at this
  injection this with this
  subst this
  exact h' he
theorem add_g {W w : World} (a b r : Int) (hg : Good W w) (ha : isI64 a) (hb : isI64 b) (hr : lim (a + b) = r) :
    Calls Tryd.prog 19 #[.int .i64 a, .int .i64 b] w fun e w' => e = .returned (.int .i64 r) ∧ Good W w' :=
  (add_any a b w ha hb).mono fun _ _ ⟨h1, h2⟩ => ⟨by rw [h1, hr], hg.step h2⟩
theorem sub_g {W w : World} (a b r : Int) (hg : Good W w) (ha : isI64 a) (hb : isI64 b) (hr : lim (a - b) = r) :
    Calls Tryd.prog 21 #[.int .i64 a, .int .i64 b] w fun e w' => e = .returned (.int .i64 r) ∧ Good W w' :=
  (sub_any a b w ha hb).mono fun _ _ ⟨h1, h2⟩ => ⟨by rw [h1, hr], hg.step h2⟩
theorem mul_g {W w : World} (a b r : Int) (hg : Good W w) (ha : isI64 a) (hb : isI64 b) (hr : lim (a * b) = r) :
    Calls Tryd.prog 23 #[.int .i64 a, .int .i64 b] w fun e w' => e = .returned (.int .i64 r) ∧ Good W w' :=
  (mul_any a b w ha hb).mono fun _ _ ⟨h1, h2⟩ => ⟨by rw [h1, hr], hg.step h2⟩
theorem div_g {W w : World} (a b r : Int) (hg : Good W w) (ha : isI64 a) (hb : isI64 b) (h0 : b ≠ 0) (hr : lim (a.tdiv b) = r) :
    Calls Tryd.prog 11 #[.int .i64 a, .int .i64 b] w fun e w' => e = .returned (.tuple #[.int .i64 r, .bool true]) ∧ Good W w' :=
  (div_any a b w ha hb h0).mono fun _ _ ⟨h1, h2⟩ => ⟨by rw [h1, hr], hg.step h2⟩
theorem mod_g {W w : World} (a b r : Int) (hg : Good W w) (ha : isI64 a) (hb : isI64 b) (h0 : b ≠ 0) (hr : lim (a.tmod b) = r) :
    Calls Tryd.prog 13 #[.int .i64 a, .int .i64 b] w fun e w' => e = .returned (.tuple #[.int .i64 r, .bool true]) ∧ Good W w' :=
  (mod_any a b w ha hb h0).mono fun _ _ ⟨h1, h2⟩ => ⟨by rw [h1, hr], hg.step h2⟩
theorem div_z {W w : World} (a : Int) (hg : Good W w) :
    Calls Tryd.prog 11 #[.int .i64 a, .int .i64 0] w fun e w' => e = .returned (.tuple #[.int .i64 0, .bool false]) ∧ Good W w' :=
  (div_zero a w).mono fun _ _ ⟨h1, h2⟩ => ⟨h1, hg.step h2⟩
theorem mod_z {W w : World} (a : Int) (hg : Good W w) :
    Calls Tryd.prog 13 #[.int .i64 a, .int .i64 0] w fun e w' => e = .returned (.tuple #[.int .i64 0, .bool false]) ∧ Good W w' :=
  (mod_zero a w).mono fun _ _ ⟨h1, h2⟩ => ⟨h1, hg.step h2⟩
theorem clamp_g {W w : World} (n low high r : Int) (hg : Good W w) (hr : clampN n low high = r) :
    Calls Tryd.prog 17 #[.int .i64 n, .int .i64 low, .int .i64 high] w fun e w' => e = .returned (.int .i64 r) ∧ Good W w' :=
  (clamp_any n low high w).mono fun _ _ ⟨h1, h2⟩ => ⟨by rw [h1, hr], by rw [h2]; exact hg⟩

theorem k07 : ∀ n, isI64 n → Lib.itoa n = [48, 55] → False := none_of (v := 7) (by decide +kernel) (by decide +kernel)
theorem km0 : ∀ n, isI64 n → Lib.itoa n = [45, 48] → False := none_of (v := 0) (by decide +kernel) (by decide +kernel)
theorem km7 : Lib.itoa (-7) = [45, 55] := by decide +kernel

set_option maxHeartbeats 800000 in
theorem small_any (W w : World) (hg : Good W w) :
    Calls Tryd.prog 8 #[] w fun e w' => e = .returned (.bool true) ∧ Good W w' := by
  go_enter Tryd.func8, Tryd.ntmps8
  go_wp2_with fail
  refine (parse_yes ⟨#[45, 55]⟩ (-9) 9 (-7) hg (by decide) (by unfold isI64; decide) km7 (by decide) (by decide)).mono ?_
  rintro e w1 ⟨rfl, g1⟩
  go_wp2_with fail
  refine (parse_none ⟨#[48, 55]⟩ 0 9 g1 (by decide) (fun n h1 h2 _ _ => k07 n h1 h2)).mono ?_
  rintro e w2 ⟨rfl, g2⟩
  go_wp2_with fail
  refine (parse_none ⟨#[45, 48]⟩ (-1) 1 g2 (by decide) (fun n h1 h2 _ _ => km0 n h1 h2)).mono ?_
  rintro e w3 ⟨rfl, g3⟩
  go_wp2_with fail
  refine (div_g (-7) 2 (-3) g3 (by unfold isI64; decide) (by unfold isI64; decide) (by decide) (by decide)).mono ?_
  rintro e w4 ⟨rfl, g4⟩
  go_wp2_with fail
  refine (mod_g (-7) 2 (-1) g4 (by unfold isI64; decide) (by unfold isI64; decide) (by decide) (by decide)).mono ?_
  rintro e w5 ⟨rfl, g5⟩
  go_wp2_with fail
  refine (div_z 1 g5).mono ?_
  rintro e w6 ⟨rfl, g6⟩
  go_wp2_with fail
  refine (text_g (-7) [45, 55] g6 (by unfold isI64; decide) km7).mono ?_
  rintro e w7 ⟨rfl, g7⟩
  go_wp2_with fail
  refine (add_g 1125899906842624 1 1125899906842624 g7 (by unfold isI64; decide) (by unfold isI64; decide) (by decide)).mono ?_
  rintro e w8 ⟨rfl, g8⟩
  go_wp2_with fail
  refine (sub_g (-1125899906842624) 1 (-1125899906842624) g8 (by unfold isI64; decide) (by unfold isI64; decide) (by decide)).mono ?_
  rintro e w9 ⟨rfl, g9⟩
  go_wp2_with fail
  refine (mul_g 1125899906842624 (-2) (-1125899906842624) g9 (by unfold isI64; decide) (by unfold isI64; decide) (by decide)).mono ?_
  rintro e w10 ⟨rfl, g10⟩
  go_wp2_with fail
  refine (clamp_g 3 5 4 5 g10 (by decide)).mono ?_
  rintro e w11 ⟨rfl, g11⟩
  go_wp2
  go_ret
  exact ⟨rfl, g11⟩
end Go.Proofs.YtecoieacgjkkpaaDoor
