/-
  NumTells: the walk of the law.
-/
import Derived.Test.YtecoieacgjkkpaaDoorNumRefText
namespace Go.Proofs.YtecoieacgjkkpaaDoor
open Go.RowKit

theorem ParseIs.same {l : List UInt8} {low high x y : Int} {o o' : Bool} (h : ParseIs l low high x o) (k : ParseIs l low high y o') : x = y ∧ o = o' := by
  rcases h with ⟨rfl, h1, h2, h3, h4⟩ | ⟨rfl, rfl, h⟩ <;> rcases k with ⟨rfl, k1, k2, k3, k4⟩ | ⟨rfl, rfl, k⟩
  · exact ⟨Dec.itoa_inj h1 k1 (h2.trans k2.symm), rfl⟩
  · exact absurd ⟨x, h1, h2, h3, h4⟩ k
  · exact absurd ⟨y, k1, k2, k3, k4⟩ h
  · exact ⟨rfl, rfl⟩
theorem parseR_same {W w : World} (s : ByteArray) (low high x : Int) (ok : Bool) (hg : Good W w) (hs : s.size ≤ 281474976710656) (h : Hid (ParseIs s.data.toList low high x ok)) :
    Calls Tryd.prog 10 #[.string s, .int .i64 low, .int .i64 high] w fun e w' => e = .returned (.tuple #[.int .i64 x, .bool ok]) ∧ Good W w' :=
  (parseR_any s low high w hs).mono fun _ _ ⟨⟨y, o, hp, he⟩, hw⟩ => by
    obtain ⟨rfl, rfl⟩ := h.out.same hp
    exact ⟨he, by rw [hw]; exact hg⟩
theorem same_w {W w : World} {f : FuncId} {args : Array Value} {v : Value} (hg : Good W w) (h : Calls Tryd.prog f args w fun e w' => e = .returned v ∧ w' = w) :
    Calls Tryd.prog f args w fun e w' => e = .returned v ∧ Good W w' := h.mono fun _ _ ⟨h1, h2⟩ => ⟨h1, by rw [h2]; exact hg⟩
theorem isI64_z : isI64 0 := by unfold isI64; decide

set_option maxHeartbeats 2000000 in
set_option maxRecDepth 100000 in
theorem tells_nz (a b : Int) (s : ByteArray) (c : Int) (w : World) (hl : Laid w) (ha : isI64 a) (hb : isI64 b) (hb0 : b ≠ 0) (hs : s.size ≤ 281474976710656) :
    Calls Tryd.prog 3 #[.int .i64 a, .int .i64 b, .int .i64 c, .string s] w fun e w' => e = .returned (.bool true) ∧ Good w w' := by
  have g0 : Good w w := Good.refl hl
  have HB := Lib.hid hb0
  clear hb0
  go_enter Tryd.func3, Tryd.ntmps3
  go_wp2_with fail
  refine (small_any w _ g0).mono ?_
  rintro e w1 ⟨rfl, g1⟩
  go_wp2_with fail
  refine (parse_g s a b g1 hs).mono ?_
  rintro e w2 ⟨⟨x, ok, hp, rfl⟩, g2⟩
  have Hp := Lib.hid hp
  clear hp
  go_wp2_with fail
  refine (parseR_same s a b x ok g2 hs Hp).mono ?_
  rintro e w3 ⟨rfl, g3⟩
  go_wp2_with fail
  refine (div_g a b _ g3 ha hb HB.out rfl).mono ?_
  rintro e w4 ⟨rfl, g4⟩
  go_wp2_with fail
  refine (same_w g4 (divR_any a b _ ha hb HB.out)).mono ?_
  rintro e w5 ⟨rfl, g5⟩
  go_wp2_with fail
  refine (mod_g a b _ g5 ha hb HB.out rfl).mono ?_
  rintro e w6 ⟨rfl, g6⟩
  go_wp2_with fail
  refine (same_w g6 (modR_any a b _ ha hb HB.out)).mono ?_
  rintro e w7 ⟨rfl, g7⟩
  go_wp2_with fail
  refine (text_g a _ g7 ha rfl).mono ?_
  rintro e w8 ⟨rfl, g8⟩
  go_wp2_with fail
  refine (same_w g8 (textR_any a _ ha)).mono ?_
  rintro e w9 ⟨rfl, g9⟩
  go_wp2_with fail
  refine (clamp_g a b c _ g9 rfl).mono ?_
  rintro e w10 ⟨rfl, g10⟩
  go_wp2_with fail
  refine (same_w g10 (clampR_any a b c _)).mono ?_
  rintro e w11 ⟨rfl, g11⟩
  go_wp2_with fail
  refine (add_g a b _ g11 ha hb rfl).mono ?_
  rintro e w12 ⟨rfl, g12⟩
  go_wp2_with fail
  refine (same_w g12 (addR_any a b _ ha hb)).mono ?_
  rintro e w13 ⟨rfl, g13⟩
  go_wp2_with fail
  refine (sub_g a b _ g13 ha hb rfl).mono ?_
  rintro e w14 ⟨rfl, g14⟩
  go_wp2_with fail
  refine (same_w g14 (subR_any a b _ ha hb)).mono ?_
  rintro e w15 ⟨rfl, g15⟩
  go_wp2_with fail
  refine (mul_g a b _ g15 ha hb rfl).mono ?_
  rintro e w16 ⟨rfl, g16⟩
  go_wp2_with fail
  refine (same_w g16 (mulR_any a b _ ha hb)).mono ?_
  rintro e w17 ⟨rfl, g17⟩
  go_wp2
  go_ret
  exact ⟨rfl, g17⟩

set_option maxHeartbeats 2000000 in
set_option maxRecDepth 100000 in
theorem tells_z (a : Int) (s : ByteArray) (c : Int) (w : World) (hl : Laid w) (ha : isI64 a) (hs : s.size ≤ 281474976710656) :
    Calls Tryd.prog 3 #[.int .i64 a, .int .i64 0, .int .i64 c, .string s] w fun e w' => e = .returned (.bool true) ∧ Good w w' := by
  have g0 : Good w w := Good.refl hl
  go_enter Tryd.func3, Tryd.ntmps3
  go_wp2_with fail
  refine (small_any w _ g0).mono ?_
  rintro e w1 ⟨rfl, g1⟩
  go_wp2_with fail
  refine (parse_g s a 0 g1 hs).mono ?_
  rintro e w2 ⟨⟨x, ok, hp, rfl⟩, g2⟩
  have Hp := Lib.hid hp
  clear hp
  go_wp2_with fail
  refine (parseR_same s a 0 x ok g2 hs Hp).mono ?_
  rintro e w3 ⟨rfl, g3⟩
  go_wp2_with fail
  refine (div_z a g3).mono ?_
  rintro e w4 ⟨rfl, g4⟩
  go_wp2_with fail
  refine (same_w g4 (divR_zero a _)).mono ?_
  rintro e w5 ⟨rfl, g5⟩
  go_wp2_with fail
  refine (mod_z a g5).mono ?_
  rintro e w6 ⟨rfl, g6⟩
  go_wp2_with fail
  refine (same_w g6 (modR_zero a _)).mono ?_
  rintro e w7 ⟨rfl, g7⟩
  go_wp2_with fail
  refine (text_g a _ g7 ha rfl).mono ?_
  rintro e w8 ⟨rfl, g8⟩
  go_wp2_with fail
  refine (same_w g8 (textR_any a _ ha)).mono ?_
  rintro e w9 ⟨rfl, g9⟩
  go_wp2_with fail
  refine (clamp_g a 0 c _ g9 rfl).mono ?_
  rintro e w10 ⟨rfl, g10⟩
  go_wp2_with fail
  refine (same_w g10 (clampR_any a 0 c _)).mono ?_
  rintro e w11 ⟨rfl, g11⟩
  go_wp2_with fail
  refine (add_g a 0 _ g11 ha isI64_z rfl).mono ?_
  rintro e w12 ⟨rfl, g12⟩
  go_wp2_with fail
  refine (same_w g12 (addR_any a 0 _ ha isI64_z)).mono ?_
  rintro e w13 ⟨rfl, g13⟩
  go_wp2_with fail
  refine (sub_g a 0 _ g13 ha isI64_z rfl).mono ?_
  rintro e w14 ⟨rfl, g14⟩
  go_wp2_with fail
  refine (same_w g14 (subR_any a 0 _ ha isI64_z)).mono ?_
  rintro e w15 ⟨rfl, g15⟩
  go_wp2_with fail
  refine (mul_g a 0 _ g15 ha isI64_z rfl).mono ?_
  rintro e w16 ⟨rfl, g16⟩
  go_wp2_with fail
  refine (same_w g16 (mulR_any a 0 _ ha isI64_z)).mono ?_
  rintro e w17 ⟨rfl, g17⟩
  go_wp2
  go_ret
  exact ⟨rfl, g17⟩

theorem numTells_walk (a b c : Int) (s : ByteArray) (w : World) (hl : Laid w) (ha : isI64 a) (hb : isI64 b) (_ : isI64 c) (hs : s.size ≤ 281474976710656) :
    Calls Tryd.prog 3 #[.int .i64 a, .int .i64 b, .int .i64 c, .string s] w fun e w' => e = .returned (.bool true) ∧ Good w w' := by
  by_cases h : b = 0
  · subst h; exact tells_z a s c w hl ha hs
  · exact tells_nz a b s c w hl ha hb h hs
end Go.Proofs.YtecoieacgjkkpaaDoor
