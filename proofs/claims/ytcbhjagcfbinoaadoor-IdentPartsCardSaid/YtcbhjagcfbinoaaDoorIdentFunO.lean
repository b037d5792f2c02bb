/-
  Layer 11: the package's Of.
-/
import Derived.Test.YtcbhjagcfbinoaaDoorIdentRefO
import Derived.Test.YtcbhjagcfbinoaaDoorIdentMore
import Derived.Test.YtcbhjagcfbinoaaDoorCodePut
import Derived.Test.YtcbhjagcfbinoaaDoorSumShaAny
import Derived.Test.YtcbhjagcfbinoaaDoorSumHexAny
namespace Go.Proofs.YtcbhjagcfbinoaaDoor
open Go.RowKit
namespace Idt
attribute [local go_sem] S2.B_size S2.B_drop' S2.B_take S2.B_list S2.B_app
/-- The bytes of a number. -/
def numB (n : Int) : Str := if n < 0 then [] else S2.Cd.encN n.toNat
def actB : Str := S2.Cd.encT [97, 99, 116, 111, 114]
theorem num_z (n : Int) (w : World) (h1 : n ≤ 9223372036854775807) : Calls Tryd.prog 24 #[.int .i64 n] w fun e w' => e = .returned (.string (S2.B (numB n))) ∧ Below w.heap.size w w' := by
  unfold numB
  by_cases h : n < 0
  · rw [if_pos h]
    exact S2.cNum_neg n w h
  · rw [if_neg h]
    have := S2.cNum_any n.toNat w (by omega)
    rw [Int.toNat_of_nonneg (by omega)] at this
    exact this
theorem act_z (w : World) : Calls Tryd.prog 23 #[.string ⟨#[97, 99, 116, 111, 114]⟩] w fun e w' => e = .returned (.string (S2.B actB)) ∧ Below w.heap.size w w' :=
  S2.cText_any [97, 99, 116, 111, 114] w (by decide)
theorem sha_z {W : World} (hW : S3.Laid W) (n : Int) (w : World) (hb : Below W.heap.size W w) : Calls Tryd.prog 22 #[.string (S2.B (actB ++ numB n))] w fun e w' => e = .returned (.string (S2.B (S3.Sha.sha (idText n)))) ∧ Below W.heap.size W w' :=
  S3.sha_any W w (idText n) (by have := idText_le n; omega) hW hb
theorem text_le (n : Int) : ((actB.length : Nat) : Int) = 6 ∧ ((numB n).length : Int) ≤ 24 := by
  have h := idText_le n
  have h6 : actB.length = 6 := by decide +kernel
  have h2 : (idText n).length = actB.length + (numB n).length := by
    show (actB ++ numB n).length = _
    rw [List.length_append]
  omega
set_option maxHeartbeats 1000000 in
set_option maxRecDepth 100000 in
theorem of_any {W : World} (hW : S3.Laid W) (n : Int) (w : World) (hb0 : Below W.heap.size W w) (hn : n ≤ 9223372036854775807) :
    Calls Tryd.prog 12 #[.int .i64 n] w fun e w' => e = .returned (.string (S2.B (idOf n))) ∧ Below W.heap.size W w' := by
  have K1 := Lib.hid act_z
  have K2 := Lib.hid fun w => num_z n w hn
  have K3 := Lib.hid (sha_z hW n)
  have hs : (S3.Sha.sha (idText n)).length = 32 := sha_len _
  have K4 := Lib.hid fun w => (show Calls Tryd.prog 28 #[.string (S2.B (S3.Sha.sha (idText n)))] w fun e w' => e = .returned (.string (S2.B (S3.hex (S3.Sha.sha (idText n))))) ∧ Below w.heap.size w w' from S3.hex_any (S3.Sha.sha (idText n)) w (by omega))
  have HO := Lib.hid (show idOf n = (S3.hex (S3.Sha.sha (idText n))).take 16 from rfl)
  have hh := S3.hex_length (S3.Sha.sha (idText n))
  rw [hs] at hh
  obtain ⟨ht6, hqt⟩ := text_le n
  obtain ⟨x, hx⟩ : ∃ x, x = S3.hex (S3.Sha.sha (idText n)) := ⟨_, rfl⟩
  rw [← hx] at K4 HO hh
  obtain ⟨y, hy⟩ : ∃ y, y = S3.Sha.sha (idText n) := ⟨_, rfl⟩
  rw [← hy] at K3 K4
  generalize numB n = q at *
  generalize actB = t at *
  have hx64 : (x.length : Int) = 64 := by omega
  have HB := Lib.hid hb0
  clear hs hx hy hh hn hb0 hW
  go_enter Tryd.func12, Tryd.ntmps12
  go_wp2_with fail
  refine (K1.out _).mono ?_
  rintro e w1 ⟨rfl, hb⟩
  replace HB := Lib.hid (HB.out.trans (hb.mono HB.out.size))
  clear hb
  go_wp2_with fail
  refine (K2.out _).mono ?_
  rintro e w2 ⟨rfl, hb⟩
  replace HB := Lib.hid (HB.out.trans (hb.mono HB.out.size))
  clear hb
  go_wp2_with fail
  refine (K3.out _ HB.out).mono ?_
  rintro e w3 ⟨rfl, hb⟩
  replace HB := Lib.hid hb
  clear hb
  go_wp2_with fail
  refine (K4.out _).mono ?_
  rintro e w4 ⟨rfl, hb⟩
  replace HB := Lib.hid (HB.out.trans (hb.mono HB.out.size))
  clear hb K1 K2 K3 K4
  go_wp2
  go_ret
  rw [HO.out]
  exact ⟨rfl, HB.out⟩
theorem hexd_hexc : ∀ k : Nat, k < 16 → hexc (S3.hexd k) = true := by decide +kernel
theorem hex_all : ∀ l : Str, (S3.hex l).all hexc = true
  | [] => rfl
  | b :: l => by
    have hb := b.toNat_lt
    rw [S3.hex, List.all_cons, List.all_cons, hex_all l, hexd_hexc _ (by omega), hexd_hexc _ (by omega)]
    rfl
theorem idOf_id (n : Int) : isId (idOf n) = true := by
  refine hex_id (hex_all _) ?_
  rw [S3.hex_length, sha_len]
  decide
/-- Two ids are equal exactly if the first eight bytes of the digests are. -/
theorem idOf_eq (m n : Int) : (idOf m == idOf n) = ((S3.Sha.sha (idText m)).take 8 == (S3.Sha.sha (idText n)).take 8) := by
  have key : ∀ x : Str, x.length = 32 → (S3.hex x).take 16 = S3.hex (x.take 8) := fun x hx => by
    have h : S3.hex x = S3.hex (x.take 8) ++ S3.hex (x.drop 8) := by rw [← S3.hex_append, List.take_append_drop]
    have hl : (S3.hex (x.take 8)).length = 16 := by rw [S3.hex_length, List.length_take]; omega
    rw [h, ← hl, List.take_left]
  unfold idOf
  rw [key _ (sha_len _), key _ (sha_len _)]
  have inj : ∀ x y : Str, S3.hex x = S3.hex y → x = y := fun x y h => by
    have hx := S3.unhex_hex x
    rw [h, S3.unhex_hex] at hx
    exact (Option.some.inj hx).symm
  rw [Bool.eq_iff_iff, beq_iff_eq, beq_iff_eq]
  exact ⟨fun h => inj _ _ h, fun h => by rw [h]⟩
end Idt
end Go.Proofs.YtcbhjagcfbinoaaDoor
