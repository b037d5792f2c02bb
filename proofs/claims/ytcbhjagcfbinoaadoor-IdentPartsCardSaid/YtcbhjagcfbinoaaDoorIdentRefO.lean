/-
  Layer 11: the document's own Of (agoraref11).
-/
import Derived.Test.YtcbhjagcfbinoaaDoorIdentMath
import Derived.Test.YtcbhjagcfbinoaaDoorCodeRef
import Derived.Test.YtcbhjagcfbinoaaDoorCodeRd
import Derived.Test.YtcbhjagcfbinoaaDoorSumRefSum
import Derived.Test.YtcbhjagcfbinoaaDoorSumHexMath
namespace Go.Proofs.YtcbhjagcfbinoaaDoor
open Go.RowKit
namespace Idt
attribute [local go_sem] S2.B_size S2.B_drop' S2.B_take S2.B_list S2.B_app
theorem flat_len : ∀ l : List (BitVec 32), (l.flatMap S3.Sha.be).length = 4 * l.length
  | [] => rfl
  | x :: t => by
    rw [List.flatMap_cons, List.length_append, flat_len t, List.length_cons]
    simp [S3.Sha.be]
    omega
theorem sha_len (l : List UInt8) : (S3.Sha.sha l).length = 32 := by
  unfold S3.Sha.sha
  rw [flat_len, S3.blocks_length]

/-- The text of an actor's first key. -/
def idText (n : Int) : Str := S2.Cd.encT [97, 99, 116, 111, 114] ++ (if n < 0 then [] else S2.Cd.encN n.toNat)
def idOf (n : Int) : Str := (S3.hex (S3.Sha.sha (idText n))).take 16
theorem idText_le (n : Int) : (idText n).length ≤ 30 := by
  have h : (S2.Cd.encT [97, 99, 116, 111, 114]).length = 6 := by decide +kernel
  have h2 : (if n < 0 then [] else S2.Cd.encN n.toNat).length ≤ 9 := by
    split
    · simp
    · exact S2.Cd.encN_len _
  unfold idText
  rw [List.length_append]
  omega
theorem refNum_z (n : Int) (w : World) (h1 : n ≤ 9223372036854775807) : Calls Tryd.prog 32 #[.int .i64 n] w fun e w' => e = .returned (.string (S2.B (if n < 0 then [] else S2.Cd.encN n.toNat))) ∧ Below w.heap.size w w' := by
  by_cases h : n < 0
  · rw [if_pos h]
    exact S2.refNum_neg n w h
  · rw [if_neg h]
    exact S2.refNum_i n w (by omega) h1
set_option maxHeartbeats 1000000 in
set_option maxRecDepth 100000 in
theorem refOf_any (n : Int) (w : World) (hn : n ≤ 9223372036854775807) :
    Calls Tryd.prog 13 #[.int .i64 n] w fun e w' => e = .returned (.string (S2.B (idOf n))) ∧ Below w.heap.size w w' := by
  have K1 := Lib.hid fun w => (show Calls Tryd.prog 31 #[.string ⟨#[97, 99, 116, 111, 114]⟩] w fun e w' => e = .returned (.string (S2.B (S2.Cd.encT [97, 99, 116, 111, 114]))) ∧ Below w.heap.size w w' from S2.refText_any [97, 99, 116, 111, 114] w (by decide))
  have K2 := Lib.hid fun w => refNum_z n w hn
  have hle := idText_le n
  have K3 := Lib.hid fun w => (show Calls Tryd.prog 30 #[.string (S2.B (idText n))] w fun e w' => e = .returned (.string (S2.B (S3.Sha.sha (idText n)))) ∧ Below w.heap.size w w' from S3.refSha_any (idText n) w (by omega))
  have hs : (S3.Sha.sha (idText n)).length = 32 := sha_len _
  have K4 := Lib.hid fun w => (show Calls Tryd.prog 29 #[.string (S2.B (S3.Sha.sha (idText n)))] w fun e w' => e = .returned (.string (S2.B (S3.hex (S3.Sha.sha (idText n))))) ∧ Below w.heap.size w w' from S3.refHex_any (S3.Sha.sha (idText n)) w (by omega))
  have HO := Lib.hid (show idOf n = (S3.hex (S3.Sha.sha (idText n))).take 16 from rfl)
  have hh := S3.hex_length (S3.Sha.sha (idText n))
  rw [hs] at hh
  obtain ⟨x, hx⟩ : ∃ x, x = S3.hex (S3.Sha.sha (idText n)) := ⟨_, rfl⟩
  rw [← hx] at K4 HO hh
  obtain ⟨y, hy⟩ : ∃ y, y = S3.Sha.sha (idText n) := ⟨_, rfl⟩
  rw [← hy] at K3 K4
  obtain ⟨q, hq⟩ : ∃ q, q = (if n < 0 then [] else S2.Cd.encN n.toNat) := ⟨_, rfl⟩
  obtain ⟨t, ht⟩ : ∃ t, t = S2.Cd.encT [97, 99, 116, 111, 114] := ⟨_, rfl⟩
  have e : idText n = t ++ q := by rw [hq, ht]; rfl
  rw [e] at K3
  rw [← hq] at K2
  rw [← ht] at K1
  have ht6 : (t.length : Int) = 6 := by rw [ht]; decide +kernel
  have hqt : (q.length : Int) ≤ 24 := by rw [e, List.length_append] at hle; omega
  have hx64 : (x.length : Int) = 64 := by omega
  clear hs hx hy hq ht e hle hh hn
  go_enter Tryd.func13, Tryd.ntmps13
  go_wp2_with fail
  refine (K1.out _).mono ?_
  rintro e w1 ⟨rfl, b1⟩
  go_wp2_with fail
  refine (K2.out _).mono ?_
  rintro e w2 ⟨rfl, b2⟩
  go_wp2_with fail
  refine (K3.out _).mono ?_
  rintro e w3 ⟨rfl, b3⟩
  go_wp2_with fail
  refine (K4.out _).mono ?_
  rintro e w4 ⟨rfl, b4⟩
  have b := (((b1.trans (b2.mono b1.size)).trans (b3.mono (Nat.le_trans b1.size b2.size))).trans (b4.mono (Nat.le_trans (Nat.le_trans b1.size b2.size) b3.size)))
  have BB := Lib.hid b
  clear b b1 b2 b3 b4
  go_wp2
  go_ret
  rw [HO.out]
  exact ⟨rfl, BB.out⟩
end Idt
end Go.Proofs.YtcbhjagcfbinoaaDoor
