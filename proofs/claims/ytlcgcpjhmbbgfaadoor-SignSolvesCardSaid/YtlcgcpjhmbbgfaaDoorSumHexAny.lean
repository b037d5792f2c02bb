/-
  SumRefCrc, SumCrcAny, SumRefHex, SumHexAny: joined.
-/
import Derived.Test.YtlcgcpjhmbbgfaaDoorSumMem
import Derived.OwnWalk
/-
  Layer 3: the document's own Crc (agoraref03).
-/
namespace Go.Proofs.YtlcgcpjhmbbgfaaDoor.S3
open Go.RowKit
attribute [local go_sem] B_size B_drop' B_take B_list B_app

theorem crc_odd {c : BitVec 32} {x : Nat} (hx : c.toNat = x) (ho : x % 2 = 1) : bits .xor .u32 ((x : Int) / 2) 2197175160 = ((Crc.cs1 c).toNat : Nat) := by
  have h := c.isLt
  have e := u32_xor_nat (x / 2) 2197175160 (by omega) (by decide)
  have e2 : ((x / 2 : Nat) : Int) = (x : Int) / 2 := by omega
  rw [cs1_nat, hx, if_pos ho, ← e2]
  exact e
theorem crc_not (c : BitVec 32) : (((~~~c).toNat : Nat) : Int) = 4294967295 - (c.toNat : Int) := by
  have h := c.isLt
  rw [BitVec.toNat_not]
  omega
theorem crc_even {c : BitVec 32} {x : Nat} (hx : c.toNat = x) (ho : x % 2 ≠ 1) : (x : Int) / 2 = ((Crc.cs1 c).toNat : Nat) := by
  rw [cs1_nat, hx, if_neg ho]
  omega

end Go.Proofs.YtlcgcpjhmbbgfaaDoor.S3

/-
  Layer 3: the program's Crc.
-/
namespace Go.Proofs.YtlcgcpjhmbbgfaaDoor.S3
open Go.RowKit
attribute [local go_sem] B_size B_drop' B_take B_list B_app

theorem and_one {x : Nat} (h : x < 4294967296) : bits .and .u32 (x : Int) 1 = ((x % 2 : Nat) : Int) := by
  have := u32_and_nat x 1 h (by decide)
  rw [show ((1 : Nat) : Int) = 1 from rfl] at this
  rw [this, Nat.and_one_is_mod]
theorem neg_one' : IntKind.u32.wrap (-1) = 4294967295 := by decide
theorem and_all : bits .and .u32 2197175160 4294967295 = 2197175160 := by decide +kernel
theorem and_none : bits .and .u32 2197175160 0 = 0 := by decide +kernel
theorem xor_none {x : Nat} (h : x < 4294967296) : bits .xor .u32 (x : Int) 0 = (x : Int) := by
  have := u32_xor_nat x 0 h (by decide)
  rw [show ((0 : Nat) : Int) = 0 from rfl] at this
  rw [this, Nat.xor_zero]
theorem not_u32 (c : BitVec 32) : bits .xor .u32 IntKind.u32.max (c.toNat : Int) = ((~~~c).toNat : Nat) := by
  have := u32_xor_nat 4294967295 c.toNat (by decide) c.isLt
  rw [show IntKind.u32.max = ((4294967295 : Nat) : Int) by decide, this, ← BitVec.allOnes_xor, BitVec.toNat_xor]
  rfl

end Go.Proofs.YtlcgcpjhmbbgfaaDoor.S3

/-
  Layer 3: the document's own Hex (agoraref03).
-/
namespace Go.Proofs.YtlcgcpjhmbbgfaaDoor.S3
open Go.RowKit
attribute [local go_sem] B_size B_drop' B_take B_list B_app

/-- The digit of a number below 16. -/
def hexd (n : Nat) : UInt8 := UInt8.ofNat (if n < 10 then 48 + n else 87 + n)
/-- The digits of a list of bytes. -/
def hex : List UInt8 → List UInt8
  | [] => []
  | b :: l => hexd (b.toNat / 16) :: hexd (b.toNat % 16) :: hex l
theorem hex_length (l : List UInt8) : (hex l).length = 2 * l.length := by
  induction l with
  | nil => rfl
  | cons b l ih => simp only [hex, List.length_cons, ih]; omega
theorem hex_append (l m : List UInt8) : hex (l ++ m) = hex l ++ hex m := by
  induction l with
  | nil => rfl
  | cons b l ih => simp only [hex, List.cons_append, ih]
theorem hex_succ (l : List UInt8) (k : Nat) (h : k < l.length) : hex (l.take (k + 1)) = hex (l.take k) ++ [hexd (l[k].toNat / 16), hexd (l[k].toNat % 16)] := by
  rw [List.take_succ_eq_append_getElem h, hex_append]; rfl
theorem hexd_lit (n : Nat) (h : n < 16) : ∀ h2, ((⟨#[48, 49, 50, 51, 52, 53, 54, 55, 56, 57, 97, 98, 99, 100, 101, 102]⟩ : ByteArray)[n]'h2).toNat = (hexd n).toNat := by
  have : ∀ n : Fin 16, ((⟨#[48, 49, 50, 51, 52, 53, 54, 55, 56, 57, 97, 98, 99, 100, 101, 102]⟩ : ByteArray)[n.1]'n.2).toNat = (hexd n.1).toNat := by decide
  exact fun _ => this ⟨n, h⟩

end Go.Proofs.YtlcgcpjhmbbgfaaDoor.S3

/-
  Layer 3: the program's Hex.
-/
namespace Go.Proofs.YtlcgcpjhmbbgfaaDoor.S3
open Go.RowKit
attribute [local go_sem] B_size B_drop' B_take B_list B_app

theorem and_15 {b : Nat} (hb : b < 256) : bits .and .u8 (b : Int) 15 = ((b % 16 : Nat) : Int) := by
  have := u8_and_nat b 15 hb (by decide)
  rw [show ((15 : Nat) : Int) = 15 from rfl] at this
  rw [this, show (15 : Nat) = 2 ^ 4 - 1 from rfl, Nat.and_two_pow_sub_one_eq_mod]
/-- What a make of the call's own leaves. -/
theorem below_grown {w w' : World} (hg : w.grownBy w' none) : Below w.heap.size w w' :=
  (Below.refl _ _).grown hg (Nat.le_refl _) (fun _ hk => by cases hk)

end Go.Proofs.YtlcgcpjhmbbgfaaDoor.S3
