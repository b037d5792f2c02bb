/-
  SumRefSha, SumRefWords: joined.
-/
import Derived.Test.YtojbicpchjiplaaGreatDoorSumMem
import Derived.Test.YtojbicpchjiplaaGreatDoorSumEat
import Derived.Laws.OwnMore
/-
  Layer 3: the document's own Sha (agoraref03): the parts.
-/
namespace Go.Proofs.YtojbicpchjiplaaGreatDoor.S3
open Go.RowKit Sha
attribute [local go_sem] B_size B_drop' B_take B_list B_app

/-- Words as cells. -/
def Ws (l : List (BitVec 32)) : List Value := l.map fun x => Value.int .u32 (x.toNat : Nat)
theorem Ws_length (l : List (BitVec 32)) : (Ws l).length = l.length := by simp [Ws]
theorem Ws_append (l r : List (BitVec 32)) : Ws (l ++ r) = Ws l ++ Ws r := by simp [Ws]

theorem shr_nat (x : BitVec 32) (n : Nat) : ((x.toNat : Nat) : Int).fdiv (2 ^ n) = ((x >>> n).toNat : Nat) := by
  rw [BitVec.toNat_ushiftRight, Nat.shiftRight_eq_div_pow, Int.fdiv_eq_ediv_of_nonneg _ (by exact_mod_cast Nat.zero_le (2 ^ n))]
  push_cast
  rfl
theorem shl_nat (x : BitVec 32) (n : Nat) : IntKind.u32.wrap ((x.toNat : Int) * 2 ^ n) = ((x <<< n).toNat : Nat) := by
  rw [IntKind.wrap_u32', BitVec.toNat_shiftLeft, Nat.shiftLeft_eq, show (2 : Int) ^ n = ((2 ^ n : Nat) : Int) from by simp, ← Int.natCast_mul, show (2 ^ 32 : Nat) = 4294967296 from rfl]
  generalize x.toNat * 2 ^ n = z
  omega
theorem or_nat (x y : BitVec 32) : bits .or .u32 (x.toNat : Int) (y.toNat : Int) = ((x ||| y).toNat : Nat) := by
  rw [u32_or_nat _ _ x.isLt y.isLt, BitVec.toNat_or]
theorem and_nat (x y : BitVec 32) : bits .and .u32 (x.toNat : Int) (y.toNat : Int) = ((x &&& y).toNat : Nat) := by
  rw [u32_and_nat _ _ x.isLt y.isLt, BitVec.toNat_and]
theorem xor_nat (x y : BitVec 32) : bits .xor .u32 (x.toNat : Int) (y.toNat : Int) = ((x ^^^ y).toNat : Nat) := by
  rw [u32_xor_nat _ _ x.isLt y.isLt, BitVec.toNat_xor]
theorem add_nat (x y : BitVec 32) : IntKind.u32.wrap ((x.toNat : Int) + (y.toNat : Int)) = ((x + y).toNat : Nat) := by
  rw [IntKind.wrap_u32', BitVec.toNat_add, show (2 ^ 32 : Nat) = 4294967296 from rfl]
  omega

end Go.Proofs.YtojbicpchjiplaaGreatDoor.S3

/-
  Layer 3: the document's own schedule (agoraref03).
-/
namespace Go.Proofs.YtojbicpchjiplaaGreatDoor.S3
open Go.RowKit Sha

/-- The bytes at this address. -/
def BytesAt (w : World) (ad : Addr) (bs : List UInt8) : Prop := ad.block < w.heap.size ∧ ∀ j (h : j < bs.length), w.cell? (ad.add j) = some (.int .u8 (bs[j].toNat : Nat))
theorem BytesAt.below {w w' : World} {ad : Addr} {bs : List UInt8} (h : BytesAt w ad bs) (hb : Below w.heap.size w w') : BytesAt w' ad bs :=
  ⟨Nat.lt_of_lt_of_le h.1 hb.size, fun j hj => (hb.cell (p := ad.add j) (by unfold Addr.add; split <;> exact h.1)).trans (h.2 j hj)⟩

theorem shr_lit (x : BitVec 32) (n : Nat) (p : Int) (hp : p = 2 ^ n) : (x.toNat : Int) / p = ((x >>> n).toNat : Nat) := by
  have h1 := shr_nat x n
  rw [Int.fdiv_eq_ediv_of_nonneg _ (by exact_mod_cast Nat.zero_le (2 ^ n))] at h1
  rw [hp]; exact h1
theorem below_drewN {b : Nat} {w w' : World} (h : Below b w w') (n : Nat) : Below b w (w'.drewN n) := by
  exact ⟨h.1, h.2, h.3, h.4, h.5⟩
end Go.Proofs.YtojbicpchjiplaaGreatDoor.S3
