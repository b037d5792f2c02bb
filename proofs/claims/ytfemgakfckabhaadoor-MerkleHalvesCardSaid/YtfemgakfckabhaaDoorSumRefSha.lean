/-
  Layer 3: the document's own Sha (agoraref03): the parts.
-/
import Derived.Test.YtfemgakfckabhaaDoorSumMem
import Derived.Test.YtfemgakfckabhaaDoorSumShaDef
import Derived.Laws.OwnMore
namespace Go.Proofs.YtfemgakfckabhaaDoor.S3
open Go.RowKit Sha
attribute [local go_sem] B_size B_drop' B_take B_list B_app

/-- Words as cells. -/
def Ws (l : List (BitVec 32)) : List Value := l.map fun x => Value.int .u32 (x.toNat : Nat)
theorem Ws_length (l : List (BitVec 32)) : (Ws l).length = l.length := by simp [Ws]
theorem Ws_append (l r : List (BitVec 32)) : Ws (l ++ r) = Ws l ++ Ws r := by simp [Ws]

theorem shr_nat (x : BitVec 32) (n : Nat) : ((x.toNat : Nat) : Int).fdiv (2 ^ n) = ((x >>> n).toNat : Nat) := by
  rw [BitVec.toNat_ushiftRight, Nat.shiftRight_eq_div_pow, Int.fdiv_eq_ediv_of_nonneg _ (by exact_mod_cast Nat.zero_le (2 ^ n))]
  push_cast
  rfl
theorem shl_nat (x : BitVec 32) (n : Nat) : IntKind.u32.wrap ((x.toNat : Int) * 2 ^ n) = ((x <<< n).toNat : Nat) := by
  rw [IntKind.wrap_u32', BitVec.toNat_shiftLeft, Nat.shiftLeft_eq, show (2 : Int) ^ n = ((2 ^ n : Nat) : Int) from by simp, ← Int.natCast_mul, show (2 ^ 32 : Nat) = 4294967296 from rfl]
  generalize x.toNat * 2 ^ n = z
  omega
theorem or_nat (x y : BitVec 32) : bits .or .u32 (x.toNat : Int) (y.toNat : Int) = ((x ||| y).toNat : Nat) := by
  rw [u32_or_nat _ _ x.isLt y.isLt, BitVec.toNat_or]
theorem and_nat (x y : BitVec 32) : bits .and .u32 (x.toNat : Int) (y.toNat : Int) = ((x &&& y).toNat : Nat) := by
  rw [u32_and_nat _ _ x.isLt y.isLt, BitVec.toNat_and]
theorem xor_nat (x y : BitVec 32) : bits .xor .u32 (x.toNat : Int) (y.toNat : Int) = ((x ^^^ y).toNat : Nat) := by
  rw [u32_xor_nat _ _ x.isLt y.isLt, BitVec.toNat_xor]
theorem add_nat (x y : BitVec 32) : IntKind.u32.wrap ((x.toNat : Int) + (y.toNat : Int)) = ((x + y).toNat : Nat) := by
  rw [IntKind.wrap_u32', BitVec.toNat_add, show (2 ^ 32 : Nat) = 4294967296 from rfl]
  omega

theorem rot_nat (x : BitVec 32) (n : Nat) : bits .or .u32 ((x.toNat : Int) / 2 ^ n) ((x.toNat : Int) * 2 ^ (32 - n) % 4294967296) = ((rot x n).toNat : Nat) := by
  have h1 := shr_nat x n
  have h2 := shl_nat x (32 - n)
  rw [Int.fdiv_eq_ediv_of_nonneg _ (by exact_mod_cast Nat.zero_le (2 ^ n))] at h1
  rw [IntKind.wrap_u32'] at h2
  rw [h1, h2, or_nat]
  rfl

set_option maxHeartbeats 1000000 in
theorem refTurn_any (x : BitVec 32) (n : Nat) (w : World) (hn : n < 32) :
    Calls Tryd.prog 51 #[.int .u32 (x.toNat : Nat), .int .i64 (n : Int)] w fun e w' => e = .returned (.int .u32 ((rot x n).toNat : Nat)) ∧ ∃ m, w' = w.drewN m := by
  have hn2 : (n : Int) < 32 := by omega
  have hn0 : (0 : Int) ≤ n := by omega
  go_enter Tryd.func51, Tryd.ntmps51
  go_wp2_with fail
  go_quiet (fail)
  rw [rot_nat x n]
  go_wp2
  go_ret
  exact ⟨rfl, _, rfl⟩

theorem refFirsts_any (w : World) :
    Calls Tryd.prog 43 #[] w fun e w' => ∃ v, e = .returned v ∧ w'.ownsRow w.heap.size 56 1 v 8 (Ws Sha.firsts) ∧ Below w.heap.size w w' := by
  go_enter Tryd.func43, Tryd.ntmps43
  go_wp2
  go_ret
  exact ⟨_, rfl, World.ownsRow_lit w _ 8 (Nat.le_refl _) (by decide) rfl, (Below.refl _ _).alloc (Nat.le_refl _) _⟩
set_option maxHeartbeats 1000000 in
set_option maxRecDepth 100000 in
theorem refAdds_any (w : World) :
    Calls Tryd.prog 50 #[] w fun e w' => ∃ v, e = .returned v ∧ w'.ownsRow w.heap.size 56 1 v 64 (Ws Sha.adds) ∧ Below w.heap.size w w' := by
  go_enter Tryd.func50, Tryd.ntmps50
  go_wp2
  go_ret
  exact ⟨_, rfl, World.ownsRow_lit w _ 64 (Nat.le_refl _) (by decide) rfl, (Below.refl _ _).alloc (Nat.le_refl _) _⟩
end Go.Proofs.YtfemgakfckabhaaDoor.S3
