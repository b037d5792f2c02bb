/-
  GroupBase, GroupMul, GroupExp, GroupInv: joined.
-/
import Derived.Test.YtojbicpchjiplaaGreatDoorRows
import Derived.Test.YtojbicpchjiplaaGreatDoorGroupMath
import Derived.WalkKit
import Derived.WalkSpells
import Derived.WalkLawsBesides
import Derived.Lib.Hide
import Derived.PlainAid
import Derived.Handy
import Derived.LoopTactic
import Derived.Outline
import Derived.IntWalk
import Derived.Laws.BitsAllLaws
import Derived.Deep.QuietTactic
import Derived.BigQuiet
import Derived.OwnWalk
/-
  Layer 4: the reference's Mod, Add, Sub, AddN, SubN.
-/
namespace Go.Proofs.YtojbicpchjiplaaGreatDoor.S4
open Go.RowKit

def isI64 (n : Int) : Prop := -9223372036854775808 ≤ n ∧ n ≤ 9223372036854775807
/-- The moduli. -/
def isMod (m : Int) : Prop := m = 2305843009213693951 ∨ m = 2305843009213693950

theorem tmod_parts (a m : Int) (hm : 0 < m) : (a % m = if a.tmod m < 0 then a.tmod m + m else a.tmod m) ∧ -m < a.tmod m ∧ a.tmod m < m := by
  rcases Int.le_total 0 a with h | h
  · have e := Int.tmod_eq_emod_of_nonneg (b := m) h
    have h1 := Int.emod_nonneg a (Int.ne_of_gt hm)
    have h2 := Int.emod_lt_of_pos a hm
    rw [e, if_neg (by omega)]
    exact ⟨rfl, by omega, h2⟩
  · obtain ⟨b, rfl⟩ : ∃ b, a = -b := ⟨-a, by omega⟩
    have hb : 0 ≤ b := by omega
    have e := Int.tmod_eq_emod_of_nonneg (b := m) hb
    have h1 := Int.emod_nonneg b (Int.ne_of_gt hm)
    have h2 := Int.emod_lt_of_pos b hm
    rw [Int.neg_tmod, e]
    refine ⟨?_, by omega, by omega⟩
    have hd := Int.emod_add_mul_ediv b m
    by_cases h0 : b % m = 0
    · rw [h0, if_neg (by omega)]
      have : m ∣ -b := Int.dvd_neg.2 (Int.dvd_of_emod_eq_zero h0)
      rw [Int.emod_eq_zero_of_dvd this]; rfl
    · rw [if_pos (by omega)]
      have hs : -b = (m - b % m) + m * (-(b / m) - 1) := by
        rw [Int.mul_sub, Int.mul_neg, Int.mul_one]; omega
      rw [hs, Int.add_mul_emod_self_left, Int.emod_eq_of_lt (by omega) (by omega)]
      omega

end Go.Proofs.YtojbicpchjiplaaGreatDoor.S4

/-
  Layer 4: the reference's parts, Mul, MulN.
-/
namespace Go.Proofs.YtojbicpchjiplaaGreatDoor.S4
open Go.RowKit

def hi (a b : Nat) : Nat := a / 2147483648 * (b / 2147483648)
def lo (a b : Nat) : Nat := a % 2147483648 * (b % 2147483648)
end Go.Proofs.YtojbicpchjiplaaGreatDoor.S4

/-
  Layer 4: the reference's Exp.
-/
namespace Go.Proofs.YtojbicpchjiplaaGreatDoor.S4
open Go.RowKit

/-- The exponent: a negative one is replaced by its residue. -/
def expo (e : Int) : Nat := (if e < 0 then e % 2305843009213693950 else e).toNat
/-- What Exp returns. -/
def powP (a e : Int) : Nat := (a % 2305843009213693951).toNat ^ expo e % 2305843009213693951
/-- One round of the loop. -/
theorem exp_step (X B E p : Nat) : (if E % 2 = 1 then X * B % p else X) * (B * B % p) ^ (E / 2) % p = X * B ^ E % p := by
  have h1 : (B * B % p) ^ (E / 2) % p = B ^ (2 * (E / 2)) % p := by
    rw [← Nat.pow_mod, ← Nat.pow_two, ← Nat.pow_mul]
  by_cases h : E % 2 = 1
  · rw [if_pos h, Nat.mul_mod, h1, Nat.mod_mod, ← Nat.mul_mod, Nat.mul_assoc, ← Nat.pow_succ']
    congr 3; omega
  · rw [if_neg h, Nat.mul_mod, h1, ← Nat.mul_mod]
    congr 3; omega

end Go.Proofs.YtojbicpchjiplaaGreatDoor.S4

/-
  Layer 4: the reference's Inv.
-/
namespace Go.Proofs.YtojbicpchjiplaaGreatDoor.S4
open Go.RowKit

end Go.Proofs.YtojbicpchjiplaaGreatDoor.S4
