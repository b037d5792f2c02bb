/-
  Layer 3: the library's RotateLeft32 at a negative number, the program's right and rotations.
-/
import Derived.Test.YtcbhjagcfbinoaaDoorSumRefWords
namespace Go.Proofs.YtcbhjagcfbinoaaDoor.S3
open Go.RowKit Sha

theorem rot_comm (x : BitVec 32) (n : Nat) : bits .or .u32 ((x.toNat : Int) * 2 ^ (32 - n) % 4294967296) ((x.toNat : Int) / 2 ^ n) = ((rot x n).toNat : Nat) := by
  have h1 := shr_nat x n
  have h2 := shl_nat x (32 - n)
  rw [Int.fdiv_eq_ediv_of_nonneg _ (by exact_mod_cast Nat.zero_le (2 ^ n))] at h1
  rw [IntKind.wrap_u32'] at h2
  rw [h1, h2, or_nat, rot, BitVec.or_comm]
theorem neg_and (n : Nat) (h1 : 1 ≤ n) (hn : n < 32) : bits .and .u64 (IntKind.u64.wrap (-(n : Int))) 31 = ((32 - n : Nat) : Int) := by
  have e : IntKind.u64.wrap (-(n : Int)) = ((18446744073709551616 - n : Nat) : Int) := by rw [IntKind.wrap_u64]; omega
  have := u64_and_nat (18446744073709551616 - n) 31 (by omega) (by decide)
  rw [show ((31 : Nat) : Int) = 31 from rfl] at this
  rw [e, this, show (31 : Nat) = 2 ^ 5 - 1 from rfl, Nat.and_two_pow_sub_one_eq_mod]
  omega

set_option maxHeartbeats 1000000 in
theorem rotl_any (x : BitVec 32) (n : Nat) (w : World) (h1 : 1 ≤ n) (hn : n < 32) :
    Calls Tryd.prog 69 #[.int .u32 (x.toNat : Nat), .int .i64 (-(n : Int))] w fun e w' => e = .returned (.int .u32 ((rot x n).toNat : Nat)) ∧ w' = w := by
  have ha := neg_and n h1 hn
  have hr := rot_comm x n
  obtain ⟨m, hm⟩ : ∃ m, m = 32 - n := ⟨_, rfl⟩
  rw [← hm] at ha hr
  have hm1 : (m : Int) < 32 := by omega
  have hm2 : (0 : Int) ≤ m := by omega
  have hm3 : IntKind.u64.wrap (32 - (m : Int)) = (n : Int) := by rw [IntWalk.u64_in _ (by omega)]; omega
  have hn1 : (n : Int) < 32 := by omega
  clear hm
  go_enter Tryd.func69, Tryd.ntmps69
  go_wp2
  go_ret
  exact ⟨rfl, rfl⟩

set_option maxHeartbeats 1000000 in
theorem right_any (x : BitVec 32) (n : Nat) (k : Int) (w : World) (hk : k = (n : Int)) (h1 : 1 ≤ n) (hn : n < 32) :
    Calls Tryd.prog 58 #[.int .u32 (x.toNat : Nat), .int .i64 k] w fun e w' => e = .returned (.int .u32 ((rot x n).toNat : Nat)) ∧ w' = w := by
  subst hk
  have hn1 : (n : Int) < 32 := by omega
  go_enter Tryd.func58, Tryd.ntmps58
  go_wp2_with fail
  refine (rotl_any x n _ h1 hn).mono ?_
  rintro e w1 ⟨rfl, rfl⟩
  go_wp2
  go_ret
  exact ⟨rfl, rfl⟩

set_option maxHeartbeats 2000000 in
theorem rotations_any (x : BitVec 32) (i j k : Nat) (w : World) (hi : 1 ≤ i ∧ i < 32) (hj : 1 ≤ j ∧ j < 32) (hk : 1 ≤ k ∧ k < 32) :
    Calls Tryd.prog 50 #[.int .u32 (x.toNat : Nat), .int .i64 (i : Int), .int .i64 (j : Int), .int .i64 (k : Int)] w fun e w' => e = .returned (.int .u32 ((rot x i ^^^ rot x j ^^^ rot x k).toNat : Nat)) ∧ w' = w := by
  have R1 := Lib.hid fun w => right_any x i i w rfl hi.1 hi.2
  have R2 := Lib.hid fun w => right_any x j j w rfl hj.1 hj.2
  have R3 := Lib.hid fun w => right_any x k k w rfl hk.1 hk.2
  have e1 := xor_nat (rot x i) (rot x j)
  have e2 := xor_nat (rot x i ^^^ rot x j) (rot x k)
  obtain ⟨a, ha⟩ : ∃ a, a = rot x i := ⟨_, rfl⟩
  obtain ⟨b, hb⟩ : ∃ b, b = rot x j := ⟨_, rfl⟩
  obtain ⟨c, hc⟩ : ∃ c, c = rot x k := ⟨_, rfl⟩
  rw [← ha] at R1 e1 e2 ⊢
  rw [← hb] at R2 e1 e2 ⊢
  rw [← hc] at R3 e2 ⊢
  obtain ⟨d, hd⟩ : ∃ d, d = a ^^^ b := ⟨_, rfl⟩
  rw [← hd] at e1 e2 ⊢
  obtain ⟨z, hz⟩ : ∃ z, z = d ^^^ c := ⟨_, rfl⟩
  rw [← hz] at e2 ⊢
  clear ha hb hc hd hz
  go_enter Tryd.func50, Tryd.ntmps50
  go_wp2_with fail
  refine (R1.out _).mono ?_
  rintro e w1 ⟨rfl, rfl⟩
  go_wp2_with fail
  refine (R2.out _).mono ?_
  rintro e w1 ⟨rfl, rfl⟩
  go_wp2_with fail
  refine (R3.out _).mono ?_
  rintro e w1 ⟨rfl, rfl⟩
  go_wp2
  go_ret
  exact ⟨rfl, rfl⟩
end Go.Proofs.YtcbhjagcfbinoaaDoor.S3
