/-
  Layer 3: SumDetects' walk.
-/
import Derived.Test.YtfldbgfeldhboaaDoorSumSmall
import Derived.Test.YtfldbgfeldhboaaDoorSumLaid
import Derived.Test.YtfldbgfeldhboaaDoorSumFlip
namespace Go.Proofs.YtfldbgfeldhboaaDoor
open Go.RowKit
attribute [local go_sem] B_size B_drop' B_take B_list B_app

set_option maxHeartbeats 2000000 in
set_option maxRecDepth 100000 in
theorem detects_walk (s : List UInt8) (a : Int) (p : BitVec 32) (w : World) (hs : s.length ≤ 281474976710656) (hW : Laid w) :
    Calls Tryd.prog 5 #[.string (B s), .int .i64 a, .int .u32 (p.toNat : Nat)] w fun e w' => e = .returned (.bool true) ∧ Good w w' := by
  have hs3 : (s.length : Int) ≤ 281474976710656 := by omega
  go_enter Tryd.func5, Tryd.ntmps5
  go_wp2_with fail
  refine (small_any w _ hW (Below.refl _ _)).mono ?_
  rintro e w1 ⟨rfl, hbb⟩
  by_cases h4 : (4000 : Int) < s.length
  · go_wp2
    go_ret
    exact ⟨rfl, Good.of hbb⟩
  by_cases h5 : a < -32
  · go_wp2
    go_ret
    exact ⟨rfl, Good.of hbb⟩
  by_cases h6 : 32000 < a
  · go_wp2
    go_ret
    exact ⟨rfl, Good.of hbb⟩
  have B1 := Lib.hid hbb
  clear hbb
  go_wp2_with fail
  refine (flip_any s a p _ (by omega) (by omega)).mono ?_
  rintro e w2 ⟨t, did, rfl, hf, b⟩
  have B2 := Lib.hid (stepB B1.out b)
  have hlen := hf.len
  have hcr := flip_crc hf
  clear b B1 hf
  have k1 : ∀ w, Calls Tryd.prog 12 #[.string (B s)] w fun e w' => e = .returned (.int .u32 ((Crc.crc s).toNat : Nat)) ∧ w = w' := fun w => crc_any s w (by omega)
  have k2 : ∀ w, Calls Tryd.prog 12 #[.string (B t)] w fun e w' => e = .returned (.int .u32 ((Crc.crc t).toNat : Nat)) ∧ w = w' := fun w => crc_any t w (by omega)
  obtain ⟨x, hx⟩ : ∃ x, x = Crc.crc s := ⟨_, rfl⟩
  obtain ⟨y, hy⟩ : ∃ x, x = Crc.crc t := ⟨_, rfl⟩
  rw [← hx] at k1 hcr
  rw [← hy] at k2 hcr
  have hxy : (x ≠ y) ↔ ¬ (x.toNat : Int) = (y.toNat : Int) := by
    constructor
    · intro h e
      exact h (BitVec.eq_of_toNat_eq (by omega))
    · intro h e
      exact h (by rw [e])
  rw [hxy] at hcr
  have K1 := Lib.hid k1
  have K2 := Lib.hid k2
  clear hx hy hxy k1 k2 hlen
  cases did with
  | true =>
    have hne := hcr.2 rfl
    clear hcr
    go_wp2_with fail
    refine (K1.out _).mono ?_
    rintro e w3 ⟨rfl, rfl⟩
    go_wp2_with fail
    refine (K2.out _).mono ?_
    rintro e w3 ⟨rfl, rfl⟩
    go_wp2
    go_ret
    exact ⟨congrArg (fun b => Ending.returned (.bool b)) (bne_iff_ne.2 hne), Good.of B2.out⟩
  | false =>
    have heq : (x.toNat : Int) = (y.toNat : Int) := Classical.byContradiction fun h => by cases hcr.1 h
    have heqn : x.toNat = y.toNat := by omega
    rw [heqn] at K1
    clear hcr heq heqn
    go_wp2_with fail
    refine (K1.out _).mono ?_
    rintro e w3 ⟨rfl, rfl⟩
    go_wp2_with fail
    refine (K2.out _).mono ?_
    rintro e w3 ⟨rfl, rfl⟩
    go_wp2
    go_ret
    exact ⟨rfl, Good.of B2.out⟩

def isI64 (n : Int) : Prop := -9223372036854775808 ≤ n ∧ n ≤ 9223372036854775807
theorem sumDetects_walk (s : ByteArray) (a x : Int) (w : World) (hW : Laid w) (hs : s.size ≤ 281474976710656) (_ : isI64 a) (hx : 0 ≤ x ∧ x ≤ 4294967295) :
    Calls Tryd.prog 5 #[.string s, .int .i64 a, .int .u32 x] w fun e w' => e = .returned (.bool true) ∧ Good w w' := by
  obtain ⟨n, rfl⟩ : ∃ n : Nat, x = (n : Int) := ⟨x.toNat, by omega⟩
  have e : ((BitVec.ofNat 32 n).toNat : Nat) = n := by rw [BitVec.toNat_ofNat]; omega
  have := detects_walk s.data.toList a (BitVec.ofNat 32 n) w hs hW
  rw [e] at this
  exact this
end Go.Proofs.YtfldbgfeldhboaaDoor
