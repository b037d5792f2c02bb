/-
  Layer 3: the program's Crc.
-/
import Derived.Test.YtihanhdepijijaaSumRefCrc
namespace Go.Proofs.Ytihanhdepijijaa.S3
open Go.RowKit
attribute [local go_sem] B_size B_drop' B_take B_list B_app

theorem and_one {x : Nat} (h : x < 4294967296) : bits .and .u32 (x : Int) 1 = ((x % 2 : Nat) : Int) := by
  have := u32_and_nat x 1 h (by decide)
  rw [show ((1 : Nat) : Int) = 1 from rfl] at this
  rw [this, Nat.and_one_is_mod]
theorem neg_one' : IntKind.u32.wrap (-1) = 4294967295 := by decide
theorem and_all : bits .and .u32 2197175160 4294967295 = 2197175160 := by decide +kernel
theorem and_none : bits .and .u32 2197175160 0 = 0 := by decide +kernel
theorem xor_none {x : Nat} (h : x < 4294967296) : bits .xor .u32 (x : Int) 0 = (x : Int) := by
  have := u32_xor_nat x 0 h (by decide)
  rw [show ((0 : Nat) : Int) = 0 from rfl] at this
  rw [this, Nat.xor_zero]
theorem not_u32 (c : BitVec 32) : bits .xor .u32 IntKind.u32.max (c.toNat : Int) = ((~~~c).toNat : Nat) := by
  have := u32_xor_nat 4294967295 c.toNat (by decide) c.isLt
  rw [show IntKind.u32.max = ((4294967295 : Nat) : Int) by decide, this, ← BitVec.allOnes_xor, BitVec.toNat_xor]
  rfl

set_option maxHeartbeats 1000000 in
set_option maxRecDepth 100000 in
theorem crc_any (l : List UInt8) (w : World) (hl : l.length ≤ 281474976710656) :
    Calls Try.prog 60 #[.string (B l)] w fun e w' => e = .returned (.int .u32 ((Crc.crc l).toNat : Nat)) ∧ w = w' := by
  have hl3 : (l.length : Int) ≤ 281474976710656 := by omega
  go_enter Try.func60, Try.ntmps60
  go_wp2_with fail
  go_loop [3, 7] (fun c i => ∃ k : Nat, i = .int .i64 (k : Int) ∧ k ≤ l.length ∧ c = .int .u32 ((Crc.reg 0xffffffff#32 (l.take k)).toNat : Nat)) (fun _ i => l.length - (intOf i).toNat)
  case atStart => exact ⟨0, rfl, by omega, rfl⟩
  case round =>
    obtain ⟨k, rfl, hk, rfl⟩ := hrel
    by_cases hc : k < l.length
    · have hc4 : (k : Int) < l.length := by omega
      have hr := reg_succ 0xffffffff#32 l k hc
      obtain ⟨c0, hc0⟩ : ∃ c0, c0 = Crc.reg 0xffffffff#32 (l.take k) := ⟨_, rfl⟩
      rw [← hc0] at hr ⊢
      obtain ⟨b, hb⟩ : ∃ b : Nat, b = l[k].toNat := ⟨_, rfl⟩
      have hb2 := l[k].toNat_lt
      rw [← hb] at hb2
      have hg : ∀ h, ((B l)[k]'h).toNat = b := fun h => hb.symm
      have hx : bits .xor .u32 (c0.toNat : Int) (b : Int) = ((c0 ^^^ l[k].toBitVec.setWidth 32).toNat : Nat) := by
        rw [u32_xor_nat _ _ c0.isLt (by omega), csb_nat, hb]
      obtain ⟨d, hd⟩ : ∃ d, d = c0 ^^^ l[k].toBitVec.setWidth 32 := ⟨_, rfl⟩
      have hr2 : Crc.reg 0xffffffff#32 (l.take (k + 1)) = Crc.csn 8 d := by rw [hr, hd]; rfl
      rw [← hd] at hx
      have HR := Lib.hid hr2
      have hw : IntKind.u32.wrap (b : Int) = (b : Int) := IntWalk.u32_in _ (by omega)
      clear hr2 hr hd hb hc0
      go_wp2
      go_loop [3, 16] (fun c m => ∃ j : Nat, m = .int .i64 (j : Int) ∧ j ≤ 8 ∧ c = .int .u32 ((Crc.csn j d).toNat : Nat)) (fun _ m => 8 - (intOf m).toNat)
      case atStart => exact ⟨0, rfl, by omega, rfl⟩
      case round =>
        obtain ⟨j, rfl, hj, rfl⟩ := hrel
        by_cases hj8 : j < 8
        · have hj4 : (j : Int) < 8 := by omega
          have hs := csn_succ j d
          obtain ⟨y, hy⟩ : ∃ y, y = Crc.csn j d := ⟨_, rfl⟩
          rw [← hy] at hs ⊢
          have hlt := y.isLt
          obtain ⟨x, hx2⟩ : ∃ x, y.toNat = x := ⟨_, rfl⟩
          rw [hx2] at hlt ⊢
          have hx3 : (x : Int) ≤ 4294967295 := by omega
          have ew : IntKind.u32.wrap ((x : Int) / 2) = (x : Int) / 2 := IntWalk.u32_in _ (by omega)
          have ha := and_one hlt
          have HS := Lib.hid hs
          by_cases ho : x % 2 = 1
          · rw [ho] at ha
            have ha2 : bits .and .u32 (x : Int) 1 = 1 := ha
            have n1 := neg_one'
            have n2 := and_all
            have hodd := crc_odd hx2 ho
            clear hs hy hx2 ho ha
            go_wp2
            go_round
            case rel => exact ⟨j + 1, by go_num, by omega, by rw [HS.out]⟩
            case measure => simp [intOf]; omega
          · rw [show x % 2 = 0 by omega] at ha
            have ha2 : bits .and .u32 (x : Int) 1 = 0 := ha
            have n2 := and_none
            have n3 : bits .xor .u32 ((x : Int) / 2) 0 = (x : Int) / 2 := by
              have := xor_none (x := x / 2) (by omega)
              rwa [show ((x / 2 : Nat) : Int) = (x : Int) / 2 by omega] at this
            have heven := Lib.hid (crc_even hx2 ho)
            clear hs hy hx2 ho ha
            go_wp2
            go_round
            case rel => exact ⟨j + 1, by go_num, by omega, by rw [HS.out, heven.out]⟩
            case measure => simp [intOf]; omega
        · have hj4 : ¬ (j : Int) < 8 := by omega
          have hj8 : j = 8 := by omega
          subst hj8
          go_wp2
          go_round
          case rel => exact ⟨k + 1, by go_num, by omega, by rw [HR.out]⟩
          case measure => simp [intOf]; omega
    · have hkl : k = l.length := by omega
      have hc4 : ¬ (k : Int) < l.length := by omega
      subst hkl
      go_wp2
      go_ret
      refine ⟨?_, rfl⟩
      rw [Crc.crc, ← not_u32]
      rfl
end Go.Proofs.Ytihanhdepijijaa.S3
