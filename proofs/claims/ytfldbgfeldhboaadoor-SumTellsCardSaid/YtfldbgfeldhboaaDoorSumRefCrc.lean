/-
  Layer 3: the document's own Crc (agoraref03).
-/
import Derived.Test.YtfldbgfeldhboaaDoorSumBase
namespace Go.Proofs.YtfldbgfeldhboaaDoor
open Go.RowKit
attribute [local go_sem] B_size B_drop' B_take B_list B_app

theorem crc_odd {c : BitVec 32} {x : Nat} (hx : c.toNat = x) (ho : x % 2 = 1) : bits .xor .u32 ((x : Int) / 2) 2197175160 = ((Crc.cs1 c).toNat : Nat) := by
  have h := c.isLt
  have e := u32_xor_nat (x / 2) 2197175160 (by omega) (by decide)
  have e2 : ((x / 2 : Nat) : Int) = (x : Int) / 2 := by omega
  rw [cs1_nat, hx, if_pos ho, ← e2]
  exact e
theorem crc_not (c : BitVec 32) : (((~~~c).toNat : Nat) : Int) = 4294967295 - (c.toNat : Int) := by
  have h := c.isLt
  rw [BitVec.toNat_not]
  omega
theorem crc_even {c : BitVec 32} {x : Nat} (hx : c.toNat = x) (ho : x % 2 ≠ 1) : (x : Int) / 2 = ((Crc.cs1 c).toNat : Nat) := by
  rw [cs1_nat, hx, if_neg ho]
  omega

set_option maxHeartbeats 1000000 in
set_option maxRecDepth 100000 in
theorem refCrc_any (l : List UInt8) (w : World) (hl : l.length ≤ 1099511627776) :
    Calls Tryd.prog 13 #[.string (B l)] w fun e w' => e = .returned (.int .u32 ((Crc.crc l).toNat : Nat)) ∧ w = w' := by
  have hl3 : (l.length : Int) ≤ 1099511627776 := by omega
  go_enter Tryd.func13, Tryd.ntmps13
  go_wp2_with fail
  go_loop [3, 4] (fun c i => ∃ k : Nat, i = .int .i64 (k : Int) ∧ k ≤ l.length ∧ c = .int .u32 ((Crc.reg 0xffffffff#32 (l.take k)).toNat : Nat)) (fun _ i => l.length - (intOf i).toNat)
  case atStart => exact ⟨0, rfl, by omega, rfl⟩
  case round =>
    obtain ⟨k, rfl, hk, rfl⟩ := hrel
    by_cases hc : k < l.length
    · have hc4 : (k : Int) < l.length := by omega
      have hr := reg_succ 0xffffffff#32 l k hc
      obtain ⟨c0, hc0⟩ : ∃ c0, c0 = Crc.reg 0xffffffff#32 (l.take k) := ⟨_, rfl⟩
      rw [← hc0] at hr ⊢
      obtain ⟨b, hb⟩ : ∃ b : Nat, b = l[k].toNat := ⟨_, rfl⟩
      have hb2 := l[k].toNat_lt
      rw [← hb] at hb2
      have hg : ∀ h, ((B l)[k]'h).toNat = b := fun h => hb.symm
      have hx : bits .xor .u32 (c0.toNat : Int) (b : Int) = ((c0 ^^^ l[k].toBitVec.setWidth 32).toNat : Nat) := by
        rw [u32_xor_nat _ _ c0.isLt (by omega), csb_nat, hb]
      obtain ⟨d, hd⟩ : ∃ d, d = c0 ^^^ l[k].toBitVec.setWidth 32 := ⟨_, rfl⟩
      have hr2 : Crc.reg 0xffffffff#32 (l.take (k + 1)) = Crc.csn 8 d := by rw [hr, hd]; rfl
      rw [← hd] at hx
      have HR := Lib.hid hr2
      have hw : IntKind.u32.wrap (b : Int) = (b : Int) := IntWalk.u32_in _ (by omega)
      clear hr2 hr hd hb hc0
      go_wp2
      go_loop [3, 5] (fun c m => ∃ j : Nat, m = .int .i64 (j : Int) ∧ j ≤ 8 ∧ c = .int .u32 ((Crc.csn j d).toNat : Nat)) (fun _ m => 8 - (intOf m).toNat)
      case atStart => exact ⟨0, rfl, by omega, rfl⟩
      case round =>
        obtain ⟨j, rfl, hj, rfl⟩ := hrel
        by_cases hj8 : j < 8
        · have hj4 : (j : Int) < 8 := by omega
          have hs := csn_succ j d
          obtain ⟨y, hy⟩ : ∃ y, y = Crc.csn j d := ⟨_, rfl⟩
          rw [← hy] at hs ⊢
          have hlt := y.isLt
          obtain ⟨x, hx2⟩ : ∃ x, y.toNat = x := ⟨_, rfl⟩
          rw [hx2] at hlt ⊢
          have hx3 : (x : Int) ≤ 4294967295 := by omega
          have ew : IntKind.u32.wrap ((x : Int) / 2) = (x : Int) / 2 := IntWalk.u32_in _ (by omega)
          have HS := Lib.hid hs
          by_cases ho : x % 2 = 1
          · have ho2 : (x : Int).tmod 2 = 1 := by rw [Int.tmod_eq_emod_of_nonneg (by omega)]; omega
            have hodd := crc_odd hx2 ho
            clear hs hy hx2 ho
            go_wp2
            go_round
            case rel => exact ⟨j + 1, by go_num, by omega, by rw [HS.out]⟩
            case measure => simp [intOf]; omega
          · have ho2 : (x : Int).tmod 2 = 0 := by rw [Int.tmod_eq_emod_of_nonneg (by omega)]; omega
            have heven := Lib.hid (crc_even hx2 ho)
            clear hs hy hx2 ho
            go_wp2
            go_round
            case rel => exact ⟨j + 1, by go_num, by omega, by rw [HS.out, heven.out]⟩
            case measure => simp [intOf]; omega
        · have hj4 : ¬ (j : Int) < 8 := by omega
          have hj8 : j = 8 := by omega
          subst hj8
          go_wp2
          go_round
          case rel => exact ⟨k + 1, by go_num, by omega, by rw [HR.out]⟩
          case measure => simp [intOf]; omega
    · have hkl : k = l.length := by omega
      have hc4 : ¬ (k : Int) < l.length := by omega
      go_wp2
      go_ret
      refine ⟨?_, rfl⟩
      show Ending.returned (.int .u32 (4294967295 - ((Crc.reg 0xffffffff#32 l).toNat : Int))) = _
      rw [Crc.crc, crc_not]
end Go.Proofs.YtfldbgfeldhboaaDoor
