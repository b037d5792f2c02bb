/-
  SumRefNum, SumNumAny: joined.
-/
import Derived.Test.YtojbicpchjiplaaGreatDoorSumMem
/-
  Layer 3: the document's own Num (agoraref03).
-/
namespace Go.Proofs.YtojbicpchjiplaaGreatDoor.S3
open Go.RowKit
attribute [local go_sem] B_size B_drop' B_take B_list B_app

/-- The number whose digits to the base 256 are the first k bytes; bytes that lack are zeros. -/
def pre (l : List UInt8) : Nat → Nat
  | 0 => 0
  | k + 1 => 256 * pre l k + (l.getD k 0).toNat
theorem pre_lt (l : List UInt8) (k : Nat) : pre l k < 256 ^ k := by
  induction k with
  | zero => simp [pre]
  | succ k ih =>
    have := (l.getD k 0).toNat_lt
    rw [pre, Nat.pow_succ]
    omega
/-- What Num returns. -/
def num (l : List UInt8) : Nat := pre l 8 / 8
end Go.Proofs.YtojbicpchjiplaaGreatDoor.S3

/-
  Layer 3: the program's Num.
-/
namespace Go.Proofs.YtojbicpchjiplaaGreatDoor.S3
open Go.RowKit
attribute [local go_sem] B_size B_drop' B_take B_list B_app

theorem or_low {x b : Nat} (hx : x < 256 ^ 7) (hb : b < 256) : bits .or .u64 (256 * (x : Int)) (b : Int) = ((256 * x + b : Nat) : Int) := by
  have := u64_or_nat (256 * x) b (by omega) (by omega)
  rw [show ((256 * x : Nat) : Int) = 256 * (x : Int) by omega] at this
  rw [this]
  congr 1
  rw [show 256 * x = x <<< 8 by rw [Nat.shiftLeft_eq]; omega, ← Nat.shiftLeft_add_eq_or_of_lt (by omega : b < 2 ^ 8)]

set_option maxHeartbeats 1000000 in
set_option maxRecDepth 100000 in
theorem num_any (l : List UInt8) (w : World) (hl : l.length ≤ 281474976710656) :
    Calls Tryz.prog 135 #[.string (B l)] w fun e w' => e = .returned (.int .i64 (num l : Nat)) ∧ w = w' := by
  have hl3 : (l.length : Int) ≤ 281474976710656 := by omega
  go_enter Tryz.func135, Tryz.ntmps135
  go_wp2_with fail
  go_loop [3, 5] (fun n i => ∃ k : Nat, i = .int .i64 (k : Int) ∧ k ≤ 8 ∧ n = .int .u64 (pre l k : Nat)) (fun _ i => 8 - (intOf i).toNat)
  case atStart => exact ⟨0, rfl, by omega, rfl⟩
  case round =>
    obtain ⟨k, rfl, hk, rfl⟩ := hrel
    have hp := pre_lt l k
    by_cases h8 : k < 8
    · have h8' : (k : Int) < 8 := by omega
      obtain ⟨b, hb⟩ : ∃ b : Nat, b = (l.getD k 0).toNat := ⟨_, rfl⟩
      have hb2 := (l.getD k 0).toNat_lt
      rw [← hb] at hb2
      have hw : IntKind.u64.wrap (b : Int) = (b : Int) := IntWalk.u64_in _ (by omega)
      have hp2 : pre l k < 256 ^ 7 := Nat.lt_of_lt_of_le hp (Nat.pow_le_pow_right (by omega) (by omega))
      have e1 : pre l (k + 1) = 256 * pre l k + b := by rw [pre, hb]
      obtain ⟨x, hx⟩ : ∃ x, x = pre l k := ⟨_, rfl⟩
      rw [← hx] at hp2 e1 ⊢
      have hx3 : (x : Int) ≤ 72057594037927935 := by omega
      have E := Lib.hid e1
      have hb3 : (b : Int) ≤ 255 := by omega
      have ho := or_low hp2 hb2
      have hsh : IntKind.u64.wrap ((x : Int) * 256) = 256 * (x : Int) := by rw [IntWalk.u64_in _ (by omega)]; omega
      by_cases hc : k < l.length
      · have hc' : (k : Int) < l.length := by omega
        have hg : ∀ h, ((B l)[k]'h).toNat = b := fun h => by rw [hb, List.getD_eq_getElem?_getD, List.getElem?_eq_getElem hc]; rfl
        clear hx hp hp2 e1 hb hb2
        go_wp2
        go_round
        case rel => exact ⟨k + 1, by go_num, by omega, by rw [E.out]; go_num⟩
        case measure => simp [intOf]; omega
      · have hc' : (l.length : Int) ≤ k := by omega
        have hb0 : b = 0 := by rw [hb, List.getD_eq_getElem?_getD, List.getElem?_eq_none (by omega)]; rfl
        subst hb0
        clear hx hp hp2 e1 hb hb2
        go_wp2
        go_round
        case rel => exact ⟨k + 1, by go_num, by omega, by rw [E.out]; go_num⟩
        case measure => simp [intOf]; omega
    · have h8' : k = 8 := by omega
      subst h8'
      have e0 : num l = pre l 8 / 8 := rfl
      obtain ⟨x, hx⟩ : ∃ x, x = pre l 8 := ⟨_, rfl⟩
      rw [← hx] at hp e0 ⊢
      have hx3 : (x : Int) < 18446744073709551616 := by omega
      have hw : IntKind.i64.wrap ((x : Int) / 8) = (x : Int) / 8 := IntWalk.i64_in _ (by omega)
      have E := Lib.hid e0
      clear e0 hp hx
      go_wp2
      go_ret
      refine ⟨?_, rfl⟩
      show Ending.returned (.int .i64 ((x : Int) / 8)) = _
      rw [E.out]
      go_num
end Go.Proofs.YtojbicpchjiplaaGreatDoor.S3
