/-
  Layer 3: the law's own 'small'.
-/
import Derived.Test.YtfldbgfeldhboaaDoorSumShaAny
import Derived.Test.YtfldbgfeldhboaaDoorSumCrcAny
import Derived.Test.YtfldbgfeldhboaaDoorSumHexAny
import Derived.Test.YtfldbgfeldhboaaDoorSumUnAny
import Derived.Test.YtfldbgfeldhboaaDoorSumNumAny
namespace Go.Proofs.YtfldbgfeldhboaaDoor
open Go.RowKit Sha
attribute [local go_sem] B_size B_drop' B_take B_list B_app
set_option maxRecDepth 100000 in
theorem eSha : sha [97, 98, 99] = [0xba,0x78,0x16,0xbf,0x8f,0x01,0xcf,0xea,0x41,0x41,0x40,0xde,0x5d,0xae,0x22,0x23,0xb0,0x03,0x61,0xa3,0x96,0x17,0x7a,0x9c,0xb4,0x10,0xff,0x61,0xf2,0x00,0x15,0xad] := by decide +kernel

/-- A digest's digits. -/
theorem eHexSha : hex [0xba,0x78,0x16,0xbf,0x8f,0x01,0xcf,0xea,0x41,0x41,0x40,0xde,0x5d,0xae,0x22,0x23,0xb0,0x03,0x61,0xa3,0x96,0x17,0x7a,0x9c,0xb4,0x10,0xff,0x61,0xf2,0x00,0x15,0xad] = [98, 97, 55, 56, 49, 54, 98, 102, 56, 102, 48, 49, 99, 102, 101, 97, 52, 49, 52, 49, 52, 48, 100, 101, 53, 100, 97, 101, 50, 50, 50, 51, 98, 48, 48, 51, 54, 49, 97, 51, 57, 54, 49, 55, 55, 97, 57, 99, 98, 52, 49, 48, 102, 102, 54, 49, 102, 50, 48, 48, 49, 53, 97, 100] := by decide +kernel
theorem eHexAz : hex [97, 122] = [54, 49, 55, 97] := by decide +kernel
theorem eUn1 : unhex [54, 49, 55, 97] = some [97, 122] := by decide +kernel
theorem eUn2 : unhex [54, 49, 55, 65] = none := by decide +kernel
theorem eUn3 : unhex [54, 49, 55] = none := by decide +kernel
theorem eCrc1 : ((Crc.crc [49, 50, 51, 52, 53, 54, 55, 56, 57]).toNat : Nat) = 3808858755 := by decide +kernel
theorem eCrc0 : ((Crc.crc []).toNat : Nat) = 0 := by decide +kernel
theorem eNum1 : num [255, 255, 255, 255, 255, 255, 255, 255] = 2305843009213693951 := by decide +kernel
theorem eNum2 : num [128] = 1152921504606846976 := by decide +kernel
theorem eNum3 : num [] = 0 := by decide +kernel
/-- What a call leaves, over worlds that have grown. -/
theorem stepB {W w w' : World} (h : Below W.heap.size W w) (b : Below w.heap.size w w') : Below W.heap.size W w' := h.trans (b.mono h.size)

set_option maxHeartbeats 4000000 in
set_option maxRecDepth 100000 in
theorem small_any (W w : World) (hW : Laid W) (hbel : Below W.heap.size W w) : Calls Tryd.prog 9 #[] w fun e w' => e = .returned (.bool true) ∧ Below W.heap.size W w' := by
  have k1 : ∀ w, Calls Tryd.prog 10 #[.string ⟨#[54, 49, 55, 97]⟩] w fun e w' => e = .returned (.tuple #[.string ⟨#[97, 122]⟩, .bool true]) ∧ Below w.heap.size w w' := fun w => by
    have := unhex_any [54, 49, 55, 97] w (by decide); rw [eUn1] at this; exact this
  have k2 : ∀ w, Calls Tryd.prog 10 #[.string ⟨#[54, 49, 55, 65]⟩] w fun e w' => e = .returned (.tuple #[.string ⟨#[]⟩, .bool false]) ∧ Below w.heap.size w w' := fun w => by
    have := unhex_any [54, 49, 55, 65] w (by decide); rw [eUn2] at this; exact this
  have k3 : ∀ w, Calls Tryd.prog 10 #[.string ⟨#[54, 49, 55]⟩] w fun e w' => e = .returned (.tuple #[.string ⟨#[]⟩, .bool false]) ∧ Below w.heap.size w w' := fun w => by
    have := unhex_any [54, 49, 55] w (by decide); rw [eUn3] at this; exact this
  have k4 : ∀ w, Calls Tryd.prog 12 #[.string ⟨#[49, 50, 51, 52, 53, 54, 55, 56, 57]⟩] w fun e w' => e = .returned (.int .u32 3808858755) ∧ w = w' := fun w => by
    have := crc_any [49, 50, 51, 52, 53, 54, 55, 56, 57] w (by decide); rw [eCrc1] at this; exact this
  have k5 : ∀ w, Calls Tryd.prog 12 #[.string ⟨#[]⟩] w fun e w' => e = .returned (.int .u32 0) ∧ w = w' := fun w => by
    have := crc_any [] w (by decide); rw [eCrc0] at this; exact this
  have k6 : ∀ w, Below W.heap.size W w → Calls Tryd.prog 14 #[.string ⟨#[97, 98, 99]⟩] w fun e w' => e = .returned (.string ⟨#[186, 120, 22, 191, 143, 1, 207, 234, 65, 65, 64, 222, 93, 174, 34, 35, 176, 3, 97, 163, 150, 23, 122, 156, 180, 16, 255, 97, 242, 0, 21, 173]⟩) ∧ Below W.heap.size W w' := fun w hb => by
    have := sha_any W w [97, 98, 99] (by decide) hW hb; rw [eSha] at this; exact this
  have k7 : ∀ w, Calls Tryd.prog 16 #[.string ⟨#[186, 120, 22, 191, 143, 1, 207, 234, 65, 65, 64, 222, 93, 174, 34, 35, 176, 3, 97, 163, 150, 23, 122, 156, 180, 16, 255, 97, 242, 0, 21, 173]⟩] w fun e w' => e = .returned (.string ⟨#[98, 97, 55, 56, 49, 54, 98, 102, 56, 102, 48, 49, 99, 102, 101, 97, 52, 49, 52, 49, 52, 48, 100, 101, 53, 100, 97, 101, 50, 50, 50, 51, 98, 48, 48, 51, 54, 49, 97, 51, 57, 54, 49, 55, 55, 97, 57, 99, 98, 52, 49, 48, 102, 102, 54, 49, 102, 50, 48, 48, 49, 53, 97, 100]⟩) ∧ Below w.heap.size w w' := fun w => by
    have := hex_any [186, 120, 22, 191, 143, 1, 207, 234, 65, 65, 64, 222, 93, 174, 34, 35, 176, 3, 97, 163, 150, 23, 122, 156, 180, 16, 255, 97, 242, 0, 21, 173] w (by decide); rw [eHexSha] at this; exact this
  have k8 : ∀ w, Calls Tryd.prog 16 #[.string ⟨#[97, 122]⟩] w fun e w' => e = .returned (.string ⟨#[54, 49, 55, 97]⟩) ∧ Below w.heap.size w w' := fun w => by
    have := hex_any [97, 122] w (by decide); rw [eHexAz] at this; exact this
  have k9 : ∀ w, Calls Tryd.prog 18 #[.string ⟨#[255, 255, 255, 255, 255, 255, 255, 255]⟩] w fun e w' => e = .returned (.int .i64 2305843009213693951) ∧ w = w' := fun w => by
    have := num_any [255, 255, 255, 255, 255, 255, 255, 255] w (by decide); rw [eNum1] at this; exact this
  have k10 : ∀ w, Calls Tryd.prog 18 #[.string ⟨#[128]⟩] w fun e w' => e = .returned (.int .i64 1152921504606846976) ∧ w = w' := fun w => by
    have := num_any [128] w (by decide); rw [eNum2] at this; exact this
  have k11 : ∀ w, Calls Tryd.prog 18 #[.string ⟨#[]⟩] w fun e w' => e = .returned (.int .i64 0) ∧ w = w' := fun w => by
    have := num_any [] w (by decide); rw [eNum3] at this; exact this
  have K1 := Lib.hid k1
  have K2 := Lib.hid k2
  have K3 := Lib.hid k3
  have K4 := Lib.hid k4
  have K5 := Lib.hid k5
  have K6 := Lib.hid k6
  have K7 := Lib.hid k7
  have K8 := Lib.hid k8
  have K9 := Lib.hid k9
  have K10 := Lib.hid k10
  have K11 := Lib.hid k11
  clear k1 k2 k3 k4 k5 k6 k7 k8 k9 k10 k11
  have B0 := Lib.hid hbel
  clear hbel
  go_enter Tryd.func9, Tryd.ntmps9
  go_wp2_with fail
  refine (K1.out _).mono ?_
  rintro e w1 ⟨rfl, hb⟩
  have B1 := Lib.hid (stepB B0.out hb)
  clear hb B0
  go_wp2_with fail
  refine (K2.out _).mono ?_
  rintro e w2 ⟨rfl, hb⟩
  have B2 := Lib.hid (stepB B1.out hb)
  clear hb B1
  go_wp2_with fail
  refine (K3.out _).mono ?_
  rintro e w3 ⟨rfl, hb⟩
  have B3 := Lib.hid (stepB B2.out hb)
  clear hb B2
  go_wp2_with fail
  refine (K4.out _).mono ?_
  rintro e w4 ⟨rfl, rfl⟩
  go_wp2_with fail
  refine (K5.out _).mono ?_
  rintro e w5 ⟨rfl, rfl⟩
  go_wp2_with fail
  refine (K6.out _ B3.out).mono ?_
  rintro e w6 ⟨rfl, hb⟩
  have B4 := Lib.hid hb
  clear hb B3
  go_wp2_with fail
  refine (K7.out _).mono ?_
  rintro e w7 ⟨rfl, hb⟩
  have B5 := Lib.hid (stepB B4.out hb)
  clear hb B4
  go_wp2_with fail
  refine (K8.out _).mono ?_
  rintro e w8 ⟨rfl, hb⟩
  have B6 := Lib.hid (stepB B5.out hb)
  clear hb B5
  go_wp2_with fail
  refine (K9.out _).mono ?_
  rintro e w9 ⟨rfl, rfl⟩
  go_wp2_with fail
  refine (K10.out _).mono ?_
  rintro e w10 ⟨rfl, rfl⟩
  go_wp2_with fail
  refine (K11.out _).mono ?_
  rintro e w11 ⟨rfl, rfl⟩
  go_wp2_with fail
  go_ret
  exact ⟨rfl, B6.out⟩
end Go.Proofs.YtfldbgfeldhboaaDoor
