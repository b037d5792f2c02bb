/-
  Layer 3: SumTells' walk, given the reference's Sha.
-/
import Derived.Test.YtfldbgfeldhboaaDoorSumSmall
import Derived.Test.YtfldbgfeldhboaaDoorSumLaid
import Derived.Test.YtfldbgfeldhboaaDoorSumRefUn
import Derived.Test.YtfldbgfeldhboaaDoorSumRefHex
import Derived.Test.YtfldbgfeldhboaaDoorSumRefNum
import Derived.Test.YtfldbgfeldhboaaDoorSumRefCrc
namespace Go.Proofs.YtfldbgfeldhboaaDoor
open Go.RowKit
attribute [local go_sem] B_size B_drop' B_take B_list B_app

set_option maxHeartbeats 4000000 in
set_option maxRecDepth 100000 in
theorem tells_walk (l : List UInt8) (w : World) (hl : l.length ≤ 281474976710656) (hW : Laid w)
    (hsha : l.length ≤ 4000 → ∀ w, Calls Tryd.prog 15 #[.string (B l)] w fun e w' => e = .returned (.string (B (Sha.sha l))) ∧ Below w.heap.size w w') :
    Calls Tryd.prog 3 #[.string (B l)] w fun e w' => e = .returned (.bool true) ∧ Good w w' := by
  have hl3 : (l.length : Int) ≤ 281474976710656 := by omega
  go_enter Tryd.func3, Tryd.ntmps3
  go_wp2_with fail
  refine (small_any w _ hW (Below.refl _ _)).mono ?_
  rintro e w1 ⟨rfl, hbb⟩
  by_cases h4 : (2000 : Int) < l.length
  · go_wp2
    go_ret
    exact ⟨rfl, Good.of hbb⟩
  have B1 := Lib.hid hbb
  have hl4 : l.length ≤ 2000 := by omega
  clear hbb
  obtain ⟨u1, hu1⟩ : ∃ x, x = (unhex l).getD [] := ⟨_, rfl⟩
  obtain ⟨u2, hu2⟩ : ∃ x, x = (unhex l).isSome := ⟨_, rfl⟩
  obtain ⟨cr, hcr⟩ : ∃ x, x = Crc.crc l := ⟨_, rfl⟩
  obtain ⟨sh, hsh⟩ : ∃ x, x = Sha.sha l := ⟨_, rfl⟩
  obtain ⟨hx, hhx⟩ : ∃ x, x = hex l := ⟨_, rfl⟩
  obtain ⟨nm, hnm⟩ : ∃ x, x = num l := ⟨_, rfl⟩
  have k1 : ∀ w, Calls Tryd.prog 10 #[.string (B l)] w fun e w' => e = .returned (.tuple #[.string (B u1), .bool u2]) ∧ Below w.heap.size w w' := fun w => by rw [hu1, hu2]; exact unhex_any l w (by omega)
  have k2 : ∀ w, Calls Tryd.prog 11 #[.string (B l)] w fun e w' => e = .returned (.tuple #[.string (B u1), .bool u2]) ∧ Below w.heap.size w w' := fun w => by rw [hu1, hu2]; exact refUnhex_any l w (by omega)
  have k3 : ∀ w, Calls Tryd.prog 12 #[.string (B l)] w fun e w' => e = .returned (.int .u32 (cr.toNat : Nat)) ∧ w = w' := fun w => by rw [hcr]; exact crc_any l w (by omega)
  have k4 : ∀ w, Calls Tryd.prog 13 #[.string (B l)] w fun e w' => e = .returned (.int .u32 (cr.toNat : Nat)) ∧ w = w' := fun w => by rw [hcr]; exact refCrc_any l w (by omega)
  have k5 : ∀ w', Below w.heap.size w w' → Calls Tryd.prog 14 #[.string (B l)] w' fun e w'' => e = .returned (.string (B sh)) ∧ Below w.heap.size w w'' := fun w' hb => by rw [hsh]; exact sha_any w w' l (by omega) hW hb
  have k6 : ∀ w, Calls Tryd.prog 15 #[.string (B l)] w fun e w' => e = .returned (.string (B sh)) ∧ Below w.heap.size w w' := fun w => by rw [hsh]; exact hsha (by omega) w
  have k7 : ∀ w, Calls Tryd.prog 16 #[.string (B l)] w fun e w' => e = .returned (.string (B hx)) ∧ Below w.heap.size w w' := fun w => by rw [hhx]; exact hex_any l w (by omega)
  have k8 : ∀ w, Calls Tryd.prog 17 #[.string (B l)] w fun e w' => e = .returned (.string (B hx)) ∧ Below w.heap.size w w' := fun w => by rw [hhx]; exact refHex_any l w (by omega)
  have k9 : ∀ w, Calls Tryd.prog 18 #[.string (B l)] w fun e w' => e = .returned (.int .i64 (nm : Nat)) ∧ w = w' := fun w => by rw [hnm]; exact num_any l w (by omega)
  have k10 : ∀ w, Calls Tryd.prog 19 #[.string (B l)] w fun e w' => e = .returned (.int .i64 (nm : Nat)) ∧ w = w' := fun w => by rw [hnm]; exact refNum_any l w (by omega)
  have K1 := Lib.hid k1
  have K2 := Lib.hid k2
  have K3 := Lib.hid k3
  have K4 := Lib.hid k4
  have K5 := Lib.hid k5
  have K6 := Lib.hid k6
  have K7 := Lib.hid k7
  have K8 := Lib.hid k8
  have K9 := Lib.hid k9
  have K10 := Lib.hid k10
  clear k1 k2 k3 k4 k5 k6 k7 k8 k9 k10 hu1 hu2 hcr hsh hhx hnm hsha
  go_wp2_with fail
  refine (K1.out _).mono ?_
  rintro e v1 ⟨rfl, hb⟩
  have B2 := Lib.hid (stepB B1.out hb)
  clear hb B1
  go_wp2_with fail
  refine (K2.out _).mono ?_
  rintro e v2 ⟨rfl, hb⟩
  have B3 := Lib.hid (stepB B2.out hb)
  clear hb B2
  go_wp2_with fail
  refine (K3.out _).mono ?_
  rintro e v3 ⟨rfl, rfl⟩
  go_wp2_with fail
  refine (K4.out _).mono ?_
  rintro e v4 ⟨rfl, rfl⟩
  go_wp2_with fail
  refine (K5.out _ B3.out).mono ?_
  rintro e v5 ⟨rfl, hb⟩
  have B4 := Lib.hid hb
  clear hb B3
  go_wp2_with fail
  refine (K6.out _).mono ?_
  rintro e v6 ⟨rfl, hb⟩
  have B5 := Lib.hid (stepB B4.out hb)
  clear hb B4
  go_wp2_with fail
  refine (K7.out _).mono ?_
  rintro e v7 ⟨rfl, hb⟩
  have B6 := Lib.hid (stepB B5.out hb)
  clear hb B5
  go_wp2_with fail
  refine (K8.out _).mono ?_
  rintro e v8 ⟨rfl, hb⟩
  have B7 := Lib.hid (stepB B6.out hb)
  clear hb B6
  go_wp2_with fail
  refine (K9.out _).mono ?_
  rintro e v9 ⟨rfl, rfl⟩
  go_wp2_with fail
  refine (K10.out _).mono ?_
  rintro e v10 ⟨rfl, rfl⟩
  go_wp2_with fail
  go_ret
  exact ⟨rfl, Good.of B7.out⟩
end Go.Proofs.YtfldbgfeldhboaaDoor
