/-
  Layer 7: the reference's Value.
-/
import Derived.Test.YtjpgadiobgbchaaDoorShareRef
import Derived.Deep.Slices
namespace Go.Proofs.YtjpgadiobgbchaaDoor
open Go.RowKit
namespace Sh
attribute [local go_sem] S3.B_size S3.B_app S3.B_list

theorem mod_mul (a b : Int) : a % 2305843009213693951 * (b % 2305843009213693951) % 2305843009213693951 = a * b % 2305843009213693951 := cg_mod.1 ((cg_res a).mul (cg_res b))
theorem invV_of {a b : Int} (h : a = b % 2305843009213693951) (h0 : ¬ Cg b 0) : (S4.invV a).1 = S4.invP b := by
  have e : a % 2305843009213693951 = b % 2305843009213693951 := by omega
  rw [cg_mod] at h0
  unfold S4.invV
  rw [if_neg (by omega)]
  show S4.invP a = S4.invP b
  unfold S4.invP
  rw [e]

set_option maxHeartbeats 8000000 in
set_option maxRecDepth 100000 in
theorem rvalue_any (A : Option Addr) (l : List (Int × Int)) (cap : Nat) (x : Int) (w : World) (hr : S2.Row w w.heap.size A (Sc l)) (hn : l.length ≤ 1099511627776) (hv : Valid l) :
    Calls Tryd.prog 32 #[.slice A l.length cap, .int .i64 x] w fun e w' => e = .returned (.int .i64 (poly l x % 2305843009213693951)) ∧ Below w.heap.size w w' := by
  obtain ⟨r, hres⟩ : ∃ r, r = poly l x % 2305843009213693951 := ⟨_, rfl⟩
  rw [← hres]
  have HRES := Lib.hid hres
  have HR := Lib.hid hr
  have HV := Lib.hid hv
  have hnl : (l.length : Int) ≤ 1099511627776 := by omega
  clear hres hr hn hv
  go_enter Tryd.func32, Tryd.ntmps32
  go_wp2
  go_loopw [5, 6] (fun vs vi wr => ∃ i : Nat, i ≤ l.length ∧ vi = .int .i64 (i : Int) ∧ vs = .int .i64 (lag l x i % 2305843009213693951) ∧ Below w.heap.size w wr) (fun _ vi _ => l.length - (intOf vi).toNat)
  case atStart => exact ⟨0, by omega, rfl, rfl, Below.refl _ _⟩
  case round =>
    obtain ⟨i, hi, rfl, rfl, hbel⟩ := hrel
    obtain ⟨s, hs⟩ : ∃ s, s = lag l x i % 2305843009213693951 := ⟨_, rfl⟩
    rw [← hs]
    have HS := Lib.hid hs
    clear hs
    by_cases hlt : i < l.length
    · have hlt' : (i : Int) < (l.length : Int) := by omega
      obtain ⟨a, rfl, hab, _, hy⟩ := row_at (HR.out.below hbel) hlt
      rw [← py_get hlt] at hy
      obtain ⟨y, hyd⟩ : ∃ y, y = py l i := ⟨_, rfl⟩
      rw [← hyd] at hy
      have hyr := (((valid_iff l).1 HV.out) i hlt).2.1
      rw [← hyd] at hyr
      have HY := Lib.hid hyd
      have HYR := Lib.hid hyr
      clear hyd hyr
      have HBEL := Lib.hid hbel
      go_wp2
      go_loopw [7, 8, 9] (fun vo vu vk wk => ∃ k : Nat, k ≤ l.length ∧ vk = .int .i64 (k : Int) ∧ vo = .int .i64 (y * prod l i x k % 2305843009213693951) ∧ vu = .int .i64 (prod l i (px l i) k % 2305843009213693951) ∧ Below w.heap.size w wk) (fun _ _ vk _ => l.length - (intOf vk).toNat)
      case atStart => exact ⟨0, by omega, rfl, by rw [show y * prod l i x 0 % 2305843009213693951 = y by unfold prod; have := HYR.out; omega], rfl, HBEL.out⟩
      case round =>
        obtain ⟨k, hk, rfl, rfl, rfl, hbel2⟩ := hrel
        obtain ⟨o, hod⟩ : ∃ o, o = y * prod l i x k % 2305843009213693951 := ⟨_, rfl⟩
        obtain ⟨v, hvd⟩ : ∃ o, o = prod l i (px l i) k % 2305843009213693951 := ⟨_, rfl⟩
        rw [← hod, ← hvd]
        have HO := Lib.hid hod
        have HVD := Lib.hid hvd
        clear hod hvd hbel
        by_cases hkl : k < l.length
        · have hkl' : (k : Int) < (l.length : Int) := by omega
          by_cases hki : k = i
          · have hki' : (k : Int) = (i : Int) := by omega
            have e1 : prod l i x (k + 1) = prod l i x k := by rw [prod, if_pos hki]
            have e2 : prod l i (px l i) (k + 1) = prod l i (px l i) k := by rw [prod, if_pos hki]
            have E1 := Lib.hid e1
            have E2 := Lib.hid e2
            clear e1 e2
            go_wp2
            go_roundw
            case rel => exact ⟨k + 1, hkl, by go_num, by rw [E1.out, ← HO.out], by rw [E2.out, ← HVD.out], hbel2⟩
            case measure => simp [intOf]; omega
          · have hki' : ((k : Int) == (i : Int)) = false := by simpa using (by omega : ¬ (k : Int) = (i : Int))
            have e1 : prod l i x (k + 1) = prod l i x k * (x - px l k) := by rw [prod, if_neg hki]
            have e2 : prod l i (px l i) (k + 1) = prod l i (px l i) k * (px l i - px l k) := by rw [prod, if_neg hki]
            obtain ⟨_, e, _, hu, _⟩ := row_at (HR.out.below hbel2) hkl
            cases e
            obtain ⟨_, e, _, hu2, _⟩ := row_at (HR.out.below hbel2.drew) hkl
            cases e
            obtain ⟨_, e, _, hc2, _⟩ := row_at (HR.out.below hbel2.drew) hlt
            cases e
            rw [← px_get hkl] at hu hu2
            rw [← px_get hlt] at hc2
            obtain ⟨u, hud⟩ : ∃ u, u = px l k := ⟨_, rfl⟩
            obtain ⟨c, hcd⟩ : ∃ u, u = px l i := ⟨_, rfl⟩
            rw [← hud] at hu hu2 e1 e2
            rw [← hcd] at hc2 e2
            have E1 : Hid (o * ((x - u) % 2305843009213693951) % 2305843009213693951 = y * prod l i x (k + 1) % 2305843009213693951) := Lib.hid (by rw [HO.out, mod_mul, e1, Int.mul_assoc])
            have E2 : Hid (v * ((c - u) % 2305843009213693951) % 2305843009213693951 = prod l i c (k + 1) % 2305843009213693951) := Lib.hid (by rw [HVD.out, mod_mul, e2, hcd])
            have k1 := fun w => S4.refSub_any x u w
            have k3 := fun w => S4.refSub_any c u w
            have HC := Lib.hid hcd
            clear hud hcd e1 e2
            obtain ⟨d1, hd1⟩ : ∃ d, d = (x - u) % 2305843009213693951 := ⟨_, rfl⟩
            obtain ⟨d2, hd2⟩ : ∃ d, d = (c - u) % 2305843009213693951 := ⟨_, rfl⟩
            rw [← hd1] at k1 E1
            rw [← hd2] at k3 E2
            have k2 := fun w => S4.refMul_any o d1 w
            have k4 := fun w => S4.refMul_any v d2 w
            rw [E1.out] at k2
            rw [E2.out] at k4
            obtain ⟨o2, ho2⟩ : ∃ d, d = y * prod l i x (k + 1) % 2305843009213693951 := ⟨_, rfl⟩
            obtain ⟨v2, hv2⟩ : ∃ d, d = prod l i c (k + 1) % 2305843009213693951 := ⟨_, rfl⟩
            rw [← ho2] at k2
            rw [← hv2] at k4
            have HO2 := Lib.hid ho2
            have HV2 := Lib.hid hv2
            have K1 := Lib.hid k1
            have K2 := Lib.hid k2
            have K3 := Lib.hid k3
            have K4 := Lib.hid k4
            clear k1 k2 k3 k4 hd1 hd2 ho2 hv2 E1 E2 HO HVD
            go_wp2_with fail
            refine (K1.out _).mono ?_
            rintro e wq ⟨rfl, hq⟩
            obtain rfl := hq.symm
            clear hq
            go_wp2_with fail
            refine (K2.out _).mono ?_
            rintro e wq ⟨rfl, hq⟩
            obtain rfl := hq.symm
            clear hq
            go_wp2_with fail
            clear hu
            have hbel3 := hbel2.drew
            clear hbel2
            refine wp_region_held_drew (S := (fun w' => w'.cell? (a.add (i * 2)) = some (.int .i64 c) ∧ w'.cell? (a.add (k * 2)) = some (.int .i64 u))) (by kernel_rfl) ⟨hc2, hu2⟩ (fun hHeld => ?_)
            refine wpAnyH_take (i := 0) (oi := ⟨_, _, _, _, _, _⟩) (v := ?_) rfl (by kernel_rfl) (by kernel_rfl) (by kernel_rfl) (fun _ _ _ h => h) (Or.inl ⟨by rfl, ?_⟩) (by assumption) ?_
            rotate_left
            · intro wz hSw
              try dsimp only at hSw
              go_simp
              try with_reducible rfl
            try simp only [Act.put, List.setIfInBounds_toArray, List.set_cons_zero, List.set_cons_succ]
            refine wpAnyH_take (i := 1) (oi := ⟨_, _, _, _, _, _⟩) (v := ?_) rfl (by kernel_rfl) (by kernel_rfl) (by kernel_rfl) (fun _ _ _ h => h) (Or.inl ⟨by rfl, ?_⟩) (by assumption) ?_
            rotate_left
            · intro wz hSw
              try dsimp only at hSw
              go_simp
              try with_reducible rfl
            try simp only [Act.put, List.setIfInBounds_toArray, List.set_cons_zero, List.set_cons_succ]
            refine wpAnyH_take (i := 2) (oi := ⟨_, _, _, _, _, _⟩) (v := ?_) rfl (by kernel_rfl) (by kernel_rfl) (by kernel_rfl) (fun _ _ _ h => h) (Or.inl ⟨by rfl, ?_⟩) (by assumption) ?_
            rotate_left
            · intro wz hSw
              try dsimp only at hSw
              go_simp
              try with_reducible rfl
            try simp only [Act.put, List.setIfInBounds_toArray, List.set_cons_zero, List.set_cons_succ]
            refine wpAnyH_take (i := 3) (oi := ⟨_, _, _, _, _, _⟩) (v := ?_) rfl (by kernel_rfl) (by kernel_rfl) (by kernel_rfl) (fun _ _ _ h => h) (Or.inl ⟨by rfl, ?_⟩) (by assumption) ?_
            rotate_left
            · intro wz hSw
              try dsimp only at hSw
              go_simp
              try with_reducible rfl
            try simp only [Act.put, List.setIfInBounds_toArray, List.set_cons_zero, List.set_cons_succ]
            refine wpAnyH_take (i := 4) (oi := ⟨_, _, _, _, _, _⟩) (v := ?_) rfl (by kernel_rfl) (by kernel_rfl) (by kernel_rfl) (fun _ _ _ h => h) (Or.inl ⟨by rfl, ?_⟩) (by assumption) ?_
            rotate_left
            · intro wz hSw
              try dsimp only at hSw
              go_simp
              try with_reducible rfl
            try simp only [Act.put, List.setIfInBounds_toArray, List.set_cons_zero, List.set_cons_succ]
            refine wpAnyH_take (i := 5) (oi := ⟨_, _, _, _, _, _⟩) (v := ?_) rfl (by kernel_rfl) (by kernel_rfl) (by kernel_rfl) (fun _ _ _ h => h) (Or.inl ⟨by rfl, ?_⟩) (by assumption) ?_
            rotate_left
            · intro wz hSw
              try dsimp only at hSw
              go_simp
              try with_reducible rfl
            try simp only [Act.put, List.setIfInBounds_toArray, List.set_cons_zero, List.set_cons_succ]
            refine wpAnyH_take (i := 6) (oi := ⟨_, _, _, _, _, _⟩) (v := ?_) rfl (by kernel_rfl) (by kernel_rfl) (by kernel_rfl) (fun _ _ _ h => h) (Or.inl ⟨by rfl, ?_⟩) (by assumption) ?_
            rotate_left
            · intro wz hSw
              try dsimp only at hSw
              go_simp
              try with_reducible rfl
            try simp only [Act.put, List.setIfInBounds_toArray, List.set_cons_zero, List.set_cons_succ]
            refine wpAnyH_take (i := 7) (oi := ⟨_, _, _, _, _, _⟩) (v := ?_) rfl (by kernel_rfl) (by kernel_rfl) (by kernel_rfl) (fun _ _ _ h => h) (Or.inl ⟨by rfl, ?_⟩) (by assumption) ?_
            rotate_left
            · intro wz hSw
              try dsimp only at hSw
              go_simp
              try with_reducible rfl
            try simp only [Act.put, List.setIfInBounds_toArray, List.set_cons_zero, List.set_cons_succ]
            refine wpAnyH_take (i := 8) (oi := ⟨_, _, _, _, _, _⟩) (v := ?_) rfl (by kernel_rfl) (by kernel_rfl) (by kernel_rfl) (fun _ _ _ h => h) (Or.inl ⟨by rfl, ?_⟩) (by assumption) ?_
            rotate_left
            · intro wz hSw
              try dsimp only at hSw
              go_simp
              try with_reducible rfl
            try simp only [Act.put, List.setIfInBounds_toArray, List.set_cons_zero, List.set_cons_succ]
            refine wpAnyH_take (i := 9) (oi := ⟨_, _, _, _, _, _⟩) (v := ?_) rfl (by kernel_rfl) (by kernel_rfl) (by kernel_rfl) (fun _ _ _ h => h) (Or.inl ⟨by rfl, ?_⟩) (by assumption) ?_
            rotate_left
            · intro wz hSw
              try dsimp only at hSw
              go_simp
              try with_reducible rfl
            try simp only [Act.put, List.setIfInBounds_toArray, List.set_cons_zero, List.set_cons_succ]
            refine wpAnyH_take (i := 10) (oi := ⟨_, _, _, _, _, _⟩) (v := ?_) rfl (by kernel_rfl) (by kernel_rfl) (by kernel_rfl) (fun _ _ _ h => h) (Or.inl ⟨by rfl, ?_⟩) (by assumption) ?_
            rotate_left
            · intro wz hSw
              try dsimp only at hSw
              go_simp
              try with_reducible rfl
            try simp only [Act.put, List.setIfInBounds_toArray, List.set_cons_zero, List.set_cons_succ]
            refine wpAnyH_ready (rs := [11]) (by kernel_rfl) (by simp) ?_
            refine AllReadyH.cons (o := ⟨_, _, _, _, _, _⟩) rfl (fun K hK => ?_) AllReadyH.nil
            go_simp
            refine (K3.out _).mono ?_
            rintro e wq ⟨rfl, hq⟩
            obtain rfl := hq.symm
            clear hHeld hq
            refine hK.out _ _ ⟨hc2, hu2⟩ (fun hHeld => ?_)
            clear hK K
            try simp only [Act.put, List.setIfInBounds_toArray, List.set_cons_zero, List.set_cons_succ]
            refine wpAnyH_ready (rs := [12]) (by kernel_rfl) (by simp) ?_
            refine AllReadyH.cons (o := ⟨_, _, _, _, _, _⟩) rfl (fun K hK => ?_) AllReadyH.nil
            go_simp
            refine (K4.out _).mono ?_
            rintro e wq ⟨rfl, hq⟩
            obtain rfl := hq.symm
            clear hHeld hq
            refine hK.out _ _ ⟨hc2, hu2⟩ (fun hHeld => ?_)
            clear hK K
            try simp only [Act.put, List.setIfInBounds_toArray, List.set_cons_zero, List.set_cons_succ]
            refine wpAnyH_take (i := 13) (oi := ⟨_, _, _, _, _, _⟩) (v := ?_) rfl (by kernel_rfl) (by kernel_rfl) (by kernel_rfl) (fun _ _ _ h => h) (Or.inl ⟨by rfl, ?_⟩) (by assumption) ?_
            rotate_left
            · intro wz hSw
              try dsimp only at hSw
              go_simp
              try with_reducible rfl
            try simp only [Act.put, List.setIfInBounds_toArray, List.set_cons_zero, List.set_cons_succ]
            refine wpAnyH_done (by kernel_rfl) ?_ _
            clear hHeld
            go_wp2
            go_roundw
            case rel => exact ⟨k + 1, hkl, by go_num, by rw [HO2.out], by rw [HV2.out, HC.out], hbel3⟩
            case measure => simp [intOf]; omega
        · obtain rfl : k = l.length := by omega
          have hne := prod_ne l i (px l i) l.length (fun m hm hmi => apart_px HV.out.apart hlt hm (Ne.symm hmi))
          have e1 := invV_of HVD.out hne
          have k1 := fun w => S4.refInv_pair v w
          rw [e1] at k1
          have e2 : lag l x (i + 1) = lag l x i + term l x i := rfl
          unfold term at e2
          rw [← HY.out] at e2
          obtain ⟨q, hq⟩ : ∃ q : Int, q = (S4.invP (prod l i (px l i) l.length) : Nat) := ⟨_, rfl⟩
          rw [← hq] at k1 e2
          have k2 := fun w => S4.refMul_any o q w
          obtain ⟨m, hm⟩ : ∃ m, m = o * q % 2305843009213693951 := ⟨_, rfl⟩
          rw [← hm] at k2
          have k3 := fun w => S4.refAdd_any s m w
          have e3 : (s + m) % 2305843009213693951 = lag l x (i + 1) % 2305843009213693951 := by
            rw [e2, hm, HO.out, HS.out]
            have h1 : Cg (y * prod l i x l.length % 2305843009213693951 * q) (y * prod l i x l.length * q) := (cg_res _).mul (Cg.refl q)
            exact cg_mod.1 ((cg_res _).add ((cg_res _).trans h1))
          rw [e3] at k3
          obtain ⟨s2, hs2⟩ : ∃ m, m = lag l x (i + 1) % 2305843009213693951 := ⟨_, rfl⟩
          rw [← hs2] at k3
          obtain ⟨bb, hbb⟩ : ∃ b, b = (S4.invV v).2 := ⟨_, rfl⟩
          rw [← hbb] at k1
          have HS2 := Lib.hid hs2
          have K1 := Lib.hid k1
          have K2 := Lib.hid k2
          have K3 := Lib.hid k3
          clear k1 k2 k3 e1 e2 e3 hm hq hs2 hne hbb HO HVD HS
          go_wp2_with fail
          refine (K1.out _).mono ?_
          rintro e wq ⟨rfl, hq⟩
          obtain rfl := hq.symm
          clear hq
          go_wp2_with fail
          refine (K2.out _).mono ?_
          rintro e wq ⟨rfl, hq⟩
          obtain rfl := hq.symm
          clear hq
          go_wp2_with fail
          refine (K3.out _).mono ?_
          rintro e wq ⟨rfl, hq⟩
          obtain rfl := hq.symm
          clear hq
          go_wp2
          go_roundw
          case rel => exact ⟨i + 1, hlt, by go_num, by rw [HS2.out], hbel2⟩
          case measure => simp [intOf]; omega
    · obtain rfl : i = l.length := by omega
      have hf : s = r := by rw [HS.out, HRES.out]; rfl
      obtain rfl := hf
      go_wp2
      go_ret
      exact ⟨rfl, hbel⟩
end Sh
end Go.Proofs.YtjpgadiobgbchaaDoor
