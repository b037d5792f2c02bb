/-
  Layer 5: SignVerifies' walk.
-/
import Derived.Test.YtlcgcpjhmbbgfaaDoorSignLaw2
namespace Go.Proofs.YtlcgcpjhmbbgfaaDoor
open Go.RowKit
namespace Sg
attribute [local go_sem] S3.B_size S3.B_app S3.B_list

set_option maxHeartbeats 8000000 in
set_option maxRecDepth 100000 in
theorem verifies_walk (L : Landed) (seed msg : List UInt8) (y E0 S0 x : Int) (W : World) (hW : S3.Laid W) (iy : isI y) (iE : isI E0) (iS : isI S0) :
    Calls Tryd.prog 5 #[.int .i64 y, .string (S3.B msg), .agg #[.int .i64 E0, .int .i64 S0], .string (S3.B seed), .int .i64 x] W fun e w' => e = .returned (.bool true) ∧ Below W.heap.size W w' := by
  have KS := Lib.hid (fun W hW => small_ok L W hW)
  have A := Lib.hid ((At.start hW).alloc (.cells #[.int .i64 E0, .int .i64 S0] 30))
  have B0 := Lib.hid (Blk.new W E0 S0 30)
  have rk := keyV_Rt seed
  by_cases hseed : 2000 < seed.length
  · have hseed' : (2000 : Int) < seed.length := by omega
    clear rk
    go_enter Tryd.func5, Tryd.ntmps5
    go_wp2_with fail
    generalize W.alloc (.cells #[.int .i64 E0, .int .i64 S0] 30) = w0 at *
    refine (KS.out _ A.out.laid _ (Below.refl _ _)).mono ?_
    rintro e w1 ⟨rfl, hb⟩
    replace A := Lib.hid (A.out.step hb)
    replace B0 := Lib.hid (B0.out.step hb)
    clear hb
    go_wp2
    go_ret
    exact ⟨rfl, A.out.bel⟩
  have hseed' : ¬ (2000 : Int) < seed.length := by omega
  by_cases hmsg : 2000 < msg.length
  · have hmsg' : (2000 : Int) < msg.length := by omega
    clear rk
    go_enter Tryd.func5, Tryd.ntmps5
    go_wp2_with fail
    generalize W.alloc (.cells #[.int .i64 E0, .int .i64 S0] 30) = w0 at *
    refine (KS.out _ A.out.laid _ (Below.refl _ _)).mono ?_
    rintro e w1 ⟨rfl, hb⟩
    replace A := Lib.hid (A.out.step hb)
    replace B0 := Lib.hid (B0.out.step hb)
    clear hb
    go_wp2
    go_ret
    exact ⟨rfl, A.out.bel⟩
  have hmsg' : ¬ (2000 : Int) < msg.length := by omega
  obtain ⟨rk1, rk2, rk3, rk4⟩ := Rt_range rk
  have k1 := fun W hW => (L W hW).ver y msg E0 S0 iy iE iS (by omega)
  have k1r := fun W (_ : S3.Laid W) => rver_ok W y E0 S0 msg iy (by omega)
  generalize verV y msg E0 S0 = v at k1 k1r
  have k2 := fun W (_ : S3.Laid W) => rkey_ok W seed (by omega)
  have k3 := fun W (_ : S3.Laid W) => rsign_ok W (keyV seed).1 (keyV seed).2 msg rk1 rk2 (by omega)
  unfold keyC at k2 k3
  have hr := signV_range msg rk
  have hok := signV_holds msg rk
  generalize (signV (keyV seed).1 (keyV seed).2 msg).1 = E at k3 hr hok
  generalize (signV (keyV seed).1 (keyV seed).2 msg).2 = S at k3 hr hok
  generalize (keyV seed).1 = a at k2 k3 rk rk1
  generalize (keyV seed).2 = b at k2 k3 rk rk2 rk3 rk4 hok
  have hl : msg.length ≤ 2000 := by omega
  have K1 := Lib.hid k1
  have K1r := Lib.hid k1r
  have K2 := Lib.hid k2
  have K3 := Lib.hid k3
  have ht1 : -2 ≤ x.tmod 3 ∧ x.tmod 3 ≤ 2 := by
    have h := S4.tmod_parts x 3 (by decide)
    omega
  obtain ⟨n, hn⟩ : ∃ n, n = x.tmod 3 := ⟨_, rfl⟩
  rw [← hn] at ht1
  have hn' : x.tmod 3 = n := hn.symm
  have hnw : IntKind.i64.wrap n = n := IntWalk.i64_in _ (by omega)
  clear k1 k1r k2 k3 rk rk1 iy iE iS hn
  by_cases h0 : n = 0
  · have k4 := fun W hW => (L W hW).ver b msg E S rk2 (by unfold isI S4.isI64; omega) (by unfold isI S4.isI64; omega) hl
    rw [hok] at k4
    have K4 := Lib.hid k4
    subst h0
    clear k4 hok hr rk2 rk3 rk4 hl L hW ht1
    go_enter Tryd.func5, Tryd.ntmps5
    go_wp2_with fail
    generalize W.alloc (.cells #[.int .i64 E0, .int .i64 S0] 30) = w0 at *
    refine (KS.out _ A.out.laid _ (Below.refl _ _)).mono ?_
    rintro e w1 ⟨rfl, hb⟩
    replace A := Lib.hid (A.out.step hb)
    replace B0 := Lib.hid (B0.out.step hb)
    clear hb
    go_wp2_with fail
    replace A := Lib.hid A.out.drew
    replace B0 := Lib.hid B0.out.drew
    refine wp_region_held_drew (S := (fun w' => w'.cell? ⟨W.heap.size, 0, none⟩ = some (.int .i64 E0) ∧ w'.cell? ⟨W.heap.size, 1, none⟩ = some (.int .i64 S0))) (by kernel_rfl) ⟨B0.out.c0, B0.out.c1⟩ (fun hHeld => ?_)
    refine wpAnyH_take (i := 0) (oi := ⟨_, _, _, _, _, _⟩) (v := ?_) rfl (by kernel_rfl) (by kernel_rfl) (by kernel_rfl) (fun _ _ _ h => h) (Or.inl ⟨by rfl, ?_⟩) (by assumption) ?_
    rotate_left
    · intro wz hSw
      try dsimp only at hSw
      go_simp
      try with_reducible rfl
    try simp only [Act.put, List.setIfInBounds_toArray, List.set_cons_zero, List.set_cons_succ]
    refine wpAnyH_take (i := 1) (oi := ⟨_, _, _, _, _, _⟩) (v := ?_) rfl (by kernel_rfl) (by kernel_rfl) (by kernel_rfl) (fun _ _ _ h => h) (Or.inl ⟨by rfl, ?_⟩) (by assumption) ?_
    rotate_left
    · intro wz hSw
      try dsimp only at hSw
      go_simp
      try with_reducible rfl
    try simp only [Act.put, List.setIfInBounds_toArray, List.set_cons_zero, List.set_cons_succ]
    refine wpAnyH_take (i := 2) (oi := ⟨_, _, _, _, _, _⟩) (v := ?_) rfl (by kernel_rfl) (by kernel_rfl) (by kernel_rfl) (fun _ _ _ h => h) (Or.inl ⟨by rfl, ?_⟩) (by assumption) ?_
    rotate_left
    · intro wz hSw
      try dsimp only at hSw
      go_simp
      try with_reducible rfl
    try simp only [Act.put, List.setIfInBounds_toArray, List.set_cons_zero, List.set_cons_succ]
    refine wpAnyH_take (i := 4) (oi := ⟨_, _, _, _, _, _⟩) (v := ?_) rfl (by kernel_rfl) (by kernel_rfl) (by kernel_rfl) (fun _ _ _ h => h) (Or.inl ⟨by rfl, ?_⟩) (by assumption) ?_
    rotate_left
    · intro wz hSw
      try dsimp only at hSw
      go_simp
      try with_reducible rfl
    try simp only [Act.put, List.setIfInBounds_toArray, List.set_cons_zero, List.set_cons_succ]
    refine wpAnyH_take (i := 5) (oi := ⟨_, _, _, _, _, _⟩) (v := ?_) rfl (by kernel_rfl) (by kernel_rfl) (by kernel_rfl) (fun _ _ _ h => h) (Or.inl ⟨by rfl, ?_⟩) (by assumption) ?_
    rotate_left
    · intro wz hSw
      try dsimp only at hSw
      go_simp
      try with_reducible rfl
    try simp only [Act.put, List.setIfInBounds_toArray, List.set_cons_zero, List.set_cons_succ]
    refine wpAnyH_take (i := 6) (oi := ⟨_, _, _, _, _, _⟩) (v := ?_) rfl (by kernel_rfl) (by kernel_rfl) (by kernel_rfl) (fun _ _ _ h => h) (Or.inl ⟨by rfl, ?_⟩) (by assumption) ?_
    rotate_left
    · intro wz hSw
      try dsimp only at hSw
      go_simp
      try with_reducible rfl
    try simp only [Act.put, List.setIfInBounds_toArray, List.set_cons_zero, List.set_cons_succ]
    refine wpAnyH_ready (rs := [3]) (by kernel_rfl) (by simp) ?_
    refine AllReadyH.cons (o := ⟨_, _, _, _, _, _⟩) rfl (fun K hK => ?_) AllReadyH.nil
    go_simp
    refine (K1.out _ A.out.laid _ (Below.refl _ _)).mono ?_
    rintro e w2 ⟨rfl, hb⟩
    replace A := Lib.hid (A.out.step hb)
    replace B0 := Lib.hid (B0.out.step hb)
    clear hb hHeld
    refine hK.out _ _ ⟨B0.out.c0, B0.out.c1⟩ (fun hHeld => ?_)
    clear hK K
    try simp only [Act.put, List.setIfInBounds_toArray, List.set_cons_zero, List.set_cons_succ]
    refine wpAnyH_ready (rs := [7]) (by kernel_rfl) (by simp) ?_
    refine AllReadyH.cons (o := ⟨_, _, _, _, _, _⟩) rfl (fun K hK => ?_) AllReadyH.nil
    go_simp
    refine (K1r.out _ A.out.laid _ (Below.refl _ _)).mono ?_
    rintro e w3 ⟨rfl, hb⟩
    replace A := Lib.hid (A.out.step hb)
    replace B0 := Lib.hid (B0.out.step hb)
    clear hb hHeld
    refine hK.out _ _ ⟨B0.out.c0, B0.out.c1⟩ (fun hHeld => ?_)
    clear hK K
    try simp only [Act.put, List.setIfInBounds_toArray, List.set_cons_zero, List.set_cons_succ]
    refine wpAnyH_take (i := 8) (oi := ⟨_, _, _, _, _, _⟩) (v := ?_) rfl (by kernel_rfl) (by kernel_rfl) (by kernel_rfl) (fun _ _ _ h => h) (Or.inl ⟨by rfl, ?_⟩) (by assumption) ?_
    rotate_left
    · intro wz hSw
      try dsimp only at hSw
      go_simp
      try with_reducible rfl
    try simp only [Act.put, List.setIfInBounds_toArray, List.set_cons_zero, List.set_cons_succ]
    refine wpAnyH_done (by kernel_rfl) ?_ _
    clear hHeld
    go_wp2_with fail
    refine (K2.out _ A.out.laid _ (Below.refl _ _)).mono ?_
    rintro e w4 ⟨rfl, hb⟩
    replace A := Lib.hid (A.out.step hb)
    replace B0 := Lib.hid (B0.out.step hb)
    clear hb
    replace A := Lib.hid (A.out.alloc (.cells #[.int .i64 a, .int .i64 b] 23))
    replace B0 := Lib.hid (B0.out.alloc (.cells #[.int .i64 a, .int .i64 b] 23))
    have B1 := Lib.hid (Blk.new w4 a b 23)
    go_wp2_with fail
    generalize w4.alloc (.cells #[.int .i64 a, .int .i64 b] 23) = w5 at *
    refine (K3.out _ A.out.laid _ (Below.refl _ _)).mono ?_
    rintro e w6 ⟨rfl, hb⟩
    replace A := Lib.hid (A.out.step hb)
    replace B0 := Lib.hid (B0.out.step hb)
    replace B1 := Lib.hid (B1.out.step hb)
    clear hb
    replace A := Lib.hid (A.out.alloc (.cells #[.int .i64 E, .int .i64 S] 30))
    replace B0 := Lib.hid (B0.out.alloc (.cells #[.int .i64 E, .int .i64 S] 30))
    replace B1 := Lib.hid (B1.out.alloc (.cells #[.int .i64 E, .int .i64 S] 30))
    have B2 := Lib.hid (Blk.new w6 E S 30)
    have cB10 := B1.out.c0
    have cB11 := B1.out.c1
    go_wp2_with fail
    clear cB10 cB11
    generalize w6.alloc (.cells #[.int .i64 E, .int .i64 S] 30) = w7 at *
    refine (K4.out _ A.out.laid _ (Below.refl _ _)).mono ?_
    rintro e w8 ⟨rfl, hb⟩
    replace A := Lib.hid (A.out.step hb)
    replace B0 := Lib.hid (B0.out.step hb)
    replace B1 := Lib.hid (B1.out.step hb)
    replace B2 := Lib.hid (B2.out.step hb)
    clear hb
    go_wp2
    go_ret
    exact ⟨rfl, A.out.bel⟩
  · obtain ⟨m1, hm1⟩ : ∃ z, z = n * 2305843009213693951 := ⟨_, rfl⟩
    obtain ⟨m2, hm2⟩ : ∃ z, z = n * 2305843009213693950 := ⟨_, rfl⟩
    obtain ⟨y1, hy1⟩ : ∃ z, z = b + m1 := ⟨_, rfl⟩
    obtain ⟨E1, hE1⟩ : ∃ z, z = E + m2 := ⟨_, rfl⟩
    obtain ⟨S1, hS1⟩ : ∃ z, z = S + m2 := ⟨_, rfl⟩
    have f1 : IntKind.i64.wrap (n * 2305843009213693951) = m1 := by rw [← hm1]; exact IntWalk.i64_in _ (by omega)
    have f2 : IntKind.i64.wrap (n * 2305843009213693950) = m2 := by rw [← hm2]; exact IntWalk.i64_in _ (by omega)
    have f3 : IntKind.i64.wrap (b + m1) = y1 := by rw [← hy1]; exact IntWalk.i64_in _ (by omega)
    have f4 : IntKind.i64.wrap (E + m2) = E1 := by rw [← hE1]; exact IntWalk.i64_in _ (by omega)
    have f5 : IntKind.i64.wrap (S + m2) = S1 := by rw [← hS1]; exact IntWalk.i64_in _ (by omega)
    have iE : isI E := by unfold isI S4.isI64; omega
    have iS : isI S := by unfold isI S4.isI64; omega
    have k4 := fun W hW => (L W hW).ver y1 msg E S (by unfold isI S4.isI64; omega) iE iS hl
    have k5 := fun W hW => (L W hW).ver b msg E1 S rk2 (by unfold isI S4.isI64; omega) iS hl
    have k6 := fun W hW => (L W hW).ver b msg E S1 rk2 iE (by unfold isI S4.isI64; omega) hl
    rw [ver_no (fun h => by obtain ⟨_, _, _, _, _, _⟩ := h; omega)] at k4 k5 k6
    have K4 := Lib.hid k4
    have K5 := Lib.hid k5
    have K6 := Lib.hid k6
    clear k4 k5 k6 hok hr rk2 rk3 rk4 hl L hW ht1 hm1 hm2 hy1 hE1 hS1 iE iS
    go_enter Tryd.func5, Tryd.ntmps5
    go_wp2_with fail
    generalize W.alloc (.cells #[.int .i64 E0, .int .i64 S0] 30) = w0 at *
    refine (KS.out _ A.out.laid _ (Below.refl _ _)).mono ?_
    rintro e w1 ⟨rfl, hb⟩
    replace A := Lib.hid (A.out.step hb)
    replace B0 := Lib.hid (B0.out.step hb)
    clear hb
    go_wp2_with fail
    replace A := Lib.hid A.out.drew
    replace B0 := Lib.hid B0.out.drew
    refine wp_region_held_drew (S := (fun w' => w'.cell? ⟨W.heap.size, 0, none⟩ = some (.int .i64 E0) ∧ w'.cell? ⟨W.heap.size, 1, none⟩ = some (.int .i64 S0))) (by kernel_rfl) ⟨B0.out.c0, B0.out.c1⟩ (fun hHeld => ?_)
    refine wpAnyH_take (i := 0) (oi := ⟨_, _, _, _, _, _⟩) (v := ?_) rfl (by kernel_rfl) (by kernel_rfl) (by kernel_rfl) (fun _ _ _ h => h) (Or.inl ⟨by rfl, ?_⟩) (by assumption) ?_
    rotate_left
    · intro wz hSw
      try dsimp only at hSw
      go_simp
      try with_reducible rfl
    try simp only [Act.put, List.setIfInBounds_toArray, List.set_cons_zero, List.set_cons_succ]
    refine wpAnyH_take (i := 1) (oi := ⟨_, _, _, _, _, _⟩) (v := ?_) rfl (by kernel_rfl) (by kernel_rfl) (by kernel_rfl) (fun _ _ _ h => h) (Or.inl ⟨by rfl, ?_⟩) (by assumption) ?_
    rotate_left
    · intro wz hSw
      try dsimp only at hSw
      go_simp
      try with_reducible rfl
    try simp only [Act.put, List.setIfInBounds_toArray, List.set_cons_zero, List.set_cons_succ]
    refine wpAnyH_take (i := 2) (oi := ⟨_, _, _, _, _, _⟩) (v := ?_) rfl (by kernel_rfl) (by kernel_rfl) (by kernel_rfl) (fun _ _ _ h => h) (Or.inl ⟨by rfl, ?_⟩) (by assumption) ?_
    rotate_left
    · intro wz hSw
      try dsimp only at hSw
      go_simp
      try with_reducible rfl
    try simp only [Act.put, List.setIfInBounds_toArray, List.set_cons_zero, List.set_cons_succ]
    refine wpAnyH_take (i := 4) (oi := ⟨_, _, _, _, _, _⟩) (v := ?_) rfl (by kernel_rfl) (by kernel_rfl) (by kernel_rfl) (fun _ _ _ h => h) (Or.inl ⟨by rfl, ?_⟩) (by assumption) ?_
    rotate_left
    · intro wz hSw
      try dsimp only at hSw
      go_simp
      try with_reducible rfl
    try simp only [Act.put, List.setIfInBounds_toArray, List.set_cons_zero, List.set_cons_succ]
    refine wpAnyH_take (i := 5) (oi := ⟨_, _, _, _, _, _⟩) (v := ?_) rfl (by kernel_rfl) (by kernel_rfl) (by kernel_rfl) (fun _ _ _ h => h) (Or.inl ⟨by rfl, ?_⟩) (by assumption) ?_
    rotate_left
    · intro wz hSw
      try dsimp only at hSw
      go_simp
      try with_reducible rfl
    try simp only [Act.put, List.setIfInBounds_toArray, List.set_cons_zero, List.set_cons_succ]
    refine wpAnyH_take (i := 6) (oi := ⟨_, _, _, _, _, _⟩) (v := ?_) rfl (by kernel_rfl) (by kernel_rfl) (by kernel_rfl) (fun _ _ _ h => h) (Or.inl ⟨by rfl, ?_⟩) (by assumption) ?_
    rotate_left
    · intro wz hSw
      try dsimp only at hSw
      go_simp
      try with_reducible rfl
    try simp only [Act.put, List.setIfInBounds_toArray, List.set_cons_zero, List.set_cons_succ]
    refine wpAnyH_ready (rs := [3]) (by kernel_rfl) (by simp) ?_
    refine AllReadyH.cons (o := ⟨_, _, _, _, _, _⟩) rfl (fun K hK => ?_) AllReadyH.nil
    go_simp
    refine (K1.out _ A.out.laid _ (Below.refl _ _)).mono ?_
    rintro e w2 ⟨rfl, hb⟩
    replace A := Lib.hid (A.out.step hb)
    replace B0 := Lib.hid (B0.out.step hb)
    clear hb hHeld
    refine hK.out _ _ ⟨B0.out.c0, B0.out.c1⟩ (fun hHeld => ?_)
    clear hK K
    try simp only [Act.put, List.setIfInBounds_toArray, List.set_cons_zero, List.set_cons_succ]
    refine wpAnyH_ready (rs := [7]) (by kernel_rfl) (by simp) ?_
    refine AllReadyH.cons (o := ⟨_, _, _, _, _, _⟩) rfl (fun K hK => ?_) AllReadyH.nil
    go_simp
    refine (K1r.out _ A.out.laid _ (Below.refl _ _)).mono ?_
    rintro e w3 ⟨rfl, hb⟩
    replace A := Lib.hid (A.out.step hb)
    replace B0 := Lib.hid (B0.out.step hb)
    clear hb hHeld
    refine hK.out _ _ ⟨B0.out.c0, B0.out.c1⟩ (fun hHeld => ?_)
    clear hK K
    try simp only [Act.put, List.setIfInBounds_toArray, List.set_cons_zero, List.set_cons_succ]
    refine wpAnyH_take (i := 8) (oi := ⟨_, _, _, _, _, _⟩) (v := ?_) rfl (by kernel_rfl) (by kernel_rfl) (by kernel_rfl) (fun _ _ _ h => h) (Or.inl ⟨by rfl, ?_⟩) (by assumption) ?_
    rotate_left
    · intro wz hSw
      try dsimp only at hSw
      go_simp
      try with_reducible rfl
    try simp only [Act.put, List.setIfInBounds_toArray, List.set_cons_zero, List.set_cons_succ]
    refine wpAnyH_done (by kernel_rfl) ?_ _
    clear hHeld
    go_wp2_with fail
    refine (K2.out _ A.out.laid _ (Below.refl _ _)).mono ?_
    rintro e w4 ⟨rfl, hb⟩
    replace A := Lib.hid (A.out.step hb)
    replace B0 := Lib.hid (B0.out.step hb)
    clear hb
    replace A := Lib.hid (A.out.alloc (.cells #[.int .i64 a, .int .i64 b] 23))
    replace B0 := Lib.hid (B0.out.alloc (.cells #[.int .i64 a, .int .i64 b] 23))
    have B1 := Lib.hid (Blk.new w4 a b 23)
    go_wp2_with fail
    generalize w4.alloc (.cells #[.int .i64 a, .int .i64 b] 23) = w5 at *
    refine (K3.out _ A.out.laid _ (Below.refl _ _)).mono ?_
    rintro e w6 ⟨rfl, hb⟩
    replace A := Lib.hid (A.out.step hb)
    replace B0 := Lib.hid (B0.out.step hb)
    replace B1 := Lib.hid (B1.out.step hb)
    clear hb
    replace A := Lib.hid (A.out.alloc (.cells #[.int .i64 E, .int .i64 S] 30))
    replace B0 := Lib.hid (B0.out.alloc (.cells #[.int .i64 E, .int .i64 S] 30))
    replace B1 := Lib.hid (B1.out.alloc (.cells #[.int .i64 E, .int .i64 S] 30))
    have B2 := Lib.hid (Blk.new w6 E S 30)
    have cB10 := B1.out.c0
    have cB11 := B1.out.c1
    go_wp2_with fail
    clear cB10 cB11
    generalize w6.alloc (.cells #[.int .i64 E, .int .i64 S] 30) = w7 at *
    refine (K4.out _ A.out.laid _ (Below.refl _ _)).mono ?_
    rintro e w8 ⟨rfl, hb⟩
    replace A := Lib.hid (A.out.step hb)
    replace B0 := Lib.hid (B0.out.step hb)
    replace B1 := Lib.hid (B1.out.step hb)
    replace B2 := Lib.hid (B2.out.step hb)
    clear hb
    have cB10 := B1.out.c0
    have cB11 := B1.out.c1
    have cB20 := B2.out.c0
    have cB21 := B2.out.c1
    go_wp2_with fail
    clear cB10 cB11 cB20 cB21
    refine (K5.out _ A.out.laid _ (Below.refl _ _)).mono ?_
    rintro e w9 ⟨rfl, hb⟩
    replace A := Lib.hid (A.out.step hb)
    replace B0 := Lib.hid (B0.out.step hb)
    replace B1 := Lib.hid (B1.out.step hb)
    replace B2 := Lib.hid (B2.out.step hb)
    clear hb
    have cB10 := B1.out.c0
    have cB11 := B1.out.c1
    have cB20 := B2.out.c0
    have cB21 := B2.out.c1
    go_wp2_with fail
    clear cB10 cB11 cB20 cB21
    refine (K6.out _ A.out.laid _ (Below.refl _ _)).mono ?_
    rintro e w10 ⟨rfl, hb⟩
    replace A := Lib.hid (A.out.step hb)
    replace B0 := Lib.hid (B0.out.step hb)
    replace B1 := Lib.hid (B1.out.step hb)
    replace B2 := Lib.hid (B2.out.step hb)
    clear hb
    go_wp2
    go_ret
    exact ⟨rfl, A.out.bel⟩
end Sg
end Go.Proofs.YtlcgcpjhmbbgfaaDoor
