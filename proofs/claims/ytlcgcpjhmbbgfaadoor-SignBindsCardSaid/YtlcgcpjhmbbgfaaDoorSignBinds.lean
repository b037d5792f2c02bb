/-
  Layer 5: SignBinds' walk.
-/
import Derived.Test.YtlcgcpjhmbbgfaaDoorSignLaw2
namespace Go.Proofs.YtlcgcpjhmbbgfaaDoor
open Go.RowKit
namespace Sg
attribute [local go_sem] S3.B_size S3.B_app S3.B_list

set_option maxHeartbeats 8000000 in
set_option maxRecDepth 100000 in
theorem binds_walk (L : Landed) (seed msg other : List UInt8) (W : World) (hW : S3.Laid W) :
    Calls Tryd.prog 7 #[.string (S3.B seed), .string (S3.B msg), .string (S3.B other)] W fun e w' => e = .returned (.bool true) ∧ Below W.heap.size W w' := by
  have KS := Lib.hid (fun W hW => small_ok L W hW)
  have A := Lib.hid (At.start hW)
  have rk := keyV_Rt seed
  by_cases hseed : 2000 < seed.length
  · have hseed' : (2000 : Int) < seed.length := by omega
    clear rk
    go_enter Tryd.func7, Tryd.ntmps7
    go_wp2_with fail
    refine (KS.out _ A.out.laid _ (Below.refl _ _)).mono ?_
    rintro e w1 ⟨rfl, hb⟩
    replace A := Lib.hid (A.out.step hb)
    clear hb
    go_wp2
    go_ret
    exact ⟨rfl, A.out.bel⟩
  have hseed' : ¬ (2000 : Int) < seed.length := by omega
  by_cases hmsg : 2000 < msg.length
  · have hmsg' : (2000 : Int) < msg.length := by omega
    clear rk
    go_enter Tryd.func7, Tryd.ntmps7
    go_wp2_with fail
    refine (KS.out _ A.out.laid _ (Below.refl _ _)).mono ?_
    rintro e w1 ⟨rfl, hb⟩
    replace A := Lib.hid (A.out.step hb)
    clear hb
    go_wp2
    go_ret
    exact ⟨rfl, A.out.bel⟩
  have hmsg' : ¬ (2000 : Int) < msg.length := by omega
  by_cases hother : 2000 < other.length
  · have hother' : (2000 : Int) < other.length := by omega
    clear rk
    go_enter Tryd.func7, Tryd.ntmps7
    go_wp2_with fail
    refine (KS.out _ A.out.laid _ (Below.refl _ _)).mono ?_
    rintro e w1 ⟨rfl, hb⟩
    replace A := Lib.hid (A.out.step hb)
    clear hb
    go_wp2
    go_ret
    exact ⟨rfl, A.out.bel⟩
  have hother' : ¬ (2000 : Int) < other.length := by omega
  obtain ⟨rk1, rk2, _, _⟩ := Rt_range rk
  have k1 := fun W hW => (L W hW).key seed (by omega)
  have k2 := fun W hW => (L W hW).sign (keyV seed).1 (keyV seed).2 msg rk1 rk2 (by omega)
  unfold keyC at k1 k2
  have hr := signV_range msg rk
  have hb := signV_binds msg other rk
  have k6 := fun W hW => (L W hW).ver (keyV seed).2 other (signV (keyV seed).1 (keyV seed).2 msg).1 (signV (keyV seed).1 (keyV seed).2 msg).2 rk2 (by unfold isI S4.isI64; omega) (by unfold isI S4.isI64; omega) (by omega)
  rw [hb] at k6
  have k3 := fun W (_ : S3.Laid W) => rcomm_ok W (keyV seed).2 (signV (keyV seed).1 (keyV seed).2 msg).1 (signV (keyV seed).1 (keyV seed).2 msg).2 (by omega) (by unfold isI S4.isI64; omega)
  have hcr := comm_in (keyV seed).2 (signV (keyV seed).1 (keyV seed).2 msg).1 (signV (keyV seed).1 (keyV seed).2 msg).2
  generalize comm (keyV seed).2 (signV (keyV seed).1 (keyV seed).2 msg).1 (signV (keyV seed).1 (keyV seed).2 msg).2 = r at k3 k6 hcr
  have k4 := fun W (_ : S3.Laid W) => rchal_ok W r (keyV seed).2 msg (by unfold isI S4.isI64; omega) rk2 (by omega)
  have k5 := fun W (_ : S3.Laid W) => rchal_ok W r (keyV seed).2 other (by unfold isI S4.isI64; omega) rk2 (by omega)
  have hsame : msg = other → ((chal r (keyV seed).2 msg : Nat) : Int) = (chal r (keyV seed).2 other : Nat) := fun h => by rw [h]
  obtain ⟨cm, hcm⟩ : ∃ c : Int, c = (chal r (keyV seed).2 msg : Nat) := ⟨_, rfl⟩
  obtain ⟨co, hco⟩ : ∃ c : Int, c = (chal r (keyV seed).2 other : Nat) := ⟨_, rfl⟩
  rw [← hcm] at k4 k6 hsame
  rw [← hco] at k5 k6 hsame
  clear hb hr hcr hcm hco
  generalize (signV (keyV seed).1 (keyV seed).2 msg).1 = E at k2 k3 k6
  generalize (signV (keyV seed).1 (keyV seed).2 msg).2 = S at k2 k3 k6
  generalize (keyV seed).1 = a at k1 k2 k3 k4 k5 k6 rk rk1
  generalize (keyV seed).2 = b at k1 k2 k3 k4 k5 k6 rk rk2
  have K1 := Lib.hid k1
  have K2 := Lib.hid k2
  have K3 := Lib.hid k3
  have K4 := Lib.hid k4
  have K5 := Lib.hid k5
  clear k1 k2 k3 k4 k5 rk rk1 rk2
  by_cases hmo : msg = other
  · obtain rfl := hsame hmo
    subst hmo
    rw [decide_eq_true rfl] at k6
    have K6 := Lib.hid k6
    clear k6 hsame L hW
    go_enter Tryd.func7, Tryd.ntmps7
    go_wp2_with fail
    refine (KS.out _ A.out.laid _ (Below.refl _ _)).mono ?_
    rintro e w1 ⟨rfl, hb⟩
    replace A := Lib.hid (A.out.step hb)
    clear hb
    go_wp2_with fail
    refine (K1.out _ A.out.laid _ (Below.refl _ _)).mono ?_
    rintro e w2 ⟨rfl, hb⟩
    replace A := Lib.hid (A.out.step hb)
    clear hb
    replace A := Lib.hid (A.out.alloc (.cells #[.int .i64 a, .int .i64 b] 23))
    have B1 := Lib.hid (Blk.new w2 a b 23)
    go_wp2_with fail
    generalize w2.alloc (.cells #[.int .i64 a, .int .i64 b] 23) = w3 at *
    refine (K2.out _ A.out.laid _ (Below.refl _ _)).mono ?_
    rintro e w4 ⟨rfl, hb⟩
    replace A := Lib.hid (A.out.step hb)
    replace B1 := Lib.hid (B1.out.step hb)
    clear hb
    replace A := Lib.hid (A.out.alloc (.cells #[.int .i64 E, .int .i64 S] 30))
    replace B1 := Lib.hid (B1.out.alloc (.cells #[.int .i64 E, .int .i64 S] 30))
    have B2 := Lib.hid (Blk.new w4 E S 30)
    have cB10 := B1.out.c0
    have cB11 := B1.out.c1
    go_wp2_with fail
    clear cB10 cB11
    generalize w4.alloc (.cells #[.int .i64 E, .int .i64 S] 30) = w5 at *
    refine (K3.out _ A.out.laid _ (Below.refl _ _)).mono ?_
    rintro e w6 ⟨rfl, hb⟩
    replace A := Lib.hid (A.out.step hb)
    replace B1 := Lib.hid (B1.out.step hb)
    replace B2 := Lib.hid (B2.out.step hb)
    clear hb
    go_wp2_with fail
    replace A := Lib.hid A.out.drew
    replace B1 := Lib.hid B1.out.drew
    replace B2 := Lib.hid B2.out.drew
    refine wp_region_held_drew (S := (fun w' => w'.cell? ⟨w2.heap.size, 0, none⟩ = some (.int .i64 a) ∧ w'.cell? ⟨w2.heap.size, 1, none⟩ = some (.int .i64 b) ∧ w'.cell? ⟨w4.heap.size, 0, none⟩ = some (.int .i64 E) ∧ w'.cell? ⟨w4.heap.size, 1, none⟩ = some (.int .i64 S))) (by kernel_rfl) ⟨B1.out.c0, B1.out.c1, B2.out.c0, B2.out.c1⟩ (fun hHeld => ?_)
    refine wpAnyH_take (i := 0) (oi := ⟨_, _, _, _, _, _⟩) (v := ?_) rfl (by kernel_rfl) (by kernel_rfl) (by kernel_rfl) (fun _ _ _ h => h) (Or.inl ⟨by rfl, ?_⟩) (by assumption) ?_
    rotate_left
    · intro wz hSw
      try dsimp only at hSw
      go_simp
      try with_reducible rfl
    try simp only [Act.put, List.setIfInBounds_toArray, List.set_cons_zero, List.set_cons_succ]
    refine wpAnyH_take (i := 1) (oi := ⟨_, _, _, _, _, _⟩) (v := ?_) rfl (by kernel_rfl) (by kernel_rfl) (by kernel_rfl) (fun _ _ _ h => h) (Or.inl ⟨by rfl, ?_⟩) (by assumption) ?_
    rotate_left
    · intro wz hSw
      try dsimp only at hSw
      go_simp
      try with_reducible rfl
    try simp only [Act.put, List.setIfInBounds_toArray, List.set_cons_zero, List.set_cons_succ]
    refine wpAnyH_take (i := 2) (oi := ⟨_, _, _, _, _, _⟩) (v := ?_) rfl (by kernel_rfl) (by kernel_rfl) (by kernel_rfl) (fun _ _ _ h => h) (Or.inl ⟨by rfl, ?_⟩) (by assumption) ?_
    rotate_left
    · intro wz hSw
      try dsimp only at hSw
      go_simp
      try with_reducible rfl
    try simp only [Act.put, List.setIfInBounds_toArray, List.set_cons_zero, List.set_cons_succ]
    refine wpAnyH_take (i := 3) (oi := ⟨_, _, _, _, _, _⟩) (v := ?_) rfl (by kernel_rfl) (by kernel_rfl) (by kernel_rfl) (fun _ _ _ h => h) (Or.inl ⟨by rfl, ?_⟩) (by assumption) ?_
    rotate_left
    · intro wz hSw
      try dsimp only at hSw
      go_simp
      try with_reducible rfl
    try simp only [Act.put, List.setIfInBounds_toArray, List.set_cons_zero, List.set_cons_succ]
    refine wpAnyH_take (i := 5) (oi := ⟨_, _, _, _, _, _⟩) (v := ?_) rfl (by kernel_rfl) (by kernel_rfl) (by kernel_rfl) (fun _ _ _ h => h) (Or.inl ⟨by rfl, ?_⟩) (by assumption) ?_
    rotate_left
    · intro wz hSw
      try dsimp only at hSw
      go_simp
      try with_reducible rfl
    try simp only [Act.put, List.setIfInBounds_toArray, List.set_cons_zero, List.set_cons_succ]
    refine wpAnyH_take (i := 6) (oi := ⟨_, _, _, _, _, _⟩) (v := ?_) rfl (by kernel_rfl) (by kernel_rfl) (by kernel_rfl) (fun _ _ _ h => h) (Or.inl ⟨by rfl, ?_⟩) (by assumption) ?_
    rotate_left
    · intro wz hSw
      try dsimp only at hSw
      go_simp
      try with_reducible rfl
    try simp only [Act.put, List.setIfInBounds_toArray, List.set_cons_zero, List.set_cons_succ]
    refine wpAnyH_take (i := 7) (oi := ⟨_, _, _, _, _, _⟩) (v := ?_) rfl (by kernel_rfl) (by kernel_rfl) (by kernel_rfl) (fun _ _ _ h => h) (Or.inl ⟨by rfl, ?_⟩) (by assumption) ?_
    rotate_left
    · intro wz hSw
      try dsimp only at hSw
      go_simp
      try with_reducible rfl
    try simp only [Act.put, List.setIfInBounds_toArray, List.set_cons_zero, List.set_cons_succ]
    refine wpAnyH_take (i := 8) (oi := ⟨_, _, _, _, _, _⟩) (v := ?_) rfl (by kernel_rfl) (by kernel_rfl) (by kernel_rfl) (fun _ _ _ h => h) (Or.inl ⟨by rfl, ?_⟩) (by assumption) ?_
    rotate_left
    · intro wz hSw
      try dsimp only at hSw
      go_simp
      try with_reducible rfl
    try simp only [Act.put, List.setIfInBounds_toArray, List.set_cons_zero, List.set_cons_succ]
    refine wpAnyH_ready (rs := [4]) (by kernel_rfl) (by simp) ?_
    refine AllReadyH.cons (o := ⟨_, _, _, _, _, _⟩) rfl (fun K hK => ?_) AllReadyH.nil
    go_simp
    refine (K4.out _ A.out.laid _ (Below.refl _ _)).mono ?_
    rintro e w7 ⟨rfl, hb⟩
    replace A := Lib.hid (A.out.step hb)
    replace B1 := Lib.hid (B1.out.step hb)
    replace B2 := Lib.hid (B2.out.step hb)
    clear hb hHeld
    refine hK.out _ _ ⟨B1.out.c0, B1.out.c1, B2.out.c0, B2.out.c1⟩ (fun hHeld => ?_)
    clear hK K
    try simp only [Act.put, List.setIfInBounds_toArray, List.set_cons_zero, List.set_cons_succ]
    refine wpAnyH_ready (rs := [9]) (by kernel_rfl) (by simp) ?_
    refine AllReadyH.cons (o := ⟨_, _, _, _, _, _⟩) rfl (fun K hK => ?_) AllReadyH.nil
    go_simp
    refine (K5.out _ A.out.laid _ (Below.refl _ _)).mono ?_
    rintro e w8 ⟨rfl, hb⟩
    replace A := Lib.hid (A.out.step hb)
    replace B1 := Lib.hid (B1.out.step hb)
    replace B2 := Lib.hid (B2.out.step hb)
    clear hb hHeld
    refine hK.out _ _ ⟨B1.out.c0, B1.out.c1, B2.out.c0, B2.out.c1⟩ (fun hHeld => ?_)
    clear hK K
    try simp only [Act.put, List.setIfInBounds_toArray, List.set_cons_zero, List.set_cons_succ]
    refine wpAnyH_take (i := 10) (oi := ⟨_, _, _, _, _, _⟩) (v := .bool true) rfl (by kernel_rfl) (by kernel_rfl) (by kernel_rfl) (fun _ _ _ h => h) (Or.inl ⟨by rfl, ?_⟩) (by assumption) ?_
    · intro wz hSw
      try dsimp only at hSw
      go_simp
    try simp only [Act.put, List.setIfInBounds_toArray, List.set_cons_zero, List.set_cons_succ]
    refine wpAnyH_take (i := 11) (oi := ⟨_, _, _, _, _, _⟩) (v := ?_) rfl (by kernel_rfl) (by kernel_rfl) (by kernel_rfl) (fun _ _ _ h => h) (Or.inl ⟨by rfl, ?_⟩) (by assumption) ?_
    rotate_left
    · intro wz hSw
      try dsimp only at hSw
      go_simp
      try with_reducible rfl
    try simp only [Act.put, List.setIfInBounds_toArray, List.set_cons_zero, List.set_cons_succ]
    refine wpAnyH_done (by kernel_rfl) ?_ _
    clear hHeld
    have cB10 := B1.out.c0
    have cB11 := B1.out.c1
    have cB20 := B2.out.c0
    have cB21 := B2.out.c1
    go_wp2_with fail
    clear cB10 cB11 cB20 cB21
    refine (K6.out _ A.out.laid _ (Below.refl _ _)).mono ?_
    rintro e w9 ⟨rfl, hb⟩
    replace A := Lib.hid (A.out.step hb)
    replace B1 := Lib.hid (B1.out.step hb)
    replace B2 := Lib.hid (B2.out.step hb)
    clear hb
    go_wp2
    go_ret
    exact ⟨rfl, A.out.bel⟩
  · have hbne : (msg == other) = false := beq_eq_false_iff_ne.2 hmo
    clear hsame
    by_cases hc : cm = co
    · subst hc
      rw [decide_eq_true rfl] at k6
      have K6 := Lib.hid k6
      clear k6 L hW hmo
      go_enter Tryd.func7, Tryd.ntmps7
      go_wp2_with fail
      refine (KS.out _ A.out.laid _ (Below.refl _ _)).mono ?_
      rintro e w1 ⟨rfl, hb⟩
      replace A := Lib.hid (A.out.step hb)
      clear hb
      go_wp2_with fail
      refine (K1.out _ A.out.laid _ (Below.refl _ _)).mono ?_
      rintro e w2 ⟨rfl, hb⟩
      replace A := Lib.hid (A.out.step hb)
      clear hb
      replace A := Lib.hid (A.out.alloc (.cells #[.int .i64 a, .int .i64 b] 23))
      have B1 := Lib.hid (Blk.new w2 a b 23)
      go_wp2_with fail
      generalize w2.alloc (.cells #[.int .i64 a, .int .i64 b] 23) = w3 at *
      refine (K2.out _ A.out.laid _ (Below.refl _ _)).mono ?_
      rintro e w4 ⟨rfl, hb⟩
      replace A := Lib.hid (A.out.step hb)
      replace B1 := Lib.hid (B1.out.step hb)
      clear hb
      replace A := Lib.hid (A.out.alloc (.cells #[.int .i64 E, .int .i64 S] 30))
      replace B1 := Lib.hid (B1.out.alloc (.cells #[.int .i64 E, .int .i64 S] 30))
      have B2 := Lib.hid (Blk.new w4 E S 30)
      have cB10 := B1.out.c0
      have cB11 := B1.out.c1
      go_wp2_with fail
      clear cB10 cB11
      generalize w4.alloc (.cells #[.int .i64 E, .int .i64 S] 30) = w5 at *
      refine (K3.out _ A.out.laid _ (Below.refl _ _)).mono ?_
      rintro e w6 ⟨rfl, hb⟩
      replace A := Lib.hid (A.out.step hb)
      replace B1 := Lib.hid (B1.out.step hb)
      replace B2 := Lib.hid (B2.out.step hb)
      clear hb
      go_wp2_with fail
      replace A := Lib.hid A.out.drew
      replace B1 := Lib.hid B1.out.drew
      replace B2 := Lib.hid B2.out.drew
      refine wp_region_held_drew (S := (fun w' => w'.cell? ⟨w2.heap.size, 0, none⟩ = some (.int .i64 a) ∧ w'.cell? ⟨w2.heap.size, 1, none⟩ = some (.int .i64 b) ∧ w'.cell? ⟨w4.heap.size, 0, none⟩ = some (.int .i64 E) ∧ w'.cell? ⟨w4.heap.size, 1, none⟩ = some (.int .i64 S))) (by kernel_rfl) ⟨B1.out.c0, B1.out.c1, B2.out.c0, B2.out.c1⟩ (fun hHeld => ?_)
      refine wpAnyH_take (i := 0) (oi := ⟨_, _, _, _, _, _⟩) (v := ?_) rfl (by kernel_rfl) (by kernel_rfl) (by kernel_rfl) (fun _ _ _ h => h) (Or.inl ⟨by rfl, ?_⟩) (by assumption) ?_
      rotate_left
      · intro wz hSw
        try dsimp only at hSw
        go_simp
        try with_reducible rfl
      try simp only [Act.put, List.setIfInBounds_toArray, List.set_cons_zero, List.set_cons_succ]
      refine wpAnyH_take (i := 1) (oi := ⟨_, _, _, _, _, _⟩) (v := ?_) rfl (by kernel_rfl) (by kernel_rfl) (by kernel_rfl) (fun _ _ _ h => h) (Or.inl ⟨by rfl, ?_⟩) (by assumption) ?_
      rotate_left
      · intro wz hSw
        try dsimp only at hSw
        go_simp
        try with_reducible rfl
      try simp only [Act.put, List.setIfInBounds_toArray, List.set_cons_zero, List.set_cons_succ]
      refine wpAnyH_take (i := 2) (oi := ⟨_, _, _, _, _, _⟩) (v := ?_) rfl (by kernel_rfl) (by kernel_rfl) (by kernel_rfl) (fun _ _ _ h => h) (Or.inl ⟨by rfl, ?_⟩) (by assumption) ?_
      rotate_left
      · intro wz hSw
        try dsimp only at hSw
        go_simp
        try with_reducible rfl
      try simp only [Act.put, List.setIfInBounds_toArray, List.set_cons_zero, List.set_cons_succ]
      refine wpAnyH_take (i := 3) (oi := ⟨_, _, _, _, _, _⟩) (v := ?_) rfl (by kernel_rfl) (by kernel_rfl) (by kernel_rfl) (fun _ _ _ h => h) (Or.inl ⟨by rfl, ?_⟩) (by assumption) ?_
      rotate_left
      · intro wz hSw
        try dsimp only at hSw
        go_simp
        try with_reducible rfl
      try simp only [Act.put, List.setIfInBounds_toArray, List.set_cons_zero, List.set_cons_succ]
      refine wpAnyH_take (i := 5) (oi := ⟨_, _, _, _, _, _⟩) (v := ?_) rfl (by kernel_rfl) (by kernel_rfl) (by kernel_rfl) (fun _ _ _ h => h) (Or.inl ⟨by rfl, ?_⟩) (by assumption) ?_
      rotate_left
      · intro wz hSw
        try dsimp only at hSw
        go_simp
        try with_reducible rfl
      try simp only [Act.put, List.setIfInBounds_toArray, List.set_cons_zero, List.set_cons_succ]
      refine wpAnyH_take (i := 6) (oi := ⟨_, _, _, _, _, _⟩) (v := ?_) rfl (by kernel_rfl) (by kernel_rfl) (by kernel_rfl) (fun _ _ _ h => h) (Or.inl ⟨by rfl, ?_⟩) (by assumption) ?_
      rotate_left
      · intro wz hSw
        try dsimp only at hSw
        go_simp
        try with_reducible rfl
      try simp only [Act.put, List.setIfInBounds_toArray, List.set_cons_zero, List.set_cons_succ]
      refine wpAnyH_take (i := 7) (oi := ⟨_, _, _, _, _, _⟩) (v := ?_) rfl (by kernel_rfl) (by kernel_rfl) (by kernel_rfl) (fun _ _ _ h => h) (Or.inl ⟨by rfl, ?_⟩) (by assumption) ?_
      rotate_left
      · intro wz hSw
        try dsimp only at hSw
        go_simp
        try with_reducible rfl
      try simp only [Act.put, List.setIfInBounds_toArray, List.set_cons_zero, List.set_cons_succ]
      refine wpAnyH_take (i := 8) (oi := ⟨_, _, _, _, _, _⟩) (v := ?_) rfl (by kernel_rfl) (by kernel_rfl) (by kernel_rfl) (fun _ _ _ h => h) (Or.inl ⟨by rfl, ?_⟩) (by assumption) ?_
      rotate_left
      · intro wz hSw
        try dsimp only at hSw
        go_simp
        try with_reducible rfl
      try simp only [Act.put, List.setIfInBounds_toArray, List.set_cons_zero, List.set_cons_succ]
      refine wpAnyH_ready (rs := [4]) (by kernel_rfl) (by simp) ?_
      refine AllReadyH.cons (o := ⟨_, _, _, _, _, _⟩) rfl (fun K hK => ?_) AllReadyH.nil
      go_simp
      refine (K4.out _ A.out.laid _ (Below.refl _ _)).mono ?_
      rintro e w7 ⟨rfl, hb⟩
      replace A := Lib.hid (A.out.step hb)
      replace B1 := Lib.hid (B1.out.step hb)
      replace B2 := Lib.hid (B2.out.step hb)
      clear hb hHeld
      refine hK.out _ _ ⟨B1.out.c0, B1.out.c1, B2.out.c0, B2.out.c1⟩ (fun hHeld => ?_)
      clear hK K
      try simp only [Act.put, List.setIfInBounds_toArray, List.set_cons_zero, List.set_cons_succ]
      refine wpAnyH_ready (rs := [9]) (by kernel_rfl) (by simp) ?_
      refine AllReadyH.cons (o := ⟨_, _, _, _, _, _⟩) rfl (fun K hK => ?_) AllReadyH.nil
      go_simp
      refine (K5.out _ A.out.laid _ (Below.refl _ _)).mono ?_
      rintro e w8 ⟨rfl, hb⟩
      replace A := Lib.hid (A.out.step hb)
      replace B1 := Lib.hid (B1.out.step hb)
      replace B2 := Lib.hid (B2.out.step hb)
      clear hb hHeld
      refine hK.out _ _ ⟨B1.out.c0, B1.out.c1, B2.out.c0, B2.out.c1⟩ (fun hHeld => ?_)
      clear hK K
      try simp only [Act.put, List.setIfInBounds_toArray, List.set_cons_zero, List.set_cons_succ]
      refine wpAnyH_take (i := 10) (oi := ⟨_, _, _, _, _, _⟩) (v := .bool true) rfl (by kernel_rfl) (by kernel_rfl) (by kernel_rfl) (fun _ _ _ h => h) (Or.inl ⟨by rfl, ?_⟩) (by assumption) ?_
      · intro wz hSw
        try dsimp only at hSw
        go_simp
      try simp only [Act.put, List.setIfInBounds_toArray, List.set_cons_zero, List.set_cons_succ]
      refine wpAnyH_take (i := 11) (oi := ⟨_, _, _, _, _, _⟩) (v := ?_) rfl (by kernel_rfl) (by kernel_rfl) (by kernel_rfl) (fun _ _ _ h => h) (Or.inl ⟨by rfl, ?_⟩) (by assumption) ?_
      rotate_left
      · intro wz hSw
        try dsimp only at hSw
        go_simp
        try with_reducible rfl
      try simp only [Act.put, List.setIfInBounds_toArray, List.set_cons_zero, List.set_cons_succ]
      refine wpAnyH_done (by kernel_rfl) ?_ _
      clear hHeld
      have cB10 := B1.out.c0
      have cB11 := B1.out.c1
      have cB20 := B2.out.c0
      have cB21 := B2.out.c1
      go_wp2_with fail
      clear cB10 cB11 cB20 cB21
      refine (K6.out _ A.out.laid _ (Below.refl _ _)).mono ?_
      rintro e w9 ⟨rfl, hb⟩
      replace A := Lib.hid (A.out.step hb)
      replace B1 := Lib.hid (B1.out.step hb)
      replace B2 := Lib.hid (B2.out.step hb)
      clear hb
      go_wp2
      go_ret
      exact ⟨rfl, A.out.bel⟩
    · rw [decide_eq_false hc] at k6
      have K6 := Lib.hid k6
      have hcb : (cm == co) = false := beq_eq_false_iff_ne.2 hc
      clear k6 L hW hmo
      go_enter Tryd.func7, Tryd.ntmps7
      go_wp2_with fail
      refine (KS.out _ A.out.laid _ (Below.refl _ _)).mono ?_
      rintro e w1 ⟨rfl, hb⟩
      replace A := Lib.hid (A.out.step hb)
      clear hb
      go_wp2_with fail
      refine (K1.out _ A.out.laid _ (Below.refl _ _)).mono ?_
      rintro e w2 ⟨rfl, hb⟩
      replace A := Lib.hid (A.out.step hb)
      clear hb
      replace A := Lib.hid (A.out.alloc (.cells #[.int .i64 a, .int .i64 b] 23))
      have B1 := Lib.hid (Blk.new w2 a b 23)
      go_wp2_with fail
      generalize w2.alloc (.cells #[.int .i64 a, .int .i64 b] 23) = w3 at *
      refine (K2.out _ A.out.laid _ (Below.refl _ _)).mono ?_
      rintro e w4 ⟨rfl, hb⟩
      replace A := Lib.hid (A.out.step hb)
      replace B1 := Lib.hid (B1.out.step hb)
      clear hb
      replace A := Lib.hid (A.out.alloc (.cells #[.int .i64 E, .int .i64 S] 30))
      replace B1 := Lib.hid (B1.out.alloc (.cells #[.int .i64 E, .int .i64 S] 30))
      have B2 := Lib.hid (Blk.new w4 E S 30)
      have cB10 := B1.out.c0
      have cB11 := B1.out.c1
      go_wp2_with fail
      clear cB10 cB11
      generalize w4.alloc (.cells #[.int .i64 E, .int .i64 S] 30) = w5 at *
      refine (K3.out _ A.out.laid _ (Below.refl _ _)).mono ?_
      rintro e w6 ⟨rfl, hb⟩
      replace A := Lib.hid (A.out.step hb)
      replace B1 := Lib.hid (B1.out.step hb)
      replace B2 := Lib.hid (B2.out.step hb)
      clear hb
      go_wp2_with fail
      replace A := Lib.hid A.out.drew
      replace B1 := Lib.hid B1.out.drew
      replace B2 := Lib.hid B2.out.drew
      refine wp_region_held_drew (S := (fun w' => w'.cell? ⟨w2.heap.size, 0, none⟩ = some (.int .i64 a) ∧ w'.cell? ⟨w2.heap.size, 1, none⟩ = some (.int .i64 b) ∧ w'.cell? ⟨w4.heap.size, 0, none⟩ = some (.int .i64 E) ∧ w'.cell? ⟨w4.heap.size, 1, none⟩ = some (.int .i64 S))) (by kernel_rfl) ⟨B1.out.c0, B1.out.c1, B2.out.c0, B2.out.c1⟩ (fun hHeld => ?_)
      refine wpAnyH_take (i := 0) (oi := ⟨_, _, _, _, _, _⟩) (v := ?_) rfl (by kernel_rfl) (by kernel_rfl) (by kernel_rfl) (fun _ _ _ h => h) (Or.inl ⟨by rfl, ?_⟩) (by assumption) ?_
      rotate_left
      · intro wz hSw
        try dsimp only at hSw
        go_simp
        try with_reducible rfl
      try simp only [Act.put, List.setIfInBounds_toArray, List.set_cons_zero, List.set_cons_succ]
      refine wpAnyH_take (i := 1) (oi := ⟨_, _, _, _, _, _⟩) (v := ?_) rfl (by kernel_rfl) (by kernel_rfl) (by kernel_rfl) (fun _ _ _ h => h) (Or.inl ⟨by rfl, ?_⟩) (by assumption) ?_
      rotate_left
      · intro wz hSw
        try dsimp only at hSw
        go_simp
        try with_reducible rfl
      try simp only [Act.put, List.setIfInBounds_toArray, List.set_cons_zero, List.set_cons_succ]
      refine wpAnyH_take (i := 2) (oi := ⟨_, _, _, _, _, _⟩) (v := ?_) rfl (by kernel_rfl) (by kernel_rfl) (by kernel_rfl) (fun _ _ _ h => h) (Or.inl ⟨by rfl, ?_⟩) (by assumption) ?_
      rotate_left
      · intro wz hSw
        try dsimp only at hSw
        go_simp
        try with_reducible rfl
      try simp only [Act.put, List.setIfInBounds_toArray, List.set_cons_zero, List.set_cons_succ]
      refine wpAnyH_take (i := 3) (oi := ⟨_, _, _, _, _, _⟩) (v := ?_) rfl (by kernel_rfl) (by kernel_rfl) (by kernel_rfl) (fun _ _ _ h => h) (Or.inl ⟨by rfl, ?_⟩) (by assumption) ?_
      rotate_left
      · intro wz hSw
        try dsimp only at hSw
        go_simp
        try with_reducible rfl
      try simp only [Act.put, List.setIfInBounds_toArray, List.set_cons_zero, List.set_cons_succ]
      refine wpAnyH_take (i := 5) (oi := ⟨_, _, _, _, _, _⟩) (v := ?_) rfl (by kernel_rfl) (by kernel_rfl) (by kernel_rfl) (fun _ _ _ h => h) (Or.inl ⟨by rfl, ?_⟩) (by assumption) ?_
      rotate_left
      · intro wz hSw
        try dsimp only at hSw
        go_simp
        try with_reducible rfl
      try simp only [Act.put, List.setIfInBounds_toArray, List.set_cons_zero, List.set_cons_succ]
      refine wpAnyH_take (i := 6) (oi := ⟨_, _, _, _, _, _⟩) (v := ?_) rfl (by kernel_rfl) (by kernel_rfl) (by kernel_rfl) (fun _ _ _ h => h) (Or.inl ⟨by rfl, ?_⟩) (by assumption) ?_
      rotate_left
      · intro wz hSw
        try dsimp only at hSw
        go_simp
        try with_reducible rfl
      try simp only [Act.put, List.setIfInBounds_toArray, List.set_cons_zero, List.set_cons_succ]
      refine wpAnyH_take (i := 7) (oi := ⟨_, _, _, _, _, _⟩) (v := ?_) rfl (by kernel_rfl) (by kernel_rfl) (by kernel_rfl) (fun _ _ _ h => h) (Or.inl ⟨by rfl, ?_⟩) (by assumption) ?_
      rotate_left
      · intro wz hSw
        try dsimp only at hSw
        go_simp
        try with_reducible rfl
      try simp only [Act.put, List.setIfInBounds_toArray, List.set_cons_zero, List.set_cons_succ]
      refine wpAnyH_take (i := 8) (oi := ⟨_, _, _, _, _, _⟩) (v := ?_) rfl (by kernel_rfl) (by kernel_rfl) (by kernel_rfl) (fun _ _ _ h => h) (Or.inl ⟨by rfl, ?_⟩) (by assumption) ?_
      rotate_left
      · intro wz hSw
        try dsimp only at hSw
        go_simp
        try with_reducible rfl
      try simp only [Act.put, List.setIfInBounds_toArray, List.set_cons_zero, List.set_cons_succ]
      refine wpAnyH_ready (rs := [4]) (by kernel_rfl) (by simp) ?_
      refine AllReadyH.cons (o := ⟨_, _, _, _, _, _⟩) rfl (fun K hK => ?_) AllReadyH.nil
      go_simp
      refine (K4.out _ A.out.laid _ (Below.refl _ _)).mono ?_
      rintro e w7 ⟨rfl, hb⟩
      replace A := Lib.hid (A.out.step hb)
      replace B1 := Lib.hid (B1.out.step hb)
      replace B2 := Lib.hid (B2.out.step hb)
      clear hb hHeld
      refine hK.out _ _ ⟨B1.out.c0, B1.out.c1, B2.out.c0, B2.out.c1⟩ (fun hHeld => ?_)
      clear hK K
      try simp only [Act.put, List.setIfInBounds_toArray, List.set_cons_zero, List.set_cons_succ]
      refine wpAnyH_ready (rs := [9]) (by kernel_rfl) (by simp) ?_
      refine AllReadyH.cons (o := ⟨_, _, _, _, _, _⟩) rfl (fun K hK => ?_) AllReadyH.nil
      go_simp
      refine (K5.out _ A.out.laid _ (Below.refl _ _)).mono ?_
      rintro e w8 ⟨rfl, hb⟩
      replace A := Lib.hid (A.out.step hb)
      replace B1 := Lib.hid (B1.out.step hb)
      replace B2 := Lib.hid (B2.out.step hb)
      clear hb hHeld
      refine hK.out _ _ ⟨B1.out.c0, B1.out.c1, B2.out.c0, B2.out.c1⟩ (fun hHeld => ?_)
      clear hK K
      try simp only [Act.put, List.setIfInBounds_toArray, List.set_cons_zero, List.set_cons_succ]
      refine wpAnyH_take (i := 10) (oi := ⟨_, _, _, _, _, _⟩) (v := .bool false) rfl (by kernel_rfl) (by kernel_rfl) (by kernel_rfl) (fun _ _ _ h => h) (Or.inl ⟨by rfl, ?_⟩) (by assumption) ?_
      · intro wz hSw
        try dsimp only at hSw
        go_simp
      try simp only [Act.put, List.setIfInBounds_toArray, List.set_cons_zero, List.set_cons_succ]
      refine wpAnyH_take (i := 11) (oi := ⟨_, _, _, _, _, _⟩) (v := ?_) rfl (by kernel_rfl) (by kernel_rfl) (by kernel_rfl) (fun _ _ _ h => h) (Or.inl ⟨by rfl, ?_⟩) (by assumption) ?_
      rotate_left
      · intro wz hSw
        try dsimp only at hSw
        go_simp
        try with_reducible rfl
      try simp only [Act.put, List.setIfInBounds_toArray, List.set_cons_zero, List.set_cons_succ]
      refine wpAnyH_done (by kernel_rfl) ?_ _
      clear hHeld
      have cB10 := B1.out.c0
      have cB11 := B1.out.c1
      have cB20 := B2.out.c0
      have cB21 := B2.out.c1
      go_wp2_with fail
      clear cB10 cB11 cB20 cB21
      refine (K6.out _ A.out.laid _ (Below.refl _ _)).mono ?_
      rintro e w9 ⟨rfl, hb⟩
      replace A := Lib.hid (A.out.step hb)
      replace B1 := Lib.hid (B1.out.step hb)
      replace B2 := Lib.hid (B2.out.step hb)
      clear hb
      go_wp2
      go_ret
      exact ⟨rfl, A.out.bel⟩
end Sg
end Go.Proofs.YtlcgcpjhmbbgfaaDoor
