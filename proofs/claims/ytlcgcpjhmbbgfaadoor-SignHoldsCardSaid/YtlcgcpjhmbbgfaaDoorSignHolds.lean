/-
  Layer 5: SignHolds' walk.
-/
import Derived.Test.YtlcgcpjhmbbgfaaDoorSignLaw2
namespace Go.Proofs.YtlcgcpjhmbbgfaaDoor
open Go.RowKit
namespace Sg
attribute [local go_sem] S3.B_size S3.B_app S3.B_list

set_option maxHeartbeats 8000000 in
set_option maxRecDepth 100000 in
theorem holds_walk (L : Landed) (seed msg : List UInt8) (x : Int) (W : World) (hW : S3.Laid W) (ix : isI x) :
    Calls Tryd.prog 6 #[.string (S3.B seed), .int .i64 x, .string (S3.B msg)] W fun e w' => e = .returned (.bool true) ∧ Below W.heap.size W w' := by
  have KS := Lib.hid (fun W hW => small_ok L W hW)
  have A := Lib.hid (At.start hW)
  have rk := keyV_Rt seed
  by_cases hseed : 2000 < seed.length
  · have hseed' : (2000 : Int) < seed.length := by omega
    clear rk
    go_enter Tryd.func6, Tryd.ntmps6
    go_wp2_with fail
    refine (KS.out _ A.out.laid _ (Below.refl _ _)).mono ?_
    rintro e w1 ⟨rfl, hb⟩
    replace A := Lib.hid (A.out.step hb)
    clear hb
    go_wp2
    go_ret
    exact ⟨rfl, A.out.bel⟩
  have hseed' : ¬ (2000 : Int) < seed.length := by omega
  by_cases hmsg : 2000 < msg.length
  · have hmsg' : (2000 : Int) < msg.length := by omega
    clear rk
    go_enter Tryd.func6, Tryd.ntmps6
    go_wp2_with fail
    refine (KS.out _ A.out.laid _ (Below.refl _ _)).mono ?_
    rintro e w1 ⟨rfl, hb⟩
    replace A := Lib.hid (A.out.step hb)
    clear hb
    go_wp2
    go_ret
    exact ⟨rfl, A.out.bel⟩
  have hmsg' : ¬ (2000 : Int) < msg.length := by omega
  obtain ⟨rk1, rk2, _, _⟩ := Rt_range rk
  have k1 := fun W hW => (L W hW).key seed (by omega)
  have k2 := fun W hW => (L W hW).sign (keyV seed).1 (keyV seed).2 msg rk1 rk2 (by omega)
  have hr := signV_range msg rk
  have k3 := fun W hW => (L W hW).ver (keyV seed).2 msg (signV (keyV seed).1 (keyV seed).2 msg).1 (signV (keyV seed).1 (keyV seed).2 msg).2 rk2 (by unfold isI S4.isI64; omega) (by unfold isI S4.isI64; omega) (by omega)
  rw [signV_holds msg rk] at k3
  unfold keyC at k1 k2
  have k4 := fun W hW => (L W hW).of x ix
  unfold keyC at k4
  have hl : msg.length ≤ 2000 := by omega
  generalize (signV (keyV seed).1 (keyV seed).2 msg).1 = E at k2 k3 hr
  generalize (signV (keyV seed).1 (keyV seed).2 msg).2 = S at k2 k3 hr
  generalize (keyV seed).1 = a at k1 k2 k3 rk rk1
  generalize (keyV seed).2 = b at k1 k2 k3 rk rk2
  have K1 := Lib.hid k1
  have K2 := Lib.hid k2
  have K3 := Lib.hid k3
  clear k1 k2 k3 hr rk rk1 rk2
  by_cases hx0 : x < 1
  · rw [ofV_out (fun h => by omega)] at k4
    have k5 := fun W hW => (L W hW).sign 0 0 msg (by unfold isI S4.isI64; omega) (by unfold isI S4.isI64; omega) hl
    rw [signV_no (not_Rt0 0)] at k5
    unfold keyC at k5
    have K4 := Lib.hid k4
    have K5 := Lib.hid k5
    clear k4 k5 hl
    clear ix L hW
    go_enter Tryd.func6, Tryd.ntmps6
    go_wp2_with fail
    refine (KS.out _ A.out.laid _ (Below.refl _ _)).mono ?_
    rintro e w1 ⟨rfl, hb⟩
    replace A := Lib.hid (A.out.step hb)
    clear hb
    go_wp2_with fail
    refine (K1.out _ A.out.laid _ (Below.refl _ _)).mono ?_
    rintro e w2 ⟨rfl, hb⟩
    replace A := Lib.hid (A.out.step hb)
    clear hb
    replace A := Lib.hid (A.out.alloc (.cells #[.int .i64 a, .int .i64 b] 23))
    have B1 := Lib.hid (Blk.new w2 a b 23)
    go_wp2_with fail
    generalize w2.alloc (.cells #[.int .i64 a, .int .i64 b] 23) = w3 at *
    refine (K2.out _ A.out.laid _ (Below.refl _ _)).mono ?_
    rintro e w4 ⟨rfl, hb⟩
    replace A := Lib.hid (A.out.step hb)
    replace B1 := Lib.hid (B1.out.step hb)
    clear hb
    replace A := Lib.hid (A.out.alloc (.cells #[.int .i64 E, .int .i64 S] 30))
    replace B1 := Lib.hid (B1.out.alloc (.cells #[.int .i64 E, .int .i64 S] 30))
    have B2 := Lib.hid (Blk.new w4 E S 30)
    go_wp2_with fail
    generalize w4.alloc (.cells #[.int .i64 E, .int .i64 S] 30) = w5 at *
    replace A := Lib.hid A.out.drew
    replace B1 := Lib.hid B1.out.drew
    replace B2 := Lib.hid B2.out.drew
    refine wp_region_held_drew (S := (fun w' => w'.cell? ⟨w2.heap.size, 0, none⟩ = some (.int .i64 a) ∧ w'.cell? ⟨w2.heap.size, 1, none⟩ = some (.int .i64 b) ∧ w'.cell? ⟨w4.heap.size, 0, none⟩ = some (.int .i64 E) ∧ w'.cell? ⟨w4.heap.size, 1, none⟩ = some (.int .i64 S))) (by kernel_rfl) ⟨B1.out.c0, B1.out.c1, B2.out.c0, B2.out.c1⟩ (fun hHeld => ?_)
    refine wpAnyH_take (i := 0) (oi := ⟨_, _, _, _, _, _⟩) (v := ?_) rfl (by kernel_rfl) (by kernel_rfl) (by kernel_rfl) (fun _ _ _ h => h) (Or.inl ⟨by rfl, ?_⟩) (by assumption) ?_
    rotate_left
    · intro wz hSw
      try dsimp only at hSw
      go_simp
      try with_reducible rfl
    try simp only [Act.put, List.setIfInBounds_toArray, List.set_cons_zero, List.set_cons_succ]
    refine wpAnyH_take (i := 1) (oi := ⟨_, _, _, _, _, _⟩) (v := ?_) rfl (by kernel_rfl) (by kernel_rfl) (by kernel_rfl) (fun _ _ _ h => h) (Or.inl ⟨by rfl, ?_⟩) (by assumption) ?_
    rotate_left
    · intro wz hSw
      try dsimp only at hSw
      go_simp
      try with_reducible rfl
    try simp only [Act.put, List.setIfInBounds_toArray, List.set_cons_zero, List.set_cons_succ]
    refine wpAnyH_take (i := 2) (oi := ⟨_, _, _, _, _, _⟩) (v := ?_) rfl (by kernel_rfl) (by kernel_rfl) (by kernel_rfl) (fun _ _ _ h => h) (Or.inl ⟨by rfl, ?_⟩) (by assumption) ?_
    rotate_left
    · intro wz hSw
      try dsimp only at hSw
      go_simp
      try with_reducible rfl
    try simp only [Act.put, List.setIfInBounds_toArray, List.set_cons_zero, List.set_cons_succ]
    refine wpAnyH_take (i := 3) (oi := ⟨_, _, _, _, _, _⟩) (v := ?_) rfl (by kernel_rfl) (by kernel_rfl) (by kernel_rfl) (fun _ _ _ h => h) (Or.inl ⟨by rfl, ?_⟩) (by assumption) ?_
    rotate_left
    · intro wz hSw
      try dsimp only at hSw
      go_simp
      try with_reducible rfl
    try simp only [Act.put, List.setIfInBounds_toArray, List.set_cons_zero, List.set_cons_succ]
    refine wpAnyH_ready (rs := [4]) (by kernel_rfl) (by simp) ?_
    refine AllReadyH.cons (o := ⟨_, _, _, _, _, _⟩) rfl (fun K hK => ?_) AllReadyH.nil
    go_simp
    refine (K3.out _ A.out.laid _ (Below.refl _ _)).mono ?_
    rintro e w6 ⟨rfl, hb⟩
    replace A := Lib.hid (A.out.step hb)
    replace B1 := Lib.hid (B1.out.step hb)
    replace B2 := Lib.hid (B2.out.step hb)
    clear hb hHeld
    refine hK.out _ _ ⟨B1.out.c0, B1.out.c1, B2.out.c0, B2.out.c1⟩ (fun hHeld => ?_)
    clear hK K
    try simp only [Act.put, List.setIfInBounds_toArray, List.set_cons_zero, List.set_cons_succ]
    refine wpAnyH_take (i := 5) (oi := ⟨_, _, _, _, _, _⟩) (v := ?_) rfl (by kernel_rfl) (by kernel_rfl) (by kernel_rfl) (fun _ _ _ h => h) (Or.inl ⟨by rfl, ?_⟩) (by assumption) ?_
    rotate_left
    · intro wz hSw
      try dsimp only at hSw
      go_simp
      try with_reducible rfl
    try simp only [Act.put, List.setIfInBounds_toArray, List.set_cons_zero, List.set_cons_succ]
    refine wpAnyH_take (i := 6) (oi := ⟨_, _, _, _, _, _⟩) (v := ?_) rfl (by kernel_rfl) (by kernel_rfl) (by kernel_rfl) (fun _ _ _ h => h) (Or.inl ⟨by rfl, ?_⟩) (by assumption) ?_
    rotate_left
    · intro wz hSw
      try dsimp only at hSw
      go_simp
      try with_reducible rfl
    try simp only [Act.put, List.setIfInBounds_toArray, List.set_cons_zero, List.set_cons_succ]
    refine wpAnyH_take (i := 7) (oi := ⟨_, _, _, _, _, _⟩) (v := ?_) rfl (by kernel_rfl) (by kernel_rfl) (by kernel_rfl) (fun _ _ _ h => h) (Or.inl ⟨by rfl, ?_⟩) (by assumption) ?_
    rotate_left
    · intro wz hSw
      try dsimp only at hSw
      go_simp
      try with_reducible rfl
    try simp only [Act.put, List.setIfInBounds_toArray, List.set_cons_zero, List.set_cons_succ]
    refine wpAnyH_take (i := 8) (oi := ⟨_, _, _, _, _, _⟩) (v := ?_) rfl (by kernel_rfl) (by kernel_rfl) (by kernel_rfl) (fun _ _ _ h => h) (Or.inl ⟨by rfl, ?_⟩) (by assumption) ?_
    rotate_left
    · intro wz hSw
      try dsimp only at hSw
      go_simp
      try with_reducible rfl
    try simp only [Act.put, List.setIfInBounds_toArray, List.set_cons_zero, List.set_cons_succ]
    refine wpAnyH_take (i := 10) (oi := ⟨_, _, _, _, _, _⟩) (v := ?_) rfl (by kernel_rfl) (by kernel_rfl) (by kernel_rfl) (fun _ _ _ h => h) (Or.inl ⟨by rfl, ?_⟩) (by assumption) ?_
    rotate_left
    · intro wz hSw
      try dsimp only at hSw
      go_simp
      try with_reducible rfl
    try simp only [Act.put, List.setIfInBounds_toArray, List.set_cons_zero, List.set_cons_succ]
    refine wpAnyH_ready (rs := [9]) (by kernel_rfl) (by simp) ?_
    refine AllReadyH.cons (o := ⟨_, _, _, _, _, _⟩) rfl (fun K hK => ?_) AllReadyH.nil
    go_simp
    refine (K2.out _ A.out.laid _ (Below.refl _ _)).mono ?_
    rintro e w7 ⟨rfl, hb⟩
    replace A := Lib.hid (A.out.step hb)
    replace B1 := Lib.hid (B1.out.step hb)
    replace B2 := Lib.hid (B2.out.step hb)
    clear hb hHeld
    refine hK.out _ _ ⟨B1.out.c0, B1.out.c1, B2.out.c0, B2.out.c1⟩ (fun hHeld => ?_)
    clear hK K
    try simp only [Act.put, List.setIfInBounds_toArray, List.set_cons_zero, List.set_cons_succ]
    refine wpAnyH_take (i := 11) (oi := ⟨_, _, _, _, _, _⟩) (v := .bool false) rfl (by kernel_rfl) (by kernel_rfl) (by kernel_rfl) (fun _ _ _ h => h) (Or.inl ⟨by rfl, ?_⟩) (by assumption) ?_
    · intro wz hSw
      try dsimp only at hSw
      go_simp
    try simp only [Act.put, List.setIfInBounds_toArray, List.set_cons_zero, List.set_cons_succ]
    refine wpAnyH_take (i := 12) (oi := ⟨_, _, _, _, _, _⟩) (v := ?_) rfl (by kernel_rfl) (by kernel_rfl) (by kernel_rfl) (fun _ _ _ h => h) (Or.inl ⟨by rfl, ?_⟩) (by assumption) ?_
    rotate_left
    · intro wz hSw
      try dsimp only at hSw
      go_simp
      try with_reducible rfl
    try simp only [Act.put, List.setIfInBounds_toArray, List.set_cons_zero, List.set_cons_succ]
    refine wpAnyH_done (by kernel_rfl) ?_ _
    clear hHeld
    go_wp2_with fail
    refine (K4.out _ A.out.laid _ (Below.refl _ _)).mono ?_
    rintro e w8 ⟨rfl, hb⟩
    replace A := Lib.hid (A.out.step hb)
    replace B1 := Lib.hid (B1.out.step hb)
    replace B2 := Lib.hid (B2.out.step hb)
    clear hb
    replace A := Lib.hid (A.out.alloc (.cells #[.int .i64 0, .int .i64 0] 23))
    replace B1 := Lib.hid (B1.out.alloc (.cells #[.int .i64 0, .int .i64 0] 23))
    replace B2 := Lib.hid (B2.out.alloc (.cells #[.int .i64 0, .int .i64 0] 23))
    have B3 := Lib.hid (Blk.new w8 0 0 23)
    go_wp2_with fail
    generalize w8.alloc (.cells #[.int .i64 0, .int .i64 0] 23) = w9 at *
    refine (K5.out _ A.out.laid _ (Below.refl _ _)).mono ?_
    rintro e w10 ⟨rfl, hb⟩
    replace A := Lib.hid (A.out.step hb)
    replace B1 := Lib.hid (B1.out.step hb)
    replace B2 := Lib.hid (B2.out.step hb)
    replace B3 := Lib.hid (B3.out.step hb)
    clear hb
    replace A := Lib.hid (A.out.alloc (.cells #[.int .i64 0, .int .i64 0] 30))
    replace B1 := Lib.hid (B1.out.alloc (.cells #[.int .i64 0, .int .i64 0] 30))
    replace B2 := Lib.hid (B2.out.alloc (.cells #[.int .i64 0, .int .i64 0] 30))
    replace B3 := Lib.hid (B3.out.alloc (.cells #[.int .i64 0, .int .i64 0] 30))
    have B4 := Lib.hid (Blk.new w10 0 0 30)
    go_wp2
    go_ret
    exact ⟨rfl, A.out.bel⟩
  · by_cases hx1 : x < 2305843009213693950
    · have hi : 1 ≤ x ∧ x ≤ 2305843009213693949 := ⟨by omega, by omega⟩
      rw [ofV_in hi.1 hi.2] at k4
      have rx := Rt_in hi.1 hi.2
      obtain ⟨rx1, rx2, _, _⟩ := Rt_range rx
      have k5 := fun W hW => (L W hW).sign x (pub x : Nat) msg rx1 rx2 hl
      have hr := signV_range msg rx
      have k6 := fun W hW => (L W hW).ver (pub x : Nat) msg (signV x (pub x : Nat) msg).1 (signV x (pub x : Nat) msg).2 rx2 (by unfold isI S4.isI64; omega) (by unfold isI S4.isI64; omega) hl
      rw [signV_holds msg rx] at k6
      unfold keyC at k5
      generalize (signV x (pub x : Nat) msg).1 = F at k5 k6 hr
      generalize (signV x (pub x : Nat) msg).2 = R at k5 k6 hr
      obtain ⟨d, hd⟩ : ∃ d : Int, d = (pub x : Nat) := ⟨_, rfl⟩
      rw [← hd] at k4 k5 k6
      have K4 := Lib.hid k4
      have K5 := Lib.hid k5
      have K6 := Lib.hid k6
      clear k4 k5 k6 hr rx rx1 rx2 hd hi hl
      clear ix L hW
      go_enter Tryd.func6, Tryd.ntmps6
      go_wp2_with fail
      refine (KS.out _ A.out.laid _ (Below.refl _ _)).mono ?_
      rintro e w1 ⟨rfl, hb⟩
      replace A := Lib.hid (A.out.step hb)
      clear hb
      go_wp2_with fail
      refine (K1.out _ A.out.laid _ (Below.refl _ _)).mono ?_
      rintro e w2 ⟨rfl, hb⟩
      replace A := Lib.hid (A.out.step hb)
      clear hb
      replace A := Lib.hid (A.out.alloc (.cells #[.int .i64 a, .int .i64 b] 23))
      have B1 := Lib.hid (Blk.new w2 a b 23)
      go_wp2_with fail
      generalize w2.alloc (.cells #[.int .i64 a, .int .i64 b] 23) = w3 at *
      refine (K2.out _ A.out.laid _ (Below.refl _ _)).mono ?_
      rintro e w4 ⟨rfl, hb⟩
      replace A := Lib.hid (A.out.step hb)
      replace B1 := Lib.hid (B1.out.step hb)
      clear hb
      replace A := Lib.hid (A.out.alloc (.cells #[.int .i64 E, .int .i64 S] 30))
      replace B1 := Lib.hid (B1.out.alloc (.cells #[.int .i64 E, .int .i64 S] 30))
      have B2 := Lib.hid (Blk.new w4 E S 30)
      go_wp2_with fail
      generalize w4.alloc (.cells #[.int .i64 E, .int .i64 S] 30) = w5 at *
      replace A := Lib.hid A.out.drew
      replace B1 := Lib.hid B1.out.drew
      replace B2 := Lib.hid B2.out.drew
      refine wp_region_held_drew (S := (fun w' => w'.cell? ⟨w2.heap.size, 0, none⟩ = some (.int .i64 a) ∧ w'.cell? ⟨w2.heap.size, 1, none⟩ = some (.int .i64 b) ∧ w'.cell? ⟨w4.heap.size, 0, none⟩ = some (.int .i64 E) ∧ w'.cell? ⟨w4.heap.size, 1, none⟩ = some (.int .i64 S))) (by kernel_rfl) ⟨B1.out.c0, B1.out.c1, B2.out.c0, B2.out.c1⟩ (fun hHeld => ?_)
      refine wpAnyH_take (i := 0) (oi := ⟨_, _, _, _, _, _⟩) (v := ?_) rfl (by kernel_rfl) (by kernel_rfl) (by kernel_rfl) (fun _ _ _ h => h) (Or.inl ⟨by rfl, ?_⟩) (by assumption) ?_
      rotate_left
      · intro wz hSw
        try dsimp only at hSw
        go_simp
        try with_reducible rfl
      try simp only [Act.put, List.setIfInBounds_toArray, List.set_cons_zero, List.set_cons_succ]
      refine wpAnyH_take (i := 1) (oi := ⟨_, _, _, _, _, _⟩) (v := ?_) rfl (by kernel_rfl) (by kernel_rfl) (by kernel_rfl) (fun _ _ _ h => h) (Or.inl ⟨by rfl, ?_⟩) (by assumption) ?_
      rotate_left
      · intro wz hSw
        try dsimp only at hSw
        go_simp
        try with_reducible rfl
      try simp only [Act.put, List.setIfInBounds_toArray, List.set_cons_zero, List.set_cons_succ]
      refine wpAnyH_take (i := 2) (oi := ⟨_, _, _, _, _, _⟩) (v := ?_) rfl (by kernel_rfl) (by kernel_rfl) (by kernel_rfl) (fun _ _ _ h => h) (Or.inl ⟨by rfl, ?_⟩) (by assumption) ?_
      rotate_left
      · intro wz hSw
        try dsimp only at hSw
        go_simp
        try with_reducible rfl
      try simp only [Act.put, List.setIfInBounds_toArray, List.set_cons_zero, List.set_cons_succ]
      refine wpAnyH_take (i := 3) (oi := ⟨_, _, _, _, _, _⟩) (v := ?_) rfl (by kernel_rfl) (by kernel_rfl) (by kernel_rfl) (fun _ _ _ h => h) (Or.inl ⟨by rfl, ?_⟩) (by assumption) ?_
      rotate_left
      · intro wz hSw
        try dsimp only at hSw
        go_simp
        try with_reducible rfl
      try simp only [Act.put, List.setIfInBounds_toArray, List.set_cons_zero, List.set_cons_succ]
      refine wpAnyH_ready (rs := [4]) (by kernel_rfl) (by simp) ?_
      refine AllReadyH.cons (o := ⟨_, _, _, _, _, _⟩) rfl (fun K hK => ?_) AllReadyH.nil
      go_simp
      refine (K3.out _ A.out.laid _ (Below.refl _ _)).mono ?_
      rintro e w6 ⟨rfl, hb⟩
      replace A := Lib.hid (A.out.step hb)
      replace B1 := Lib.hid (B1.out.step hb)
      replace B2 := Lib.hid (B2.out.step hb)
      clear hb hHeld
      refine hK.out _ _ ⟨B1.out.c0, B1.out.c1, B2.out.c0, B2.out.c1⟩ (fun hHeld => ?_)
      clear hK K
      try simp only [Act.put, List.setIfInBounds_toArray, List.set_cons_zero, List.set_cons_succ]
      refine wpAnyH_take (i := 5) (oi := ⟨_, _, _, _, _, _⟩) (v := ?_) rfl (by kernel_rfl) (by kernel_rfl) (by kernel_rfl) (fun _ _ _ h => h) (Or.inl ⟨by rfl, ?_⟩) (by assumption) ?_
      rotate_left
      · intro wz hSw
        try dsimp only at hSw
        go_simp
        try with_reducible rfl
      try simp only [Act.put, List.setIfInBounds_toArray, List.set_cons_zero, List.set_cons_succ]
      refine wpAnyH_take (i := 6) (oi := ⟨_, _, _, _, _, _⟩) (v := ?_) rfl (by kernel_rfl) (by kernel_rfl) (by kernel_rfl) (fun _ _ _ h => h) (Or.inl ⟨by rfl, ?_⟩) (by assumption) ?_
      rotate_left
      · intro wz hSw
        try dsimp only at hSw
        go_simp
        try with_reducible rfl
      try simp only [Act.put, List.setIfInBounds_toArray, List.set_cons_zero, List.set_cons_succ]
      refine wpAnyH_take (i := 7) (oi := ⟨_, _, _, _, _, _⟩) (v := ?_) rfl (by kernel_rfl) (by kernel_rfl) (by kernel_rfl) (fun _ _ _ h => h) (Or.inl ⟨by rfl, ?_⟩) (by assumption) ?_
      rotate_left
      · intro wz hSw
        try dsimp only at hSw
        go_simp
        try with_reducible rfl
      try simp only [Act.put, List.setIfInBounds_toArray, List.set_cons_zero, List.set_cons_succ]
      refine wpAnyH_take (i := 8) (oi := ⟨_, _, _, _, _, _⟩) (v := ?_) rfl (by kernel_rfl) (by kernel_rfl) (by kernel_rfl) (fun _ _ _ h => h) (Or.inl ⟨by rfl, ?_⟩) (by assumption) ?_
      rotate_left
      · intro wz hSw
        try dsimp only at hSw
        go_simp
        try with_reducible rfl
      try simp only [Act.put, List.setIfInBounds_toArray, List.set_cons_zero, List.set_cons_succ]
      refine wpAnyH_take (i := 10) (oi := ⟨_, _, _, _, _, _⟩) (v := ?_) rfl (by kernel_rfl) (by kernel_rfl) (by kernel_rfl) (fun _ _ _ h => h) (Or.inl ⟨by rfl, ?_⟩) (by assumption) ?_
      rotate_left
      · intro wz hSw
        try dsimp only at hSw
        go_simp
        try with_reducible rfl
      try simp only [Act.put, List.setIfInBounds_toArray, List.set_cons_zero, List.set_cons_succ]
      refine wpAnyH_ready (rs := [9]) (by kernel_rfl) (by simp) ?_
      refine AllReadyH.cons (o := ⟨_, _, _, _, _, _⟩) rfl (fun K hK => ?_) AllReadyH.nil
      go_simp
      refine (K2.out _ A.out.laid _ (Below.refl _ _)).mono ?_
      rintro e w7 ⟨rfl, hb⟩
      replace A := Lib.hid (A.out.step hb)
      replace B1 := Lib.hid (B1.out.step hb)
      replace B2 := Lib.hid (B2.out.step hb)
      clear hb hHeld
      refine hK.out _ _ ⟨B1.out.c0, B1.out.c1, B2.out.c0, B2.out.c1⟩ (fun hHeld => ?_)
      clear hK K
      try simp only [Act.put, List.setIfInBounds_toArray, List.set_cons_zero, List.set_cons_succ]
      refine wpAnyH_take (i := 11) (oi := ⟨_, _, _, _, _, _⟩) (v := .bool false) rfl (by kernel_rfl) (by kernel_rfl) (by kernel_rfl) (fun _ _ _ h => h) (Or.inl ⟨by rfl, ?_⟩) (by assumption) ?_
      · intro wz hSw
        try dsimp only at hSw
        go_simp
      try simp only [Act.put, List.setIfInBounds_toArray, List.set_cons_zero, List.set_cons_succ]
      refine wpAnyH_take (i := 12) (oi := ⟨_, _, _, _, _, _⟩) (v := ?_) rfl (by kernel_rfl) (by kernel_rfl) (by kernel_rfl) (fun _ _ _ h => h) (Or.inl ⟨by rfl, ?_⟩) (by assumption) ?_
      rotate_left
      · intro wz hSw
        try dsimp only at hSw
        go_simp
        try with_reducible rfl
      try simp only [Act.put, List.setIfInBounds_toArray, List.set_cons_zero, List.set_cons_succ]
      refine wpAnyH_done (by kernel_rfl) ?_ _
      clear hHeld
      go_wp2_with fail
      refine (K4.out _ A.out.laid _ (Below.refl _ _)).mono ?_
      rintro e w8 ⟨rfl, hb⟩
      replace A := Lib.hid (A.out.step hb)
      replace B1 := Lib.hid (B1.out.step hb)
      replace B2 := Lib.hid (B2.out.step hb)
      clear hb
      replace A := Lib.hid (A.out.alloc (.cells #[.int .i64 x, .int .i64 d] 23))
      replace B1 := Lib.hid (B1.out.alloc (.cells #[.int .i64 x, .int .i64 d] 23))
      replace B2 := Lib.hid (B2.out.alloc (.cells #[.int .i64 x, .int .i64 d] 23))
      have B3 := Lib.hid (Blk.new w8 x d 23)
      go_wp2_with fail
      generalize w8.alloc (.cells #[.int .i64 x, .int .i64 d] 23) = w9 at *
      refine (K5.out _ A.out.laid _ (Below.refl _ _)).mono ?_
      rintro e w10 ⟨rfl, hb⟩
      replace A := Lib.hid (A.out.step hb)
      replace B1 := Lib.hid (B1.out.step hb)
      replace B2 := Lib.hid (B2.out.step hb)
      replace B3 := Lib.hid (B3.out.step hb)
      clear hb
      replace A := Lib.hid (A.out.alloc (.cells #[.int .i64 F, .int .i64 R] 30))
      replace B1 := Lib.hid (B1.out.alloc (.cells #[.int .i64 F, .int .i64 R] 30))
      replace B2 := Lib.hid (B2.out.alloc (.cells #[.int .i64 F, .int .i64 R] 30))
      replace B3 := Lib.hid (B3.out.alloc (.cells #[.int .i64 F, .int .i64 R] 30))
      have B4 := Lib.hid (Blk.new w10 F R 30)
      have cB30 := B3.out.c0
      have cB31 := B3.out.c1
      go_wp2_with fail
      clear cB30 cB31
      generalize w10.alloc (.cells #[.int .i64 F, .int .i64 R] 30) = w11 at *
      refine (K6.out _ A.out.laid _ (Below.refl _ _)).mono ?_
      rintro e w12 ⟨rfl, hb⟩
      replace A := Lib.hid (A.out.step hb)
      replace B1 := Lib.hid (B1.out.step hb)
      replace B2 := Lib.hid (B2.out.step hb)
      replace B3 := Lib.hid (B3.out.step hb)
      replace B4 := Lib.hid (B4.out.step hb)
      clear hb
      go_wp2
      go_ret
      exact ⟨rfl, A.out.bel⟩
    · rw [ofV_out (fun h => by omega)] at k4
      have k5 := fun W hW => (L W hW).sign 0 0 msg (by unfold isI S4.isI64; omega) (by unfold isI S4.isI64; omega) hl
      rw [signV_no (not_Rt0 0)] at k5
      unfold keyC at k5
      have K4 := Lib.hid k4
      have K5 := Lib.hid k5
      clear k4 k5 hl
      clear ix L hW
      go_enter Tryd.func6, Tryd.ntmps6
      go_wp2_with fail
      refine (KS.out _ A.out.laid _ (Below.refl _ _)).mono ?_
      rintro e w1 ⟨rfl, hb⟩
      replace A := Lib.hid (A.out.step hb)
      clear hb
      go_wp2_with fail
      refine (K1.out _ A.out.laid _ (Below.refl _ _)).mono ?_
      rintro e w2 ⟨rfl, hb⟩
      replace A := Lib.hid (A.out.step hb)
      clear hb
      replace A := Lib.hid (A.out.alloc (.cells #[.int .i64 a, .int .i64 b] 23))
      have B1 := Lib.hid (Blk.new w2 a b 23)
      go_wp2_with fail
      generalize w2.alloc (.cells #[.int .i64 a, .int .i64 b] 23) = w3 at *
      refine (K2.out _ A.out.laid _ (Below.refl _ _)).mono ?_
      rintro e w4 ⟨rfl, hb⟩
      replace A := Lib.hid (A.out.step hb)
      replace B1 := Lib.hid (B1.out.step hb)
      clear hb
      replace A := Lib.hid (A.out.alloc (.cells #[.int .i64 E, .int .i64 S] 30))
      replace B1 := Lib.hid (B1.out.alloc (.cells #[.int .i64 E, .int .i64 S] 30))
      have B2 := Lib.hid (Blk.new w4 E S 30)
      go_wp2_with fail
      generalize w4.alloc (.cells #[.int .i64 E, .int .i64 S] 30) = w5 at *
      replace A := Lib.hid A.out.drew
      replace B1 := Lib.hid B1.out.drew
      replace B2 := Lib.hid B2.out.drew
      refine wp_region_held_drew (S := (fun w' => w'.cell? ⟨w2.heap.size, 0, none⟩ = some (.int .i64 a) ∧ w'.cell? ⟨w2.heap.size, 1, none⟩ = some (.int .i64 b) ∧ w'.cell? ⟨w4.heap.size, 0, none⟩ = some (.int .i64 E) ∧ w'.cell? ⟨w4.heap.size, 1, none⟩ = some (.int .i64 S))) (by kernel_rfl) ⟨B1.out.c0, B1.out.c1, B2.out.c0, B2.out.c1⟩ (fun hHeld => ?_)
      refine wpAnyH_take (i := 0) (oi := ⟨_, _, _, _, _, _⟩) (v := ?_) rfl (by kernel_rfl) (by kernel_rfl) (by kernel_rfl) (fun _ _ _ h => h) (Or.inl ⟨by rfl, ?_⟩) (by assumption) ?_
      rotate_left
      · intro wz hSw
        try dsimp only at hSw
        go_simp
        try with_reducible rfl
      try simp only [Act.put, List.setIfInBounds_toArray, List.set_cons_zero, List.set_cons_succ]
      refine wpAnyH_take (i := 1) (oi := ⟨_, _, _, _, _, _⟩) (v := ?_) rfl (by kernel_rfl) (by kernel_rfl) (by kernel_rfl) (fun _ _ _ h => h) (Or.inl ⟨by rfl, ?_⟩) (by assumption) ?_
      rotate_left
      · intro wz hSw
        try dsimp only at hSw
        go_simp
        try with_reducible rfl
      try simp only [Act.put, List.setIfInBounds_toArray, List.set_cons_zero, List.set_cons_succ]
      refine wpAnyH_take (i := 2) (oi := ⟨_, _, _, _, _, _⟩) (v := ?_) rfl (by kernel_rfl) (by kernel_rfl) (by kernel_rfl) (fun _ _ _ h => h) (Or.inl ⟨by rfl, ?_⟩) (by assumption) ?_
      rotate_left
      · intro wz hSw
        try dsimp only at hSw
        go_simp
        try with_reducible rfl
      try simp only [Act.put, List.setIfInBounds_toArray, List.set_cons_zero, List.set_cons_succ]
      refine wpAnyH_take (i := 3) (oi := ⟨_, _, _, _, _, _⟩) (v := ?_) rfl (by kernel_rfl) (by kernel_rfl) (by kernel_rfl) (fun _ _ _ h => h) (Or.inl ⟨by rfl, ?_⟩) (by assumption) ?_
      rotate_left
      · intro wz hSw
        try dsimp only at hSw
        go_simp
        try with_reducible rfl
      try simp only [Act.put, List.setIfInBounds_toArray, List.set_cons_zero, List.set_cons_succ]
      refine wpAnyH_ready (rs := [4]) (by kernel_rfl) (by simp) ?_
      refine AllReadyH.cons (o := ⟨_, _, _, _, _, _⟩) rfl (fun K hK => ?_) AllReadyH.nil
      go_simp
      refine (K3.out _ A.out.laid _ (Below.refl _ _)).mono ?_
      rintro e w6 ⟨rfl, hb⟩
      replace A := Lib.hid (A.out.step hb)
      replace B1 := Lib.hid (B1.out.step hb)
      replace B2 := Lib.hid (B2.out.step hb)
      clear hb hHeld
      refine hK.out _ _ ⟨B1.out.c0, B1.out.c1, B2.out.c0, B2.out.c1⟩ (fun hHeld => ?_)
      clear hK K
      try simp only [Act.put, List.setIfInBounds_toArray, List.set_cons_zero, List.set_cons_succ]
      refine wpAnyH_take (i := 5) (oi := ⟨_, _, _, _, _, _⟩) (v := ?_) rfl (by kernel_rfl) (by kernel_rfl) (by kernel_rfl) (fun _ _ _ h => h) (Or.inl ⟨by rfl, ?_⟩) (by assumption) ?_
      rotate_left
      · intro wz hSw
        try dsimp only at hSw
        go_simp
        try with_reducible rfl
      try simp only [Act.put, List.setIfInBounds_toArray, List.set_cons_zero, List.set_cons_succ]
      refine wpAnyH_take (i := 6) (oi := ⟨_, _, _, _, _, _⟩) (v := ?_) rfl (by kernel_rfl) (by kernel_rfl) (by kernel_rfl) (fun _ _ _ h => h) (Or.inl ⟨by rfl, ?_⟩) (by assumption) ?_
      rotate_left
      · intro wz hSw
        try dsimp only at hSw
        go_simp
        try with_reducible rfl
      try simp only [Act.put, List.setIfInBounds_toArray, List.set_cons_zero, List.set_cons_succ]
      refine wpAnyH_take (i := 7) (oi := ⟨_, _, _, _, _, _⟩) (v := ?_) rfl (by kernel_rfl) (by kernel_rfl) (by kernel_rfl) (fun _ _ _ h => h) (Or.inl ⟨by rfl, ?_⟩) (by assumption) ?_
      rotate_left
      · intro wz hSw
        try dsimp only at hSw
        go_simp
        try with_reducible rfl
      try simp only [Act.put, List.setIfInBounds_toArray, List.set_cons_zero, List.set_cons_succ]
      refine wpAnyH_take (i := 8) (oi := ⟨_, _, _, _, _, _⟩) (v := ?_) rfl (by kernel_rfl) (by kernel_rfl) (by kernel_rfl) (fun _ _ _ h => h) (Or.inl ⟨by rfl, ?_⟩) (by assumption) ?_
      rotate_left
      · intro wz hSw
        try dsimp only at hSw
        go_simp
        try with_reducible rfl
      try simp only [Act.put, List.setIfInBounds_toArray, List.set_cons_zero, List.set_cons_succ]
      refine wpAnyH_take (i := 10) (oi := ⟨_, _, _, _, _, _⟩) (v := ?_) rfl (by kernel_rfl) (by kernel_rfl) (by kernel_rfl) (fun _ _ _ h => h) (Or.inl ⟨by rfl, ?_⟩) (by assumption) ?_
      rotate_left
      · intro wz hSw
        try dsimp only at hSw
        go_simp
        try with_reducible rfl
      try simp only [Act.put, List.setIfInBounds_toArray, List.set_cons_zero, List.set_cons_succ]
      refine wpAnyH_ready (rs := [9]) (by kernel_rfl) (by simp) ?_
      refine AllReadyH.cons (o := ⟨_, _, _, _, _, _⟩) rfl (fun K hK => ?_) AllReadyH.nil
      go_simp
      refine (K2.out _ A.out.laid _ (Below.refl _ _)).mono ?_
      rintro e w7 ⟨rfl, hb⟩
      replace A := Lib.hid (A.out.step hb)
      replace B1 := Lib.hid (B1.out.step hb)
      replace B2 := Lib.hid (B2.out.step hb)
      clear hb hHeld
      refine hK.out _ _ ⟨B1.out.c0, B1.out.c1, B2.out.c0, B2.out.c1⟩ (fun hHeld => ?_)
      clear hK K
      try simp only [Act.put, List.setIfInBounds_toArray, List.set_cons_zero, List.set_cons_succ]
      refine wpAnyH_take (i := 11) (oi := ⟨_, _, _, _, _, _⟩) (v := .bool false) rfl (by kernel_rfl) (by kernel_rfl) (by kernel_rfl) (fun _ _ _ h => h) (Or.inl ⟨by rfl, ?_⟩) (by assumption) ?_
      · intro wz hSw
        try dsimp only at hSw
        go_simp
      try simp only [Act.put, List.setIfInBounds_toArray, List.set_cons_zero, List.set_cons_succ]
      refine wpAnyH_take (i := 12) (oi := ⟨_, _, _, _, _, _⟩) (v := ?_) rfl (by kernel_rfl) (by kernel_rfl) (by kernel_rfl) (fun _ _ _ h => h) (Or.inl ⟨by rfl, ?_⟩) (by assumption) ?_
      rotate_left
      · intro wz hSw
        try dsimp only at hSw
        go_simp
        try with_reducible rfl
      try simp only [Act.put, List.setIfInBounds_toArray, List.set_cons_zero, List.set_cons_succ]
      refine wpAnyH_done (by kernel_rfl) ?_ _
      clear hHeld
      go_wp2_with fail
      refine (K4.out _ A.out.laid _ (Below.refl _ _)).mono ?_
      rintro e w8 ⟨rfl, hb⟩
      replace A := Lib.hid (A.out.step hb)
      replace B1 := Lib.hid (B1.out.step hb)
      replace B2 := Lib.hid (B2.out.step hb)
      clear hb
      replace A := Lib.hid (A.out.alloc (.cells #[.int .i64 0, .int .i64 0] 23))
      replace B1 := Lib.hid (B1.out.alloc (.cells #[.int .i64 0, .int .i64 0] 23))
      replace B2 := Lib.hid (B2.out.alloc (.cells #[.int .i64 0, .int .i64 0] 23))
      have B3 := Lib.hid (Blk.new w8 0 0 23)
      go_wp2_with fail
      generalize w8.alloc (.cells #[.int .i64 0, .int .i64 0] 23) = w9 at *
      refine (K5.out _ A.out.laid _ (Below.refl _ _)).mono ?_
      rintro e w10 ⟨rfl, hb⟩
      replace A := Lib.hid (A.out.step hb)
      replace B1 := Lib.hid (B1.out.step hb)
      replace B2 := Lib.hid (B2.out.step hb)
      replace B3 := Lib.hid (B3.out.step hb)
      clear hb
      replace A := Lib.hid (A.out.alloc (.cells #[.int .i64 0, .int .i64 0] 30))
      replace B1 := Lib.hid (B1.out.alloc (.cells #[.int .i64 0, .int .i64 0] 30))
      replace B2 := Lib.hid (B2.out.alloc (.cells #[.int .i64 0, .int .i64 0] 30))
      replace B3 := Lib.hid (B3.out.alloc (.cells #[.int .i64 0, .int .i64 0] 30))
      have B4 := Lib.hid (Blk.new w10 0 0 30)
      go_wp2
      go_ret
      exact ⟨rfl, A.out.bel⟩
end Sg
end Go.Proofs.YtlcgcpjhmbbgfaaDoor
