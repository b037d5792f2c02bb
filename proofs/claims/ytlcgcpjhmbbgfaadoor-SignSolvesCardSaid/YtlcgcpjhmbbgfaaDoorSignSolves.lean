/-
  Layer 5: SignSolves' walk.
-/
import Derived.Test.YtlcgcpjhmbbgfaaDoorSignLaw2
namespace Go.Proofs.YtlcgcpjhmbbgfaaDoor
open Go.RowKit
namespace Sg
attribute [local go_sem] S3.B_size S3.B_app S3.B_list

set_option maxHeartbeats 8000000 in
set_option maxRecDepth 100000 in
theorem solves_walk (L : Landed) (seed msg other : List UInt8) (u : Int) (W : World) (hW : S3.Laid W) (iu : isI u) :
    Calls Tryd.prog 9 #[.string (S3.B seed), .string (S3.B msg), .string (S3.B other), .int .i64 u] W fun e w' => e = .returned (.bool true) ∧ Below W.heap.size W w' := by
  have KS := Lib.hid (fun W hW => small_ok L W hW)
  have A := Lib.hid (At.start hW)
  have rk := keyV_Rt seed
  by_cases hseed : 2000 < seed.length
  · have hseed' : (2000 : Int) < seed.length := by omega
    clear rk
    go_enter Tryd.func9, Tryd.ntmps9
    go_wp2_with fail
    refine (KS.out _ A.out.laid _ (Below.refl _ _)).mono ?_
    rintro e w1 ⟨rfl, hb⟩
    replace A := Lib.hid (A.out.step hb)
    clear hb
    go_wp2
    go_ret
    exact ⟨rfl, A.out.bel⟩
  have hseed' : ¬ (2000 : Int) < seed.length := by omega
  by_cases hmsg : 2000 < msg.length
  · have hmsg' : (2000 : Int) < msg.length := by omega
    clear rk
    go_enter Tryd.func9, Tryd.ntmps9
    go_wp2_with fail
    refine (KS.out _ A.out.laid _ (Below.refl _ _)).mono ?_
    rintro e w1 ⟨rfl, hb⟩
    replace A := Lib.hid (A.out.step hb)
    clear hb
    go_wp2
    go_ret
    exact ⟨rfl, A.out.bel⟩
  have hmsg' : ¬ (2000 : Int) < msg.length := by omega
  by_cases hother : 2000 < other.length
  · have hother' : (2000 : Int) < other.length := by omega
    clear rk
    go_enter Tryd.func9, Tryd.ntmps9
    go_wp2_with fail
    refine (KS.out _ A.out.laid _ (Below.refl _ _)).mono ?_
    rintro e w1 ⟨rfl, hb⟩
    replace A := Lib.hid (A.out.step hb)
    clear hb
    go_wp2
    go_ret
    exact ⟨rfl, A.out.bel⟩
  have hother' : ¬ (2000 : Int) < other.length := by omega
  obtain ⟨rk1, rk2, _, _⟩ := Rt_range rk
  have k1 := fun W hW => (L W hW).key seed (by omega)
  unfold keyC at k1
  have i37 : isI 37 := by unfold isI S4.isI64; omega
  have k2 := fun W (_ : S3.Laid W) => exp_ok W 37 u i37 iu
  rw [show S4.powP 37 u = pub u from rfl] at k2
  have hp := pub_lt u
  have ir : isI (pub u : Nat) := by unfold isI S4.isI64; omega
  have k3 := fun W (_ : S3.Laid W) => rchal_ok W (pub u : Nat) (keyV seed).2 msg ir rk2 (by omega)
  have k4 := fun W (_ : S3.Laid W) => rchal_ok W (pub u : Nat) (keyV seed).2 other ir rk2 (by omega)
  have k5 := fun W hW => (L W hW).ver (keyV seed).2 msg (sigU (keyV seed).1 (keyV seed).2 u msg).1 (sigU (keyV seed).1 (keyV seed).2 u msg).2 rk2 (by have := sigU_range (keyV seed).1 (keyV seed).2 u msg; unfold isI S4.isI64; omega) (by have := sigU_range (keyV seed).1 (keyV seed).2 u msg; unfold isI S4.isI64; omega) (by omega)
  have k6 := fun W hW => (L W hW).ver (keyV seed).2 other (sigU (keyV seed).1 (keyV seed).2 u other).1 (sigU (keyV seed).1 (keyV seed).2 u other).2 rk2 (by have := sigU_range (keyV seed).1 (keyV seed).2 u other; unfold isI S4.isI64; omega) (by have := sigU_range (keyV seed).1 (keyV seed).2 u other; unfold isI S4.isI64; omega) (by omega)
  rw [sig_holds _ _ u msg rk] at k5
  rw [sig_holds _ _ u other rk] at k6
  have he := chal_lt (pub u : Nat) (keyV seed).2 msg
  have hf := chal_lt (pub u : Nat) (keyV seed).2 other
  unfold sigU at k5 k6
  dsimp only at k5 k6
  obtain ⟨r, hr⟩ : ∃ r : Int, r = (pub u : Nat) := ⟨_, rfl⟩
  rw [← hr] at k2 k3 k4 k5 k6 he hf
  obtain ⟨e, hed⟩ : ∃ c : Int, c = (chal r (keyV seed).2 msg : Nat) := ⟨_, rfl⟩
  obtain ⟨f, hfd⟩ : ∃ c : Int, c = (chal r (keyV seed).2 other : Nat) := ⟨_, rfl⟩
  have he2 : e < 2305843009213693950 := by omega
  have hf2 : f < 2305843009213693950 := by omega
  have he3 : 0 ≤ e := by omega
  have hf3 : 0 ≤ f := by omega
  rw [← hed] at k3 k5
  rw [← hfd] at k4 k6
  clear hed hfd hr he hf hp ir
  generalize (keyV seed).1 = a at k1 k5 k6 rk rk1
  generalize (keyV seed).2 = b at k1 k3 k4 k5 k6 rk rk2
  have k7 := fun W (_ : S3.Laid W) => mulN_ok W e a (by unfold isI S4.isI64; omega) rk1
  have k8 := fun W (_ : S3.Laid W) => mulN_ok W f a (by unfold isI S4.isI64; omega) rk1
  have hs := solves u e f a
  obtain ⟨ea, hea⟩ : ∃ z, z = e * a % 2305843009213693950 := ⟨_, rfl⟩
  obtain ⟨fa, hfa⟩ : ∃ z, z = f * a % 2305843009213693950 := ⟨_, rfl⟩
  have iea : isI ea := by unfold isI S4.isI64; omega
  have ifa : isI fa := by unfold isI S4.isI64; omega
  rw [← hea] at k5 k7 hs
  rw [← hfa] at k6 k8 hs
  have k9 := fun W (_ : S3.Laid W) => addN_ok W u ea iu iea
  have k10 := fun W (_ : S3.Laid W) => addN_ok W u fa iu ifa
  obtain ⟨s, hsd⟩ : ∃ z, z = (u + ea) % 2305843009213693950 := ⟨_, rfl⟩
  obtain ⟨t, htd⟩ : ∃ z, z = (u + fa) % 2305843009213693950 := ⟨_, rfl⟩
  have is' : isI s := by unfold isI S4.isI64; omega
  have it : isI t := by unfold isI S4.isI64; omega
  rw [← hsd] at k5 k9 hs
  rw [← htd] at k6 k10 hs
  have k11 := fun W (_ : S3.Laid W) => subN_ok W s t is' it
  have k12 := fun W (_ : S3.Laid W) => subN_ok W e f (by unfold isI S4.isI64; omega) (by unfold isI S4.isI64; omega)
  obtain ⟨ef, hefd⟩ : ∃ z, z = (e - f) % 2305843009213693950 := ⟨_, rfl⟩
  have k13 := fun W (_ : S3.Laid W) => mulN_ok W ef a (by unfold isI S4.isI64; omega) rk1
  rw [← hefd] at k12 hs
  rw [← hs] at k13
  obtain ⟨q, hq⟩ : ∃ z, z = (s - t) % 2305843009213693950 := ⟨_, rfl⟩
  rw [← hq] at k11 k13
  have K1 := Lib.hid k1
  have K2 := Lib.hid k2
  have K3 := Lib.hid k3
  have K4 := Lib.hid k4
  have K5 := Lib.hid k5
  have K6 := Lib.hid k6
  have K7 := Lib.hid k7
  have K8 := Lib.hid k8
  have K9 := Lib.hid k9
  have K10 := Lib.hid k10
  have K11 := Lib.hid k11
  have K12 := Lib.hid k12
  have K13 := Lib.hid k13
  clear k1 k2 k3 k4 k5 k6 k7 k8 k9 k10 k11 k12 k13 rk rk1 rk2 i37 iu he2 hf2 he3 hf3 hs hea hfa iea ifa hsd htd is' it hefd hq L hW
  go_enter Tryd.func9, Tryd.ntmps9
  go_wp2_with fail
  refine (KS.out _ A.out.laid _ (Below.refl _ _)).mono ?_
  rintro e w1 ⟨rfl, hb⟩
  replace A := Lib.hid (A.out.step hb)
  clear hb
  go_wp2_with fail
  refine (K1.out _ A.out.laid _ (Below.refl _ _)).mono ?_
  rintro e w2 ⟨rfl, hb⟩
  replace A := Lib.hid (A.out.step hb)
  clear hb
  replace A := Lib.hid (A.out.alloc (.cells #[.int .i64 a, .int .i64 b] 23))
  have B1 := Lib.hid (Blk.new w2 a b 23)
  go_wp2_with fail
  generalize w2.alloc (.cells #[.int .i64 a, .int .i64 b] 23) = w3 at *
  refine (K2.out _ A.out.laid _ (Below.refl _ _)).mono ?_
  rintro e w4 ⟨rfl, hb⟩
  replace A := Lib.hid (A.out.step hb)
  replace B1 := Lib.hid (B1.out.step hb)
  clear hb
  have cB10 := B1.out.c0
  have cB11 := B1.out.c1
  go_wp2_with fail
  clear cB10 cB11
  refine (K3.out _ A.out.laid _ (Below.refl _ _)).mono ?_
  rintro e w5 ⟨rfl, hb⟩
  replace A := Lib.hid (A.out.step hb)
  replace B1 := Lib.hid (B1.out.step hb)
  clear hb
  have cB10 := B1.out.c0
  have cB11 := B1.out.c1
  go_wp2_with fail
  clear cB10 cB11
  refine (K4.out _ A.out.laid _ (Below.refl _ _)).mono ?_
  rintro e w6 ⟨rfl, hb⟩
  replace A := Lib.hid (A.out.step hb)
  replace B1 := Lib.hid (B1.out.step hb)
  clear hb
  have cB10 := B1.out.c0
  have cB11 := B1.out.c1
  go_wp2_with fail
  clear cB10 cB11
  refine (K7.out _ A.out.laid _ (Below.refl _ _)).mono ?_
  rintro e w7 ⟨rfl, hb⟩
  replace A := Lib.hid (A.out.step hb)
  replace B1 := Lib.hid (B1.out.step hb)
  clear hb
  go_wp2_with fail
  refine (K9.out _ A.out.laid _ (Below.refl _ _)).mono ?_
  rintro e w8 ⟨rfl, hb⟩
  replace A := Lib.hid (A.out.step hb)
  replace B1 := Lib.hid (B1.out.step hb)
  clear hb
  replace A := Lib.hid (A.out.alloc (.cells #[.int .i64 e, .int .i64 s] 30))
  replace B1 := Lib.hid (B1.out.alloc (.cells #[.int .i64 e, .int .i64 s] 30))
  have B2 := Lib.hid (Blk.new w8 e s 30)
  have cB10 := B1.out.c0
  have cB11 := B1.out.c1
  go_wp2_with fail
  clear cB10 cB11
  generalize w8.alloc (.cells #[.int .i64 e, .int .i64 s] 30) = w9 at *
  refine (K8.out _ A.out.laid _ (Below.refl _ _)).mono ?_
  rintro e w10 ⟨rfl, hb⟩
  replace A := Lib.hid (A.out.step hb)
  replace B1 := Lib.hid (B1.out.step hb)
  replace B2 := Lib.hid (B2.out.step hb)
  clear hb
  go_wp2_with fail
  refine (K10.out _ A.out.laid _ (Below.refl _ _)).mono ?_
  rintro e w11 ⟨rfl, hb⟩
  replace A := Lib.hid (A.out.step hb)
  replace B1 := Lib.hid (B1.out.step hb)
  replace B2 := Lib.hid (B2.out.step hb)
  clear hb
  replace A := Lib.hid (A.out.alloc (.cells #[.int .i64 f, .int .i64 t] 30))
  replace B1 := Lib.hid (B1.out.alloc (.cells #[.int .i64 f, .int .i64 t] 30))
  replace B2 := Lib.hid (B2.out.alloc (.cells #[.int .i64 f, .int .i64 t] 30))
  have B3 := Lib.hid (Blk.new w11 f t 30)
  have cB10 := B1.out.c0
  have cB11 := B1.out.c1
  have cB20 := B2.out.c0
  have cB21 := B2.out.c1
  go_wp2_with fail
  clear cB10 cB11 cB20 cB21
  generalize w11.alloc (.cells #[.int .i64 f, .int .i64 t] 30) = w12 at *
  refine (K5.out _ A.out.laid _ (Below.refl _ _)).mono ?_
  rintro e w13 ⟨rfl, hb⟩
  replace A := Lib.hid (A.out.step hb)
  replace B1 := Lib.hid (B1.out.step hb)
  replace B2 := Lib.hid (B2.out.step hb)
  replace B3 := Lib.hid (B3.out.step hb)
  clear hb
  have cB10 := B1.out.c0
  have cB11 := B1.out.c1
  have cB30 := B3.out.c0
  have cB31 := B3.out.c1
  go_wp2_with fail
  clear cB10 cB11 cB30 cB31
  refine (K6.out _ A.out.laid _ (Below.refl _ _)).mono ?_
  rintro e w14 ⟨rfl, hb⟩
  replace A := Lib.hid (A.out.step hb)
  replace B1 := Lib.hid (B1.out.step hb)
  replace B2 := Lib.hid (B2.out.step hb)
  replace B3 := Lib.hid (B3.out.step hb)
  clear hb
  go_wp2_with fail
  replace A := Lib.hid A.out.drew
  replace B1 := Lib.hid B1.out.drew
  replace B2 := Lib.hid B2.out.drew
  replace B3 := Lib.hid B3.out.drew
  refine wp_region_held_drew (S := (fun w' => w'.cell? ⟨w2.heap.size, 0, none⟩ = some (.int .i64 a) ∧ w'.cell? ⟨w2.heap.size, 1, none⟩ = some (.int .i64 b) ∧ w'.cell? ⟨w8.heap.size, 0, none⟩ = some (.int .i64 e) ∧ w'.cell? ⟨w8.heap.size, 1, none⟩ = some (.int .i64 s) ∧ w'.cell? ⟨w11.heap.size, 0, none⟩ = some (.int .i64 f) ∧ w'.cell? ⟨w11.heap.size, 1, none⟩ = some (.int .i64 t))) (by kernel_rfl) ⟨B1.out.c0, B1.out.c1, B2.out.c0, B2.out.c1, B3.out.c0, B3.out.c1⟩ (fun hHeld => ?_)
  refine wpAnyH_take (i := 0) (oi := ⟨_, _, _, _, _, _⟩) (v := ?_) rfl (by kernel_rfl) (by kernel_rfl) (by kernel_rfl) (fun _ _ _ h => h) (Or.inl ⟨by rfl, ?_⟩) (by assumption) ?_
  rotate_left
  · intro wz hSw
    try dsimp only at hSw
    go_simp
    try with_reducible rfl
  try simp only [Act.put, List.setIfInBounds_toArray, List.set_cons_zero, List.set_cons_succ]
  refine wpAnyH_take (i := 1) (oi := ⟨_, _, _, _, _, _⟩) (v := ?_) rfl (by kernel_rfl) (by kernel_rfl) (by kernel_rfl) (fun _ _ _ h => h) (Or.inl ⟨by rfl, ?_⟩) (by assumption) ?_
  rotate_left
  · intro wz hSw
    try dsimp only at hSw
    go_simp
    try with_reducible rfl
  try simp only [Act.put, List.setIfInBounds_toArray, List.set_cons_zero, List.set_cons_succ]
  refine wpAnyH_take (i := 2) (oi := ⟨_, _, _, _, _, _⟩) (v := ?_) rfl (by kernel_rfl) (by kernel_rfl) (by kernel_rfl) (fun _ _ _ h => h) (Or.inl ⟨by rfl, ?_⟩) (by assumption) ?_
  rotate_left
  · intro wz hSw
    try dsimp only at hSw
    go_simp
    try with_reducible rfl
  try simp only [Act.put, List.setIfInBounds_toArray, List.set_cons_zero, List.set_cons_succ]
  refine wpAnyH_take (i := 3) (oi := ⟨_, _, _, _, _, _⟩) (v := ?_) rfl (by kernel_rfl) (by kernel_rfl) (by kernel_rfl) (fun _ _ _ h => h) (Or.inl ⟨by rfl, ?_⟩) (by assumption) ?_
  rotate_left
  · intro wz hSw
    try dsimp only at hSw
    go_simp
    try with_reducible rfl
  try simp only [Act.put, List.setIfInBounds_toArray, List.set_cons_zero, List.set_cons_succ]
  refine wpAnyH_take (i := 4) (oi := ⟨_, _, _, _, _, _⟩) (v := ?_) rfl (by kernel_rfl) (by kernel_rfl) (by kernel_rfl) (fun _ _ _ h => h) (Or.inl ⟨by rfl, ?_⟩) (by assumption) ?_
  rotate_left
  · intro wz hSw
    try dsimp only at hSw
    go_simp
    try with_reducible rfl
  try simp only [Act.put, List.setIfInBounds_toArray, List.set_cons_zero, List.set_cons_succ]
  refine wpAnyH_take (i := 5) (oi := ⟨_, _, _, _, _, _⟩) (v := ?_) rfl (by kernel_rfl) (by kernel_rfl) (by kernel_rfl) (fun _ _ _ h => h) (Or.inl ⟨by rfl, ?_⟩) (by assumption) ?_
  rotate_left
  · intro wz hSw
    try dsimp only at hSw
    go_simp
    try with_reducible rfl
  try simp only [Act.put, List.setIfInBounds_toArray, List.set_cons_zero, List.set_cons_succ]
  refine wpAnyH_take (i := 6) (oi := ⟨_, _, _, _, _, _⟩) (v := ?_) rfl (by kernel_rfl) (by kernel_rfl) (by kernel_rfl) (fun _ _ _ h => h) (Or.inl ⟨by rfl, ?_⟩) (by assumption) ?_
  rotate_left
  · intro wz hSw
    try dsimp only at hSw
    go_simp
    try with_reducible rfl
  try simp only [Act.put, List.setIfInBounds_toArray, List.set_cons_zero, List.set_cons_succ]
  refine wpAnyH_take (i := 7) (oi := ⟨_, _, _, _, _, _⟩) (v := ?_) rfl (by kernel_rfl) (by kernel_rfl) (by kernel_rfl) (fun _ _ _ h => h) (Or.inl ⟨by rfl, ?_⟩) (by assumption) ?_
  rotate_left
  · intro wz hSw
    try dsimp only at hSw
    go_simp
    try with_reducible rfl
  try simp only [Act.put, List.setIfInBounds_toArray, List.set_cons_zero, List.set_cons_succ]
  refine wpAnyH_take (i := 8) (oi := ⟨_, _, _, _, _, _⟩) (v := ?_) rfl (by kernel_rfl) (by kernel_rfl) (by kernel_rfl) (fun _ _ _ h => h) (Or.inl ⟨by rfl, ?_⟩) (by assumption) ?_
  rotate_left
  · intro wz hSw
    try dsimp only at hSw
    go_simp
    try with_reducible rfl
  try simp only [Act.put, List.setIfInBounds_toArray, List.set_cons_zero, List.set_cons_succ]
  refine wpAnyH_take (i := 10) (oi := ⟨_, _, _, _, _, _⟩) (v := ?_) rfl (by kernel_rfl) (by kernel_rfl) (by kernel_rfl) (fun _ _ _ h => h) (Or.inl ⟨by rfl, ?_⟩) (by assumption) ?_
  rotate_left
  · intro wz hSw
    try dsimp only at hSw
    go_simp
    try with_reducible rfl
  try simp only [Act.put, List.setIfInBounds_toArray, List.set_cons_zero, List.set_cons_succ]
  refine wpAnyH_take (i := 11) (oi := ⟨_, _, _, _, _, _⟩) (v := ?_) rfl (by kernel_rfl) (by kernel_rfl) (by kernel_rfl) (fun _ _ _ h => h) (Or.inl ⟨by rfl, ?_⟩) (by assumption) ?_
  rotate_left
  · intro wz hSw
    try dsimp only at hSw
    go_simp
    try with_reducible rfl
  try simp only [Act.put, List.setIfInBounds_toArray, List.set_cons_zero, List.set_cons_succ]
  refine wpAnyH_take (i := 13) (oi := ⟨_, _, _, _, _, _⟩) (v := ?_) rfl (by kernel_rfl) (by kernel_rfl) (by kernel_rfl) (fun _ _ _ h => h) (Or.inl ⟨by rfl, ?_⟩) (by assumption) ?_
  rotate_left
  · intro wz hSw
    try dsimp only at hSw
    go_simp
    try with_reducible rfl
  try simp only [Act.put, List.setIfInBounds_toArray, List.set_cons_zero, List.set_cons_succ]
  refine wpAnyH_take (i := 14) (oi := ⟨_, _, _, _, _, _⟩) (v := ?_) rfl (by kernel_rfl) (by kernel_rfl) (by kernel_rfl) (fun _ _ _ h => h) (Or.inl ⟨by rfl, ?_⟩) (by assumption) ?_
  rotate_left
  · intro wz hSw
    try dsimp only at hSw
    go_simp
    try with_reducible rfl
  try simp only [Act.put, List.setIfInBounds_toArray, List.set_cons_zero, List.set_cons_succ]
  refine wpAnyH_ready (rs := [9]) (by kernel_rfl) (by simp) ?_
  refine AllReadyH.cons (o := ⟨_, _, _, _, _, _⟩) rfl (fun K hK => ?_) AllReadyH.nil
  go_simp
  refine (K11.out _ A.out.laid _ (Below.refl _ _)).mono ?_
  rintro e w15 ⟨rfl, hb⟩
  replace A := Lib.hid (A.out.step hb)
  replace B1 := Lib.hid (B1.out.step hb)
  replace B2 := Lib.hid (B2.out.step hb)
  replace B3 := Lib.hid (B3.out.step hb)
  clear hb hHeld
  refine hK.out _ _ ⟨B1.out.c0, B1.out.c1, B2.out.c0, B2.out.c1, B3.out.c0, B3.out.c1⟩ (fun hHeld => ?_)
  clear hK K
  try simp only [Act.put, List.setIfInBounds_toArray, List.set_cons_zero, List.set_cons_succ]
  refine wpAnyH_ready (rs := [12]) (by kernel_rfl) (by simp) ?_
  refine AllReadyH.cons (o := ⟨_, _, _, _, _, _⟩) rfl (fun K hK => ?_) AllReadyH.nil
  go_simp
  refine (K12.out _ A.out.laid _ (Below.refl _ _)).mono ?_
  rintro e w16 ⟨rfl, hb⟩
  replace A := Lib.hid (A.out.step hb)
  replace B1 := Lib.hid (B1.out.step hb)
  replace B2 := Lib.hid (B2.out.step hb)
  replace B3 := Lib.hid (B3.out.step hb)
  clear hb hHeld
  refine hK.out _ _ ⟨B1.out.c0, B1.out.c1, B2.out.c0, B2.out.c1, B3.out.c0, B3.out.c1⟩ (fun hHeld => ?_)
  clear hK K
  try simp only [Act.put, List.setIfInBounds_toArray, List.set_cons_zero, List.set_cons_succ]
  refine wpAnyH_ready (rs := [15]) (by kernel_rfl) (by simp) ?_
  refine AllReadyH.cons (o := ⟨_, _, _, _, _, _⟩) rfl (fun K hK => ?_) AllReadyH.nil
  go_simp
  refine (K13.out _ A.out.laid _ (Below.refl _ _)).mono ?_
  rintro e w17 ⟨rfl, hb⟩
  replace A := Lib.hid (A.out.step hb)
  replace B1 := Lib.hid (B1.out.step hb)
  replace B2 := Lib.hid (B2.out.step hb)
  replace B3 := Lib.hid (B3.out.step hb)
  clear hb hHeld
  refine hK.out _ _ ⟨B1.out.c0, B1.out.c1, B2.out.c0, B2.out.c1, B3.out.c0, B3.out.c1⟩ (fun hHeld => ?_)
  clear hK K
  try simp only [Act.put, List.setIfInBounds_toArray, List.set_cons_zero, List.set_cons_succ]
  refine wpAnyH_take (i := 16) (oi := ⟨_, _, _, _, _, _⟩) (v := ?_) rfl (by kernel_rfl) (by kernel_rfl) (by kernel_rfl) (fun _ _ _ h => h) (Or.inl ⟨by rfl, ?_⟩) (by assumption) ?_
  rotate_left
  · intro wz hSw
    try dsimp only at hSw
    go_simp
    try with_reducible rfl
  try simp only [Act.put, List.setIfInBounds_toArray, List.set_cons_zero, List.set_cons_succ]
  refine wpAnyH_take (i := 17) (oi := ⟨_, _, _, _, _, _⟩) (v := ?_) rfl (by kernel_rfl) (by kernel_rfl) (by kernel_rfl) (fun _ _ _ h => h) (Or.inl ⟨by rfl, ?_⟩) (by assumption) ?_
  rotate_left
  · intro wz hSw
    try dsimp only at hSw
    go_simp
    try with_reducible rfl
  try simp only [Act.put, List.setIfInBounds_toArray, List.set_cons_zero, List.set_cons_succ]
  refine wpAnyH_take (i := 18) (oi := ⟨_, _, _, _, _, _⟩) (v := ?_) rfl (by kernel_rfl) (by kernel_rfl) (by kernel_rfl) (fun _ _ _ h => h) (Or.inl ⟨by rfl, ?_⟩) (by assumption) ?_
  rotate_left
  · intro wz hSw
    try dsimp only at hSw
    go_simp
    try with_reducible rfl
  try simp only [Act.put, List.setIfInBounds_toArray, List.set_cons_zero, List.set_cons_succ]
  refine wpAnyH_done (by kernel_rfl) ?_ _
  clear hHeld
  go_wp2
  go_ret
  exact ⟨rfl, A.out.bel⟩
end Sg
end Go.Proofs.YtlcgcpjhmbbgfaaDoor
