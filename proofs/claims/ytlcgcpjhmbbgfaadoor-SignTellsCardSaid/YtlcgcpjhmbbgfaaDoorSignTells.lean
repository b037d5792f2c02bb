/-
  Layer 5: SignTells' walk.
-/
import Derived.Test.YtlcgcpjhmbbgfaaDoorSignLaw2
namespace Go.Proofs.YtlcgcpjhmbbgfaaDoor
open Go.RowKit
namespace Sg
attribute [local go_sem] S3.B_size S3.B_app S3.B_list

set_option maxHeartbeats 8000000 in
set_option maxRecDepth 100000 in
theorem tells_walk (L : Landed) (seed msg : List UInt8) (p q : Int) (W : World) (hW : S3.Laid W) (ip : isI p) (iq : isI q) :
    Calls Tryd.prog 4 #[.agg #[.int .i64 p, .int .i64 q], .string (S3.B seed), .string (S3.B msg)] W fun e w' => e = .returned (.bool true) ∧ Below W.heap.size W w' := by
  have KS := Lib.hid (fun W hW => small_ok L W hW)
  have A := Lib.hid ((At.start hW).alloc (.cells #[.int .i64 p, .int .i64 q] 23))
  have B0 := Lib.hid (Blk.new W p q 23)
  have rk := keyV_Rt seed
  by_cases hseed : 2000 < seed.length
  · have hseed' : (2000 : Int) < seed.length := by omega
    clear rk
    go_enter Tryd.func4, Tryd.ntmps4
    go_wp2_with fail
    generalize W.alloc (.cells #[.int .i64 p, .int .i64 q] 23) = w0 at *
    refine (KS.out _ A.out.laid _ (Below.refl _ _)).mono ?_
    rintro e w1 ⟨rfl, hb⟩
    replace A := Lib.hid (A.out.step hb)
    replace B0 := Lib.hid (B0.out.step hb)
    clear hb
    go_wp2
    go_ret
    exact ⟨rfl, A.out.bel⟩
  have hseed' : ¬ (2000 : Int) < seed.length := by omega
  by_cases hmsg : 2000 < msg.length
  · have hmsg' : (2000 : Int) < msg.length := by omega
    clear rk
    go_enter Tryd.func4, Tryd.ntmps4
    go_wp2_with fail
    generalize W.alloc (.cells #[.int .i64 p, .int .i64 q] 23) = w0 at *
    refine (KS.out _ A.out.laid _ (Below.refl _ _)).mono ?_
    rintro e w1 ⟨rfl, hb⟩
    replace A := Lib.hid (A.out.step hb)
    replace B0 := Lib.hid (B0.out.step hb)
    clear hb
    go_wp2
    go_ret
    exact ⟨rfl, A.out.bel⟩
  have hmsg' : ¬ (2000 : Int) < msg.length := by omega
  obtain ⟨rk1, rk2, _, _⟩ := Rt_range rk
  have k1 := fun W (_ : S3.Laid W) => rkey_ok W seed (by omega)
  have k2 := fun W hW => (L W hW).sign (keyV seed).1 (keyV seed).2 msg rk1 rk2 (by omega)
  have k2r := fun W (_ : S3.Laid W) => rsign_ok W (keyV seed).1 (keyV seed).2 msg rk1 rk2 (by omega)
  have k3 := fun W hW => (L W hW).sign p q msg ip iq (by omega)
  have k3r := fun W (_ : S3.Laid W) => rsign_ok W p q msg ip iq (by omega)
  unfold keyC at k1 k2 k2r k3 k3r
  generalize (signV (keyV seed).1 (keyV seed).2 msg).1 = E at k2 k2r
  generalize (signV (keyV seed).1 (keyV seed).2 msg).2 = S at k2 k2r
  generalize (keyV seed).1 = a at k1 k2 k2r
  generalize (keyV seed).2 = b at k1 k2 k2r
  generalize (signV p q msg).1 = F at k3 k3r
  generalize (signV p q msg).2 = R at k3 k3r
  have K1 := Lib.hid k1
  have K2 := Lib.hid k2
  have K2r := Lib.hid k2r
  have K3 := Lib.hid k3
  have K3r := Lib.hid k3r
  clear k1 k2 k2r k3 k3r rk1 rk2 rk ip iq L hW
  go_enter Tryd.func4, Tryd.ntmps4
  go_wp2_with fail
  generalize W.alloc (.cells #[.int .i64 p, .int .i64 q] 23) = w0 at *
  refine (KS.out _ A.out.laid _ (Below.refl _ _)).mono ?_
  rintro e w1 ⟨rfl, hb⟩
  replace A := Lib.hid (A.out.step hb)
  replace B0 := Lib.hid (B0.out.step hb)
  clear hb
  go_wp2_with fail
  refine (K1.out _ A.out.laid _ (Below.refl _ _)).mono ?_
  rintro e w2 ⟨rfl, hb⟩
  replace A := Lib.hid (A.out.step hb)
  replace B0 := Lib.hid (B0.out.step hb)
  clear hb
  replace A := Lib.hid (A.out.alloc (.cells #[.int .i64 a, .int .i64 b] 23))
  replace B0 := Lib.hid (B0.out.alloc (.cells #[.int .i64 a, .int .i64 b] 23))
  have B1 := Lib.hid (Blk.new w2 a b 23)
  go_wp2_with fail
  generalize w2.alloc (.cells #[.int .i64 a, .int .i64 b] 23) = w3 at *
  replace A := Lib.hid A.out.drew
  replace B0 := Lib.hid B0.out.drew
  replace B1 := Lib.hid B1.out.drew
  refine wp_region_held_drew (S := (fun w' => w'.cell? ⟨W.heap.size, 0, none⟩ = some (.int .i64 p) ∧ w'.cell? ⟨W.heap.size, 1, none⟩ = some (.int .i64 q) ∧ w'.cell? ⟨w2.heap.size, 0, none⟩ = some (.int .i64 a) ∧ w'.cell? ⟨w2.heap.size, 1, none⟩ = some (.int .i64 b))) (by kernel_rfl) ⟨B0.out.c0, B0.out.c1, B1.out.c0, B1.out.c1⟩ (fun hHeld => ?_)
  refine wpAnyH_take (i := 0) (oi := ⟨_, _, _, _, _, _⟩) (v := ?_) rfl (by kernel_rfl) (by kernel_rfl) (by kernel_rfl) (fun _ _ _ h => h) (Or.inl ⟨by rfl, ?_⟩) (by assumption) ?_
  rotate_left
  · intro wz hSw
    try dsimp only at hSw
    go_simp
    try with_reducible rfl
  try simp only [Act.put, List.setIfInBounds_toArray, List.set_cons_zero, List.set_cons_succ]
  refine wpAnyH_take (i := 1) (oi := ⟨_, _, _, _, _, _⟩) (v := ?_) rfl (by kernel_rfl) (by kernel_rfl) (by kernel_rfl) (fun _ _ _ h => h) (Or.inl ⟨by rfl, ?_⟩) (by assumption) ?_
  rotate_left
  · intro wz hSw
    try dsimp only at hSw
    go_simp
    try with_reducible rfl
  try simp only [Act.put, List.setIfInBounds_toArray, List.set_cons_zero, List.set_cons_succ]
  refine wpAnyH_take (i := 2) (oi := ⟨_, _, _, _, _, _⟩) (v := ?_) rfl (by kernel_rfl) (by kernel_rfl) (by kernel_rfl) (fun _ _ _ h => h) (Or.inl ⟨by rfl, ?_⟩) (by assumption) ?_
  rotate_left
  · intro wz hSw
    try dsimp only at hSw
    go_simp
    try with_reducible rfl
  try simp only [Act.put, List.setIfInBounds_toArray, List.set_cons_zero, List.set_cons_succ]
  refine wpAnyH_take (i := 3) (oi := ⟨_, _, _, _, _, _⟩) (v := ?_) rfl (by kernel_rfl) (by kernel_rfl) (by kernel_rfl) (fun _ _ _ h => h) (Or.inl ⟨by rfl, ?_⟩) (by assumption) ?_
  rotate_left
  · intro wz hSw
    try dsimp only at hSw
    go_simp
    try with_reducible rfl
  try simp only [Act.put, List.setIfInBounds_toArray, List.set_cons_zero, List.set_cons_succ]
  refine wpAnyH_take (i := 5) (oi := ⟨_, _, _, _, _, _⟩) (v := ?_) rfl (by kernel_rfl) (by kernel_rfl) (by kernel_rfl) (fun _ _ _ h => h) (Or.inl ⟨by rfl, ?_⟩) (by assumption) ?_
  rotate_left
  · intro wz hSw
    try dsimp only at hSw
    go_simp
    try with_reducible rfl
  try simp only [Act.put, List.setIfInBounds_toArray, List.set_cons_zero, List.set_cons_succ]
  refine wpAnyH_take (i := 6) (oi := ⟨_, _, _, _, _, _⟩) (v := ?_) rfl (by kernel_rfl) (by kernel_rfl) (by kernel_rfl) (fun _ _ _ h => h) (Or.inl ⟨by rfl, ?_⟩) (by assumption) ?_
  rotate_left
  · intro wz hSw
    try dsimp only at hSw
    go_simp
    try with_reducible rfl
  try simp only [Act.put, List.setIfInBounds_toArray, List.set_cons_zero, List.set_cons_succ]
  refine wpAnyH_ready (rs := [4]) (by kernel_rfl) (by simp) ?_
  refine AllReadyH.cons (o := ⟨_, _, _, _, _, _⟩) rfl (fun K hK => ?_) AllReadyH.nil
  go_simp
  refine (K3.out _ A.out.laid _ (Below.refl _ _)).mono ?_
  rintro e w4 ⟨rfl, hb⟩
  replace A := Lib.hid (A.out.step hb)
  replace B0 := Lib.hid (B0.out.step hb)
  replace B1 := Lib.hid (B1.out.step hb)
  clear hb hHeld
  refine hK.out _ _ ⟨B0.out.c0, B0.out.c1, B1.out.c0, B1.out.c1⟩ (fun hHeld => ?_)
  clear hK K
  try simp only [Act.put, List.setIfInBounds_toArray, List.set_cons_zero, List.set_cons_succ]
  refine wpAnyH_ready (rs := [7]) (by kernel_rfl) (by simp) ?_
  refine AllReadyH.cons (o := ⟨_, _, _, _, _, _⟩) rfl (fun K hK => ?_) AllReadyH.nil
  go_simp
  refine (K3r.out _ A.out.laid _ (Below.refl _ _)).mono ?_
  rintro e w5 ⟨rfl, hb⟩
  replace A := Lib.hid (A.out.step hb)
  replace B0 := Lib.hid (B0.out.step hb)
  replace B1 := Lib.hid (B1.out.step hb)
  clear hb hHeld
  refine hK.out _ _ ⟨B0.out.c0, B0.out.c1, B1.out.c0, B1.out.c1⟩ (fun hHeld => ?_)
  clear hK K
  try simp only [Act.put, List.setIfInBounds_toArray, List.set_cons_zero, List.set_cons_succ]
  refine wpAnyH_take (i := 8) (oi := ⟨_, _, _, _, _, _⟩) (v := ?_) rfl (by kernel_rfl) (by kernel_rfl) (by kernel_rfl) (fun _ _ _ h => h) (Or.inl ⟨by rfl, ?_⟩) (by assumption) ?_
  rotate_left
  · intro wz hSw
    try dsimp only at hSw
    go_simp
    try with_reducible rfl
  try simp only [Act.put, List.setIfInBounds_toArray, List.set_cons_zero, List.set_cons_succ]
  refine wpAnyH_take (i := 9) (oi := ⟨_, _, _, _, _, _⟩) (v := ?_) rfl (by kernel_rfl) (by kernel_rfl) (by kernel_rfl) (fun _ _ _ h => h) (Or.inl ⟨by rfl, ?_⟩) (by assumption) ?_
  rotate_left
  · intro wz hSw
    try dsimp only at hSw
    go_simp
    try with_reducible rfl
  try simp only [Act.put, List.setIfInBounds_toArray, List.set_cons_zero, List.set_cons_succ]
  refine wpAnyH_take (i := 10) (oi := ⟨_, _, _, _, _, _⟩) (v := ?_) rfl (by kernel_rfl) (by kernel_rfl) (by kernel_rfl) (fun _ _ _ h => h) (Or.inl ⟨by rfl, ?_⟩) (by assumption) ?_
  rotate_left
  · intro wz hSw
    try dsimp only at hSw
    go_simp
    try with_reducible rfl
  try simp only [Act.put, List.setIfInBounds_toArray, List.set_cons_zero, List.set_cons_succ]
  refine wpAnyH_take (i := 11) (oi := ⟨_, _, _, _, _, _⟩) (v := ?_) rfl (by kernel_rfl) (by kernel_rfl) (by kernel_rfl) (fun _ _ _ h => h) (Or.inl ⟨by rfl, ?_⟩) (by assumption) ?_
  rotate_left
  · intro wz hSw
    try dsimp only at hSw
    go_simp
    try with_reducible rfl
  try simp only [Act.put, List.setIfInBounds_toArray, List.set_cons_zero, List.set_cons_succ]
  refine wpAnyH_take (i := 12) (oi := ⟨_, _, _, _, _, _⟩) (v := ?_) rfl (by kernel_rfl) (by kernel_rfl) (by kernel_rfl) (fun _ _ _ h => h) (Or.inl ⟨by rfl, ?_⟩) (by assumption) ?_
  rotate_left
  · intro wz hSw
    try dsimp only at hSw
    go_simp
    try with_reducible rfl
  try simp only [Act.put, List.setIfInBounds_toArray, List.set_cons_zero, List.set_cons_succ]
  refine wpAnyH_take (i := 14) (oi := ⟨_, _, _, _, _, _⟩) (v := ?_) rfl (by kernel_rfl) (by kernel_rfl) (by kernel_rfl) (fun _ _ _ h => h) (Or.inl ⟨by rfl, ?_⟩) (by assumption) ?_
  rotate_left
  · intro wz hSw
    try dsimp only at hSw
    go_simp
    try with_reducible rfl
  try simp only [Act.put, List.setIfInBounds_toArray, List.set_cons_zero, List.set_cons_succ]
  refine wpAnyH_take (i := 15) (oi := ⟨_, _, _, _, _, _⟩) (v := ?_) rfl (by kernel_rfl) (by kernel_rfl) (by kernel_rfl) (fun _ _ _ h => h) (Or.inl ⟨by rfl, ?_⟩) (by assumption) ?_
  rotate_left
  · intro wz hSw
    try dsimp only at hSw
    go_simp
    try with_reducible rfl
  try simp only [Act.put, List.setIfInBounds_toArray, List.set_cons_zero, List.set_cons_succ]
  refine wpAnyH_ready (rs := [13]) (by kernel_rfl) (by simp) ?_
  refine AllReadyH.cons (o := ⟨_, _, _, _, _, _⟩) rfl (fun K hK => ?_) AllReadyH.nil
  go_simp
  refine (K2.out _ A.out.laid _ (Below.refl _ _)).mono ?_
  rintro e w6 ⟨rfl, hb⟩
  replace A := Lib.hid (A.out.step hb)
  replace B0 := Lib.hid (B0.out.step hb)
  replace B1 := Lib.hid (B1.out.step hb)
  clear hb hHeld
  refine hK.out _ _ ⟨B0.out.c0, B0.out.c1, B1.out.c0, B1.out.c1⟩ (fun hHeld => ?_)
  clear hK K
  try simp only [Act.put, List.setIfInBounds_toArray, List.set_cons_zero, List.set_cons_succ]
  refine wpAnyH_ready (rs := [16]) (by kernel_rfl) (by simp) ?_
  refine AllReadyH.cons (o := ⟨_, _, _, _, _, _⟩) rfl (fun K hK => ?_) AllReadyH.nil
  go_simp
  refine (K2r.out _ A.out.laid _ (Below.refl _ _)).mono ?_
  rintro e w7 ⟨rfl, hb⟩
  replace A := Lib.hid (A.out.step hb)
  replace B0 := Lib.hid (B0.out.step hb)
  replace B1 := Lib.hid (B1.out.step hb)
  clear hb hHeld
  refine hK.out _ _ ⟨B0.out.c0, B0.out.c1, B1.out.c0, B1.out.c1⟩ (fun hHeld => ?_)
  clear hK K
  try simp only [Act.put, List.setIfInBounds_toArray, List.set_cons_zero, List.set_cons_succ]
  refine wpAnyH_take (i := 17) (oi := ⟨_, _, _, _, _, _⟩) (v := ?_) rfl (by kernel_rfl) (by kernel_rfl) (by kernel_rfl) (fun _ _ _ h => h) (Or.inl ⟨by rfl, ?_⟩) (by assumption) ?_
  rotate_left
  · intro wz hSw
    try dsimp only at hSw
    go_simp
    try with_reducible rfl
  try simp only [Act.put, List.setIfInBounds_toArray, List.set_cons_zero, List.set_cons_succ]
  refine wpAnyH_take (i := 18) (oi := ⟨_, _, _, _, _, _⟩) (v := ?_) rfl (by kernel_rfl) (by kernel_rfl) (by kernel_rfl) (fun _ _ _ h => h) (Or.inl ⟨by rfl, ?_⟩) (by assumption) ?_
  rotate_left
  · intro wz hSw
    try dsimp only at hSw
    go_simp
    try with_reducible rfl
  try simp only [Act.put, List.setIfInBounds_toArray, List.set_cons_zero, List.set_cons_succ]
  refine wpAnyH_take (i := 19) (oi := ⟨_, _, _, _, _, _⟩) (v := ?_) rfl (by kernel_rfl) (by kernel_rfl) (by kernel_rfl) (fun _ _ _ h => h) (Or.inl ⟨by rfl, ?_⟩) (by assumption) ?_
  rotate_left
  · intro wz hSw
    try dsimp only at hSw
    go_simp
    try with_reducible rfl
  try simp only [Act.put, List.setIfInBounds_toArray, List.set_cons_zero, List.set_cons_succ]
  refine wpAnyH_done (by kernel_rfl) ?_ _
  clear hHeld
  go_wp2
  go_ret
  exact ⟨rfl, A.out.bel⟩
end Sg
end Go.Proofs.YtlcgcpjhmbbgfaaDoor
