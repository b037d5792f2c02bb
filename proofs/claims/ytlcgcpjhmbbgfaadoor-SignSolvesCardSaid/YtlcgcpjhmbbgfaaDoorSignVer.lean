/-
  Layer 5: Verify.
-/
import Derived.Test.YtlcgcpjhmbbgfaaDoorSignSign
namespace Go.Proofs.YtlcgcpjhmbbgfaaDoor
open Go.RowKit
namespace Sg
attribute [local go_sem] S3.B_size S3.B_app

set_option maxHeartbeats 4000000 in
set_option maxRecDepth 100000 in
theorem pver_ok (W : World) (hW : S3.Laid W) (y E S : Int) (m : List UInt8) (iy : isI y) (hm : m.length ≤ 2000) : Ok W 19 #[.int .i64 y, .string (S3.B m), .agg #[.int .i64 E, .int .i64 S]] (.bool (verV y m E S)) := by
  intro w hb
  have A := Lib.hid ((At.mk (W := W) hb (laid_below hW hb)).alloc (.cells #[.int .i64 E, .int .i64 S] 30))
  have B0 := Lib.hid (Blk.new w E S 30)
  have hve := fun h => (verV_eq y E S m h).trans Bool.beq_comm
  have hno : ¬ Rg y E S → verV y m E S = false := fun h => decide_eq_false (fun x => h x.1)
  obtain ⟨b, hbv⟩ : ∃ b, b = verV y m E S := ⟨_, rfl⟩
  rw [← hbv] at hve hno ⊢
  clear hb
  by_cases h0 : y < 1
  · obtain rfl := hno (fun h => by obtain ⟨_, _, _, _, _, _⟩ := h; omega)
    clear hve hno hbv iy hm hW
    go_enter Tryd.func19, Tryd.ntmps19
    go_wp2
    go_ret
    exact ⟨rfl, A.out.bel⟩
  by_cases h1 : 2305843009213693951 ≤ y
  · obtain rfl := hno (fun h => by obtain ⟨_, _, _, _, _, _⟩ := h; omega)
    clear hve hno hbv iy hm hW
    go_enter Tryd.func19, Tryd.ntmps19
    go_wp2
    go_ret
    exact ⟨rfl, A.out.bel⟩
  by_cases h2 : E < 0
  · obtain rfl := hno (fun h => by obtain ⟨_, _, _, _, _, _⟩ := h; omega)
    clear hve hno hbv iy hm hW
    go_enter Tryd.func19, Tryd.ntmps19
    go_wp2
    go_ret
    exact ⟨rfl, A.out.bel⟩
  by_cases h3 : 2305843009213693950 ≤ E
  · obtain rfl := hno (fun h => by obtain ⟨_, _, _, _, _, _⟩ := h; omega)
    clear hve hno hbv iy hm hW
    go_enter Tryd.func19, Tryd.ntmps19
    go_wp2
    go_ret
    exact ⟨rfl, A.out.bel⟩
  by_cases h4 : S < 0
  · obtain rfl := hno (fun h => by obtain ⟨_, _, _, _, _, _⟩ := h; omega)
    clear hve hno hbv iy hm hW
    go_enter Tryd.func19, Tryd.ntmps19
    go_wp2
    go_ret
    exact ⟨rfl, A.out.bel⟩
  by_cases h5 : 2305843009213693950 ≤ S
  · obtain rfl := hno (fun h => by obtain ⟨_, _, _, _, _, _⟩ := h; omega)
    clear hve hno hbv iy hm hW
    go_enter Tryd.func19, Tryd.ntmps19
    go_wp2
    go_ret
    exact ⟨rfl, A.out.bel⟩
  have hr : Rg y E S := ⟨by omega, by omega, by omega, by omega, by omega, by omega⟩
  have hbe := hve hr
  have k1 := fun W (_ : S3.Laid W) => exp_ok W 37 S (by unfold isI S4.isI64; omega) (by unfold isI S4.isI64; omega)
  have k2 := fun W (_ : S3.Laid W) => exp_ok W y (2305843009213693950 - E) iy (by unfold isI S4.isI64; omega)
  have hp1 := S4.powP_lt 37 S
  have hp2 := S4.powP_lt y (2305843009213693950 - E)
  have k3 := fun W (_ : S3.Laid W) => mul_ok W (S4.powP 37 S : Nat) (S4.powP y (2305843009213693950 - E) : Nat) (by unfold isI S4.isI64; omega) (by unfold isI S4.isI64; omega)
  rw [show ((S4.powP 37 S : Nat) : Int) * (S4.powP y (2305843009213693950 - E) : Nat) % 2305843009213693951 = comm y E S from rfl] at k3
  have hc := comm_in y E S
  have k4 : ∀ W : World, S3.Laid W → Ok W 35 #[.int .i64 (comm y E S), .int .i64 y, .string (S3.B m)] (.int .i64 (chal (comm y E S) y m : Nat)) := fun W hW w hb => (pchal_ok w (laid_below hW hb) (comm y E S) y m (by unfold isI S4.isI64; omega) iy hm).mono fun _ _ h => ⟨h.1, hb.trans (h.2.mono hb.size)⟩
  generalize chal (comm y E S) y m = c at k4 hbe
  generalize comm y E S = q at k3 k4
  generalize S4.powP 37 S = p1 at k1 k3
  have e1 : IntKind.i64.wrap (2305843009213693950 - E) = 2305843009213693950 - E := IntWalk.i64_in _ (by omega)
  generalize S4.powP y (2305843009213693950 - E) = p2 at k2 k3
  obtain ⟨n, hn⟩ : ∃ n, n = 2305843009213693950 - E := ⟨_, rfl⟩
  rw [← hn] at k2
  have e2 : IntKind.i64.wrap (2305843009213693950 - E) = n := by rw [e1, hn]
  have K1 := Lib.hid k1
  have K2 := Lib.hid k2
  have K3 := Lib.hid k3
  have K4 := Lib.hid k4
  have HB := Lib.hid hbe
  clear k1 k2 k3 k4 hbe hve hno hbv hc hn e1 iy hm hW hr hp1 hp2
  go_enter Tryd.func19, Tryd.ntmps19
  go_wp2_with fail
  generalize w.alloc (.cells #[.int .i64 E, .int .i64 S] 30) = w0 at *
  replace A := Lib.hid A.out.drew
  replace B0 := Lib.hid B0.out.drew
  refine wp_region_held_drew (S := (fun w' => w'.cell? ⟨w.heap.size, 0, none⟩ = some (.int .i64 E) ∧ w'.cell? ⟨w.heap.size, 1, none⟩ = some (.int .i64 S))) (by kernel_rfl) ⟨B0.out.c0, B0.out.c1⟩ (fun hHeld => ?_)
  refine wpAnyH_take (i := 0) (oi := ⟨_, _, _, _, _, _⟩) (v := ?_) rfl (by kernel_rfl) (by kernel_rfl) (by kernel_rfl) (fun _ _ _ h => h) (Or.inl ⟨by rfl, ?_⟩) (by assumption) ?_
  rotate_left
  · intro wz hSw
    try dsimp only at hSw
    go_simp
    try with_reducible rfl
  try simp only [Act.put, List.setIfInBounds_toArray, List.set_cons_zero, List.set_cons_succ]
  refine wpAnyH_take (i := 1) (oi := ⟨_, _, _, _, _, _⟩) (v := ?_) rfl (by kernel_rfl) (by kernel_rfl) (by kernel_rfl) (fun _ _ _ h => h) (Or.inl ⟨by rfl, ?_⟩) (by assumption) ?_
  rotate_left
  · intro wz hSw
    try dsimp only at hSw
    go_simp
    try with_reducible rfl
  try simp only [Act.put, List.setIfInBounds_toArray, List.set_cons_zero, List.set_cons_succ]
  refine wpAnyH_take (i := 3) (oi := ⟨_, _, _, _, _, _⟩) (v := ?_) rfl (by kernel_rfl) (by kernel_rfl) (by kernel_rfl) (fun _ _ _ h => h) (Or.inl ⟨by rfl, ?_⟩) (by assumption) ?_
  rotate_left
  · intro wz hSw
    try dsimp only at hSw
    go_simp
    try with_reducible rfl
  try simp only [Act.put, List.setIfInBounds_toArray, List.set_cons_zero, List.set_cons_succ]
  refine wpAnyH_take (i := 4) (oi := ⟨_, _, _, _, _, _⟩) (v := ?_) rfl (by kernel_rfl) (by kernel_rfl) (by kernel_rfl) (fun _ _ _ h => h) (Or.inl ⟨by rfl, ?_⟩) (by assumption) ?_
  rotate_left
  · intro wz hSw
    try dsimp only at hSw
    go_simp
    try with_reducible rfl
  try simp only [Act.put, List.setIfInBounds_toArray, List.set_cons_zero, List.set_cons_succ]
  refine wpAnyH_take (i := 5) (oi := ⟨_, _, _, _, _, _⟩) (v := ?_) rfl (by kernel_rfl) (by kernel_rfl) (by kernel_rfl) (fun _ _ _ h => h) (Or.inl ⟨by rfl, ?_⟩) (by assumption) ?_
  rotate_left
  · intro wz hSw
    try dsimp only at hSw
    go_simp
    try with_reducible rfl
  try simp only [Act.put, List.setIfInBounds_toArray, List.set_cons_zero, List.set_cons_succ]
  refine wpAnyH_take (i := 6) (oi := ⟨_, _, _, _, _, _⟩) (v := ?_) rfl (by kernel_rfl) (by kernel_rfl) (by kernel_rfl) (fun _ _ _ h => h) (Or.inl ⟨by rfl, ?_⟩) (by assumption) ?_
  rotate_left
  · intro wz hSw
    try dsimp only at hSw
    go_simp
    try with_reducible rfl
  try simp only [Act.put, List.setIfInBounds_toArray, List.set_cons_zero, List.set_cons_succ]
  refine wpAnyH_ready (rs := [2]) (by kernel_rfl) (by simp) ?_
  refine AllReadyH.cons (o := ⟨_, _, _, _, _, _⟩) rfl (fun K hK => ?_) AllReadyH.nil
  go_simp
  refine (K1.out _ A.out.laid _ (Below.refl _ _)).mono ?_
  rintro e w1 ⟨rfl, hb⟩
  replace A := Lib.hid (A.out.step hb)
  replace B0 := Lib.hid (B0.out.step hb)
  clear hb hHeld
  refine hK.out _ _ ⟨B0.out.c0, B0.out.c1⟩ (fun hHeld => ?_)
  clear hK K
  try simp only [Act.put, List.setIfInBounds_toArray, List.set_cons_zero, List.set_cons_succ]
  refine wpAnyH_ready (rs := [7]) (by kernel_rfl) (by simp) ?_
  refine AllReadyH.cons (o := ⟨_, _, _, _, _, _⟩) rfl (fun K hK => ?_) AllReadyH.nil
  go_simp
  refine (K2.out _ A.out.laid _ (Below.refl _ _)).mono ?_
  rintro e w2 ⟨rfl, hb⟩
  replace A := Lib.hid (A.out.step hb)
  replace B0 := Lib.hid (B0.out.step hb)
  clear hb hHeld
  refine hK.out _ _ ⟨B0.out.c0, B0.out.c1⟩ (fun hHeld => ?_)
  clear hK K
  try simp only [Act.put, List.setIfInBounds_toArray, List.set_cons_zero, List.set_cons_succ]
  refine wpAnyH_ready (rs := [8]) (by kernel_rfl) (by simp) ?_
  refine AllReadyH.cons (o := ⟨_, _, _, _, _, _⟩) rfl (fun K hK => ?_) AllReadyH.nil
  go_simp
  refine (K3.out _ A.out.laid _ (Below.refl _ _)).mono ?_
  rintro e w3 ⟨rfl, hb⟩
  replace A := Lib.hid (A.out.step hb)
  replace B0 := Lib.hid (B0.out.step hb)
  clear hb hHeld
  refine hK.out _ _ ⟨B0.out.c0, B0.out.c1⟩ (fun hHeld => ?_)
  clear hK K
  try simp only [Act.put, List.setIfInBounds_toArray, List.set_cons_zero, List.set_cons_succ]
  refine wpAnyH_take (i := 9) (oi := ⟨_, _, _, _, _, _⟩) (v := ?_) rfl (by kernel_rfl) (by kernel_rfl) (by kernel_rfl) (fun _ _ _ h => h) (Or.inl ⟨by rfl, ?_⟩) (by assumption) ?_
  rotate_left
  · intro wz hSw
    try dsimp only at hSw
    go_simp
    try with_reducible rfl
  try simp only [Act.put, List.setIfInBounds_toArray, List.set_cons_zero, List.set_cons_succ]
  refine wpAnyH_done (by kernel_rfl) ?_ _
  clear hHeld
  go_wp2_with fail
  replace A := Lib.hid A.out.drew
  replace B0 := Lib.hid B0.out.drew
  refine wp_region_held_drew (S := (fun w' => w'.cell? ⟨w.heap.size, 0, none⟩ = some (.int .i64 E) ∧ w'.cell? ⟨w.heap.size, 1, none⟩ = some (.int .i64 S))) (by kernel_rfl) ⟨B0.out.c0, B0.out.c1⟩ (fun hHeld => ?_)
  refine wpAnyH_take (i := 0) (oi := ⟨_, _, _, _, _, _⟩) (v := ?_) rfl (by kernel_rfl) (by kernel_rfl) (by kernel_rfl) (fun _ _ _ h => h) (Or.inl ⟨by rfl, ?_⟩) (by assumption) ?_
  rotate_left
  · intro wz hSw
    try dsimp only at hSw
    go_simp
    try with_reducible rfl
  try simp only [Act.put, List.setIfInBounds_toArray, List.set_cons_zero, List.set_cons_succ]
  refine wpAnyH_take (i := 1) (oi := ⟨_, _, _, _, _, _⟩) (v := ?_) rfl (by kernel_rfl) (by kernel_rfl) (by kernel_rfl) (fun _ _ _ h => h) (Or.inl ⟨by rfl, ?_⟩) (by assumption) ?_
  rotate_left
  · intro wz hSw
    try dsimp only at hSw
    go_simp
    try with_reducible rfl
  try simp only [Act.put, List.setIfInBounds_toArray, List.set_cons_zero, List.set_cons_succ]
  refine wpAnyH_take (i := 2) (oi := ⟨_, _, _, _, _, _⟩) (v := ?_) rfl (by kernel_rfl) (by kernel_rfl) (by kernel_rfl) (fun _ _ _ h => h) (Or.inl ⟨by rfl, ?_⟩) (by assumption) ?_
  rotate_left
  · intro wz hSw
    try dsimp only at hSw
    go_simp
    try with_reducible rfl
  try simp only [Act.put, List.setIfInBounds_toArray, List.set_cons_zero, List.set_cons_succ]
  refine wpAnyH_take (i := 3) (oi := ⟨_, _, _, _, _, _⟩) (v := ?_) rfl (by kernel_rfl) (by kernel_rfl) (by kernel_rfl) (fun _ _ _ h => h) (Or.inl ⟨by rfl, ?_⟩) (by assumption) ?_
  rotate_left
  · intro wz hSw
    try dsimp only at hSw
    go_simp
    try with_reducible rfl
  try simp only [Act.put, List.setIfInBounds_toArray, List.set_cons_zero, List.set_cons_succ]
  refine wpAnyH_take (i := 4) (oi := ⟨_, _, _, _, _, _⟩) (v := ?_) rfl (by kernel_rfl) (by kernel_rfl) (by kernel_rfl) (fun _ _ _ h => h) (Or.inl ⟨by rfl, ?_⟩) (by assumption) ?_
  rotate_left
  · intro wz hSw
    try dsimp only at hSw
    go_simp
    try with_reducible rfl
  try simp only [Act.put, List.setIfInBounds_toArray, List.set_cons_zero, List.set_cons_succ]
  refine wpAnyH_ready (rs := [5]) (by kernel_rfl) (by simp) ?_
  refine AllReadyH.cons (o := ⟨_, _, _, _, _, _⟩) rfl (fun K hK => ?_) AllReadyH.nil
  go_simp
  refine (K4.out _ A.out.laid _ (Below.refl _ _)).mono ?_
  rintro e w4 ⟨rfl, hb⟩
  replace A := Lib.hid (A.out.step hb)
  replace B0 := Lib.hid (B0.out.step hb)
  clear hb hHeld
  refine hK.out _ _ ⟨B0.out.c0, B0.out.c1⟩ (fun hHeld => ?_)
  clear hK K
  try simp only [Act.put, List.setIfInBounds_toArray, List.set_cons_zero, List.set_cons_succ]
  refine wpAnyH_take (i := 6) (oi := ⟨_, _, _, _, _, _⟩) (v := .bool b) rfl (by kernel_rfl) (by kernel_rfl) (by kernel_rfl) (fun _ _ _ h => h) (Or.inl ⟨by rfl, ?_⟩) (by assumption) ?_
  · intro wz hSw
    try dsimp only at hSw
    go_simp
    rw [HB.out]
  try simp only [Act.put, List.setIfInBounds_toArray, List.set_cons_zero, List.set_cons_succ]
  refine wpAnyH_take (i := 7) (oi := ⟨_, _, _, _, _, _⟩) (v := ?_) rfl (by kernel_rfl) (by kernel_rfl) (by kernel_rfl) (fun _ _ _ h => h) (Or.inl ⟨by rfl, ?_⟩) (by assumption) ?_
  rotate_left
  · intro wz hSw
    try dsimp only at hSw
    go_simp
    try with_reducible rfl
  try simp only [Act.put, List.setIfInBounds_toArray, List.set_cons_zero, List.set_cons_succ]
  refine wpAnyH_done (by kernel_rfl) ?_ _
  clear hHeld
  go_wp2
  go_ret
  exact ⟨rfl, A.out.bel⟩
end Sg
end Go.Proofs.YtlcgcpjhmbbgfaaDoor
