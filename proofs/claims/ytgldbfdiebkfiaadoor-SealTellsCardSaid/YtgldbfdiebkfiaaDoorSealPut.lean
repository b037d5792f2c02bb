/-
  Layer 6: the landed package: Seal, Open.
-/
import Derived.Test.YtgldbfdiebkfiaaDoorSealMask
namespace Go.Proofs.YtgldbfdiebkfiaaDoor
open Go.RowKit
namespace Se
attribute [local go_sem] S3.B_size S3.B_app S3.B_list S3.B_take S3.B_drop'

set_option maxHeartbeats 4000000 in
set_option maxRecDepth 100000 in
theorem pseal_ok (W : World) (hW : S3.Laid W) (k n p : List UInt8) (hl : k.length + n.length + p.length ≤ 3700) : S5.Sg.Ok W 16 #[.string (S3.B k), .string (S3.B n), .string (S3.B p)] (.agg #[.string (S3.B n), .string (S3.B (mix k n p)), .string (S3.B (tag k n (mix k n p)))]) := by
  intro w hb
  have A := Lib.hid (Lk.At.from hW hb)
  have HGE := Lib.hid hb.size
  have k1 := fun W hW => pmask_ok W hW k n p hl
  have k2 := fun W hW => ptag_ok W hW k n (mix k n p) (by rw [mix_len]; exact hl)
  generalize tag k n (mix k n p) = t at k2 ⊢
  generalize mix k n p = d at k1 k2 ⊢
  have K1 := Lib.hid k1
  have K2 := Lib.hid k2
  clear k1 k2 hb hW hl
  go_enter Tryd.func16, Tryd.ntmps16
  go_wp2_with fail
  replace A := Lib.hid (A.out.alloc (.cells #[.string ⟨#[]⟩, .string ⟨#[]⟩, .string ⟨#[]⟩] 23))
  have Z1 := Lib.hid (Lk.Bl.new w [.string ⟨#[]⟩, .string ⟨#[]⟩, .string ⟨#[]⟩] 23)
  generalize w.alloc (.cells #[.string ⟨#[]⟩, .string ⟨#[]⟩, .string ⟨#[]⟩] 23) = w1 at *
  refine (K1.out _ A.out.laid _ (Below.refl _ _)).mono ?_
  rintro e w2 ⟨rfl, hb⟩
  replace A := Lib.hid (A.out.step hb)
  replace Z1 := Lib.hid (Z1.out.step hb)
  clear hb
  go_wp2_with fail
  refine (K2.out _ A.out.laid _ (Below.refl _ _)).mono ?_
  rintro e w3 ⟨rfl, hb⟩
  replace A := Lib.hid (A.out.step hb)
  replace Z1 := Lib.hid (Z1.out.step hb)
  clear hb
  go_wp2_with (refine S3.wpList_store_row rfl 23 _ _ rfl w.heap.size _ rfl rfl 23 _ Z1.out.row (infoBox _ _ _) rfl (by simp [Value.oneCell']) ?_)
  exact bodyPost_ret (v := .agg #[.string (S3.B n), .string (S3.B d), .string (S3.B t)]) (results_cell_row Tryd.results16 _ _ w.heap.size 23 _ (0, 0) _ rfl (setRow_heap _ _ _ _ _ _ Z1.out.row) Tryd.underlying23 rfl (infoBox _ _ _)) rfl
    ⟨rfl, below_setRow A.out.bel _ HGE.out _⟩

set_option maxHeartbeats 4000000 in
set_option maxRecDepth 100000 in
theorem popen_ok (W : World) (hW : S3.Laid W) (k n d t : List UInt8) (hl : k.length + n.length + d.length ≤ 3700) : S5.Sg.Ok W 10 #[.string (S3.B k), .agg #[.string (S3.B n), .string (S3.B d), .string (S3.B t)]] (.tuple #[.string (S3.B (openV k ⟨n, d, t⟩).1), .bool (openV k ⟨n, d, t⟩).2]) := by
  intro w hb
  have A := Lib.hid (Lk.At.from hW hb)
  have k1 := fun W hW => ptag_ok W hW k n d hl
  have k2 := fun W hW => pmask_ok W hW k n d hl
  unfold openV
  dsimp only
  generalize tag k n d = u at k1 ⊢
  generalize mix k n d = m at k2 ⊢
  have K1 := Lib.hid k1
  have K2 := Lib.hid k2
  clear k1 k2 hl hb hW
  by_cases ht : t = u
  · rw [if_pos ht]
    subst ht
    go_enter Tryd.func10, Tryd.ntmps10
    go_wp2_with fail
    replace A := Lib.hid (A.out.alloc (.cells #[.string (S3.B n), .string (S3.B d), .string (S3.B t)] 23))
    have B1 := Lib.hid (Lk.Bl.new w [.string (S3.B n), .string (S3.B d), .string (S3.B t)] 23)
    generalize w.alloc (.cells #[.string (S3.B n), .string (S3.B d), .string (S3.B t)] 23) = w1 at *
    replace A := Lib.hid A.out.drew
    replace B1 := Lib.hid B1.out.drew
    refine wp_region_held_drew (S := (fun w' => w'.cell? ⟨w.heap.size, 2, none⟩ = some (.string (S3.B t)) ∧ w'.cell? ⟨w.heap.size, 0, none⟩ = some (.string (S3.B n)) ∧ w'.cell? ⟨w.heap.size, 1, none⟩ = some (.string (S3.B d)))) (by kernel_rfl) ⟨B1.out.c 2 _ rfl, B1.out.c 0 _ rfl, B1.out.c 1 _ rfl⟩ (fun hHeld => ?_)
    refine wpAnyH_take (i := 0) (oi := ⟨_, _, _, _, _, _⟩) (v := ?_) rfl (by kernel_rfl) (by kernel_rfl) (by kernel_rfl) (fun _ _ _ h => h) (Or.inl ⟨by rfl, ?_⟩) (by assumption) ?_
    rotate_left
    · intro wz hSw
      try dsimp only at hSw
      go_simp
      try with_reducible rfl
    try simp only [Act.put, List.setIfInBounds_toArray, List.set_cons_zero, List.set_cons_succ]
    refine wpAnyH_take (i := 1) (oi := ⟨_, _, _, _, _, _⟩) (v := ?_) rfl (by kernel_rfl) (by kernel_rfl) (by kernel_rfl) (fun _ _ _ h => h) (Or.inl ⟨by rfl, ?_⟩) (by assumption) ?_
    rotate_left
    · intro wz hSw
      try dsimp only at hSw
      go_simp
      try with_reducible rfl
    try simp only [Act.put, List.setIfInBounds_toArray, List.set_cons_zero, List.set_cons_succ]
    refine wpAnyH_take (i := 2) (oi := ⟨_, _, _, _, _, _⟩) (v := ?_) rfl (by kernel_rfl) (by kernel_rfl) (by kernel_rfl) (fun _ _ _ h => h) (Or.inl ⟨by rfl, ?_⟩) (by assumption) ?_
    rotate_left
    · intro wz hSw
      try dsimp only at hSw
      go_simp
      try with_reducible rfl
    try simp only [Act.put, List.setIfInBounds_toArray, List.set_cons_zero, List.set_cons_succ]
    refine wpAnyH_take (i := 3) (oi := ⟨_, _, _, _, _, _⟩) (v := ?_) rfl (by kernel_rfl) (by kernel_rfl) (by kernel_rfl) (fun _ _ _ h => h) (Or.inl ⟨by rfl, ?_⟩) (by assumption) ?_
    rotate_left
    · intro wz hSw
      try dsimp only at hSw
      go_simp
      try with_reducible rfl
    try simp only [Act.put, List.setIfInBounds_toArray, List.set_cons_zero, List.set_cons_succ]
    refine wpAnyH_take (i := 4) (oi := ⟨_, _, _, _, _, _⟩) (v := ?_) rfl (by kernel_rfl) (by kernel_rfl) (by kernel_rfl) (fun _ _ _ h => h) (Or.inl ⟨by rfl, ?_⟩) (by assumption) ?_
    rotate_left
    · intro wz hSw
      try dsimp only at hSw
      go_simp
      try with_reducible rfl
    try simp only [Act.put, List.setIfInBounds_toArray, List.set_cons_zero, List.set_cons_succ]
    refine wpAnyH_take (i := 5) (oi := ⟨_, _, _, _, _, _⟩) (v := ?_) rfl (by kernel_rfl) (by kernel_rfl) (by kernel_rfl) (fun _ _ _ h => h) (Or.inl ⟨by rfl, ?_⟩) (by assumption) ?_
    rotate_left
    · intro wz hSw
      try dsimp only at hSw
      go_simp
      try with_reducible rfl
    try simp only [Act.put, List.setIfInBounds_toArray, List.set_cons_zero, List.set_cons_succ]
    refine wpAnyH_take (i := 6) (oi := ⟨_, _, _, _, _, _⟩) (v := ?_) rfl (by kernel_rfl) (by kernel_rfl) (by kernel_rfl) (fun _ _ _ h => h) (Or.inl ⟨by rfl, ?_⟩) (by assumption) ?_
    rotate_left
    · intro wz hSw
      try dsimp only at hSw
      go_simp
      try with_reducible rfl
    try simp only [Act.put, List.setIfInBounds_toArray, List.set_cons_zero, List.set_cons_succ]
    refine wpAnyH_ready (rs := [7]) (by kernel_rfl) (by simp) ?_
    refine AllReadyH.cons (o := ⟨_, _, _, _, _, _⟩) rfl (fun K hK => ?_) AllReadyH.nil
    go_simp
    refine (K1.out _ A.out.laid _ (Below.refl _ _)).mono ?_
    rintro e w2 ⟨rfl, hb⟩
    replace A := Lib.hid (A.out.step hb)
    replace B1 := Lib.hid (B1.out.step hb)
    clear hb hHeld 
    refine hK.out _ _ ⟨B1.out.c 2 _ rfl, B1.out.c 0 _ rfl, B1.out.c 1 _ rfl⟩ (fun hHeld => ?_)
    clear hK K
    try simp only [Act.put, List.setIfInBounds_toArray, List.set_cons_zero, List.set_cons_succ]
    refine wpAnyH_take (i := 8) (oi := ⟨_, _, _, _, _, _⟩) (v := .bool false) rfl (by kernel_rfl) (by kernel_rfl) (by kernel_rfl) (fun _ _ _ h => h) (Or.inl ⟨by rfl, ?_⟩) (by assumption) ?_
    · intro wz hSw
      try dsimp only at hSw
      go_simp
    try simp only [Act.put, List.setIfInBounds_toArray, List.set_cons_zero, List.set_cons_succ]
    refine wpAnyH_done (by kernel_rfl) ?_ _
    clear hHeld
    have cB1_0 := B1.out.c 0 _ rfl
    have cB1_1 := B1.out.c 1 _ rfl
    go_wp2_with fail
    clear cB1_0 cB1_1
    refine (K2.out _ A.out.laid _ (Below.refl _ _)).mono ?_
    rintro e w3 ⟨rfl, hb⟩
    replace A := Lib.hid (A.out.step hb)
    replace B1 := Lib.hid (B1.out.step hb)
    clear hb
    go_wp2
    go_ret2
    exact ⟨rfl, A.out.bel⟩
  · rw [if_neg ht]
    have hne : (t == u) = false := beq_eq_false_iff_ne.2 ht
    clear ht
    go_enter Tryd.func10, Tryd.ntmps10
    go_wp2_with fail
    replace A := Lib.hid (A.out.alloc (.cells #[.string (S3.B n), .string (S3.B d), .string (S3.B t)] 23))
    have B1 := Lib.hid (Lk.Bl.new w [.string (S3.B n), .string (S3.B d), .string (S3.B t)] 23)
    generalize w.alloc (.cells #[.string (S3.B n), .string (S3.B d), .string (S3.B t)] 23) = w1 at *
    replace A := Lib.hid A.out.drew
    replace B1 := Lib.hid B1.out.drew
    refine wp_region_held_drew (S := (fun w' => w'.cell? ⟨w.heap.size, 2, none⟩ = some (.string (S3.B t)) ∧ w'.cell? ⟨w.heap.size, 0, none⟩ = some (.string (S3.B n)) ∧ w'.cell? ⟨w.heap.size, 1, none⟩ = some (.string (S3.B d)))) (by kernel_rfl) ⟨B1.out.c 2 _ rfl, B1.out.c 0 _ rfl, B1.out.c 1 _ rfl⟩ (fun hHeld => ?_)
    refine wpAnyH_take (i := 0) (oi := ⟨_, _, _, _, _, _⟩) (v := ?_) rfl (by kernel_rfl) (by kernel_rfl) (by kernel_rfl) (fun _ _ _ h => h) (Or.inl ⟨by rfl, ?_⟩) (by assumption) ?_
    rotate_left
    · intro wz hSw
      try dsimp only at hSw
      go_simp
      try with_reducible rfl
    try simp only [Act.put, List.setIfInBounds_toArray, List.set_cons_zero, List.set_cons_succ]
    refine wpAnyH_take (i := 1) (oi := ⟨_, _, _, _, _, _⟩) (v := ?_) rfl (by kernel_rfl) (by kernel_rfl) (by kernel_rfl) (fun _ _ _ h => h) (Or.inl ⟨by rfl, ?_⟩) (by assumption) ?_
    rotate_left
    · intro wz hSw
      try dsimp only at hSw
      go_simp
      try with_reducible rfl
    try simp only [Act.put, List.setIfInBounds_toArray, List.set_cons_zero, List.set_cons_succ]
    refine wpAnyH_take (i := 2) (oi := ⟨_, _, _, _, _, _⟩) (v := ?_) rfl (by kernel_rfl) (by kernel_rfl) (by kernel_rfl) (fun _ _ _ h => h) (Or.inl ⟨by rfl, ?_⟩) (by assumption) ?_
    rotate_left
    · intro wz hSw
      try dsimp only at hSw
      go_simp
      try with_reducible rfl
    try simp only [Act.put, List.setIfInBounds_toArray, List.set_cons_zero, List.set_cons_succ]
    refine wpAnyH_take (i := 3) (oi := ⟨_, _, _, _, _, _⟩) (v := ?_) rfl (by kernel_rfl) (by kernel_rfl) (by kernel_rfl) (fun _ _ _ h => h) (Or.inl ⟨by rfl, ?_⟩) (by assumption) ?_
    rotate_left
    · intro wz hSw
      try dsimp only at hSw
      go_simp
      try with_reducible rfl
    try simp only [Act.put, List.setIfInBounds_toArray, List.set_cons_zero, List.set_cons_succ]
    refine wpAnyH_take (i := 4) (oi := ⟨_, _, _, _, _, _⟩) (v := ?_) rfl (by kernel_rfl) (by kernel_rfl) (by kernel_rfl) (fun _ _ _ h => h) (Or.inl ⟨by rfl, ?_⟩) (by assumption) ?_
    rotate_left
    · intro wz hSw
      try dsimp only at hSw
      go_simp
      try with_reducible rfl
    try simp only [Act.put, List.setIfInBounds_toArray, List.set_cons_zero, List.set_cons_succ]
    refine wpAnyH_take (i := 5) (oi := ⟨_, _, _, _, _, _⟩) (v := ?_) rfl (by kernel_rfl) (by kernel_rfl) (by kernel_rfl) (fun _ _ _ h => h) (Or.inl ⟨by rfl, ?_⟩) (by assumption) ?_
    rotate_left
    · intro wz hSw
      try dsimp only at hSw
      go_simp
      try with_reducible rfl
    try simp only [Act.put, List.setIfInBounds_toArray, List.set_cons_zero, List.set_cons_succ]
    refine wpAnyH_take (i := 6) (oi := ⟨_, _, _, _, _, _⟩) (v := ?_) rfl (by kernel_rfl) (by kernel_rfl) (by kernel_rfl) (fun _ _ _ h => h) (Or.inl ⟨by rfl, ?_⟩) (by assumption) ?_
    rotate_left
    · intro wz hSw
      try dsimp only at hSw
      go_simp
      try with_reducible rfl
    try simp only [Act.put, List.setIfInBounds_toArray, List.set_cons_zero, List.set_cons_succ]
    refine wpAnyH_ready (rs := [7]) (by kernel_rfl) (by simp) ?_
    refine AllReadyH.cons (o := ⟨_, _, _, _, _, _⟩) rfl (fun K hK => ?_) AllReadyH.nil
    go_simp
    refine (K1.out _ A.out.laid _ (Below.refl _ _)).mono ?_
    rintro e w2 ⟨rfl, hb⟩
    replace A := Lib.hid (A.out.step hb)
    replace B1 := Lib.hid (B1.out.step hb)
    clear hb hHeld 
    refine hK.out _ _ ⟨B1.out.c 2 _ rfl, B1.out.c 0 _ rfl, B1.out.c 1 _ rfl⟩ (fun hHeld => ?_)
    clear hK K
    try simp only [Act.put, List.setIfInBounds_toArray, List.set_cons_zero, List.set_cons_succ]
    refine wpAnyH_take (i := 8) (oi := ⟨_, _, _, _, _, _⟩) (v := .bool true) rfl (by kernel_rfl) (by kernel_rfl) (by kernel_rfl) (fun _ _ _ h => h) (Or.inl ⟨by rfl, ?_⟩) (by assumption) ?_
    · intro wz hSw
      try dsimp only at hSw
      go_simp
    try simp only [Act.put, List.setIfInBounds_toArray, List.set_cons_zero, List.set_cons_succ]
    refine wpAnyH_done (by kernel_rfl) ?_ _
    clear hHeld
    go_wp2
    go_ret2
    exact ⟨rfl, A.out.bel⟩
end Se
end Go.Proofs.YtgldbfdiebkfiaaDoor
