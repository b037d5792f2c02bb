/-
  Layer 6: the landed package: Wrap, Unwrap; what is handed back.
-/
import Derived.Test.YtgldbfdiebkfiaaDoorSealPut
namespace Go.Proofs.YtgldbfdiebkfiaaDoor
open Go.RowKit
namespace Se
attribute [local go_sem] S3.B_size S3.B_app S3.B_list S3.B_take S3.B_drop'
attribute [local go_sem] lit_tag lit_eph lit_wrap lit_stream lit_nonce

set_option maxHeartbeats 4000000 in
set_option maxRecDepth 100000 in
theorem pwrap_ok (W : World) (hW : S3.Laid W) (y : Int) (s p : List UInt8) (iy : S5.Sg.isI y) (hl : s.length + p.length ≤ 2100) : S5.Sg.Ok W 12 #[.int .i64 y, .string (S3.B s), .string (S3.B p)] (.tuple #[wrapC (wrapV y s p).1, .bool (wrapV y s p).2]) := by
  intro w hb
  have A := Lib.hid (Lk.At.from hW hb)
  have HGE := Lib.hid hb.size
  have kp := fun W (_ : S3.Laid W) => pisPub_ok W y
  by_cases hin : isPub y
  · rw [decide_eq_true hin] at kp
    rw [show wrapV y s p = (wrapIn y s p, true) from if_pos hin]
    have k1 := fun W hW => peph_ok W hW y s iy (by omega)
    have hE := ephS_in y s
    have ie : S5.Sg.isI (ephS y s : Nat) := by unfold S5.Sg.isI S4.isI64; omega
    have k2 := fun W hW => ppub_ok W hW (ephS y s : Nat) ie
    have k3 := fun W (_ : S3.Laid W) => S5.Sg.exp_ok W y (ephS y s : Nat) iy ie
    have hp1 := S5.Sg.pub_lt (ephS y s : Nat)
    have hp2 := S4.powP_lt y (ephS y s : Nat)
    have k4 := fun W hW => pwkey_ok W hW y (S5.Sg.pub (ephS y s : Nat) : Nat) (S4.powP y (ephS y s : Nat) : Nat) iy (by unfold S5.Sg.isI S4.isI64; omega) (by unfold S5.Sg.isI S4.isI64; omega)
    have hk := wkey_len y (S5.Sg.pub (ephS y s : Nat) : Nat) (S4.powP y (ephS y s : Nat) : Nat)
    unfold wrapC wrapIn sealV
    dsimp only
    generalize wkey y (S5.Sg.pub (ephS y s : Nat) : Nat) (S4.powP y (ephS y s : Nat) : Nat) = c at k4 hk ⊢
    have kh := fun A w hW hr => phash_any A [[110, 111, 110, 99, 101], c] 2 w hW hr (by simp) (by simp; omega)
    have hq := H_len [[110, 111, 110, 99, 101], c]
    rw [show H [wNonce, c] = H [[110, 111, 110, 99, 101], c] from rfl]
    generalize H [[110, 111, 110, 99, 101], c] = q at kh hq ⊢
    have k5 := fun W hW => pseal_ok W hW c q p (by omega)
    generalize tag c q (mix c q p) = bt at k5 ⊢
    generalize mix c q p = bd at k5 ⊢
    obtain ⟨bn, hbn⟩ : ∃ b, b = q := ⟨_, rfl⟩
    rw [show (Value.agg #[.string (S3.B q), .string (S3.B bd), .string (S3.B bt)]) = .agg #[.string (S3.B bn), .string (S3.B bd), .string (S3.B bt)] by rw [hbn]] at k5
    rw [show S3.B q = S3.B bn by rw [hbn]]
    generalize S4.powP y (ephS y s : Nat) = h' at k3 k4 hp2
    generalize S5.Sg.pub (ephS y s : Nat) = g' at k2 k4 hp1 ⊢
    generalize ephS y s = e' at k1 k2 k3 hE ie
    obtain ⟨e, he⟩ : ∃ z : Int, z = (e' : Nat) := ⟨_, rfl⟩
    obtain ⟨g, hg⟩ : ∃ z : Int, z = (g' : Nat) := ⟨_, rfl⟩
    obtain ⟨h, hh⟩ : ∃ z : Int, z = (h' : Nat) := ⟨_, rfl⟩
    rw [← he] at k1 k2 k3
    rw [← hg] at k2 k4 ⊢
    rw [← hh] at k3 k4
    have KP := Lib.hid kp
    have K1 := Lib.hid k1
    have K2 := Lib.hid k2
    have K3 := Lib.hid k3
    have K4 := Lib.hid k4
    have K5 := Lib.hid k5
    have KH := Lib.hid kh
    clear kp k1 k2 k3 k4 k5 kh hb hW hl hin hE ie hp1 hp2 hk hq hbn he hg hh iy
    go_enter Tryd.func12, Tryd.ntmps12
    go_wp2_with fail
    replace A := Lib.hid (A.out.alloc (.cells #[.int .i64 0, .int .i64 0, .string ⟨#[]⟩, .string ⟨#[]⟩, .string ⟨#[]⟩] 25))
    have Z1 := Lib.hid (Lk.Bl.new w [.int .i64 0, .int .i64 0, .string ⟨#[]⟩, .string ⟨#[]⟩, .string ⟨#[]⟩] 25)
    generalize w.alloc (.cells #[.int .i64 0, .int .i64 0, .string ⟨#[]⟩, .string ⟨#[]⟩, .string ⟨#[]⟩] 25) = w1 at *
    refine (KP.out _ A.out.laid _ (Below.refl _ _)).mono ?_
    rintro e w2 ⟨rfl, hb⟩
    replace A := Lib.hid (A.out.step hb)
    replace Z1 := Lib.hid (Z1.out.step hb)
    clear hb
    go_wp2_with fail
    refine (K1.out _ A.out.laid _ (Below.refl _ _)).mono ?_
    rintro e w3 ⟨rfl, hb⟩
    replace A := Lib.hid (A.out.step hb)
    replace Z1 := Lib.hid (Z1.out.step hb)
    clear hb
    go_wp2_with fail
    refine (K2.out _ A.out.laid _ (Below.refl _ _)).mono ?_
    rintro e w4 ⟨rfl, hb⟩
    replace A := Lib.hid (A.out.step hb)
    replace Z1 := Lib.hid (Z1.out.step hb)
    clear hb
    go_wp2_with fail
    refine (K3.out _ A.out.laid _ (Below.refl _ _)).mono ?_
    rintro e w5 ⟨rfl, hb⟩
    replace A := Lib.hid (A.out.step hb)
    replace Z1 := Lib.hid (Z1.out.step hb)
    clear hb
    go_wp2_with fail
    refine (K4.out _ A.out.laid _ (Below.refl _ _)).mono ?_
    rintro e w6 ⟨rfl, hb⟩
    replace A := Lib.hid (A.out.step hb)
    replace Z1 := Lib.hid (Z1.out.step hb)
    clear hb
    go_wp2_with fail
    replace A := Lib.hid (A.out.alloc (.cells #[.string (S3.B [110, 111, 110, 99, 101]), .string (S3.B c)] 9))
    replace Z1 := Lib.hid (Z1.out.alloc (.cells #[.string (S3.B [110, 111, 110, 99, 101]), .string (S3.B c)] 9))
    have R1 : S2.Row (w6.alloc (.cells #[.string (S3.B [110, 111, 110, 99, 101]), .string (S3.B c)] 9)) (w6.alloc (.cells #[.string (S3.B [110, 111, 110, 99, 101]), .string (S3.B c)] 9)).heap.size (some ⟨w6.heap.size, 0, none⟩) (S2.Ss [[110, 111, 110, 99, 101], c]) := Lk.strs w6 [[110, 111, 110, 99, 101], c]
    generalize w6.alloc (.cells #[.string (S3.B [110, 111, 110, 99, 101]), .string (S3.B c)] 9) = w7 at *
    refine (KH.out (some ⟨w6.heap.size, 0, none⟩) w7 A.out.laid R1).mono ?_
    rintro e w8 ⟨rfl, hb⟩
    replace A := Lib.hid (A.out.step hb)
    replace Z1 := Lib.hid (Z1.out.step hb)
    clear hb
    go_wp2_with fail
    refine (K5.out _ A.out.laid _ (Below.refl _ _)).mono ?_
    rintro e w9 ⟨rfl, hb⟩
    replace A := Lib.hid (A.out.step hb)
    replace Z1 := Lib.hid (Z1.out.step hb)
    clear hb
    go_wp2_with (refine S3.wpList_store_row rfl 25 _ _ rfl w.heap.size _ rfl rfl 25 _ Z1.out.row (infoWrap _ _ _ _ _) rfl (by simp [Value.oneCell']) ?_)
    exact bodyPost_ret (v := .tuple #[.agg #[.int .i64 y, .int .i64 g, .string (S3.B bn), .string (S3.B bd), .string (S3.B bt)], .bool true]) (results_row_tmp Tryd.results12 _ _ w.heap.size 25 _ (0, 0) _ rfl (setRow_heap _ _ _ _ _ _ Z1.out.row) Tryd.underlying25 rfl (infoWrap _ _ _ _ _)) rfl
      ⟨rfl, below_setRow A.out.bel _ HGE.out _⟩
  · rw [decide_eq_false hin] at kp
    rw [show wrapV y s p = (wrap0, false) from if_neg hin]
    have KP := Lib.hid kp
    clear kp hb hW hl hin iy
    go_enter Tryd.func12, Tryd.ntmps12
    go_wp2_with fail
    replace A := Lib.hid (A.out.alloc (.cells #[.int .i64 0, .int .i64 0, .string ⟨#[]⟩, .string ⟨#[]⟩, .string ⟨#[]⟩] 25))
    have Z1 := Lib.hid (Lk.Bl.new w [.int .i64 0, .int .i64 0, .string ⟨#[]⟩, .string ⟨#[]⟩, .string ⟨#[]⟩] 25)
    generalize w.alloc (.cells #[.int .i64 0, .int .i64 0, .string ⟨#[]⟩, .string ⟨#[]⟩, .string ⟨#[]⟩] 25) = w1 at *
    refine (KP.out _ A.out.laid _ (Below.refl _ _)).mono ?_
    rintro e w2 ⟨rfl, hb⟩
    replace A := Lib.hid (A.out.step hb)
    replace Z1 := Lib.hid (Z1.out.step hb)
    clear hb
    go_wp2_with (refine S3.wpList_store_row rfl 25 _ _ rfl w.heap.size _ rfl rfl 25 _ Z1.out.row (infoWrap _ _ _ _ _) rfl (by simp [Value.oneCell']) ?_)
    exact bodyPost_ret (v := .tuple #[.agg #[.int .i64 0, .int .i64 0, .string ⟨#[]⟩, .string ⟨#[]⟩, .string ⟨#[]⟩], .bool false]) (results_row_tmp Tryd.results12 _ _ w.heap.size 25 _ (0, 0) _ rfl (setRow_heap _ _ _ _ _ _ Z1.out.row) Tryd.underlying25 rfl (infoWrap _ _ _ _ _)) rfl
      ⟨rfl, below_setRow A.out.bel _ HGE.out _⟩

set_option maxHeartbeats 4000000 in
set_option maxRecDepth 100000 in
theorem punwrap_ok (W : World) (hW : S3.Laid W) (x to eph : Int) (n d t : List UInt8) (ix : S5.Sg.isI x) (it : S5.Sg.isI to) (ie : S5.Sg.isI eph) (hl : n.length + d.length ≤ 2100) : S5.Sg.Ok W 14 #[.int .i64 x, .agg #[.int .i64 to, .int .i64 eph, .string (S3.B n), .string (S3.B d), .string (S3.B t)]] (.tuple #[.string (S3.B (unwrapV x ⟨to, eph, ⟨n, d, t⟩⟩).1), .bool (unwrapV x ⟨to, eph, ⟨n, d, t⟩⟩).2]) := by
  intro w hb
  have A := Lib.hid (Lk.At.from hW hb)
  have ks := fun W (_ : S3.Laid W) => pisSec_ok W x
  have k1 := fun W hW => ppub_ok W hW x ix
  have kp := fun W (_ : S3.Laid W) => pisPub_ok W eph
  by_cases hs : isSec x
  · rw [decide_eq_true hs] at ks
    by_cases ht : to = (S5.Sg.pub x : Nat)
    · by_cases he : isPub eph
      · rw [decide_eq_true he] at kp
        rw [show unwrapV x ⟨to, eph, ⟨n, d, t⟩⟩ = openV (wkey to eph (S4.powP eph x : Nat)) ⟨n, d, t⟩ from if_pos ⟨hs, he, ht⟩]
        have k2 := fun W (_ : S3.Laid W) => S5.Sg.exp_ok W eph x ie ix
        have hp := S4.powP_lt eph x
        have k3 := fun W hW => pwkey_ok W hW to eph (S4.powP eph x : Nat) it ie (by unfold S5.Sg.isI S4.isI64; omega)
        have hkl := wkey_len to eph (S4.powP eph x : Nat)
        generalize wkey to eph (S4.powP eph x : Nat) = k at k3 hkl ⊢
        generalize S4.powP eph x = sh at k2 k3
        have k4 := fun W hW => popen_ok W hW k n d t (by omega)
        generalize (openV k ⟨n, d, t⟩).1 = o1 at k4 ⊢
        generalize (openV k ⟨n, d, t⟩).2 = o2 at k4 ⊢
        obtain ⟨pz, hpz⟩ : ∃ z : Int, z = (S5.Sg.pub x : Nat) := ⟨_, rfl⟩
        rw [← hpz] at k1 ht
        subst ht
        have KS := Lib.hid ks
        have K1 := Lib.hid k1
        have KP := Lib.hid kp
        have K2 := Lib.hid k2
        have K3 := Lib.hid k3
        have K4 := Lib.hid k4
        clear ks k1 kp k2 k3 k4 hb hW hl hs he hp hkl hpz it ie ix
        go_enter Tryd.func14, Tryd.ntmps14
        go_wp2_with fail
        replace A := Lib.hid (A.out.alloc (.cells #[.int .i64 to, .int .i64 eph, .string (S3.B n), .string (S3.B d), .string (S3.B t)] 25))
        have B1 := Lib.hid (Lk.Bl.new w [.int .i64 to, .int .i64 eph, .string (S3.B n), .string (S3.B d), .string (S3.B t)] 25)
        generalize w.alloc (.cells #[.int .i64 to, .int .i64 eph, .string (S3.B n), .string (S3.B d), .string (S3.B t)] 25) = w1 at *
        replace A := Lib.hid A.out.drew
        replace B1 := Lib.hid B1.out.drew
        refine wp_region_held_drew (S := (fun w' => w'.cell? ⟨w.heap.size, 0, none⟩ = some (.int .i64 to) ∧ w'.cell? ⟨w.heap.size, 1, none⟩ = some (.int .i64 eph))) (by kernel_rfl) ⟨B1.out.c 0 _ rfl, B1.out.c 1 _ rfl⟩ (fun hHeld => ?_)
        refine wpAnyH_take (i := 0) (oi := ⟨_, _, _, _, _, _⟩) (v := ?_) rfl (by kernel_rfl) (by kernel_rfl) (by kernel_rfl) (fun _ _ _ h => h) (Or.inl ⟨by rfl, ?_⟩) (by assumption) ?_
        rotate_left
        · intro wz hSw
          try dsimp only at hSw
          go_simp
          try with_reducible rfl
        try simp only [Act.put, List.setIfInBounds_toArray, List.set_cons_zero, List.set_cons_succ]
        refine wpAnyH_ready (rs := [1]) (by kernel_rfl) (by simp) ?_
        refine AllReadyH.cons (o := ⟨_, _, _, _, _, _⟩) rfl (fun K hK => ?_) AllReadyH.nil
        go_simp
        refine (KS.out _ A.out.laid _ (Below.refl _ _)).mono ?_
        rintro e w2 ⟨rfl, hb⟩
        replace A := Lib.hid (A.out.step hb)
        replace B1 := Lib.hid (B1.out.step hb)
        clear hb hHeld 
        refine hK.out _ _ ⟨B1.out.c 0 _ rfl, B1.out.c 1 _ rfl⟩ (fun hHeld => ?_)
        clear hK K
        try simp only [Act.put, List.setIfInBounds_toArray, List.set_cons_zero, List.set_cons_succ]
        refine wpAnyH_take (i := 2) (oi := ⟨_, _, _, _, _, _⟩) (v := ?_) rfl (by kernel_rfl) (by kernel_rfl) (by kernel_rfl) (fun _ _ _ h => h) (Or.inl ⟨by rfl, ?_⟩) (by assumption) ?_
        rotate_left
        · intro wz hSw
          try dsimp only at hSw
          go_simp
          try with_reducible rfl
        try simp only [Act.put, List.setIfInBounds_toArray, List.set_cons_zero, List.set_cons_succ]
        refine wpAnyH_take (i := 3) (oi := ⟨_, _, _, _, _, _⟩) (v := ?_) rfl (by kernel_rfl) (by kernel_rfl) (by kernel_rfl) (fun _ _ _ h => h) (Or.inl ⟨by rfl, ?_⟩) (by assumption) ?_
        rotate_left
        · intro wz hSw
          try dsimp only at hSw
          go_simp
          try with_reducible rfl
        try simp only [Act.put, List.setIfInBounds_toArray, List.set_cons_zero, List.set_cons_succ]
        refine wpAnyH_take (i := 4) (oi := ⟨_, _, _, _, _, _⟩) (v := ?_) rfl (by kernel_rfl) (by kernel_rfl) (by kernel_rfl) (fun _ _ _ h => h) (Or.inl ⟨by rfl, ?_⟩) (by assumption) ?_
        rotate_left
        · intro wz hSw
          try dsimp only at hSw
          go_simp
          try with_reducible rfl
        try simp only [Act.put, List.setIfInBounds_toArray, List.set_cons_zero, List.set_cons_succ]
        refine wpAnyH_take (i := 5) (oi := ⟨_, _, _, _, _, _⟩) (v := ?_) rfl (by kernel_rfl) (by kernel_rfl) (by kernel_rfl) (fun _ _ _ h => h) (Or.inl ⟨by rfl, ?_⟩) (by assumption) ?_
        rotate_left
        · intro wz hSw
          try dsimp only at hSw
          go_simp
          try with_reducible rfl
        try simp only [Act.put, List.setIfInBounds_toArray, List.set_cons_zero, List.set_cons_succ]
        refine wpAnyH_take (i := 6) (oi := ⟨_, _, _, _, _, _⟩) (v := ?_) rfl (by kernel_rfl) (by kernel_rfl) (by kernel_rfl) (fun _ _ _ h => h) (Or.inl ⟨by rfl, ?_⟩) (by assumption) ?_
        rotate_left
        · intro wz hSw
          try dsimp only at hSw
          go_simp
          try with_reducible rfl
        try simp only [Act.put, List.setIfInBounds_toArray, List.set_cons_zero, List.set_cons_succ]
        refine wpAnyH_ready (rs := [7]) (by kernel_rfl) (by simp) ?_
        refine AllReadyH.cons (o := ⟨_, _, _, _, _, _⟩) rfl (fun K hK => ?_) AllReadyH.nil
        go_simp
        refine (K1.out _ A.out.laid _ (Below.refl _ _)).mono ?_
        rintro e w3 ⟨rfl, hb⟩
        replace A := Lib.hid (A.out.step hb)
        replace B1 := Lib.hid (B1.out.step hb)
        clear hb hHeld 
        refine hK.out _ _ ⟨B1.out.c 0 _ rfl, B1.out.c 1 _ rfl⟩ (fun hHeld => ?_)
        clear hK K
        try simp only [Act.put, List.setIfInBounds_toArray, List.set_cons_zero, List.set_cons_succ]
        refine wpAnyH_take (i := 8) (oi := ⟨_, _, _, _, _, _⟩) (v := .bool false) rfl (by kernel_rfl) (by kernel_rfl) (by kernel_rfl) (fun _ _ _ h => h) (Or.inl ⟨by rfl, ?_⟩) (by assumption) ?_
        · intro wz hSw
          try dsimp only at hSw
          go_simp
        try simp only [Act.put, List.setIfInBounds_toArray, List.set_cons_zero, List.set_cons_succ]
        refine wpAnyH_take (i := 9) (oi := ⟨_, _, _, _, _, _⟩) (v := ?_) rfl (by kernel_rfl) (by kernel_rfl) (by kernel_rfl) (fun _ _ _ h => h) (Or.inl ⟨by rfl, ?_⟩) (by assumption) ?_
        rotate_left
        · intro wz hSw
          try dsimp only at hSw
          go_simp
          try with_reducible rfl
        try simp only [Act.put, List.setIfInBounds_toArray, List.set_cons_zero, List.set_cons_succ]
        refine wpAnyH_take (i := 10) (oi := ⟨_, _, _, _, _, _⟩) (v := ?_) rfl (by kernel_rfl) (by kernel_rfl) (by kernel_rfl) (fun _ _ _ h => h) (Or.inl ⟨by rfl, ?_⟩) (by assumption) ?_
        rotate_left
        · intro wz hSw
          try dsimp only at hSw
          go_simp
          try with_reducible rfl
        try simp only [Act.put, List.setIfInBounds_toArray, List.set_cons_zero, List.set_cons_succ]
        refine wpAnyH_take (i := 11) (oi := ⟨_, _, _, _, _, _⟩) (v := ?_) rfl (by kernel_rfl) (by kernel_rfl) (by kernel_rfl) (fun _ _ _ h => h) (Or.inl ⟨by rfl, ?_⟩) (by assumption) ?_
        rotate_left
        · intro wz hSw
          try dsimp only at hSw
          go_simp
          try with_reducible rfl
        try simp only [Act.put, List.setIfInBounds_toArray, List.set_cons_zero, List.set_cons_succ]
        refine wpAnyH_take (i := 12) (oi := ⟨_, _, _, _, _, _⟩) (v := ?_) rfl (by kernel_rfl) (by kernel_rfl) (by kernel_rfl) (fun _ _ _ h => h) (Or.inl ⟨by rfl, ?_⟩) (by assumption) ?_
        rotate_left
        · intro wz hSw
          try dsimp only at hSw
          go_simp
          try with_reducible rfl
        try simp only [Act.put, List.setIfInBounds_toArray, List.set_cons_zero, List.set_cons_succ]
        refine wpAnyH_ready (rs := [13]) (by kernel_rfl) (by simp) ?_
        refine AllReadyH.cons (o := ⟨_, _, _, _, _, _⟩) rfl (fun K hK => ?_) AllReadyH.nil
        go_simp
        refine (KP.out _ A.out.laid _ (Below.refl _ _)).mono ?_
        rintro e w4 ⟨rfl, hb⟩
        replace A := Lib.hid (A.out.step hb)
        replace B1 := Lib.hid (B1.out.step hb)
        clear hb hHeld 
        refine hK.out _ _ ⟨B1.out.c 0 _ rfl, B1.out.c 1 _ rfl⟩ (fun hHeld => ?_)
        clear hK K
        try simp only [Act.put, List.setIfInBounds_toArray, List.set_cons_zero, List.set_cons_succ]
        refine wpAnyH_take (i := 14) (oi := ⟨_, _, _, _, _, _⟩) (v := ?_) rfl (by kernel_rfl) (by kernel_rfl) (by kernel_rfl) (fun _ _ _ h => h) (Or.inl ⟨by rfl, ?_⟩) (by assumption) ?_
        rotate_left
        · intro wz hSw
          try dsimp only at hSw
          go_simp
          try with_reducible rfl
        try simp only [Act.put, List.setIfInBounds_toArray, List.set_cons_zero, List.set_cons_succ]
        refine wpAnyH_take (i := 15) (oi := ⟨_, _, _, _, _, _⟩) (v := ?_) rfl (by kernel_rfl) (by kernel_rfl) (by kernel_rfl) (fun _ _ _ h => h) (Or.inl ⟨by rfl, ?_⟩) (by assumption) ?_
        rotate_left
        · intro wz hSw
          try dsimp only at hSw
          go_simp
          try with_reducible rfl
        try simp only [Act.put, List.setIfInBounds_toArray, List.set_cons_zero, List.set_cons_succ]
        refine wpAnyH_done (by kernel_rfl) ?_ _
        clear hHeld
        go_wp2_with fail
        replace A := Lib.hid A.out.drew
        replace B1 := Lib.hid B1.out.drew
        refine wp_region_held_drew (S := (fun w' => w'.cell? ⟨w.heap.size, 0, none⟩ = some (.int .i64 to) ∧ w'.cell? ⟨w.heap.size, 1, none⟩ = some (.int .i64 eph) ∧ w'.cell? ⟨w.heap.size, 2, none⟩ = some (.string (S3.B n)) ∧ w'.cell? ⟨w.heap.size, 3, none⟩ = some (.string (S3.B d)) ∧ w'.cell? ⟨w.heap.size, 4, none⟩ = some (.string (S3.B t)))) (by kernel_rfl) ⟨B1.out.c 0 _ rfl, B1.out.c 1 _ rfl, B1.out.c 2 _ rfl, B1.out.c 3 _ rfl, B1.out.c 4 _ rfl⟩ (fun hHeld => ?_)
        refine wpAnyH_take (i := 0) (oi := ⟨_, _, _, _, _, _⟩) (v := ?_) rfl (by kernel_rfl) (by kernel_rfl) (by kernel_rfl) (fun _ _ _ h => h) (Or.inl ⟨by rfl, ?_⟩) (by assumption) ?_
        rotate_left
        · intro wz hSw
          try dsimp only at hSw
          go_simp
          try with_reducible rfl
        try simp only [Act.put, List.setIfInBounds_toArray, List.set_cons_zero, List.set_cons_succ]
        refine wpAnyH_take (i := 1) (oi := ⟨_, _, _, _, _, _⟩) (v := ?_) rfl (by kernel_rfl) (by kernel_rfl) (by kernel_rfl) (fun _ _ _ h => h) (Or.inl ⟨by rfl, ?_⟩) (by assumption) ?_
        rotate_left
        · intro wz hSw
          try dsimp only at hSw
          go_simp
          try with_reducible rfl
        try simp only [Act.put, List.setIfInBounds_toArray, List.set_cons_zero, List.set_cons_succ]
        refine wpAnyH_take (i := 2) (oi := ⟨_, _, _, _, _, _⟩) (v := ?_) rfl (by kernel_rfl) (by kernel_rfl) (by kernel_rfl) (fun _ _ _ h => h) (Or.inl ⟨by rfl, ?_⟩) (by assumption) ?_
        rotate_left
        · intro wz hSw
          try dsimp only at hSw
          go_simp
          try with_reducible rfl
        try simp only [Act.put, List.setIfInBounds_toArray, List.set_cons_zero, List.set_cons_succ]
        refine wpAnyH_take (i := 3) (oi := ⟨_, _, _, _, _, _⟩) (v := ?_) rfl (by kernel_rfl) (by kernel_rfl) (by kernel_rfl) (fun _ _ _ h => h) (Or.inl ⟨by rfl, ?_⟩) (by assumption) ?_
        rotate_left
        · intro wz hSw
          try dsimp only at hSw
          go_simp
          try with_reducible rfl
        try simp only [Act.put, List.setIfInBounds_toArray, List.set_cons_zero, List.set_cons_succ]
        refine wpAnyH_take (i := 4) (oi := ⟨_, _, _, _, _, _⟩) (v := ?_) rfl (by kernel_rfl) (by kernel_rfl) (by kernel_rfl) (fun _ _ _ h => h) (Or.inl ⟨by rfl, ?_⟩) (by assumption) ?_
        rotate_left
        · intro wz hSw
          try dsimp only at hSw
          go_simp
          try with_reducible rfl
        try simp only [Act.put, List.setIfInBounds_toArray, List.set_cons_zero, List.set_cons_succ]
        refine wpAnyH_take (i := 5) (oi := ⟨_, _, _, _, _, _⟩) (v := ?_) rfl (by kernel_rfl) (by kernel_rfl) (by kernel_rfl) (fun _ _ _ h => h) (Or.inl ⟨by rfl, ?_⟩) (by assumption) ?_
        rotate_left
        · intro wz hSw
          try dsimp only at hSw
          go_simp
          try with_reducible rfl
        try simp only [Act.put, List.setIfInBounds_toArray, List.set_cons_zero, List.set_cons_succ]
        refine wpAnyH_take (i := 6) (oi := ⟨_, _, _, _, _, _⟩) (v := ?_) rfl (by kernel_rfl) (by kernel_rfl) (by kernel_rfl) (fun _ _ _ h => h) (Or.inl ⟨by rfl, ?_⟩) (by assumption) ?_
        rotate_left
        · intro wz hSw
          try dsimp only at hSw
          go_simp
          try with_reducible rfl
        try simp only [Act.put, List.setIfInBounds_toArray, List.set_cons_zero, List.set_cons_succ]
        refine wpAnyH_take (i := 9) (oi := ⟨_, _, _, _, _, _⟩) (v := ?_) rfl (by kernel_rfl) (by kernel_rfl) (by kernel_rfl) (fun _ _ _ h => h) (Or.inl ⟨by rfl, ?_⟩) (by assumption) ?_
        rotate_left
        · intro wz hSw
          try dsimp only at hSw
          go_simp
          try with_reducible rfl
        try simp only [Act.put, List.setIfInBounds_toArray, List.set_cons_zero, List.set_cons_succ]
        refine wpAnyH_take (i := 10) (oi := ⟨_, _, _, _, _, _⟩) (v := ?_) rfl (by kernel_rfl) (by kernel_rfl) (by kernel_rfl) (fun _ _ _ h => h) (Or.inl ⟨by rfl, ?_⟩) (by assumption) ?_
        rotate_left
        · intro wz hSw
          try dsimp only at hSw
          go_simp
          try with_reducible rfl
        try simp only [Act.put, List.setIfInBounds_toArray, List.set_cons_zero, List.set_cons_succ]
        refine wpAnyH_ready (rs := [7]) (by kernel_rfl) (by simp) ?_
        refine AllReadyH.cons (o := ⟨_, _, _, _, _, _⟩) rfl (fun K hK => ?_) AllReadyH.nil
        go_simp
        refine (K2.out _ A.out.laid _ (Below.refl _ _)).mono ?_
        rintro e w5 ⟨rfl, hb⟩
        replace A := Lib.hid (A.out.step hb)
        replace B1 := Lib.hid (B1.out.step hb)
        clear hb hHeld 
        refine hK.out _ _ ⟨B1.out.c 0 _ rfl, B1.out.c 1 _ rfl, B1.out.c 2 _ rfl, B1.out.c 3 _ rfl, B1.out.c 4 _ rfl⟩ (fun hHeld => ?_)
        clear hK K
        try simp only [Act.put, List.setIfInBounds_toArray, List.set_cons_zero, List.set_cons_succ]
        refine wpAnyH_ready (rs := [8]) (by kernel_rfl) (by simp) ?_
        refine AllReadyH.cons (o := ⟨_, _, _, _, _, _⟩) rfl (fun K hK => ?_) AllReadyH.nil
        go_simp
        refine (K3.out _ A.out.laid _ (Below.refl _ _)).mono ?_
        rintro e w6 ⟨rfl, hb⟩
        replace A := Lib.hid (A.out.step hb)
        replace B1 := Lib.hid (B1.out.step hb)
        clear hb hHeld 
        refine hK.out _ _ ⟨B1.out.c 0 _ rfl, B1.out.c 1 _ rfl, B1.out.c 2 _ rfl, B1.out.c 3 _ rfl, B1.out.c 4 _ rfl⟩ (fun hHeld => ?_)
        clear hK K
        try simp only [Act.put, List.setIfInBounds_toArray, List.set_cons_zero, List.set_cons_succ]
        refine wpAnyH_ready (rs := [11]) (by kernel_rfl) (by simp) ?_
        refine AllReadyH.cons (o := ⟨_, _, _, _, _, _⟩) rfl (fun K hK => ?_) AllReadyH.nil
        go_simp
        refine (K4.out _ A.out.laid _ (Below.refl _ _)).mono ?_
        rintro e w7 ⟨rfl, hb⟩
        replace A := Lib.hid (A.out.step hb)
        replace B1 := Lib.hid (B1.out.step hb)
        clear hb hHeld 
        refine hK.out _ _ ⟨B1.out.c 0 _ rfl, B1.out.c 1 _ rfl, B1.out.c 2 _ rfl, B1.out.c 3 _ rfl, B1.out.c 4 _ rfl⟩ (fun hHeld => ?_)
        clear hK K
        try simp only [Act.put, List.setIfInBounds_toArray, List.set_cons_zero, List.set_cons_succ]
        refine wpAnyH_take (i := 12) (oi := ⟨_, _, _, _, _, _⟩) (v := ?_) rfl (by kernel_rfl) (by kernel_rfl) (by kernel_rfl) (fun _ _ _ h => h) (Or.inl ⟨by rfl, ?_⟩) (by assumption) ?_
        rotate_left
        · intro wz hSw
          try dsimp only at hSw
          go_simp
          try with_reducible rfl
        try simp only [Act.put, List.setIfInBounds_toArray, List.set_cons_zero, List.set_cons_succ]
        refine wpAnyH_take (i := 13) (oi := ⟨_, _, _, _, _, _⟩) (v := ?_) rfl (by kernel_rfl) (by kernel_rfl) (by kernel_rfl) (fun _ _ _ h => h) (Or.inl ⟨by rfl, ?_⟩) (by assumption) ?_
        rotate_left
        · intro wz hSw
          try dsimp only at hSw
          go_simp
          try with_reducible rfl
        try simp only [Act.put, List.setIfInBounds_toArray, List.set_cons_zero, List.set_cons_succ]
        refine wpAnyH_take (i := 14) (oi := ⟨_, _, _, _, _, _⟩) (v := ?_) rfl (by kernel_rfl) (by kernel_rfl) (by kernel_rfl) (fun _ _ _ h => h) (Or.inl ⟨by rfl, ?_⟩) (by assumption) ?_
        rotate_left
        · intro wz hSw
          try dsimp only at hSw
          go_simp
          try with_reducible rfl
        try simp only [Act.put, List.setIfInBounds_toArray, List.set_cons_zero, List.set_cons_succ]
        refine wpAnyH_take (i := 15) (oi := ⟨_, _, _, _, _, _⟩) (v := ?_) rfl (by kernel_rfl) (by kernel_rfl) (by kernel_rfl) (fun _ _ _ h => h) (Or.inl ⟨by rfl, ?_⟩) (by assumption) ?_
        rotate_left
        · intro wz hSw
          try dsimp only at hSw
          go_simp
          try with_reducible rfl
        try simp only [Act.put, List.setIfInBounds_toArray, List.set_cons_zero, List.set_cons_succ]
        refine wpAnyH_done (by kernel_rfl) ?_ _
        clear hHeld
        go_wp2
        go_ret2
        exact ⟨rfl, A.out.bel⟩
      · rw [decide_eq_false he] at kp
        rw [show unwrapV x ⟨to, eph, ⟨n, d, t⟩⟩ = ([], false) from if_neg (fun h => he h.2.1)]
        obtain ⟨pz, hpz⟩ : ∃ z : Int, z = (S5.Sg.pub x : Nat) := ⟨_, rfl⟩
        rw [← hpz] at k1 ht
        subst ht
        have KS := Lib.hid ks
        have K1 := Lib.hid k1
        have KP := Lib.hid kp
        clear ks k1 kp hb hW hl hs he hpz it ie ix
        go_enter Tryd.func14, Tryd.ntmps14
        go_wp2_with fail
        replace A := Lib.hid (A.out.alloc (.cells #[.int .i64 to, .int .i64 eph, .string (S3.B n), .string (S3.B d), .string (S3.B t)] 25))
        have B1 := Lib.hid (Lk.Bl.new w [.int .i64 to, .int .i64 eph, .string (S3.B n), .string (S3.B d), .string (S3.B t)] 25)
        generalize w.alloc (.cells #[.int .i64 to, .int .i64 eph, .string (S3.B n), .string (S3.B d), .string (S3.B t)] 25) = w1 at *
        replace A := Lib.hid A.out.drew
        replace B1 := Lib.hid B1.out.drew
        refine wp_region_held_drew (S := (fun w' => w'.cell? ⟨w.heap.size, 0, none⟩ = some (.int .i64 to) ∧ w'.cell? ⟨w.heap.size, 1, none⟩ = some (.int .i64 eph))) (by kernel_rfl) ⟨B1.out.c 0 _ rfl, B1.out.c 1 _ rfl⟩ (fun hHeld => ?_)
        refine wpAnyH_take (i := 0) (oi := ⟨_, _, _, _, _, _⟩) (v := ?_) rfl (by kernel_rfl) (by kernel_rfl) (by kernel_rfl) (fun _ _ _ h => h) (Or.inl ⟨by rfl, ?_⟩) (by assumption) ?_
        rotate_left
        · intro wz hSw
          try dsimp only at hSw
          go_simp
          try with_reducible rfl
        try simp only [Act.put, List.setIfInBounds_toArray, List.set_cons_zero, List.set_cons_succ]
        refine wpAnyH_ready (rs := [1]) (by kernel_rfl) (by simp) ?_
        refine AllReadyH.cons (o := ⟨_, _, _, _, _, _⟩) rfl (fun K hK => ?_) AllReadyH.nil
        go_simp
        refine (KS.out _ A.out.laid _ (Below.refl _ _)).mono ?_
        rintro e w2 ⟨rfl, hb⟩
        replace A := Lib.hid (A.out.step hb)
        replace B1 := Lib.hid (B1.out.step hb)
        clear hb hHeld 
        refine hK.out _ _ ⟨B1.out.c 0 _ rfl, B1.out.c 1 _ rfl⟩ (fun hHeld => ?_)
        clear hK K
        try simp only [Act.put, List.setIfInBounds_toArray, List.set_cons_zero, List.set_cons_succ]
        refine wpAnyH_take (i := 2) (oi := ⟨_, _, _, _, _, _⟩) (v := ?_) rfl (by kernel_rfl) (by kernel_rfl) (by kernel_rfl) (fun _ _ _ h => h) (Or.inl ⟨by rfl, ?_⟩) (by assumption) ?_
        rotate_left
        · intro wz hSw
          try dsimp only at hSw
          go_simp
          try with_reducible rfl
        try simp only [Act.put, List.setIfInBounds_toArray, List.set_cons_zero, List.set_cons_succ]
        refine wpAnyH_take (i := 3) (oi := ⟨_, _, _, _, _, _⟩) (v := ?_) rfl (by kernel_rfl) (by kernel_rfl) (by kernel_rfl) (fun _ _ _ h => h) (Or.inl ⟨by rfl, ?_⟩) (by assumption) ?_
        rotate_left
        · intro wz hSw
          try dsimp only at hSw
          go_simp
          try with_reducible rfl
        try simp only [Act.put, List.setIfInBounds_toArray, List.set_cons_zero, List.set_cons_succ]
        refine wpAnyH_take (i := 4) (oi := ⟨_, _, _, _, _, _⟩) (v := ?_) rfl (by kernel_rfl) (by kernel_rfl) (by kernel_rfl) (fun _ _ _ h => h) (Or.inl ⟨by rfl, ?_⟩) (by assumption) ?_
        rotate_left
        · intro wz hSw
          try dsimp only at hSw
          go_simp
          try with_reducible rfl
        try simp only [Act.put, List.setIfInBounds_toArray, List.set_cons_zero, List.set_cons_succ]
        refine wpAnyH_take (i := 5) (oi := ⟨_, _, _, _, _, _⟩) (v := ?_) rfl (by kernel_rfl) (by kernel_rfl) (by kernel_rfl) (fun _ _ _ h => h) (Or.inl ⟨by rfl, ?_⟩) (by assumption) ?_
        rotate_left
        · intro wz hSw
          try dsimp only at hSw
          go_simp
          try with_reducible rfl
        try simp only [Act.put, List.setIfInBounds_toArray, List.set_cons_zero, List.set_cons_succ]
        refine wpAnyH_take (i := 6) (oi := ⟨_, _, _, _, _, _⟩) (v := ?_) rfl (by kernel_rfl) (by kernel_rfl) (by kernel_rfl) (fun _ _ _ h => h) (Or.inl ⟨by rfl, ?_⟩) (by assumption) ?_
        rotate_left
        · intro wz hSw
          try dsimp only at hSw
          go_simp
          try with_reducible rfl
        try simp only [Act.put, List.setIfInBounds_toArray, List.set_cons_zero, List.set_cons_succ]
        refine wpAnyH_ready (rs := [7]) (by kernel_rfl) (by simp) ?_
        refine AllReadyH.cons (o := ⟨_, _, _, _, _, _⟩) rfl (fun K hK => ?_) AllReadyH.nil
        go_simp
        refine (K1.out _ A.out.laid _ (Below.refl _ _)).mono ?_
        rintro e w3 ⟨rfl, hb⟩
        replace A := Lib.hid (A.out.step hb)
        replace B1 := Lib.hid (B1.out.step hb)
        clear hb hHeld 
        refine hK.out _ _ ⟨B1.out.c 0 _ rfl, B1.out.c 1 _ rfl⟩ (fun hHeld => ?_)
        clear hK K
        try simp only [Act.put, List.setIfInBounds_toArray, List.set_cons_zero, List.set_cons_succ]
        refine wpAnyH_take (i := 8) (oi := ⟨_, _, _, _, _, _⟩) (v := .bool false) rfl (by kernel_rfl) (by kernel_rfl) (by kernel_rfl) (fun _ _ _ h => h) (Or.inl ⟨by rfl, ?_⟩) (by assumption) ?_
        · intro wz hSw
          try dsimp only at hSw
          go_simp
        try simp only [Act.put, List.setIfInBounds_toArray, List.set_cons_zero, List.set_cons_succ]
        refine wpAnyH_take (i := 9) (oi := ⟨_, _, _, _, _, _⟩) (v := ?_) rfl (by kernel_rfl) (by kernel_rfl) (by kernel_rfl) (fun _ _ _ h => h) (Or.inl ⟨by rfl, ?_⟩) (by assumption) ?_
        rotate_left
        · intro wz hSw
          try dsimp only at hSw
          go_simp
          try with_reducible rfl
        try simp only [Act.put, List.setIfInBounds_toArray, List.set_cons_zero, List.set_cons_succ]
        refine wpAnyH_take (i := 10) (oi := ⟨_, _, _, _, _, _⟩) (v := ?_) rfl (by kernel_rfl) (by kernel_rfl) (by kernel_rfl) (fun _ _ _ h => h) (Or.inl ⟨by rfl, ?_⟩) (by assumption) ?_
        rotate_left
        · intro wz hSw
          try dsimp only at hSw
          go_simp
          try with_reducible rfl
        try simp only [Act.put, List.setIfInBounds_toArray, List.set_cons_zero, List.set_cons_succ]
        refine wpAnyH_take (i := 11) (oi := ⟨_, _, _, _, _, _⟩) (v := ?_) rfl (by kernel_rfl) (by kernel_rfl) (by kernel_rfl) (fun _ _ _ h => h) (Or.inl ⟨by rfl, ?_⟩) (by assumption) ?_
        rotate_left
        · intro wz hSw
          try dsimp only at hSw
          go_simp
          try with_reducible rfl
        try simp only [Act.put, List.setIfInBounds_toArray, List.set_cons_zero, List.set_cons_succ]
        refine wpAnyH_take (i := 12) (oi := ⟨_, _, _, _, _, _⟩) (v := ?_) rfl (by kernel_rfl) (by kernel_rfl) (by kernel_rfl) (fun _ _ _ h => h) (Or.inl ⟨by rfl, ?_⟩) (by assumption) ?_
        rotate_left
        · intro wz hSw
          try dsimp only at hSw
          go_simp
          try with_reducible rfl
        try simp only [Act.put, List.setIfInBounds_toArray, List.set_cons_zero, List.set_cons_succ]
        refine wpAnyH_ready (rs := [13]) (by kernel_rfl) (by simp) ?_
        refine AllReadyH.cons (o := ⟨_, _, _, _, _, _⟩) rfl (fun K hK => ?_) AllReadyH.nil
        go_simp
        refine (KP.out _ A.out.laid _ (Below.refl _ _)).mono ?_
        rintro e w4 ⟨rfl, hb⟩
        replace A := Lib.hid (A.out.step hb)
        replace B1 := Lib.hid (B1.out.step hb)
        clear hb hHeld 
        refine hK.out _ _ ⟨B1.out.c 0 _ rfl, B1.out.c 1 _ rfl⟩ (fun hHeld => ?_)
        clear hK K
        try simp only [Act.put, List.setIfInBounds_toArray, List.set_cons_zero, List.set_cons_succ]
        refine wpAnyH_take (i := 14) (oi := ⟨_, _, _, _, _, _⟩) (v := ?_) rfl (by kernel_rfl) (by kernel_rfl) (by kernel_rfl) (fun _ _ _ h => h) (Or.inl ⟨by rfl, ?_⟩) (by assumption) ?_
        rotate_left
        · intro wz hSw
          try dsimp only at hSw
          go_simp
          try with_reducible rfl
        try simp only [Act.put, List.setIfInBounds_toArray, List.set_cons_zero, List.set_cons_succ]
        refine wpAnyH_take (i := 15) (oi := ⟨_, _, _, _, _, _⟩) (v := ?_) rfl (by kernel_rfl) (by kernel_rfl) (by kernel_rfl) (fun _ _ _ h => h) (Or.inl ⟨by rfl, ?_⟩) (by assumption) ?_
        rotate_left
        · intro wz hSw
          try dsimp only at hSw
          go_simp
          try with_reducible rfl
        try simp only [Act.put, List.setIfInBounds_toArray, List.set_cons_zero, List.set_cons_succ]
        refine wpAnyH_done (by kernel_rfl) ?_ _
        clear hHeld
        go_wp2
        go_ret2
        exact ⟨rfl, A.out.bel⟩
    · rw [show unwrapV x ⟨to, eph, ⟨n, d, t⟩⟩ = ([], false) from if_neg (fun h => ht h.2.2)]
      obtain ⟨pz, hpz⟩ : ∃ z : Int, z = (S5.Sg.pub x : Nat) := ⟨_, rfl⟩
      rw [← hpz] at k1 ht
      have hne : (to == pz) = false := beq_eq_false_iff_ne.2 ht
      have KS := Lib.hid ks
      have K1 := Lib.hid k1
      clear ks k1 kp hb hW hl hs hpz it ie ix ht
      go_enter Tryd.func14, Tryd.ntmps14
      go_wp2_with fail
      replace A := Lib.hid (A.out.alloc (.cells #[.int .i64 to, .int .i64 eph, .string (S3.B n), .string (S3.B d), .string (S3.B t)] 25))
      have B1 := Lib.hid (Lk.Bl.new w [.int .i64 to, .int .i64 eph, .string (S3.B n), .string (S3.B d), .string (S3.B t)] 25)
      generalize w.alloc (.cells #[.int .i64 to, .int .i64 eph, .string (S3.B n), .string (S3.B d), .string (S3.B t)] 25) = w1 at *
      replace A := Lib.hid A.out.drew
      replace B1 := Lib.hid B1.out.drew
      refine wp_region_held_drew (S := (fun w' => w'.cell? ⟨w.heap.size, 0, none⟩ = some (.int .i64 to))) (by kernel_rfl) (B1.out.c 0 _ rfl) (fun hHeld => ?_)
      refine wpAnyH_take (i := 0) (oi := ⟨_, _, _, _, _, _⟩) (v := ?_) rfl (by kernel_rfl) (by kernel_rfl) (by kernel_rfl) (fun _ _ _ h => h) (Or.inl ⟨by rfl, ?_⟩) (by assumption) ?_
      rotate_left
      · intro wz hSw
        try dsimp only at hSw
        go_simp
        try with_reducible rfl
      try simp only [Act.put, List.setIfInBounds_toArray, List.set_cons_zero, List.set_cons_succ]
      refine wpAnyH_ready (rs := [1]) (by kernel_rfl) (by simp) ?_
      refine AllReadyH.cons (o := ⟨_, _, _, _, _, _⟩) rfl (fun K hK => ?_) AllReadyH.nil
      go_simp
      refine (KS.out _ A.out.laid _ (Below.refl _ _)).mono ?_
      rintro e w2 ⟨rfl, hb⟩
      replace A := Lib.hid (A.out.step hb)
      replace B1 := Lib.hid (B1.out.step hb)
      clear hb hHeld 
      refine hK.out _ _ (B1.out.c 0 _ rfl) (fun hHeld => ?_)
      clear hK K
      try simp only [Act.put, List.setIfInBounds_toArray, List.set_cons_zero, List.set_cons_succ]
      refine wpAnyH_take (i := 2) (oi := ⟨_, _, _, _, _, _⟩) (v := ?_) rfl (by kernel_rfl) (by kernel_rfl) (by kernel_rfl) (fun _ _ _ h => h) (Or.inl ⟨by rfl, ?_⟩) (by assumption) ?_
      rotate_left
      · intro wz hSw
        try dsimp only at hSw
        go_simp
        try with_reducible rfl
      try simp only [Act.put, List.setIfInBounds_toArray, List.set_cons_zero, List.set_cons_succ]
      refine wpAnyH_take (i := 3) (oi := ⟨_, _, _, _, _, _⟩) (v := ?_) rfl (by kernel_rfl) (by kernel_rfl) (by kernel_rfl) (fun _ _ _ h => h) (Or.inl ⟨by rfl, ?_⟩) (by assumption) ?_
      rotate_left
      · intro wz hSw
        try dsimp only at hSw
        go_simp
        try with_reducible rfl
      try simp only [Act.put, List.setIfInBounds_toArray, List.set_cons_zero, List.set_cons_succ]
      refine wpAnyH_take (i := 4) (oi := ⟨_, _, _, _, _, _⟩) (v := ?_) rfl (by kernel_rfl) (by kernel_rfl) (by kernel_rfl) (fun _ _ _ h => h) (Or.inl ⟨by rfl, ?_⟩) (by assumption) ?_
      rotate_left
      · intro wz hSw
        try dsimp only at hSw
        go_simp
        try with_reducible rfl
      try simp only [Act.put, List.setIfInBounds_toArray, List.set_cons_zero, List.set_cons_succ]
      refine wpAnyH_take (i := 5) (oi := ⟨_, _, _, _, _, _⟩) (v := ?_) rfl (by kernel_rfl) (by kernel_rfl) (by kernel_rfl) (fun _ _ _ h => h) (Or.inl ⟨by rfl, ?_⟩) (by assumption) ?_
      rotate_left
      · intro wz hSw
        try dsimp only at hSw
        go_simp
        try with_reducible rfl
      try simp only [Act.put, List.setIfInBounds_toArray, List.set_cons_zero, List.set_cons_succ]
      refine wpAnyH_take (i := 6) (oi := ⟨_, _, _, _, _, _⟩) (v := ?_) rfl (by kernel_rfl) (by kernel_rfl) (by kernel_rfl) (fun _ _ _ h => h) (Or.inl ⟨by rfl, ?_⟩) (by assumption) ?_
      rotate_left
      · intro wz hSw
        try dsimp only at hSw
        go_simp
        try with_reducible rfl
      try simp only [Act.put, List.setIfInBounds_toArray, List.set_cons_zero, List.set_cons_succ]
      refine wpAnyH_ready (rs := [7]) (by kernel_rfl) (by simp) ?_
      refine AllReadyH.cons (o := ⟨_, _, _, _, _, _⟩) rfl (fun K hK => ?_) AllReadyH.nil
      go_simp
      refine (K1.out _ A.out.laid _ (Below.refl _ _)).mono ?_
      rintro e w3 ⟨rfl, hb⟩
      replace A := Lib.hid (A.out.step hb)
      replace B1 := Lib.hid (B1.out.step hb)
      clear hb hHeld 
      refine hK.out _ _ (B1.out.c 0 _ rfl) (fun hHeld => ?_)
      clear hK K
      try simp only [Act.put, List.setIfInBounds_toArray, List.set_cons_zero, List.set_cons_succ]
      refine wpAnyH_take (i := 8) (oi := ⟨_, _, _, _, _, _⟩) (v := .bool true) rfl (by kernel_rfl) (by kernel_rfl) (by kernel_rfl) (fun _ _ _ h => h) (Or.inl ⟨by rfl, ?_⟩) (by assumption) ?_
      · intro wz hSw
        try dsimp only at hSw
        go_simp
        exact beq_eq_false_iff_ne.1 hne
      try simp only [Act.put, List.setIfInBounds_toArray, List.set_cons_zero, List.set_cons_succ]
      refine wpAnyH_take (i := 9) (oi := ⟨_, _, _, _, _, _⟩) (v := ?_) rfl (by kernel_rfl) (by kernel_rfl) (by kernel_rfl) (fun _ _ _ h => h) (Or.inl ⟨by rfl, ?_⟩) (by assumption) ?_
      rotate_left
      · intro wz hSw
        try dsimp only at hSw
        go_simp
        try with_reducible rfl
      try simp only [Act.put, List.setIfInBounds_toArray, List.set_cons_zero, List.set_cons_succ]
      refine wpAnyH_take (i := 10) (oi := ⟨_, _, _, _, _, _⟩) (v := ?_) rfl (by kernel_rfl) (by kernel_rfl) (by kernel_rfl) (fun _ _ _ h => h) (Or.inl ⟨by rfl, ?_⟩) (by assumption) ?_
      rotate_left
      · intro wz hSw
        try dsimp only at hSw
        go_simp
        try with_reducible rfl
      try simp only [Act.put, List.setIfInBounds_toArray, List.set_cons_zero, List.set_cons_succ]
      refine wpAnyH_take (i := 11) (oi := ⟨_, _, _, _, _, _⟩) (v := undef) rfl (by kernel_rfl) (by kernel_rfl) (by kernel_rfl) (fun _ _ _ h => h) (Or.inr ⟨by rfl, rfl⟩) (by assumption) ?_
      try simp only [Act.put, List.setIfInBounds_toArray, List.set_cons_zero, List.set_cons_succ]
      refine wpAnyH_take (i := 12) (oi := ⟨_, _, _, _, _, _⟩) (v := undef) rfl (by kernel_rfl) (by kernel_rfl) (by kernel_rfl) (fun _ _ _ h => h) (Or.inr ⟨by rfl, rfl⟩) (by assumption) ?_
      try simp only [Act.put, List.setIfInBounds_toArray, List.set_cons_zero, List.set_cons_succ]
      refine wpAnyH_take (i := 13) (oi := ⟨_, _, _, _, _, _⟩) (v := undef) rfl (by kernel_rfl) (by kernel_rfl) (by kernel_rfl) (fun _ _ _ h => h) (Or.inr ⟨by rfl, rfl⟩) (by assumption) ?_
      try simp only [Act.put, List.setIfInBounds_toArray, List.set_cons_zero, List.set_cons_succ]
      refine wpAnyH_take (i := 14) (oi := ⟨_, _, _, _, _, _⟩) (v := undef) rfl (by kernel_rfl) (by kernel_rfl) (by kernel_rfl) (fun _ _ _ h => h) (Or.inr ⟨by rfl, rfl⟩) (by assumption) ?_
      try simp only [Act.put, List.setIfInBounds_toArray, List.set_cons_zero, List.set_cons_succ]
      refine wpAnyH_take (i := 15) (oi := ⟨_, _, _, _, _, _⟩) (v := ?_) rfl (by kernel_rfl) (by kernel_rfl) (by kernel_rfl) (fun _ _ _ h => h) (Or.inl ⟨by rfl, ?_⟩) (by assumption) ?_
      rotate_left
      · intro wz hSw
        try dsimp only at hSw
        go_simp
        try with_reducible rfl
      try simp only [Act.put, List.setIfInBounds_toArray, List.set_cons_zero, List.set_cons_succ]
      refine wpAnyH_done (by kernel_rfl) ?_ _
      clear hHeld
      go_wp2
      go_ret2
      exact ⟨rfl, A.out.bel⟩
  · rw [decide_eq_false hs] at ks
    rw [show unwrapV x ⟨to, eph, ⟨n, d, t⟩⟩ = ([], false) from if_neg (fun h => hs h.1)]
    have KS := Lib.hid ks
    clear ks k1 kp hb hW hl hs it ie ix
    go_enter Tryd.func14, Tryd.ntmps14
    go_wp2_with fail
    replace A := Lib.hid (A.out.alloc (.cells #[.int .i64 to, .int .i64 eph, .string (S3.B n), .string (S3.B d), .string (S3.B t)] 25))
    have B1 := Lib.hid (Lk.Bl.new w [.int .i64 to, .int .i64 eph, .string (S3.B n), .string (S3.B d), .string (S3.B t)] 25)
    generalize w.alloc (.cells #[.int .i64 to, .int .i64 eph, .string (S3.B n), .string (S3.B d), .string (S3.B t)] 25) = w1 at *
    replace A := Lib.hid A.out.drew
    replace B1 := Lib.hid B1.out.drew
    refine wp_region_held_drew (S := (fun _ => True)) (by kernel_rfl) trivial (fun hHeld => ?_)
    refine wpAnyH_take (i := 0) (oi := ⟨_, _, _, _, _, _⟩) (v := ?_) rfl (by kernel_rfl) (by kernel_rfl) (by kernel_rfl) (fun _ _ _ h => h) (Or.inl ⟨by rfl, ?_⟩) (by assumption) ?_
    rotate_left
    · intro wz hSw
      try dsimp only at hSw
      go_simp
      try with_reducible rfl
    try simp only [Act.put, List.setIfInBounds_toArray, List.set_cons_zero, List.set_cons_succ]
    refine wpAnyH_ready (rs := [1]) (by kernel_rfl) (by simp) ?_
    refine AllReadyH.cons (o := ⟨_, _, _, _, _, _⟩) rfl (fun K hK => ?_) AllReadyH.nil
    go_simp
    refine (KS.out _ A.out.laid _ (Below.refl _ _)).mono ?_
    rintro e w2 ⟨rfl, hb⟩
    replace A := Lib.hid (A.out.step hb)
    replace B1 := Lib.hid (B1.out.step hb)
    clear hb hHeld 
    refine hK.out _ _ trivial (fun hHeld => ?_)
    clear hK K
    try simp only [Act.put, List.setIfInBounds_toArray, List.set_cons_zero, List.set_cons_succ]
    refine wpAnyH_take (i := 2) (oi := ⟨_, _, _, _, _, _⟩) (v := ?_) rfl (by kernel_rfl) (by kernel_rfl) (by kernel_rfl) (fun _ _ _ h => h) (Or.inl ⟨by rfl, ?_⟩) (by assumption) ?_
    rotate_left
    · intro wz hSw
      try dsimp only at hSw
      go_simp
      try with_reducible rfl
    try simp only [Act.put, List.setIfInBounds_toArray, List.set_cons_zero, List.set_cons_succ]
    refine wpAnyH_take (i := 3) (oi := ⟨_, _, _, _, _, _⟩) (v := ?_) rfl (by kernel_rfl) (by kernel_rfl) (by kernel_rfl) (fun _ _ _ h => h) (Or.inl ⟨by rfl, ?_⟩) (by assumption) ?_
    rotate_left
    · intro wz hSw
      try dsimp only at hSw
      go_simp
      try with_reducible rfl
    try simp only [Act.put, List.setIfInBounds_toArray, List.set_cons_zero, List.set_cons_succ]
    refine wpAnyH_take (i := 4) (oi := ⟨_, _, _, _, _, _⟩) (v := undef) rfl (by kernel_rfl) (by kernel_rfl) (by kernel_rfl) (fun _ _ _ h => h) (Or.inr ⟨by rfl, rfl⟩) (by assumption) ?_
    try simp only [Act.put, List.setIfInBounds_toArray, List.set_cons_zero, List.set_cons_succ]
    refine wpAnyH_take (i := 5) (oi := ⟨_, _, _, _, _, _⟩) (v := undef) rfl (by kernel_rfl) (by kernel_rfl) (by kernel_rfl) (fun _ _ _ h => h) (Or.inr ⟨by rfl, rfl⟩) (by assumption) ?_
    try simp only [Act.put, List.setIfInBounds_toArray, List.set_cons_zero, List.set_cons_succ]
    refine wpAnyH_take (i := 6) (oi := ⟨_, _, _, _, _, _⟩) (v := undef) rfl (by kernel_rfl) (by kernel_rfl) (by kernel_rfl) (fun _ _ _ h => h) (Or.inr ⟨by rfl, rfl⟩) (by assumption) ?_
    try simp only [Act.put, List.setIfInBounds_toArray, List.set_cons_zero, List.set_cons_succ]
    refine wpAnyH_take (i := 7) (oi := ⟨_, _, _, _, _, _⟩) (v := undef) rfl (by kernel_rfl) (by kernel_rfl) (by kernel_rfl) (fun _ _ _ h => h) (Or.inr ⟨by rfl, rfl⟩) (by assumption) ?_
    try simp only [Act.put, List.setIfInBounds_toArray, List.set_cons_zero, List.set_cons_succ]
    refine wpAnyH_take (i := 8) (oi := ⟨_, _, _, _, _, _⟩) (v := undef) rfl (by kernel_rfl) (by kernel_rfl) (by kernel_rfl) (fun _ _ _ h => h) (Or.inr ⟨by rfl, rfl⟩) (by assumption) ?_
    try simp only [Act.put, List.setIfInBounds_toArray, List.set_cons_zero, List.set_cons_succ]
    refine wpAnyH_take (i := 9) (oi := ⟨_, _, _, _, _, _⟩) (v := ?_) rfl (by kernel_rfl) (by kernel_rfl) (by kernel_rfl) (fun _ _ _ h => h) (Or.inl ⟨by rfl, ?_⟩) (by assumption) ?_
    rotate_left
    · intro wz hSw
      try dsimp only at hSw
      go_simp
      try with_reducible rfl
    try simp only [Act.put, List.setIfInBounds_toArray, List.set_cons_zero, List.set_cons_succ]
    refine wpAnyH_take (i := 10) (oi := ⟨_, _, _, _, _, _⟩) (v := ?_) rfl (by kernel_rfl) (by kernel_rfl) (by kernel_rfl) (fun _ _ _ h => h) (Or.inl ⟨by rfl, ?_⟩) (by assumption) ?_
    rotate_left
    · intro wz hSw
      try dsimp only at hSw
      go_simp
      try with_reducible rfl
    try simp only [Act.put, List.setIfInBounds_toArray, List.set_cons_zero, List.set_cons_succ]
    refine wpAnyH_take (i := 11) (oi := ⟨_, _, _, _, _, _⟩) (v := undef) rfl (by kernel_rfl) (by kernel_rfl) (by kernel_rfl) (fun _ _ _ h => h) (Or.inr ⟨by rfl, rfl⟩) (by assumption) ?_
    try simp only [Act.put, List.setIfInBounds_toArray, List.set_cons_zero, List.set_cons_succ]
    refine wpAnyH_take (i := 12) (oi := ⟨_, _, _, _, _, _⟩) (v := undef) rfl (by kernel_rfl) (by kernel_rfl) (by kernel_rfl) (fun _ _ _ h => h) (Or.inr ⟨by rfl, rfl⟩) (by assumption) ?_
    try simp only [Act.put, List.setIfInBounds_toArray, List.set_cons_zero, List.set_cons_succ]
    refine wpAnyH_take (i := 13) (oi := ⟨_, _, _, _, _, _⟩) (v := undef) rfl (by kernel_rfl) (by kernel_rfl) (by kernel_rfl) (fun _ _ _ h => h) (Or.inr ⟨by rfl, rfl⟩) (by assumption) ?_
    try simp only [Act.put, List.setIfInBounds_toArray, List.set_cons_zero, List.set_cons_succ]
    refine wpAnyH_take (i := 14) (oi := ⟨_, _, _, _, _, _⟩) (v := undef) rfl (by kernel_rfl) (by kernel_rfl) (by kernel_rfl) (fun _ _ _ h => h) (Or.inr ⟨by rfl, rfl⟩) (by assumption) ?_
    try simp only [Act.put, List.setIfInBounds_toArray, List.set_cons_zero, List.set_cons_succ]
    refine wpAnyH_take (i := 15) (oi := ⟨_, _, _, _, _, _⟩) (v := ?_) rfl (by kernel_rfl) (by kernel_rfl) (by kernel_rfl) (fun _ _ _ h => h) (Or.inl ⟨by rfl, ?_⟩) (by assumption) ?_
    rotate_left
    · intro wz hSw
      try dsimp only at hSw
      go_simp
      try with_reducible rfl
    try simp only [Act.put, List.setIfInBounds_toArray, List.set_cons_zero, List.set_cons_succ]
    refine wpAnyH_done (by kernel_rfl) ?_ _
    clear hHeld
    go_wp2
    go_ret2
    exact ⟨rfl, A.out.bel⟩

/-- **What the landed package hands back.** -/
theorem landed : Landed := fun W hW =>
  { sealP := fun k n p hl => pseal_ok W hW k n p (by omega)
    openP := fun k n d t hl => popen_ok W hW k n d t (by omega)
    wrapP := fun y s p iy hl => pwrap_ok W hW y s p iy hl
    unwrapP := fun x to eph n d t ix it ie hl => punwrap_ok W hW x to eph n d t ix it ie hl }
end Se
end Go.Proofs.YtgldbfdiebkfiaaDoor
