/-
  Layer 6: SealTells' walk.
-/
import Derived.Test.YtgldbfdiebkfiaaDoorSealSmall
namespace Go.Proofs.YtgldbfdiebkfiaaDoor
open Go.RowKit
namespace Se
attribute [local go_sem] S3.B_size S3.B_app S3.B_list

set_option maxHeartbeats 8000000 in
set_option maxRecDepth 100000 in
theorem tells_walk (L : Landed) (k n p bn bd bt wn wd wt : List UInt8) (y x to eph : Int) (W : World) (hW : S3.Laid W) (hhk : k.length ≤ 140737488355328) (hhn : n.length ≤ 140737488355328) (hhp : p.length ≤ 140737488355328) (hhbn : bn.length ≤ 140737488355328) (hhbd : bd.length ≤ 140737488355328) (hhbt : bt.length ≤ 140737488355328) (hhwn : wn.length ≤ 140737488355328) (hhwd : wd.length ≤ 140737488355328) (hhwt : wt.length ≤ 140737488355328) (iy : S5.Sg.isI y) (ix : S5.Sg.isI x) (it : S5.Sg.isI to) (ie : S5.Sg.isI eph) :
    Calls Tryd.prog 3 #[.agg #[.string (S3.B k), .string (S3.B n), .string (S3.B p), .string (S3.B bn), .string (S3.B bd), .string (S3.B bt), .int .i64 y, .int .i64 x, .int .i64 to, .int .i64 eph, .string (S3.B wn), .string (S3.B wd), .string (S3.B wt)]] W fun e w' => e = .returned (.bool true) ∧ Below W.heap.size W w' := by
  have KS := Lib.hid (fun W hW => small_ok L W hW)
  have A := Lib.hid (Lk.At.start hW)
  have HT : Hid (total [k, n, p, bn, bd, bt, wn, wd, wt] ≤ 1152921504606846976) := Lib.hid (by simp [total]; omega)
  obtain ⟨f, hf⟩ : ∃ f, f = decide (total [k, n, p, bn, bd, bt, wn, wd, wt] ≤ 2000) := ⟨_, rfl⟩
  by_cases hc : total [k, n, p, bn, bd, bt, wn, wd, wt] ≤ 2000
  · rw [decide_eq_true hc] at hf
    have HF := Lib.hid (hf.trans (decide_eq_true hc).symm)
    obtain rfl := hf
    simp only [total, List.flatten_cons, List.flatten_nil, List.length_append, List.length_nil] at hc
    have k1 := fun W hW => (L W hW).openP k bn bd bt (by omega)
    have k2 := fun W (_ : S3.Laid W) => S5.Sg.Ok.grown (W := W) fun w => ropen_any k bn bd bt w (by omega)
    obtain ⟨q, hq⟩ : ∃ q, q = (openV k ⟨bn, bd, bt⟩).1 := ⟨_, rfl⟩
    obtain ⟨a, ha⟩ : ∃ a, a = (openV k ⟨bn, bd, bt⟩).2 := ⟨_, rfl⟩
    rw [← hq, ← ha] at k1 k2
    have k3 := fun W hW => (L W hW).wrapP y n p iy (by omega)
    have k4 := fun W (_ : S3.Laid W) => S5.Sg.Ok.grown (W := W) fun w => rwrap_any y n p w iy (by omega)
    obtain ⟨b, hb⟩ : ∃ a, a = (wrapV y n p).2 := ⟨_, rfl⟩
    obtain ⟨vo, hvo⟩ : ∃ a, a = (wrapV y n p).1.to := ⟨_, rfl⟩
    obtain ⟨ve, hve⟩ : ∃ a, a = (wrapV y n p).1.eph := ⟨_, rfl⟩
    obtain ⟨vn, hvn⟩ : ∃ a, a = (wrapV y n p).1.box.n := ⟨_, rfl⟩
    obtain ⟨vd, hvd⟩ : ∃ a, a = (wrapV y n p).1.box.d := ⟨_, rfl⟩
    obtain ⟨vt, hvt⟩ : ∃ a, a = (wrapV y n p).1.box.t := ⟨_, rfl⟩
    have e : wrapC (wrapV y n p).1 = .agg #[.int .i64 vo, .int .i64 ve, .string (S3.B vn), .string (S3.B vd), .string (S3.B vt)] := by rw [hvo, hve, hvn, hvd, hvt]; rfl
    rw [e, ← hb] at k3 k4
    have k5 := fun W hW => (L W hW).unwrapP x to eph wn wd wt ix it ie (by omega)
    have k6 := fun W (_ : S3.Laid W) => S5.Sg.Ok.grown (W := W) fun w => runwrap_any x to eph wn wd wt w ix it ie (by omega)
    obtain ⟨u, hu⟩ : ∃ q, q = (unwrapV x ⟨to, eph, ⟨wn, wd, wt⟩⟩).1 := ⟨_, rfl⟩
    obtain ⟨c, hc'⟩ : ∃ a, a = (unwrapV x ⟨to, eph, ⟨wn, wd, wt⟩⟩).2 := ⟨_, rfl⟩
    rw [← hu, ← hc'] at k5 k6
    have k7 := fun W hW => (L W hW).sealP k n p (by omega)
    have k8 : ∀ W, S3.Laid W → S5.Sg.Ok W 17 #[.string (S3.B k), .string (S3.B n), .string (S3.B p)] (.agg #[.string (S3.B n), .string (S3.B (mix k n p)), .string (S3.B (tag k n (mix k n p)))]) := fun W (_ : S3.Laid W) => S5.Sg.Ok.grown (W := W) fun w => rseal_any k n p w (by omega)
    generalize mix k n p = d at k7 k8
    generalize tag k n d = t at k7 k8
    have K1 := Lib.hid k1
    have K2 := Lib.hid k2
    have K3 := Lib.hid k3
    have K4 := Lib.hid k4
    have K5 := Lib.hid k5
    have K6 := Lib.hid k6
    have K7 := Lib.hid k7
    have K8 := Lib.hid k8
    clear k1 k2 k3 k4 k5 k6 k7 k8 hq ha hb hvo hve hvn hvd hvt e hu hc' hc hW iy ix it ie hhk hhn hhp hhbn hhbd hhbt hhwn hhwd hhwt
    go_enter Tryd.func3, Tryd.ntmps3
    go_wp2_with fail
    replace A := Lib.hid (A.out.alloc (.cells #[.string (S3.B k), .string (S3.B n), .string (S3.B p), .string (S3.B bn), .string (S3.B bd), .string (S3.B bt), .int .i64 y, .int .i64 x, .int .i64 to, .int .i64 eph, .string (S3.B wn), .string (S3.B wd), .string (S3.B wt)] 27))
    have B1 := Lib.hid (Lk.Bl.new W [.string (S3.B k), .string (S3.B n), .string (S3.B p), .string (S3.B bn), .string (S3.B bd), .string (S3.B bt), .int .i64 y, .int .i64 x, .int .i64 to, .int .i64 eph, .string (S3.B wn), .string (S3.B wd), .string (S3.B wt)] 27)
    generalize W.alloc (.cells #[.string (S3.B k), .string (S3.B n), .string (S3.B p), .string (S3.B bn), .string (S3.B bd), .string (S3.B bt), .int .i64 y, .int .i64 x, .int .i64 to, .int .i64 eph, .string (S3.B wn), .string (S3.B wd), .string (S3.B wt)] 27) = w1 at *
    refine (KS.out _ A.out.laid _ (Below.refl _ _)).mono ?_
    rintro e w2 ⟨rfl, hb⟩
    replace A := Lib.hid (A.out.step hb)
    replace B1 := Lib.hid (B1.out.step hb)
    clear hb
    have cB1_0 := B1.out.c 0 _ rfl
    have cB1_1 := B1.out.c 1 _ rfl
    have cB1_2 := B1.out.c 2 _ rfl
    have cB1_3 := B1.out.c 3 _ rfl
    have cB1_4 := B1.out.c 4 _ rfl
    have cB1_5 := B1.out.c 5 _ rfl
    have cB1_10 := B1.out.c 10 _ rfl
    have cB1_11 := B1.out.c 11 _ rfl
    have cB1_12 := B1.out.c 12 _ rfl
    go_wp2_with fail
    clear cB1_0 cB1_1 cB1_2 cB1_3 cB1_4 cB1_5 cB1_10 cB1_11 cB1_12
    replace A := Lib.hid (A.out.alloc (.cells #[.string (S3.B k), .string (S3.B n), .string (S3.B p), .string (S3.B bn), .string (S3.B bd), .string (S3.B bt), .string (S3.B wn), .string (S3.B wd), .string (S3.B wt)] 9))
    replace B1 := Lib.hid (B1.out.alloc (.cells #[.string (S3.B k), .string (S3.B n), .string (S3.B p), .string (S3.B bn), .string (S3.B bd), .string (S3.B bt), .string (S3.B wn), .string (S3.B wd), .string (S3.B wt)] 9))
    have R1 : S2.Row (w2.alloc (.cells #[.string (S3.B k), .string (S3.B n), .string (S3.B p), .string (S3.B bn), .string (S3.B bd), .string (S3.B bt), .string (S3.B wn), .string (S3.B wd), .string (S3.B wt)] 9)) (w2.alloc (.cells #[.string (S3.B k), .string (S3.B n), .string (S3.B p), .string (S3.B bn), .string (S3.B bd), .string (S3.B bt), .string (S3.B wn), .string (S3.B wd), .string (S3.B wt)] 9)).heap.size (some ⟨w2.heap.size, 0, none⟩) (S2.Ss [k, n, p, bn, bd, bt, wn, wd, wt]) := Lk.strs w2 [k, n, p, bn, bd, bt, wn, wd, wt]
    generalize w2.alloc (.cells #[.string (S3.B k), .string (S3.B n), .string (S3.B p), .string (S3.B bn), .string (S3.B bd), .string (S3.B bt), .string (S3.B wn), .string (S3.B wd), .string (S3.B wt)] 9) = w3 at *
    have q := few_any (some ⟨w2.heap.size, 0, none⟩) [k, n, p, bn, bd, bt, wn, wd, wt] 9 w3 R1 (by simp) HT.out
    rw [← HF.out] at q
    refine q.mono ?_
    rintro e w4 ⟨rfl, hq⟩
    obtain rfl := hq.symm
    clear R1 q
    have cB1_0 := B1.out.c 0 _ rfl
    have cB1_3 := B1.out.c 3 _ rfl
    have cB1_4 := B1.out.c 4 _ rfl
    have cB1_5 := B1.out.c 5 _ rfl
    go_wp2_with fail
    clear cB1_0 cB1_3 cB1_4 cB1_5
    refine (K1.out _ A.out.laid _ (Below.refl _ _)).mono ?_
    rintro e w5 ⟨rfl, hb⟩
    replace A := Lib.hid (A.out.step hb)
    replace B1 := Lib.hid (B1.out.step hb)
    clear hb
    have cB1_0 := B1.out.c 0 _ rfl
    have cB1_3 := B1.out.c 3 _ rfl
    have cB1_4 := B1.out.c 4 _ rfl
    have cB1_5 := B1.out.c 5 _ rfl
    go_wp2_with fail
    clear cB1_0 cB1_3 cB1_4 cB1_5
    refine (K2.out _ A.out.laid _ (Below.refl _ _)).mono ?_
    rintro e w6 ⟨rfl, hb⟩
    replace A := Lib.hid (A.out.step hb)
    replace B1 := Lib.hid (B1.out.step hb)
    clear hb
    have cB1_6 := B1.out.c 6 _ rfl
    have cB1_1 := B1.out.c 1 _ rfl
    have cB1_2 := B1.out.c 2 _ rfl
    go_wp2_with fail
    clear cB1_6 cB1_1 cB1_2
    refine (K3.out _ A.out.laid _ (Below.refl _ _)).mono ?_
    rintro e w7 ⟨rfl, hb⟩
    replace A := Lib.hid (A.out.step hb)
    replace B1 := Lib.hid (B1.out.step hb)
    clear hb
    have cB1_6_1 := (B1.out.alloc (.cells #[.int .i64 vo, .int .i64 ve, .string (S3.B vn), .string (S3.B vd), .string (S3.B vt)] 25)).c 6 _ rfl
    have cB1_1_1 := (B1.out.alloc (.cells #[.int .i64 vo, .int .i64 ve, .string (S3.B vn), .string (S3.B vd), .string (S3.B vt)] 25)).c 1 _ rfl
    have cB1_2_1 := (B1.out.alloc (.cells #[.int .i64 vo, .int .i64 ve, .string (S3.B vn), .string (S3.B vd), .string (S3.B vt)] 25)).c 2 _ rfl
    go_wp2_with fail
    clear cB1_6_1 cB1_1_1 cB1_2_1
    replace A := Lib.hid (A.out.alloc (.cells #[.int .i64 vo, .int .i64 ve, .string (S3.B vn), .string (S3.B vd), .string (S3.B vt)] 25))
    replace B1 := Lib.hid (B1.out.alloc (.cells #[.int .i64 vo, .int .i64 ve, .string (S3.B vn), .string (S3.B vd), .string (S3.B vt)] 25))
    have B2 := Lib.hid (Lk.Bl.new w7 [.int .i64 vo, .int .i64 ve, .string (S3.B vn), .string (S3.B vd), .string (S3.B vt)] 25)
    generalize w7.alloc (.cells #[.int .i64 vo, .int .i64 ve, .string (S3.B vn), .string (S3.B vd), .string (S3.B vt)] 25) = w8 at *
    refine (K4.out _ A.out.laid _ (Below.refl _ _)).mono ?_
    rintro e w9 ⟨rfl, hb⟩
    replace A := Lib.hid (A.out.step hb)
    replace B1 := Lib.hid (B1.out.step hb)
    replace B2 := Lib.hid (B2.out.step hb)
    clear hb
    have cB1_7_1 := (B1.out.alloc (.cells #[.int .i64 vo, .int .i64 ve, .string (S3.B vn), .string (S3.B vd), .string (S3.B vt)] 25)).c 7 _ rfl
    have cB1_8_1 := (B1.out.alloc (.cells #[.int .i64 vo, .int .i64 ve, .string (S3.B vn), .string (S3.B vd), .string (S3.B vt)] 25)).c 8 _ rfl
    have cB1_9_1 := (B1.out.alloc (.cells #[.int .i64 vo, .int .i64 ve, .string (S3.B vn), .string (S3.B vd), .string (S3.B vt)] 25)).c 9 _ rfl
    have cB1_10_1 := (B1.out.alloc (.cells #[.int .i64 vo, .int .i64 ve, .string (S3.B vn), .string (S3.B vd), .string (S3.B vt)] 25)).c 10 _ rfl
    have cB1_11_1 := (B1.out.alloc (.cells #[.int .i64 vo, .int .i64 ve, .string (S3.B vn), .string (S3.B vd), .string (S3.B vt)] 25)).c 11 _ rfl
    have cB1_12_1 := (B1.out.alloc (.cells #[.int .i64 vo, .int .i64 ve, .string (S3.B vn), .string (S3.B vd), .string (S3.B vt)] 25)).c 12 _ rfl
    go_wp2_with fail
    clear cB1_7_1 cB1_8_1 cB1_9_1 cB1_10_1 cB1_11_1 cB1_12_1
    replace A := Lib.hid (A.out.alloc (.cells #[.int .i64 vo, .int .i64 ve, .string (S3.B vn), .string (S3.B vd), .string (S3.B vt)] 25))
    replace B1 := Lib.hid (B1.out.alloc (.cells #[.int .i64 vo, .int .i64 ve, .string (S3.B vn), .string (S3.B vd), .string (S3.B vt)] 25))
    replace B2 := Lib.hid (B2.out.alloc (.cells #[.int .i64 vo, .int .i64 ve, .string (S3.B vn), .string (S3.B vd), .string (S3.B vt)] 25))
    have B3 := Lib.hid (Lk.Bl.new w9 [.int .i64 vo, .int .i64 ve, .string (S3.B vn), .string (S3.B vd), .string (S3.B vt)] 25)
    generalize w9.alloc (.cells #[.int .i64 vo, .int .i64 ve, .string (S3.B vn), .string (S3.B vd), .string (S3.B vt)] 25) = w10 at *
    refine (K5.out _ A.out.laid _ (Below.refl _ _)).mono ?_
    rintro e w11 ⟨rfl, hb⟩
    replace A := Lib.hid (A.out.step hb)
    replace B1 := Lib.hid (B1.out.step hb)
    replace B2 := Lib.hid (B2.out.step hb)
    replace B3 := Lib.hid (B3.out.step hb)
    clear hb
    have cB1_7 := B1.out.c 7 _ rfl
    have cB1_8 := B1.out.c 8 _ rfl
    have cB1_9 := B1.out.c 9 _ rfl
    have cB1_10 := B1.out.c 10 _ rfl
    have cB1_11 := B1.out.c 11 _ rfl
    have cB1_12 := B1.out.c 12 _ rfl
    go_wp2_with fail
    clear cB1_7 cB1_8 cB1_9 cB1_10 cB1_11 cB1_12
    refine (K6.out _ A.out.laid _ (Below.refl _ _)).mono ?_
    rintro e w12 ⟨rfl, hb⟩
    replace A := Lib.hid (A.out.step hb)
    replace B1 := Lib.hid (B1.out.step hb)
    replace B2 := Lib.hid (B2.out.step hb)
    replace B3 := Lib.hid (B3.out.step hb)
    clear hb
    go_wp2_with fail
    replace A := Lib.hid A.out.drew
    replace B1 := Lib.hid B1.out.drew
    replace B2 := Lib.hid B2.out.drew
    replace B3 := Lib.hid B3.out.drew
    refine wp_region_held_drew (S := (fun w' => w'.cell? ⟨W.heap.size, 0, none⟩ = some (.string (S3.B k)) ∧ w'.cell? ⟨W.heap.size, 1, none⟩ = some (.string (S3.B n)) ∧ w'.cell? ⟨W.heap.size, 2, none⟩ = some (.string (S3.B p)) ∧ w'.cell? ⟨w7.heap.size, 0, none⟩ = some (.int .i64 vo) ∧ w'.cell? ⟨w7.heap.size, 1, none⟩ = some (.int .i64 ve) ∧ w'.cell? ⟨w7.heap.size, 2, none⟩ = some (.string (S3.B vn)) ∧ w'.cell? ⟨w7.heap.size, 3, none⟩ = some (.string (S3.B vd)) ∧ w'.cell? ⟨w7.heap.size, 4, none⟩ = some (.string (S3.B vt)) ∧ w'.cell? ⟨w9.heap.size, 0, none⟩ = some (.int .i64 vo) ∧ w'.cell? ⟨w9.heap.size, 1, none⟩ = some (.int .i64 ve) ∧ w'.cell? ⟨w9.heap.size, 2, none⟩ = some (.string (S3.B vn)) ∧ w'.cell? ⟨w9.heap.size, 3, none⟩ = some (.string (S3.B vd)) ∧ w'.cell? ⟨w9.heap.size, 4, none⟩ = some (.string (S3.B vt)))) (by kernel_rfl) ⟨B1.out.c 0 _ rfl, B1.out.c 1 _ rfl, B1.out.c 2 _ rfl, B2.out.c 0 _ rfl, B2.out.c 1 _ rfl, B2.out.c 2 _ rfl, B2.out.c 3 _ rfl, B2.out.c 4 _ rfl, B3.out.c 0 _ rfl, B3.out.c 1 _ rfl, B3.out.c 2 _ rfl, B3.out.c 3 _ rfl, B3.out.c 4 _ rfl⟩ (fun hHeld => ?_)
    refine wpAnyH_take (i := 0) (oi := ⟨_, _, _, _, _, _⟩) (v := ?_) rfl (by kernel_rfl) (by kernel_rfl) (by kernel_rfl) (fun _ _ _ h => h) (Or.inl ⟨by rfl, ?_⟩) (by assumption) ?_
    rotate_left
    · intro wz hSw
      try dsimp only at hSw
      go_simp
      try with_reducible rfl
    try simp only [Act.put, List.setIfInBounds_toArray, List.set_cons_zero, List.set_cons_succ]
    refine wpAnyH_take (i := 1) (oi := ⟨_, _, _, _, _, _⟩) (v := ?_) rfl (by kernel_rfl) (by kernel_rfl) (by kernel_rfl) (fun _ _ _ h => h) (Or.inl ⟨by rfl, ?_⟩) (by assumption) ?_
    rotate_left
    · intro wz hSw
      try dsimp only at hSw
      go_simp
      try with_reducible rfl
    try simp only [Act.put, List.setIfInBounds_toArray, List.set_cons_zero, List.set_cons_succ]
    refine wpAnyH_take (i := 2) (oi := ⟨_, _, _, _, _, _⟩) (v := ?_) rfl (by kernel_rfl) (by kernel_rfl) (by kernel_rfl) (fun _ _ _ h => h) (Or.inl ⟨by rfl, ?_⟩) (by assumption) ?_
    rotate_left
    · intro wz hSw
      try dsimp only at hSw
      go_simp
      try with_reducible rfl
    try simp only [Act.put, List.setIfInBounds_toArray, List.set_cons_zero, List.set_cons_succ]
    refine wpAnyH_take (i := 3) (oi := ⟨_, _, _, _, _, _⟩) (v := ?_) rfl (by kernel_rfl) (by kernel_rfl) (by kernel_rfl) (fun _ _ _ h => h) (Or.inl ⟨by rfl, ?_⟩) (by assumption) ?_
    rotate_left
    · intro wz hSw
      try dsimp only at hSw
      go_simp
      try with_reducible rfl
    try simp only [Act.put, List.setIfInBounds_toArray, List.set_cons_zero, List.set_cons_succ]
    refine wpAnyH_take (i := 4) (oi := ⟨_, _, _, _, _, _⟩) (v := ?_) rfl (by kernel_rfl) (by kernel_rfl) (by kernel_rfl) (fun _ _ _ h => h) (Or.inl ⟨by rfl, ?_⟩) (by assumption) ?_
    rotate_left
    · intro wz hSw
      try dsimp only at hSw
      go_simp
      try with_reducible rfl
    try simp only [Act.put, List.setIfInBounds_toArray, List.set_cons_zero, List.set_cons_succ]
    refine wpAnyH_take (i := 5) (oi := ⟨_, _, _, _, _, _⟩) (v := ?_) rfl (by kernel_rfl) (by kernel_rfl) (by kernel_rfl) (fun _ _ _ h => h) (Or.inl ⟨by rfl, ?_⟩) (by assumption) ?_
    rotate_left
    · intro wz hSw
      try dsimp only at hSw
      go_simp
      try with_reducible rfl
    try simp only [Act.put, List.setIfInBounds_toArray, List.set_cons_zero, List.set_cons_succ]
    refine wpAnyH_take (i := 6) (oi := ⟨_, _, _, _, _, _⟩) (v := ?_) rfl (by kernel_rfl) (by kernel_rfl) (by kernel_rfl) (fun _ _ _ h => h) (Or.inl ⟨by rfl, ?_⟩) (by assumption) ?_
    rotate_left
    · intro wz hSw
      try dsimp only at hSw
      go_simp
      try with_reducible rfl
    try simp only [Act.put, List.setIfInBounds_toArray, List.set_cons_zero, List.set_cons_succ]
    refine wpAnyH_take (i := 7) (oi := ⟨_, _, _, _, _, _⟩) (v := ?_) rfl (by kernel_rfl) (by kernel_rfl) (by kernel_rfl) (fun _ _ _ h => h) (Or.inl ⟨by rfl, ?_⟩) (by assumption) ?_
    rotate_left
    · intro wz hSw
      try dsimp only at hSw
      go_simp
      try with_reducible rfl
    try simp only [Act.put, List.setIfInBounds_toArray, List.set_cons_zero, List.set_cons_succ]
    refine wpAnyH_take (i := 9) (oi := ⟨_, _, _, _, _, _⟩) (v := ?_) rfl (by kernel_rfl) (by kernel_rfl) (by kernel_rfl) (fun _ _ _ h => h) (Or.inl ⟨by rfl, ?_⟩) (by assumption) ?_
    rotate_left
    · intro wz hSw
      try dsimp only at hSw
      go_simp
      try with_reducible rfl
    try simp only [Act.put, List.setIfInBounds_toArray, List.set_cons_zero, List.set_cons_succ]
    refine wpAnyH_take (i := 10) (oi := ⟨_, _, _, _, _, _⟩) (v := ?_) rfl (by kernel_rfl) (by kernel_rfl) (by kernel_rfl) (fun _ _ _ h => h) (Or.inl ⟨by rfl, ?_⟩) (by assumption) ?_
    rotate_left
    · intro wz hSw
      try dsimp only at hSw
      go_simp
      try with_reducible rfl
    try simp only [Act.put, List.setIfInBounds_toArray, List.set_cons_zero, List.set_cons_succ]
    refine wpAnyH_take (i := 11) (oi := ⟨_, _, _, _, _, _⟩) (v := ?_) rfl (by kernel_rfl) (by kernel_rfl) (by kernel_rfl) (fun _ _ _ h => h) (Or.inl ⟨by rfl, ?_⟩) (by assumption) ?_
    rotate_left
    · intro wz hSw
      try dsimp only at hSw
      go_simp
      try with_reducible rfl
    try simp only [Act.put, List.setIfInBounds_toArray, List.set_cons_zero, List.set_cons_succ]
    refine wpAnyH_take (i := 12) (oi := ⟨_, _, _, _, _, _⟩) (v := ?_) rfl (by kernel_rfl) (by kernel_rfl) (by kernel_rfl) (fun _ _ _ h => h) (Or.inl ⟨by rfl, ?_⟩) (by assumption) ?_
    rotate_left
    · intro wz hSw
      try dsimp only at hSw
      go_simp
      try with_reducible rfl
    try simp only [Act.put, List.setIfInBounds_toArray, List.set_cons_zero, List.set_cons_succ]
    refine wpAnyH_take (i := 13) (oi := ⟨_, _, _, _, _, _⟩) (v := ?_) rfl (by kernel_rfl) (by kernel_rfl) (by kernel_rfl) (fun _ _ _ h => h) (Or.inl ⟨by rfl, ?_⟩) (by assumption) ?_
    rotate_left
    · intro wz hSw
      try dsimp only at hSw
      go_simp
      try with_reducible rfl
    try simp only [Act.put, List.setIfInBounds_toArray, List.set_cons_zero, List.set_cons_succ]
    refine wpAnyH_take (i := 14) (oi := ⟨_, _, _, _, _, _⟩) (v := ?_) rfl (by kernel_rfl) (by kernel_rfl) (by kernel_rfl) (fun _ _ _ h => h) (Or.inl ⟨by rfl, ?_⟩) (by assumption) ?_
    rotate_left
    · intro wz hSw
      try dsimp only at hSw
      go_simp
      try with_reducible rfl
    try simp only [Act.put, List.setIfInBounds_toArray, List.set_cons_zero, List.set_cons_succ]
    refine wpAnyH_ready (rs := [8]) (by kernel_rfl) (by simp) ?_
    refine AllReadyH.cons (o := ⟨_, _, _, _, _, _⟩) rfl (fun K hK => ?_) AllReadyH.nil
    go_simp
    refine (K7.out _ A.out.laid _ (Below.refl _ _)).mono ?_
    rintro e w13 ⟨rfl, hb⟩
    replace A := Lib.hid (A.out.step hb)
    replace B1 := Lib.hid (B1.out.step hb)
    replace B2 := Lib.hid (B2.out.step hb)
    replace B3 := Lib.hid (B3.out.step hb)
    clear hb hHeld 
    refine hK.out _ _ ⟨B1.out.c 0 _ rfl, B1.out.c 1 _ rfl, B1.out.c 2 _ rfl, B2.out.c 0 _ rfl, B2.out.c 1 _ rfl, B2.out.c 2 _ rfl, B2.out.c 3 _ rfl, B2.out.c 4 _ rfl, B3.out.c 0 _ rfl, B3.out.c 1 _ rfl, B3.out.c 2 _ rfl, B3.out.c 3 _ rfl, B3.out.c 4 _ rfl⟩ (fun hHeld => ?_)
    clear hK K
    try simp only [Act.put, List.setIfInBounds_toArray, List.set_cons_zero, List.set_cons_succ]
    refine wpAnyH_ready (rs := [15]) (by kernel_rfl) (by simp) ?_
    refine AllReadyH.cons (o := ⟨_, _, _, _, _, _⟩) rfl (fun K hK => ?_) AllReadyH.nil
    go_simp
    refine (K8.out _ A.out.laid _ (Below.refl _ _)).mono ?_
    rintro e w14 ⟨rfl, hb⟩
    replace A := Lib.hid (A.out.step hb)
    replace B1 := Lib.hid (B1.out.step hb)
    replace B2 := Lib.hid (B2.out.step hb)
    replace B3 := Lib.hid (B3.out.step hb)
    clear hb hHeld 
    refine hK.out _ _ ⟨B1.out.c 0 _ rfl, B1.out.c 1 _ rfl, B1.out.c 2 _ rfl, B2.out.c 0 _ rfl, B2.out.c 1 _ rfl, B2.out.c 2 _ rfl, B2.out.c 3 _ rfl, B2.out.c 4 _ rfl, B3.out.c 0 _ rfl, B3.out.c 1 _ rfl, B3.out.c 2 _ rfl, B3.out.c 3 _ rfl, B3.out.c 4 _ rfl⟩ (fun hHeld => ?_)
    clear hK K
    try simp only [Act.put, List.setIfInBounds_toArray, List.set_cons_zero, List.set_cons_succ]
    refine wpAnyH_take (i := 16) (oi := ⟨_, _, _, _, _, _⟩) (v := ?_) rfl (by kernel_rfl) (by kernel_rfl) (by kernel_rfl) (fun _ _ _ h => h) (Or.inl ⟨by rfl, ?_⟩) (by assumption) ?_
    rotate_left
    · intro wz hSw
      try dsimp only at hSw
      go_simp
      try with_reducible rfl
    try simp only [Act.put, List.setIfInBounds_toArray, List.set_cons_zero, List.set_cons_succ]
    refine wpAnyH_take (i := 17) (oi := ⟨_, _, _, _, _, _⟩) (v := ?_) rfl (by kernel_rfl) (by kernel_rfl) (by kernel_rfl) (fun _ _ _ h => h) (Or.inl ⟨by rfl, ?_⟩) (by assumption) ?_
    rotate_left
    · intro wz hSw
      try dsimp only at hSw
      go_simp
      try with_reducible rfl
    try simp only [Act.put, List.setIfInBounds_toArray, List.set_cons_zero, List.set_cons_succ]
    refine wpAnyH_take (i := 18) (oi := ⟨_, _, _, _, _, _⟩) (v := ?_) rfl (by kernel_rfl) (by kernel_rfl) (by kernel_rfl) (fun _ _ _ h => h) (Or.inl ⟨by rfl, ?_⟩) (by assumption) ?_
    rotate_left
    · intro wz hSw
      try dsimp only at hSw
      go_simp
      try with_reducible rfl
    try simp only [Act.put, List.setIfInBounds_toArray, List.set_cons_zero, List.set_cons_succ]
    refine wpAnyH_take (i := 19) (oi := ⟨_, _, _, _, _, _⟩) (v := ?_) rfl (by kernel_rfl) (by kernel_rfl) (by kernel_rfl) (fun _ _ _ h => h) (Or.inl ⟨by rfl, ?_⟩) (by assumption) ?_
    rotate_left
    · intro wz hSw
      try dsimp only at hSw
      go_simp
      try with_reducible rfl
    try simp only [Act.put, List.setIfInBounds_toArray, List.set_cons_zero, List.set_cons_succ]
    refine wpAnyH_take (i := 20) (oi := ⟨_, _, _, _, _, _⟩) (v := ?_) rfl (by kernel_rfl) (by kernel_rfl) (by kernel_rfl) (fun _ _ _ h => h) (Or.inl ⟨by rfl, ?_⟩) (by assumption) ?_
    rotate_left
    · intro wz hSw
      try dsimp only at hSw
      go_simp
      try with_reducible rfl
    try simp only [Act.put, List.setIfInBounds_toArray, List.set_cons_zero, List.set_cons_succ]
    refine wpAnyH_take (i := 21) (oi := ⟨_, _, _, _, _, _⟩) (v := ?_) rfl (by kernel_rfl) (by kernel_rfl) (by kernel_rfl) (fun _ _ _ h => h) (Or.inl ⟨by rfl, ?_⟩) (by assumption) ?_
    rotate_left
    · intro wz hSw
      try dsimp only at hSw
      go_simp
      try with_reducible rfl
    try simp only [Act.put, List.setIfInBounds_toArray, List.set_cons_zero, List.set_cons_succ]
    refine wpAnyH_take (i := 22) (oi := ⟨_, _, _, _, _, _⟩) (v := ?_) rfl (by kernel_rfl) (by kernel_rfl) (by kernel_rfl) (fun _ _ _ h => h) (Or.inl ⟨by rfl, ?_⟩) (by assumption) ?_
    rotate_left
    · intro wz hSw
      try dsimp only at hSw
      go_simp
      try with_reducible rfl
    try simp only [Act.put, List.setIfInBounds_toArray, List.set_cons_zero, List.set_cons_succ]
    refine wpAnyH_take (i := 23) (oi := ⟨_, _, _, _, _, _⟩) (v := ?_) rfl (by kernel_rfl) (by kernel_rfl) (by kernel_rfl) (fun _ _ _ h => h) (Or.inl ⟨by rfl, ?_⟩) (by assumption) ?_
    rotate_left
    · intro wz hSw
      try dsimp only at hSw
      go_simp
      try with_reducible rfl
    try simp only [Act.put, List.setIfInBounds_toArray, List.set_cons_zero, List.set_cons_succ]
    refine wpAnyH_take (i := 24) (oi := ⟨_, _, _, _, _, _⟩) (v := ?_) rfl (by kernel_rfl) (by kernel_rfl) (by kernel_rfl) (fun _ _ _ h => h) (Or.inl ⟨by rfl, ?_⟩) (by assumption) ?_
    rotate_left
    · intro wz hSw
      try dsimp only at hSw
      go_simp
      try with_reducible rfl
    try simp only [Act.put, List.setIfInBounds_toArray, List.set_cons_zero, List.set_cons_succ]
    refine wpAnyH_take (i := 25) (oi := ⟨_, _, _, _, _, _⟩) (v := ?_) rfl (by kernel_rfl) (by kernel_rfl) (by kernel_rfl) (fun _ _ _ h => h) (Or.inl ⟨by rfl, ?_⟩) (by assumption) ?_
    rotate_left
    · intro wz hSw
      try dsimp only at hSw
      go_simp
      try with_reducible rfl
    try simp only [Act.put, List.setIfInBounds_toArray, List.set_cons_zero, List.set_cons_succ]
    refine wpAnyH_take (i := 26) (oi := ⟨_, _, _, _, _, _⟩) (v := ?_) rfl (by kernel_rfl) (by kernel_rfl) (by kernel_rfl) (fun _ _ _ h => h) (Or.inl ⟨by rfl, ?_⟩) (by assumption) ?_
    rotate_left
    · intro wz hSw
      try dsimp only at hSw
      go_simp
      try with_reducible rfl
    try simp only [Act.put, List.setIfInBounds_toArray, List.set_cons_zero, List.set_cons_succ]
    refine wpAnyH_take (i := 27) (oi := ⟨_, _, _, _, _, _⟩) (v := ?_) rfl (by kernel_rfl) (by kernel_rfl) (by kernel_rfl) (fun _ _ _ h => h) (Or.inl ⟨by rfl, ?_⟩) (by assumption) ?_
    rotate_left
    · intro wz hSw
      try dsimp only at hSw
      go_simp
      try with_reducible rfl
    try simp only [Act.put, List.setIfInBounds_toArray, List.set_cons_zero, List.set_cons_succ]
    refine wpAnyH_take (i := 28) (oi := ⟨_, _, _, _, _, _⟩) (v := ?_) rfl (by kernel_rfl) (by kernel_rfl) (by kernel_rfl) (fun _ _ _ h => h) (Or.inl ⟨by rfl, ?_⟩) (by assumption) ?_
    rotate_left
    · intro wz hSw
      try dsimp only at hSw
      go_simp
      try with_reducible rfl
    try simp only [Act.put, List.setIfInBounds_toArray, List.set_cons_zero, List.set_cons_succ]
    refine wpAnyH_take (i := 29) (oi := ⟨_, _, _, _, _, _⟩) (v := ?_) rfl (by kernel_rfl) (by kernel_rfl) (by kernel_rfl) (fun _ _ _ h => h) (Or.inl ⟨by rfl, ?_⟩) (by assumption) ?_
    rotate_left
    · intro wz hSw
      try dsimp only at hSw
      go_simp
      try with_reducible rfl
    try simp only [Act.put, List.setIfInBounds_toArray, List.set_cons_zero, List.set_cons_succ]
    refine wpAnyH_take (i := 30) (oi := ⟨_, _, _, _, _, _⟩) (v := ?_) rfl (by kernel_rfl) (by kernel_rfl) (by kernel_rfl) (fun _ _ _ h => h) (Or.inl ⟨by rfl, ?_⟩) (by assumption) ?_
    rotate_left
    · intro wz hSw
      try dsimp only at hSw
      go_simp
      try with_reducible rfl
    try simp only [Act.put, List.setIfInBounds_toArray, List.set_cons_zero, List.set_cons_succ]
    refine wpAnyH_take (i := 31) (oi := ⟨_, _, _, _, _, _⟩) (v := ?_) rfl (by kernel_rfl) (by kernel_rfl) (by kernel_rfl) (fun _ _ _ h => h) (Or.inl ⟨by rfl, ?_⟩) (by assumption) ?_
    rotate_left
    · intro wz hSw
      try dsimp only at hSw
      go_simp
      try with_reducible rfl
    try simp only [Act.put, List.setIfInBounds_toArray, List.set_cons_zero, List.set_cons_succ]
    refine wpAnyH_take (i := 32) (oi := ⟨_, _, _, _, _, _⟩) (v := ?_) rfl (by kernel_rfl) (by kernel_rfl) (by kernel_rfl) (fun _ _ _ h => h) (Or.inl ⟨by rfl, ?_⟩) (by assumption) ?_
    rotate_left
    · intro wz hSw
      try dsimp only at hSw
      go_simp
      try with_reducible rfl
    try simp only [Act.put, List.setIfInBounds_toArray, List.set_cons_zero, List.set_cons_succ]
    refine wpAnyH_take (i := 33) (oi := ⟨_, _, _, _, _, _⟩) (v := ?_) rfl (by kernel_rfl) (by kernel_rfl) (by kernel_rfl) (fun _ _ _ h => h) (Or.inl ⟨by rfl, ?_⟩) (by assumption) ?_
    rotate_left
    · intro wz hSw
      try dsimp only at hSw
      go_simp
      try with_reducible rfl
    try simp only [Act.put, List.setIfInBounds_toArray, List.set_cons_zero, List.set_cons_succ]
    refine wpAnyH_take (i := 34) (oi := ⟨_, _, _, _, _, _⟩) (v := ?_) rfl (by kernel_rfl) (by kernel_rfl) (by kernel_rfl) (fun _ _ _ h => h) (Or.inl ⟨by rfl, ?_⟩) (by assumption) ?_
    rotate_left
    · intro wz hSw
      try dsimp only at hSw
      go_simp
      try with_reducible rfl
    try simp only [Act.put, List.setIfInBounds_toArray, List.set_cons_zero, List.set_cons_succ]
    refine wpAnyH_take (i := 35) (oi := ⟨_, _, _, _, _, _⟩) (v := ?_) rfl (by kernel_rfl) (by kernel_rfl) (by kernel_rfl) (fun _ _ _ h => h) (Or.inl ⟨by rfl, ?_⟩) (by assumption) ?_
    rotate_left
    · intro wz hSw
      try dsimp only at hSw
      go_simp
      try with_reducible rfl
    try simp only [Act.put, List.setIfInBounds_toArray, List.set_cons_zero, List.set_cons_succ]
    refine wpAnyH_take (i := 36) (oi := ⟨_, _, _, _, _, _⟩) (v := ?_) rfl (by kernel_rfl) (by kernel_rfl) (by kernel_rfl) (fun _ _ _ h => h) (Or.inl ⟨by rfl, ?_⟩) (by assumption) ?_
    rotate_left
    · intro wz hSw
      try dsimp only at hSw
      go_simp
      try with_reducible rfl
    try simp only [Act.put, List.setIfInBounds_toArray, List.set_cons_zero, List.set_cons_succ]
    refine wpAnyH_take (i := 37) (oi := ⟨_, _, _, _, _, _⟩) (v := ?_) rfl (by kernel_rfl) (by kernel_rfl) (by kernel_rfl) (fun _ _ _ h => h) (Or.inl ⟨by rfl, ?_⟩) (by assumption) ?_
    rotate_left
    · intro wz hSw
      try dsimp only at hSw
      go_simp
      try with_reducible rfl
    try simp only [Act.put, List.setIfInBounds_toArray, List.set_cons_zero, List.set_cons_succ]
    refine wpAnyH_take (i := 38) (oi := ⟨_, _, _, _, _, _⟩) (v := ?_) rfl (by kernel_rfl) (by kernel_rfl) (by kernel_rfl) (fun _ _ _ h => h) (Or.inl ⟨by rfl, ?_⟩) (by assumption) ?_
    rotate_left
    · intro wz hSw
      try dsimp only at hSw
      go_simp
      try with_reducible rfl
    try simp only [Act.put, List.setIfInBounds_toArray, List.set_cons_zero, List.set_cons_succ]
    refine wpAnyH_take (i := 39) (oi := ⟨_, _, _, _, _, _⟩) (v := ?_) rfl (by kernel_rfl) (by kernel_rfl) (by kernel_rfl) (fun _ _ _ h => h) (Or.inl ⟨by rfl, ?_⟩) (by assumption) ?_
    rotate_left
    · intro wz hSw
      try dsimp only at hSw
      go_simp
      try with_reducible rfl
    try simp only [Act.put, List.setIfInBounds_toArray, List.set_cons_zero, List.set_cons_succ]
    refine wpAnyH_take (i := 40) (oi := ⟨_, _, _, _, _, _⟩) (v := ?_) rfl (by kernel_rfl) (by kernel_rfl) (by kernel_rfl) (fun _ _ _ h => h) (Or.inl ⟨by rfl, ?_⟩) (by assumption) ?_
    rotate_left
    · intro wz hSw
      try dsimp only at hSw
      go_simp
      try with_reducible rfl
    try simp only [Act.put, List.setIfInBounds_toArray, List.set_cons_zero, List.set_cons_succ]
    refine wpAnyH_take (i := 41) (oi := ⟨_, _, _, _, _, _⟩) (v := ?_) rfl (by kernel_rfl) (by kernel_rfl) (by kernel_rfl) (fun _ _ _ h => h) (Or.inl ⟨by rfl, ?_⟩) (by assumption) ?_
    rotate_left
    · intro wz hSw
      try dsimp only at hSw
      go_simp
      try with_reducible rfl
    try simp only [Act.put, List.setIfInBounds_toArray, List.set_cons_zero, List.set_cons_succ]
    refine wpAnyH_take (i := 42) (oi := ⟨_, _, _, _, _, _⟩) (v := ?_) rfl (by kernel_rfl) (by kernel_rfl) (by kernel_rfl) (fun _ _ _ h => h) (Or.inl ⟨by rfl, ?_⟩) (by assumption) ?_
    rotate_left
    · intro wz hSw
      try dsimp only at hSw
      go_simp
      try with_reducible rfl
    try simp only [Act.put, List.setIfInBounds_toArray, List.set_cons_zero, List.set_cons_succ]
    refine wpAnyH_take (i := 43) (oi := ⟨_, _, _, _, _, _⟩) (v := ?_) rfl (by kernel_rfl) (by kernel_rfl) (by kernel_rfl) (fun _ _ _ h => h) (Or.inl ⟨by rfl, ?_⟩) (by assumption) ?_
    rotate_left
    · intro wz hSw
      try dsimp only at hSw
      go_simp
      try with_reducible rfl
    try simp only [Act.put, List.setIfInBounds_toArray, List.set_cons_zero, List.set_cons_succ]
    refine wpAnyH_take (i := 44) (oi := ⟨_, _, _, _, _, _⟩) (v := ?_) rfl (by kernel_rfl) (by kernel_rfl) (by kernel_rfl) (fun _ _ _ h => h) (Or.inl ⟨by rfl, ?_⟩) (by assumption) ?_
    rotate_left
    · intro wz hSw
      try dsimp only at hSw
      go_simp
      try with_reducible rfl
    try simp only [Act.put, List.setIfInBounds_toArray, List.set_cons_zero, List.set_cons_succ]
    refine wpAnyH_take (i := 45) (oi := ⟨_, _, _, _, _, _⟩) (v := ?_) rfl (by kernel_rfl) (by kernel_rfl) (by kernel_rfl) (fun _ _ _ h => h) (Or.inl ⟨by rfl, ?_⟩) (by assumption) ?_
    rotate_left
    · intro wz hSw
      try dsimp only at hSw
      go_simp
      try with_reducible rfl
    try simp only [Act.put, List.setIfInBounds_toArray, List.set_cons_zero, List.set_cons_succ]
    refine wpAnyH_take (i := 46) (oi := ⟨_, _, _, _, _, _⟩) (v := ?_) rfl (by kernel_rfl) (by kernel_rfl) (by kernel_rfl) (fun _ _ _ h => h) (Or.inl ⟨by rfl, ?_⟩) (by assumption) ?_
    rotate_left
    · intro wz hSw
      try dsimp only at hSw
      go_simp
      try with_reducible rfl
    try simp only [Act.put, List.setIfInBounds_toArray, List.set_cons_zero, List.set_cons_succ]
    refine wpAnyH_take (i := 47) (oi := ⟨_, _, _, _, _, _⟩) (v := ?_) rfl (by kernel_rfl) (by kernel_rfl) (by kernel_rfl) (fun _ _ _ h => h) (Or.inl ⟨by rfl, ?_⟩) (by assumption) ?_
    rotate_left
    · intro wz hSw
      try dsimp only at hSw
      go_simp
      try with_reducible rfl
    try simp only [Act.put, List.setIfInBounds_toArray, List.set_cons_zero, List.set_cons_succ]
    refine wpAnyH_take (i := 48) (oi := ⟨_, _, _, _, _, _⟩) (v := ?_) rfl (by kernel_rfl) (by kernel_rfl) (by kernel_rfl) (fun _ _ _ h => h) (Or.inl ⟨by rfl, ?_⟩) (by assumption) ?_
    rotate_left
    · intro wz hSw
      try dsimp only at hSw
      go_simp
      try with_reducible rfl
    try simp only [Act.put, List.setIfInBounds_toArray, List.set_cons_zero, List.set_cons_succ]
    refine wpAnyH_done (by kernel_rfl) ?_ _
    clear hHeld
    go_wp2
    go_ret
    exact ⟨rfl, A.out.bel⟩
  · rw [decide_eq_false hc] at hf
    have HF := Lib.hid (hf.trans (decide_eq_false hc).symm)
    obtain rfl := hf
    clear hc hW iy ix it ie hhk hhn hhp hhbn hhbd hhbt hhwn hhwd hhwt
    go_enter Tryd.func3, Tryd.ntmps3
    go_wp2_with fail
    replace A := Lib.hid (A.out.alloc (.cells #[.string (S3.B k), .string (S3.B n), .string (S3.B p), .string (S3.B bn), .string (S3.B bd), .string (S3.B bt), .int .i64 y, .int .i64 x, .int .i64 to, .int .i64 eph, .string (S3.B wn), .string (S3.B wd), .string (S3.B wt)] 27))
    have B1 := Lib.hid (Lk.Bl.new W [.string (S3.B k), .string (S3.B n), .string (S3.B p), .string (S3.B bn), .string (S3.B bd), .string (S3.B bt), .int .i64 y, .int .i64 x, .int .i64 to, .int .i64 eph, .string (S3.B wn), .string (S3.B wd), .string (S3.B wt)] 27)
    generalize W.alloc (.cells #[.string (S3.B k), .string (S3.B n), .string (S3.B p), .string (S3.B bn), .string (S3.B bd), .string (S3.B bt), .int .i64 y, .int .i64 x, .int .i64 to, .int .i64 eph, .string (S3.B wn), .string (S3.B wd), .string (S3.B wt)] 27) = w1 at *
    refine (KS.out _ A.out.laid _ (Below.refl _ _)).mono ?_
    rintro e w2 ⟨rfl, hb⟩
    replace A := Lib.hid (A.out.step hb)
    replace B1 := Lib.hid (B1.out.step hb)
    clear hb
    have cB1_0 := B1.out.c 0 _ rfl
    have cB1_1 := B1.out.c 1 _ rfl
    have cB1_2 := B1.out.c 2 _ rfl
    have cB1_3 := B1.out.c 3 _ rfl
    have cB1_4 := B1.out.c 4 _ rfl
    have cB1_5 := B1.out.c 5 _ rfl
    have cB1_10 := B1.out.c 10 _ rfl
    have cB1_11 := B1.out.c 11 _ rfl
    have cB1_12 := B1.out.c 12 _ rfl
    go_wp2_with fail
    clear cB1_0 cB1_1 cB1_2 cB1_3 cB1_4 cB1_5 cB1_10 cB1_11 cB1_12
    replace A := Lib.hid (A.out.alloc (.cells #[.string (S3.B k), .string (S3.B n), .string (S3.B p), .string (S3.B bn), .string (S3.B bd), .string (S3.B bt), .string (S3.B wn), .string (S3.B wd), .string (S3.B wt)] 9))
    replace B1 := Lib.hid (B1.out.alloc (.cells #[.string (S3.B k), .string (S3.B n), .string (S3.B p), .string (S3.B bn), .string (S3.B bd), .string (S3.B bt), .string (S3.B wn), .string (S3.B wd), .string (S3.B wt)] 9))
    have R1 : S2.Row (w2.alloc (.cells #[.string (S3.B k), .string (S3.B n), .string (S3.B p), .string (S3.B bn), .string (S3.B bd), .string (S3.B bt), .string (S3.B wn), .string (S3.B wd), .string (S3.B wt)] 9)) (w2.alloc (.cells #[.string (S3.B k), .string (S3.B n), .string (S3.B p), .string (S3.B bn), .string (S3.B bd), .string (S3.B bt), .string (S3.B wn), .string (S3.B wd), .string (S3.B wt)] 9)).heap.size (some ⟨w2.heap.size, 0, none⟩) (S2.Ss [k, n, p, bn, bd, bt, wn, wd, wt]) := Lk.strs w2 [k, n, p, bn, bd, bt, wn, wd, wt]
    generalize w2.alloc (.cells #[.string (S3.B k), .string (S3.B n), .string (S3.B p), .string (S3.B bn), .string (S3.B bd), .string (S3.B bt), .string (S3.B wn), .string (S3.B wd), .string (S3.B wt)] 9) = w3 at *
    have q := few_any (some ⟨w2.heap.size, 0, none⟩) [k, n, p, bn, bd, bt, wn, wd, wt] 9 w3 R1 (by simp) HT.out
    rw [← HF.out] at q
    refine q.mono ?_
    rintro e w4 ⟨rfl, hq⟩
    obtain rfl := hq.symm
    clear R1 q
    go_wp2
    go_ret
    exact ⟨rfl, A.out.bel⟩
end Se
end Go.Proofs.YtgldbfdiebkfiaaDoor
