/-
  Layer 6: SealRefuses' walk.
-/
import Derived.Test.YtgldbfdiebkfiaaDoorSealSmall
namespace Go.Proofs.YtgldbfdiebkfiaaDoor
open Go.RowKit
namespace Se
attribute [local go_sem] S3.B_size S3.B_app S3.B_list

theorem unwrap_yes (x : Int) (w : Wr) (h : (unwrapV x w).2 = true) : isSec x ∧ isPub w.eph ∧ w.to = (S5.Sg.pub x : Nat) := by
  unfold unwrapV at h
  split at h
  · assumption
  · cases h
theorem unwrap_no (x : Int) (w : Wr) (h : (unwrapV x w).2 = false) : (unwrapV x w).1 = [] := by
  unfold unwrapV at h ⊢
  split
  · rename_i h1
    rw [if_pos h1] at h
    exact open_no _ _ h
  · rfl

set_option maxHeartbeats 8000000 in
set_option maxRecDepth 100000 in
theorem refuses_walk (L : Landed) (y : Int) (s p n d t : List UInt8) (to eph : Int) (W : World) (hW : S3.Laid W) (hhs : s.length ≤ 140737488355328) (hhp : p.length ≤ 140737488355328) (hhn : n.length ≤ 140737488355328) (hhd : d.length ≤ 140737488355328) (hht : t.length ≤ 140737488355328) (iy : S5.Sg.isI y) (it : S5.Sg.isI to) (ie : S5.Sg.isI eph) :
    Calls Tryd.prog 7 #[.int .i64 y, .string (S3.B s), .string (S3.B p), .agg #[.int .i64 to, .int .i64 eph, .string (S3.B n), .string (S3.B d), .string (S3.B t)]] W fun e w' => e = .returned (.bool true) ∧ Below W.heap.size W w' := by
  have KS := Lib.hid (fun W hW => small_ok L W hW)
  have A := Lib.hid (Lk.At.start hW)
  have HT : Hid (total [s, p, n, d, t] ≤ 1152921504606846976) := Lib.hid (by simp [total]; omega)
  obtain ⟨f, hf⟩ : ∃ f, f = decide (total [s, p, n, d, t] ≤ 2000) := ⟨_, rfl⟩
  by_cases hc : total [s, p, n, d, t] ≤ 2000
  · rw [decide_eq_true hc] at hf
    have HF := Lib.hid (hf.trans (decide_eq_true hc).symm)
    obtain rfl := hf
    simp only [total, List.flatten_cons, List.flatten_nil, List.length_append, List.length_nil] at hc
    have k1 := fun W hW => (L W hW).wrapP y s p iy (by omega)
    have k2 := fun W hW => (L W hW).unwrapP y to eph n d t iy it ie (by omega)
    have k3 := fun W (_ : S3.Laid W) => S5.Sg.exp_ok W 37 y (by unfold S5.Sg.isI S4.isI64; omega) iy
    rw [show S4.powP 37 y = S5.Sg.pub y from rfl] at k3
    have hy := unwrap_yes y ⟨to, eph, ⟨n, d, t⟩⟩
    have hn := unwrap_no y ⟨to, eph, ⟨n, d, t⟩⟩
    obtain ⟨q, hq⟩ : ∃ q, q = (unwrapV y ⟨to, eph, ⟨n, d, t⟩⟩).1 := ⟨_, rfl⟩
    rw [← hq] at k2 hn
    obtain ⟨a, ha⟩ : ∃ a, a = (unwrapV y ⟨to, eph, ⟨n, d, t⟩⟩).2 := ⟨_, rfl⟩
    rw [← ha] at k2 hn hy
    clear ha hq
    have i37 : S5.Sg.isI y := iy
    unfold S5.Sg.isI S4.isI64 at i37
    by_cases hp : isPub y
    · unfold wrapV at k1
      rw [if_pos hp] at k1
      obtain ⟨g, hg⟩ : ∃ g, g = (wrapIn y s p).eph := ⟨_, rfl⟩
      obtain ⟨wn, hwn⟩ : ∃ g, g = (wrapIn y s p).box.n := ⟨_, rfl⟩
      obtain ⟨wd, hwd⟩ : ∃ g, g = (wrapIn y s p).box.d := ⟨_, rfl⟩
      obtain ⟨wt, hwt⟩ : ∃ g, g = (wrapIn y s p).box.t := ⟨_, rfl⟩
      have e : wrapC (wrapIn y s p) = .agg #[.int .i64 y, .int .i64 g, .string (S3.B wn), .string (S3.B wd), .string (S3.B wt)] := by rw [hg, hwn, hwd, hwt]; rfl
      rw [e] at k1
      have K1 := Lib.hid k1
      have p1 : 1 ≤ y := hp.1
      have p2 : y < 2305843009213693951 := hp.2
      clear k1 hg hwn hwd hwt e
      cases a with
      | true =>
        obtain ⟨⟨q1, q2⟩, ⟨q3, q4⟩, q5⟩ := hy rfl
        dsimp only at q3 q4 q5
        rw [← q5] at k3
        have K2 := Lib.hid k2
        have K3 := Lib.hid k3
        clear hy hn k2 k3 hp hc hW hhs hhp hhn hhd hht iy it ie i37 q5
        go_enter Tryd.func7, Tryd.ntmps7
        go_wp2_with fail
        replace A := Lib.hid (A.out.alloc (.cells #[.int .i64 to, .int .i64 eph, .string (S3.B n), .string (S3.B d), .string (S3.B t)] 25))
        have B1 := Lib.hid (Lk.Bl.new W [.int .i64 to, .int .i64 eph, .string (S3.B n), .string (S3.B d), .string (S3.B t)] 25)
        generalize W.alloc (.cells #[.int .i64 to, .int .i64 eph, .string (S3.B n), .string (S3.B d), .string (S3.B t)] 25) = w1 at *
        refine (KS.out _ A.out.laid _ (Below.refl _ _)).mono ?_
        rintro e w2 ⟨rfl, hb⟩
        replace A := Lib.hid (A.out.step hb)
        replace B1 := Lib.hid (B1.out.step hb)
        clear hb
        have cB1_2 := B1.out.c 2 _ rfl
        have cB1_3 := B1.out.c 3 _ rfl
        have cB1_4 := B1.out.c 4 _ rfl
        go_wp2_with fail
        clear cB1_2 cB1_3 cB1_4
        replace A := Lib.hid (A.out.alloc (.cells #[.string (S3.B s), .string (S3.B p), .string (S3.B n), .string (S3.B d), .string (S3.B t)] 9))
        replace B1 := Lib.hid (B1.out.alloc (.cells #[.string (S3.B s), .string (S3.B p), .string (S3.B n), .string (S3.B d), .string (S3.B t)] 9))
        have R1 : S2.Row (w2.alloc (.cells #[.string (S3.B s), .string (S3.B p), .string (S3.B n), .string (S3.B d), .string (S3.B t)] 9)) (w2.alloc (.cells #[.string (S3.B s), .string (S3.B p), .string (S3.B n), .string (S3.B d), .string (S3.B t)] 9)).heap.size (some ⟨w2.heap.size, 0, none⟩) (S2.Ss [s, p, n, d, t]) := Lk.strs w2 [s, p, n, d, t]
        generalize w2.alloc (.cells #[.string (S3.B s), .string (S3.B p), .string (S3.B n), .string (S3.B d), .string (S3.B t)] 9) = w3 at *
        have q := few_any (some ⟨w2.heap.size, 0, none⟩) [s, p, n, d, t] 5 w3 R1 (by simp) HT.out
        rw [← HF.out] at q
        refine q.mono ?_
        rintro e w4 ⟨rfl, hq⟩
        obtain rfl := hq.symm
        clear R1 q
        go_wp2_with fail
        refine (K1.out _ A.out.laid _ (Below.refl _ _)).mono ?_
        rintro e w5 ⟨rfl, hb⟩
        replace A := Lib.hid (A.out.step hb)
        replace B1 := Lib.hid (B1.out.step hb)
        clear hb
        have cB1_0_1 := (B1.out.alloc (.cells #[.int .i64 y, .int .i64 g, .string (S3.B wn), .string (S3.B wd), .string (S3.B wt)] 25)).c 0 _ rfl
        have cB1_1_1 := (B1.out.alloc (.cells #[.int .i64 y, .int .i64 g, .string (S3.B wn), .string (S3.B wd), .string (S3.B wt)] 25)).c 1 _ rfl
        have cB1_2_1 := (B1.out.alloc (.cells #[.int .i64 y, .int .i64 g, .string (S3.B wn), .string (S3.B wd), .string (S3.B wt)] 25)).c 2 _ rfl
        have cB1_3_1 := (B1.out.alloc (.cells #[.int .i64 y, .int .i64 g, .string (S3.B wn), .string (S3.B wd), .string (S3.B wt)] 25)).c 3 _ rfl
        have cB1_4_1 := (B1.out.alloc (.cells #[.int .i64 y, .int .i64 g, .string (S3.B wn), .string (S3.B wd), .string (S3.B wt)] 25)).c 4 _ rfl
        go_wp2_with fail
        clear cB1_0_1 cB1_1_1 cB1_2_1 cB1_3_1 cB1_4_1
        replace A := Lib.hid (A.out.alloc (.cells #[.int .i64 y, .int .i64 g, .string (S3.B wn), .string (S3.B wd), .string (S3.B wt)] 25))
        replace B1 := Lib.hid (B1.out.alloc (.cells #[.int .i64 y, .int .i64 g, .string (S3.B wn), .string (S3.B wd), .string (S3.B wt)] 25))
        have B2 := Lib.hid (Lk.Bl.new w5 [.int .i64 y, .int .i64 g, .string (S3.B wn), .string (S3.B wd), .string (S3.B wt)] 25)
        generalize w5.alloc (.cells #[.int .i64 y, .int .i64 g, .string (S3.B wn), .string (S3.B wd), .string (S3.B wt)] 25) = w6 at *
        refine (K2.out _ A.out.laid _ (Below.refl _ _)).mono ?_
        rintro e w7 ⟨rfl, hb⟩
        replace A := Lib.hid (A.out.step hb)
        replace B1 := Lib.hid (B1.out.step hb)
        replace B2 := Lib.hid (B2.out.step hb)
        clear hb
        go_wp2_with fail
        replace A := Lib.hid A.out.drew
        replace B1 := Lib.hid B1.out.drew
        replace B2 := Lib.hid B2.out.drew
        refine wp_region_held_drew (S := (fun w' => w'.cell? ⟨W.heap.size, 0, none⟩ = some (.int .i64 to) ∧ w'.cell? ⟨W.heap.size, 1, none⟩ = some (.int .i64 eph))) (by kernel_rfl) ⟨B1.out.c 0 _ rfl, B1.out.c 1 _ rfl⟩ (fun hHeld => ?_)
        refine wpAnyH_take (i := 0) (oi := ⟨_, _, _, _, _, _⟩) (v := ?_) rfl (by kernel_rfl) (by kernel_rfl) (by kernel_rfl) (fun _ _ _ h => h) (Or.inl ⟨by rfl, ?_⟩) (by assumption) ?_
        rotate_left
        · intro wz hSw
          try dsimp only at hSw
          go_simp
          try with_reducible rfl
        try simp only [Act.put, List.setIfInBounds_toArray, List.set_cons_zero, List.set_cons_succ]
        refine wpAnyH_take (i := 1) (oi := ⟨_, _, _, _, _, _⟩) (v := ?_) rfl (by kernel_rfl) (by kernel_rfl) (by kernel_rfl) (fun _ _ _ h => h) (Or.inl ⟨by rfl, ?_⟩) (by assumption) ?_
        rotate_left
        · intro wz hSw
          try dsimp only at hSw
          go_simp
          try with_reducible rfl
        try simp only [Act.put, List.setIfInBounds_toArray, List.set_cons_zero, List.set_cons_succ]
        refine wpAnyH_take (i := 2) (oi := ⟨_, _, _, _, _, _⟩) (v := ?_) rfl (by kernel_rfl) (by kernel_rfl) (by kernel_rfl) (fun _ _ _ h => h) (Or.inl ⟨by rfl, ?_⟩) (by assumption) ?_
        rotate_left
        · intro wz hSw
          try dsimp only at hSw
          go_simp
          try with_reducible rfl
        try simp only [Act.put, List.setIfInBounds_toArray, List.set_cons_zero, List.set_cons_succ]
        refine wpAnyH_take (i := 3) (oi := ⟨_, _, _, _, _, _⟩) (v := ?_) rfl (by kernel_rfl) (by kernel_rfl) (by kernel_rfl) (fun _ _ _ h => h) (Or.inl ⟨by rfl, ?_⟩) (by assumption) ?_
        rotate_left
        · intro wz hSw
          try dsimp only at hSw
          go_simp
          try with_reducible rfl
        try simp only [Act.put, List.setIfInBounds_toArray, List.set_cons_zero, List.set_cons_succ]
        refine wpAnyH_take (i := 4) (oi := ⟨_, _, _, _, _, _⟩) (v := ?_) rfl (by kernel_rfl) (by kernel_rfl) (by kernel_rfl) (fun _ _ _ h => h) (Or.inl ⟨by rfl, ?_⟩) (by assumption) ?_
        rotate_left
        · intro wz hSw
          try dsimp only at hSw
          go_simp
          try with_reducible rfl
        try simp only [Act.put, List.setIfInBounds_toArray, List.set_cons_zero, List.set_cons_succ]
        refine wpAnyH_take (i := 5) (oi := ⟨_, _, _, _, _, _⟩) (v := ?_) rfl (by kernel_rfl) (by kernel_rfl) (by kernel_rfl) (fun _ _ _ h => h) (Or.inl ⟨by rfl, ?_⟩) (by assumption) ?_
        rotate_left
        · intro wz hSw
          try dsimp only at hSw
          go_simp
          try with_reducible rfl
        try simp only [Act.put, List.setIfInBounds_toArray, List.set_cons_zero, List.set_cons_succ]
        refine wpAnyH_take (i := 6) (oi := ⟨_, _, _, _, _, _⟩) (v := ?_) rfl (by kernel_rfl) (by kernel_rfl) (by kernel_rfl) (fun _ _ _ h => h) (Or.inl ⟨by rfl, ?_⟩) (by assumption) ?_
        rotate_left
        · intro wz hSw
          try dsimp only at hSw
          go_simp
          try with_reducible rfl
        try simp only [Act.put, List.setIfInBounds_toArray, List.set_cons_zero, List.set_cons_succ]
        refine wpAnyH_take (i := 7) (oi := ⟨_, _, _, _, _, _⟩) (v := ?_) rfl (by kernel_rfl) (by kernel_rfl) (by kernel_rfl) (fun _ _ _ h => h) (Or.inl ⟨by rfl, ?_⟩) (by assumption) ?_
        rotate_left
        · intro wz hSw
          try dsimp only at hSw
          go_simp
          try with_reducible rfl
        try simp only [Act.put, List.setIfInBounds_toArray, List.set_cons_zero, List.set_cons_succ]
        refine wpAnyH_take (i := 8) (oi := ⟨_, _, _, _, _, _⟩) (v := ?_) rfl (by kernel_rfl) (by kernel_rfl) (by kernel_rfl) (fun _ _ _ h => h) (Or.inl ⟨by rfl, ?_⟩) (by assumption) ?_
        rotate_left
        · intro wz hSw
          try dsimp only at hSw
          go_simp
          try with_reducible rfl
        try simp only [Act.put, List.setIfInBounds_toArray, List.set_cons_zero, List.set_cons_succ]
        refine wpAnyH_take (i := 9) (oi := ⟨_, _, _, _, _, _⟩) (v := ?_) rfl (by kernel_rfl) (by kernel_rfl) (by kernel_rfl) (fun _ _ _ h => h) (Or.inl ⟨by rfl, ?_⟩) (by assumption) ?_
        rotate_left
        · intro wz hSw
          try dsimp only at hSw
          go_simp
          try with_reducible rfl
        try simp only [Act.put, List.setIfInBounds_toArray, List.set_cons_zero, List.set_cons_succ]
        refine wpAnyH_take (i := 10) (oi := ⟨_, _, _, _, _, _⟩) (v := ?_) rfl (by kernel_rfl) (by kernel_rfl) (by kernel_rfl) (fun _ _ _ h => h) (Or.inl ⟨by rfl, ?_⟩) (by assumption) ?_
        rotate_left
        · intro wz hSw
          try dsimp only at hSw
          go_simp
          try with_reducible rfl
        try simp only [Act.put, List.setIfInBounds_toArray, List.set_cons_zero, List.set_cons_succ]
        refine wpAnyH_take (i := 11) (oi := ⟨_, _, _, _, _, _⟩) (v := ?_) rfl (by kernel_rfl) (by kernel_rfl) (by kernel_rfl) (fun _ _ _ h => h) (Or.inl ⟨by rfl, ?_⟩) (by assumption) ?_
        rotate_left
        · intro wz hSw
          try dsimp only at hSw
          go_simp
          try with_reducible rfl
        try simp only [Act.put, List.setIfInBounds_toArray, List.set_cons_zero, List.set_cons_succ]
        refine wpAnyH_take (i := 12) (oi := ⟨_, _, _, _, _, _⟩) (v := ?_) rfl (by kernel_rfl) (by kernel_rfl) (by kernel_rfl) (fun _ _ _ h => h) (Or.inl ⟨by rfl, ?_⟩) (by assumption) ?_
        rotate_left
        · intro wz hSw
          try dsimp only at hSw
          go_simp
          try with_reducible rfl
        try simp only [Act.put, List.setIfInBounds_toArray, List.set_cons_zero, List.set_cons_succ]
        refine wpAnyH_ready (rs := [13]) (by kernel_rfl) (by simp) ?_
        refine AllReadyH.cons (o := ⟨_, _, _, _, _, _⟩) rfl (fun K hK => ?_) AllReadyH.nil
        go_simp
        refine (K3.out _ A.out.laid _ (Below.refl _ _)).mono ?_
        rintro e w8 ⟨rfl, hb⟩
        replace A := Lib.hid (A.out.step hb)
        replace B1 := Lib.hid (B1.out.step hb)
        replace B2 := Lib.hid (B2.out.step hb)
        clear hb hHeld 
        refine hK.out _ _ ⟨B1.out.c 0 _ rfl, B1.out.c 1 _ rfl⟩ (fun hHeld => ?_)
        clear hK K
        try simp only [Act.put, List.setIfInBounds_toArray, List.set_cons_zero, List.set_cons_succ]
        refine wpAnyH_take (i := 14) (oi := ⟨_, _, _, _, _, _⟩) (v := ?_) rfl (by kernel_rfl) (by kernel_rfl) (by kernel_rfl) (fun _ _ _ h => h) (Or.inl ⟨by rfl, ?_⟩) (by assumption) ?_
        rotate_left
        · intro wz hSw
          try dsimp only at hSw
          go_simp
          try with_reducible rfl
        try simp only [Act.put, List.setIfInBounds_toArray, List.set_cons_zero, List.set_cons_succ]
        refine wpAnyH_take (i := 15) (oi := ⟨_, _, _, _, _, _⟩) (v := ?_) rfl (by kernel_rfl) (by kernel_rfl) (by kernel_rfl) (fun _ _ _ h => h) (Or.inl ⟨by rfl, ?_⟩) (by assumption) ?_
        rotate_left
        · intro wz hSw
          try dsimp only at hSw
          go_simp
          try with_reducible rfl
        try simp only [Act.put, List.setIfInBounds_toArray, List.set_cons_zero, List.set_cons_succ]
        refine wpAnyH_take (i := 16) (oi := ⟨_, _, _, _, _, _⟩) (v := ?_) rfl (by kernel_rfl) (by kernel_rfl) (by kernel_rfl) (fun _ _ _ h => h) (Or.inl ⟨by rfl, ?_⟩) (by assumption) ?_
        rotate_left
        · intro wz hSw
          try dsimp only at hSw
          go_simp
          try with_reducible rfl
        try simp only [Act.put, List.setIfInBounds_toArray, List.set_cons_zero, List.set_cons_succ]
        refine wpAnyH_take (i := 17) (oi := ⟨_, _, _, _, _, _⟩) (v := ?_) rfl (by kernel_rfl) (by kernel_rfl) (by kernel_rfl) (fun _ _ _ h => h) (Or.inl ⟨by rfl, ?_⟩) (by assumption) ?_
        rotate_left
        · intro wz hSw
          try dsimp only at hSw
          go_simp
          try with_reducible rfl
        try simp only [Act.put, List.setIfInBounds_toArray, List.set_cons_zero, List.set_cons_succ]
        refine wpAnyH_take (i := 18) (oi := ⟨_, _, _, _, _, _⟩) (v := ?_) rfl (by kernel_rfl) (by kernel_rfl) (by kernel_rfl) (fun _ _ _ h => h) (Or.inl ⟨by rfl, ?_⟩) (by assumption) ?_
        rotate_left
        · intro wz hSw
          try dsimp only at hSw
          go_simp
          try with_reducible rfl
        try simp only [Act.put, List.setIfInBounds_toArray, List.set_cons_zero, List.set_cons_succ]
        refine wpAnyH_take (i := 19) (oi := ⟨_, _, _, _, _, _⟩) (v := ?_) rfl (by kernel_rfl) (by kernel_rfl) (by kernel_rfl) (fun _ _ _ h => h) (Or.inl ⟨by rfl, ?_⟩) (by assumption) ?_
        rotate_left
        · intro wz hSw
          try dsimp only at hSw
          go_simp
          try with_reducible rfl
        try simp only [Act.put, List.setIfInBounds_toArray, List.set_cons_zero, List.set_cons_succ]
        refine wpAnyH_take (i := 20) (oi := ⟨_, _, _, _, _, _⟩) (v := ?_) rfl (by kernel_rfl) (by kernel_rfl) (by kernel_rfl) (fun _ _ _ h => h) (Or.inl ⟨by rfl, ?_⟩) (by assumption) ?_
        rotate_left
        · intro wz hSw
          try dsimp only at hSw
          go_simp
          try with_reducible rfl
        try simp only [Act.put, List.setIfInBounds_toArray, List.set_cons_zero, List.set_cons_succ]
        refine wpAnyH_take (i := 21) (oi := ⟨_, _, _, _, _, _⟩) (v := ?_) rfl (by kernel_rfl) (by kernel_rfl) (by kernel_rfl) (fun _ _ _ h => h) (Or.inl ⟨by rfl, ?_⟩) (by assumption) ?_
        rotate_left
        · intro wz hSw
          try dsimp only at hSw
          go_simp
          try with_reducible rfl
        try simp only [Act.put, List.setIfInBounds_toArray, List.set_cons_zero, List.set_cons_succ]
        refine wpAnyH_take (i := 22) (oi := ⟨_, _, _, _, _, _⟩) (v := ?_) rfl (by kernel_rfl) (by kernel_rfl) (by kernel_rfl) (fun _ _ _ h => h) (Or.inl ⟨by rfl, ?_⟩) (by assumption) ?_
        rotate_left
        · intro wz hSw
          try dsimp only at hSw
          go_simp
          try with_reducible rfl
        try simp only [Act.put, List.setIfInBounds_toArray, List.set_cons_zero, List.set_cons_succ]
        refine wpAnyH_take (i := 23) (oi := ⟨_, _, _, _, _, _⟩) (v := ?_) rfl (by kernel_rfl) (by kernel_rfl) (by kernel_rfl) (fun _ _ _ h => h) (Or.inl ⟨by rfl, ?_⟩) (by assumption) ?_
        rotate_left
        · intro wz hSw
          try dsimp only at hSw
          go_simp
          try with_reducible rfl
        try simp only [Act.put, List.setIfInBounds_toArray, List.set_cons_zero, List.set_cons_succ]
        refine wpAnyH_take (i := 24) (oi := ⟨_, _, _, _, _, _⟩) (v := ?_) rfl (by kernel_rfl) (by kernel_rfl) (by kernel_rfl) (fun _ _ _ h => h) (Or.inl ⟨by rfl, ?_⟩) (by assumption) ?_
        rotate_left
        · intro wz hSw
          try dsimp only at hSw
          go_simp
          try with_reducible rfl
        try simp only [Act.put, List.setIfInBounds_toArray, List.set_cons_zero, List.set_cons_succ]
        refine wpAnyH_take (i := 25) (oi := ⟨_, _, _, _, _, _⟩) (v := ?_) rfl (by kernel_rfl) (by kernel_rfl) (by kernel_rfl) (fun _ _ _ h => h) (Or.inl ⟨by rfl, ?_⟩) (by assumption) ?_
        rotate_left
        · intro wz hSw
          try dsimp only at hSw
          go_simp
          try with_reducible rfl
        try simp only [Act.put, List.setIfInBounds_toArray, List.set_cons_zero, List.set_cons_succ]
        refine wpAnyH_take (i := 26) (oi := ⟨_, _, _, _, _, _⟩) (v := ?_) rfl (by kernel_rfl) (by kernel_rfl) (by kernel_rfl) (fun _ _ _ h => h) (Or.inl ⟨by rfl, ?_⟩) (by assumption) ?_
        rotate_left
        · intro wz hSw
          try dsimp only at hSw
          go_simp
          try with_reducible rfl
        try simp only [Act.put, List.setIfInBounds_toArray, List.set_cons_zero, List.set_cons_succ]
        refine wpAnyH_done (by kernel_rfl) ?_ _
        clear hHeld
        go_wp2
        go_ret
        exact ⟨rfl, A.out.bel⟩
      | false =>
        rw [hn rfl] at k2
        have K2 := Lib.hid k2
        clear hy hn k2 k3 hp hc hW hhs hhp hhn hhd hht iy it ie i37
        go_enter Tryd.func7, Tryd.ntmps7
        go_wp2_with fail
        replace A := Lib.hid (A.out.alloc (.cells #[.int .i64 to, .int .i64 eph, .string (S3.B n), .string (S3.B d), .string (S3.B t)] 25))
        have B1 := Lib.hid (Lk.Bl.new W [.int .i64 to, .int .i64 eph, .string (S3.B n), .string (S3.B d), .string (S3.B t)] 25)
        generalize W.alloc (.cells #[.int .i64 to, .int .i64 eph, .string (S3.B n), .string (S3.B d), .string (S3.B t)] 25) = w1 at *
        refine (KS.out _ A.out.laid _ (Below.refl _ _)).mono ?_
        rintro e w2 ⟨rfl, hb⟩
        replace A := Lib.hid (A.out.step hb)
        replace B1 := Lib.hid (B1.out.step hb)
        clear hb
        have cB1_2 := B1.out.c 2 _ rfl
        have cB1_3 := B1.out.c 3 _ rfl
        have cB1_4 := B1.out.c 4 _ rfl
        go_wp2_with fail
        clear cB1_2 cB1_3 cB1_4
        replace A := Lib.hid (A.out.alloc (.cells #[.string (S3.B s), .string (S3.B p), .string (S3.B n), .string (S3.B d), .string (S3.B t)] 9))
        replace B1 := Lib.hid (B1.out.alloc (.cells #[.string (S3.B s), .string (S3.B p), .string (S3.B n), .string (S3.B d), .string (S3.B t)] 9))
        have R1 : S2.Row (w2.alloc (.cells #[.string (S3.B s), .string (S3.B p), .string (S3.B n), .string (S3.B d), .string (S3.B t)] 9)) (w2.alloc (.cells #[.string (S3.B s), .string (S3.B p), .string (S3.B n), .string (S3.B d), .string (S3.B t)] 9)).heap.size (some ⟨w2.heap.size, 0, none⟩) (S2.Ss [s, p, n, d, t]) := Lk.strs w2 [s, p, n, d, t]
        generalize w2.alloc (.cells #[.string (S3.B s), .string (S3.B p), .string (S3.B n), .string (S3.B d), .string (S3.B t)] 9) = w3 at *
        have q := few_any (some ⟨w2.heap.size, 0, none⟩) [s, p, n, d, t] 5 w3 R1 (by simp) HT.out
        rw [← HF.out] at q
        refine q.mono ?_
        rintro e w4 ⟨rfl, hq⟩
        obtain rfl := hq.symm
        clear R1 q
        go_wp2_with fail
        refine (K1.out _ A.out.laid _ (Below.refl _ _)).mono ?_
        rintro e w5 ⟨rfl, hb⟩
        replace A := Lib.hid (A.out.step hb)
        replace B1 := Lib.hid (B1.out.step hb)
        clear hb
        have cB1_0_1 := (B1.out.alloc (.cells #[.int .i64 y, .int .i64 g, .string (S3.B wn), .string (S3.B wd), .string (S3.B wt)] 25)).c 0 _ rfl
        have cB1_1_1 := (B1.out.alloc (.cells #[.int .i64 y, .int .i64 g, .string (S3.B wn), .string (S3.B wd), .string (S3.B wt)] 25)).c 1 _ rfl
        have cB1_2_1 := (B1.out.alloc (.cells #[.int .i64 y, .int .i64 g, .string (S3.B wn), .string (S3.B wd), .string (S3.B wt)] 25)).c 2 _ rfl
        have cB1_3_1 := (B1.out.alloc (.cells #[.int .i64 y, .int .i64 g, .string (S3.B wn), .string (S3.B wd), .string (S3.B wt)] 25)).c 3 _ rfl
        have cB1_4_1 := (B1.out.alloc (.cells #[.int .i64 y, .int .i64 g, .string (S3.B wn), .string (S3.B wd), .string (S3.B wt)] 25)).c 4 _ rfl
        go_wp2_with fail
        clear cB1_0_1 cB1_1_1 cB1_2_1 cB1_3_1 cB1_4_1
        replace A := Lib.hid (A.out.alloc (.cells #[.int .i64 y, .int .i64 g, .string (S3.B wn), .string (S3.B wd), .string (S3.B wt)] 25))
        replace B1 := Lib.hid (B1.out.alloc (.cells #[.int .i64 y, .int .i64 g, .string (S3.B wn), .string (S3.B wd), .string (S3.B wt)] 25))
        have B2 := Lib.hid (Lk.Bl.new w5 [.int .i64 y, .int .i64 g, .string (S3.B wn), .string (S3.B wd), .string (S3.B wt)] 25)
        generalize w5.alloc (.cells #[.int .i64 y, .int .i64 g, .string (S3.B wn), .string (S3.B wd), .string (S3.B wt)] 25) = w6 at *
        refine (K2.out _ A.out.laid _ (Below.refl _ _)).mono ?_
        rintro e w7 ⟨rfl, hb⟩
        replace A := Lib.hid (A.out.step hb)
        replace B1 := Lib.hid (B1.out.step hb)
        replace B2 := Lib.hid (B2.out.step hb)
        clear hb
        go_wp2
        go_ret
        exact ⟨rfl, A.out.bel⟩
    · unfold wrapV at k1
      rw [if_neg hp] at k1
      have e : wrapC wrap0 = .agg #[.int .i64 0, .int .i64 0, .string (S3.B []), .string (S3.B []), .string (S3.B [])] := rfl
      rw [e] at k1
      have K1 := Lib.hid k1
      have ha : a = false := by
        cases a with
        | true =>
          obtain ⟨⟨q1, q2⟩, _, _⟩ := hy rfl
          exact absurd ⟨q1, by omega⟩ hp
        | false => rfl
      obtain rfl := ha
      rw [hn rfl] at k2
      have K2 := Lib.hid k2
      have hp' : y < 1 ∨ 2305843009213693951 ≤ y := by
        by_cases h : 1 ≤ y
        · exact .inr (by by_cases h2 : y < 2305843009213693951; exact absurd ⟨h, h2⟩ hp; omega)
        · exact .inl (by omega)
      clear hy hn k2 k3 hp hc hW hhs hhp hhn hhd hht iy it ie i37 k1 e
      rcases hp' with p1 | p1
      · go_enter Tryd.func7, Tryd.ntmps7
        go_wp2_with fail
        replace A := Lib.hid (A.out.alloc (.cells #[.int .i64 to, .int .i64 eph, .string (S3.B n), .string (S3.B d), .string (S3.B t)] 25))
        have B1 := Lib.hid (Lk.Bl.new W [.int .i64 to, .int .i64 eph, .string (S3.B n), .string (S3.B d), .string (S3.B t)] 25)
        generalize W.alloc (.cells #[.int .i64 to, .int .i64 eph, .string (S3.B n), .string (S3.B d), .string (S3.B t)] 25) = w1 at *
        refine (KS.out _ A.out.laid _ (Below.refl _ _)).mono ?_
        rintro e w2 ⟨rfl, hb⟩
        replace A := Lib.hid (A.out.step hb)
        replace B1 := Lib.hid (B1.out.step hb)
        clear hb
        have cB1_2 := B1.out.c 2 _ rfl
        have cB1_3 := B1.out.c 3 _ rfl
        have cB1_4 := B1.out.c 4 _ rfl
        go_wp2_with fail
        clear cB1_2 cB1_3 cB1_4
        replace A := Lib.hid (A.out.alloc (.cells #[.string (S3.B s), .string (S3.B p), .string (S3.B n), .string (S3.B d), .string (S3.B t)] 9))
        replace B1 := Lib.hid (B1.out.alloc (.cells #[.string (S3.B s), .string (S3.B p), .string (S3.B n), .string (S3.B d), .string (S3.B t)] 9))
        have R1 : S2.Row (w2.alloc (.cells #[.string (S3.B s), .string (S3.B p), .string (S3.B n), .string (S3.B d), .string (S3.B t)] 9)) (w2.alloc (.cells #[.string (S3.B s), .string (S3.B p), .string (S3.B n), .string (S3.B d), .string (S3.B t)] 9)).heap.size (some ⟨w2.heap.size, 0, none⟩) (S2.Ss [s, p, n, d, t]) := Lk.strs w2 [s, p, n, d, t]
        generalize w2.alloc (.cells #[.string (S3.B s), .string (S3.B p), .string (S3.B n), .string (S3.B d), .string (S3.B t)] 9) = w3 at *
        have q := few_any (some ⟨w2.heap.size, 0, none⟩) [s, p, n, d, t] 5 w3 R1 (by simp) HT.out
        rw [← HF.out] at q
        refine q.mono ?_
        rintro e w4 ⟨rfl, hq⟩
        obtain rfl := hq.symm
        clear R1 q
        go_wp2_with fail
        refine (K1.out _ A.out.laid _ (Below.refl _ _)).mono ?_
        rintro e w5 ⟨rfl, hb⟩
        replace A := Lib.hid (A.out.step hb)
        replace B1 := Lib.hid (B1.out.step hb)
        clear hb
        have cB1_0_1 := (B1.out.alloc (.cells #[.int .i64 0, .int .i64 0, .string (S3.B []), .string (S3.B []), .string (S3.B [])] 25)).c 0 _ rfl
        have cB1_1_1 := (B1.out.alloc (.cells #[.int .i64 0, .int .i64 0, .string (S3.B []), .string (S3.B []), .string (S3.B [])] 25)).c 1 _ rfl
        have cB1_2_1 := (B1.out.alloc (.cells #[.int .i64 0, .int .i64 0, .string (S3.B []), .string (S3.B []), .string (S3.B [])] 25)).c 2 _ rfl
        have cB1_3_1 := (B1.out.alloc (.cells #[.int .i64 0, .int .i64 0, .string (S3.B []), .string (S3.B []), .string (S3.B [])] 25)).c 3 _ rfl
        have cB1_4_1 := (B1.out.alloc (.cells #[.int .i64 0, .int .i64 0, .string (S3.B []), .string (S3.B []), .string (S3.B [])] 25)).c 4 _ rfl
        go_wp2_with fail
        clear cB1_0_1 cB1_1_1 cB1_2_1 cB1_3_1 cB1_4_1
        replace A := Lib.hid (A.out.alloc (.cells #[.int .i64 0, .int .i64 0, .string (S3.B []), .string (S3.B []), .string (S3.B [])] 25))
        replace B1 := Lib.hid (B1.out.alloc (.cells #[.int .i64 0, .int .i64 0, .string (S3.B []), .string (S3.B []), .string (S3.B [])] 25))
        have B2 := Lib.hid (Lk.Bl.new w5 [.int .i64 0, .int .i64 0, .string (S3.B []), .string (S3.B []), .string (S3.B [])] 25)
        generalize w5.alloc (.cells #[.int .i64 0, .int .i64 0, .string (S3.B []), .string (S3.B []), .string (S3.B [])] 25) = w6 at *
        refine (K2.out _ A.out.laid _ (Below.refl _ _)).mono ?_
        rintro e w7 ⟨rfl, hb⟩
        replace A := Lib.hid (A.out.step hb)
        replace B1 := Lib.hid (B1.out.step hb)
        replace B2 := Lib.hid (B2.out.step hb)
        clear hb
        go_wp2
        go_ret
        exact ⟨rfl, A.out.bel⟩
      · go_enter Tryd.func7, Tryd.ntmps7
        go_wp2_with fail
        replace A := Lib.hid (A.out.alloc (.cells #[.int .i64 to, .int .i64 eph, .string (S3.B n), .string (S3.B d), .string (S3.B t)] 25))
        have B1 := Lib.hid (Lk.Bl.new W [.int .i64 to, .int .i64 eph, .string (S3.B n), .string (S3.B d), .string (S3.B t)] 25)
        generalize W.alloc (.cells #[.int .i64 to, .int .i64 eph, .string (S3.B n), .string (S3.B d), .string (S3.B t)] 25) = w1 at *
        refine (KS.out _ A.out.laid _ (Below.refl _ _)).mono ?_
        rintro e w2 ⟨rfl, hb⟩
        replace A := Lib.hid (A.out.step hb)
        replace B1 := Lib.hid (B1.out.step hb)
        clear hb
        have cB1_2 := B1.out.c 2 _ rfl
        have cB1_3 := B1.out.c 3 _ rfl
        have cB1_4 := B1.out.c 4 _ rfl
        go_wp2_with fail
        clear cB1_2 cB1_3 cB1_4
        replace A := Lib.hid (A.out.alloc (.cells #[.string (S3.B s), .string (S3.B p), .string (S3.B n), .string (S3.B d), .string (S3.B t)] 9))
        replace B1 := Lib.hid (B1.out.alloc (.cells #[.string (S3.B s), .string (S3.B p), .string (S3.B n), .string (S3.B d), .string (S3.B t)] 9))
        have R1 : S2.Row (w2.alloc (.cells #[.string (S3.B s), .string (S3.B p), .string (S3.B n), .string (S3.B d), .string (S3.B t)] 9)) (w2.alloc (.cells #[.string (S3.B s), .string (S3.B p), .string (S3.B n), .string (S3.B d), .string (S3.B t)] 9)).heap.size (some ⟨w2.heap.size, 0, none⟩) (S2.Ss [s, p, n, d, t]) := Lk.strs w2 [s, p, n, d, t]
        generalize w2.alloc (.cells #[.string (S3.B s), .string (S3.B p), .string (S3.B n), .string (S3.B d), .string (S3.B t)] 9) = w3 at *
        have q := few_any (some ⟨w2.heap.size, 0, none⟩) [s, p, n, d, t] 5 w3 R1 (by simp) HT.out
        rw [← HF.out] at q
        refine q.mono ?_
        rintro e w4 ⟨rfl, hq⟩
        obtain rfl := hq.symm
        clear R1 q
        go_wp2_with fail
        refine (K1.out _ A.out.laid _ (Below.refl _ _)).mono ?_
        rintro e w5 ⟨rfl, hb⟩
        replace A := Lib.hid (A.out.step hb)
        replace B1 := Lib.hid (B1.out.step hb)
        clear hb
        have cB1_0_1 := (B1.out.alloc (.cells #[.int .i64 0, .int .i64 0, .string (S3.B []), .string (S3.B []), .string (S3.B [])] 25)).c 0 _ rfl
        have cB1_1_1 := (B1.out.alloc (.cells #[.int .i64 0, .int .i64 0, .string (S3.B []), .string (S3.B []), .string (S3.B [])] 25)).c 1 _ rfl
        have cB1_2_1 := (B1.out.alloc (.cells #[.int .i64 0, .int .i64 0, .string (S3.B []), .string (S3.B []), .string (S3.B [])] 25)).c 2 _ rfl
        have cB1_3_1 := (B1.out.alloc (.cells #[.int .i64 0, .int .i64 0, .string (S3.B []), .string (S3.B []), .string (S3.B [])] 25)).c 3 _ rfl
        have cB1_4_1 := (B1.out.alloc (.cells #[.int .i64 0, .int .i64 0, .string (S3.B []), .string (S3.B []), .string (S3.B [])] 25)).c 4 _ rfl
        go_wp2_with fail
        clear cB1_0_1 cB1_1_1 cB1_2_1 cB1_3_1 cB1_4_1
        replace A := Lib.hid (A.out.alloc (.cells #[.int .i64 0, .int .i64 0, .string (S3.B []), .string (S3.B []), .string (S3.B [])] 25))
        replace B1 := Lib.hid (B1.out.alloc (.cells #[.int .i64 0, .int .i64 0, .string (S3.B []), .string (S3.B []), .string (S3.B [])] 25))
        have B2 := Lib.hid (Lk.Bl.new w5 [.int .i64 0, .int .i64 0, .string (S3.B []), .string (S3.B []), .string (S3.B [])] 25)
        generalize w5.alloc (.cells #[.int .i64 0, .int .i64 0, .string (S3.B []), .string (S3.B []), .string (S3.B [])] 25) = w6 at *
        refine (K2.out _ A.out.laid _ (Below.refl _ _)).mono ?_
        rintro e w7 ⟨rfl, hb⟩
        replace A := Lib.hid (A.out.step hb)
        replace B1 := Lib.hid (B1.out.step hb)
        replace B2 := Lib.hid (B2.out.step hb)
        clear hb
        go_wp2
        go_ret
        exact ⟨rfl, A.out.bel⟩
  · rw [decide_eq_false hc] at hf
    have HF := Lib.hid (hf.trans (decide_eq_false hc).symm)
    obtain rfl := hf
    clear hc hW hhs hhp hhn hhd hht iy it ie
    go_enter Tryd.func7, Tryd.ntmps7
    go_wp2_with fail
    replace A := Lib.hid (A.out.alloc (.cells #[.int .i64 to, .int .i64 eph, .string (S3.B n), .string (S3.B d), .string (S3.B t)] 25))
    have B1 := Lib.hid (Lk.Bl.new W [.int .i64 to, .int .i64 eph, .string (S3.B n), .string (S3.B d), .string (S3.B t)] 25)
    generalize W.alloc (.cells #[.int .i64 to, .int .i64 eph, .string (S3.B n), .string (S3.B d), .string (S3.B t)] 25) = w1 at *
    refine (KS.out _ A.out.laid _ (Below.refl _ _)).mono ?_
    rintro e w2 ⟨rfl, hb⟩
    replace A := Lib.hid (A.out.step hb)
    replace B1 := Lib.hid (B1.out.step hb)
    clear hb
    have cB1_2 := B1.out.c 2 _ rfl
    have cB1_3 := B1.out.c 3 _ rfl
    have cB1_4 := B1.out.c 4 _ rfl
    go_wp2_with fail
    clear cB1_2 cB1_3 cB1_4
    replace A := Lib.hid (A.out.alloc (.cells #[.string (S3.B s), .string (S3.B p), .string (S3.B n), .string (S3.B d), .string (S3.B t)] 9))
    replace B1 := Lib.hid (B1.out.alloc (.cells #[.string (S3.B s), .string (S3.B p), .string (S3.B n), .string (S3.B d), .string (S3.B t)] 9))
    have R1 : S2.Row (w2.alloc (.cells #[.string (S3.B s), .string (S3.B p), .string (S3.B n), .string (S3.B d), .string (S3.B t)] 9)) (w2.alloc (.cells #[.string (S3.B s), .string (S3.B p), .string (S3.B n), .string (S3.B d), .string (S3.B t)] 9)).heap.size (some ⟨w2.heap.size, 0, none⟩) (S2.Ss [s, p, n, d, t]) := Lk.strs w2 [s, p, n, d, t]
    generalize w2.alloc (.cells #[.string (S3.B s), .string (S3.B p), .string (S3.B n), .string (S3.B d), .string (S3.B t)] 9) = w3 at *
    have q := few_any (some ⟨w2.heap.size, 0, none⟩) [s, p, n, d, t] 5 w3 R1 (by simp) HT.out
    rw [← HF.out] at q
    refine q.mono ?_
    rintro e w4 ⟨rfl, hq⟩
    obtain rfl := hq.symm
    clear R1 q
    go_wp2
    go_ret
    exact ⟨rfl, A.out.bel⟩
end Se
end Go.Proofs.YtgldbfdiebkfiaaDoor
