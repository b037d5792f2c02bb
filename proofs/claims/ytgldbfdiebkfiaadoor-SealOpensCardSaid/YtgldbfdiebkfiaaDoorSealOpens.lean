/-
  Layer 6: SealOpens' walk.
-/
import Derived.Test.YtgldbfdiebkfiaaDoorSealSmall
namespace Go.Proofs.YtgldbfdiebkfiaaDoor
open Go.RowKit
namespace Se
attribute [local go_sem] S3.B_size S3.B_app S3.B_list

set_option maxHeartbeats 8000000 in
set_option maxRecDepth 100000 in
theorem opens_walk (L : Landed) (k n p bn bd bt : List UInt8) (W : World) (hW : S3.Laid W) (hk : k.length ≤ 140737488355328) (hnn : n.length ≤ 140737488355328) (hp : p.length ≤ 140737488355328) (hbn : bn.length ≤ 140737488355328) (hbd : bd.length ≤ 140737488355328) (hbt : bt.length ≤ 140737488355328) :
    Calls Tryd.prog 4 #[.string (S3.B k), .string (S3.B n), .string (S3.B p), .agg #[.string (S3.B bn), .string (S3.B bd), .string (S3.B bt)]] W fun e w' => e = .returned (.bool true) ∧ Below W.heap.size W w' := by
  have KS := Lib.hid (fun W hW => small_ok L W hW)
  have A := Lib.hid (Lk.At.start hW)
  have HT : Hid (total [k, n, p, bn, bd, bt] ≤ 1152921504606846976) := Lib.hid (by simp [total]; omega)
  obtain ⟨f, hf⟩ : ∃ f, f = decide (total [k, n, p, bn, bd, bt] ≤ 2000) := ⟨_, rfl⟩
  by_cases hc : total [k, n, p, bn, bd, bt] ≤ 2000
  · rw [decide_eq_true hc] at hf
    have HF := Lib.hid (hf.trans (decide_eq_true hc).symm)
    obtain rfl := hf
    simp only [total, List.flatten_cons, List.flatten_nil, List.length_append, List.length_nil] at hc
    have k1 := fun W hW => (L W hW).sealP k n p (by omega)
    obtain ⟨d, hd⟩ : ∃ d, d = mix k n p := ⟨_, rfl⟩
    obtain ⟨t, ht⟩ : ∃ t, t = tag k n d := ⟨_, rfl⟩
    have ld : d.length = p.length := by rw [hd, mix_len]
    have lt : t.length = 16 := by rw [ht, tag_len]
    rw [← hd, ← ht] at k1
    have e2 := open_seal k n p
    unfold sealV at e2
    rw [← hd, ← ht] at e2
    have k2 := fun W hW => (L W hW).openP k n d t (by omega)
    rw [e2] at k2
    have k3 := fun W hW => (L W hW).openP k n d bt (by omega)
    have e3 : (openV k ⟨n, d, bt⟩).2 = (bt == t) := by
      unfold openV
      rw [ht]
      by_cases h : bt = tag k n d
      · rw [if_pos h, h]; simp
      · rw [if_neg h]; simp [h]
    rw [e3] at k3
    obtain ⟨o, ho⟩ : ∃ o, o = (openV k ⟨n, d, bt⟩).1 := ⟨_, rfl⟩
    rw [← ho] at k3
    have k4 := fun W hW => (L W hW).openP k bn bd bt (by omega)
    have hn := open_no k ⟨bn, bd, bt⟩
    have hy := seal_open k ⟨bn, bd, bt⟩
    have lq : (openV k ⟨bn, bd, bt⟩).1.length ≤ bd.length := by
      unfold openV
      split
      · exact Nat.le_of_eq (mix_len _ _ _)
      · simp
    obtain ⟨q, hq⟩ : ∃ q, q = (openV k ⟨bn, bd, bt⟩).1 := ⟨_, rfl⟩
    have k5 := fun W hW => (L W hW).sealP k bn q (by rw [hq]; omega)
    rw [← hq] at k4 hn hy lq
    have ld' : (d.length : Int) = (p.length : Int) := by rw [ld]
    have lt' : (t.length : Int) = 16 := by rw [lt]; rfl
    have K1 := Lib.hid k1
    have K2 := Lib.hid k2
    have K3 := Lib.hid k3
    clear k1 k2 k3 e2 e3 hd ht ho ld lt
    by_cases ha : (openV k ⟨bn, bd, bt⟩).2 = true
    · rw [ha] at k4
      have h6 := hy ha
      unfold sealV at h6
      injection h6 with h7 h8 h9
      rw [h9, h8] at k5
      have K4 := Lib.hid k4
      have K5 := Lib.hid k5
      clear k4 k5 hn hy lq hq ha h7 h8 h9 hc hW hk hnn hp hbn hbd hbt
      go_enter Tryd.func4, Tryd.ntmps4
      go_wp2_with fail
      replace A := Lib.hid (A.out.alloc (.cells #[.string (S3.B bn), .string (S3.B bd), .string (S3.B bt)] 23))
      have B1 := Lib.hid (Lk.Bl.new W [.string (S3.B bn), .string (S3.B bd), .string (S3.B bt)] 23)
      generalize W.alloc (.cells #[.string (S3.B bn), .string (S3.B bd), .string (S3.B bt)] 23) = w1 at *
      refine (KS.out _ A.out.laid _ (Below.refl _ _)).mono ?_
      rintro e w2 ⟨rfl, hb⟩
      replace A := Lib.hid (A.out.step hb)
      replace B1 := Lib.hid (B1.out.step hb)
      clear hb
      have cB1_0 := B1.out.c 0 _ rfl
      have cB1_1 := B1.out.c 1 _ rfl
      have cB1_2 := B1.out.c 2 _ rfl
      go_wp2_with fail
      clear cB1_0 cB1_1 cB1_2
      replace A := Lib.hid (A.out.alloc (.cells #[.string (S3.B k), .string (S3.B n), .string (S3.B p), .string (S3.B bn), .string (S3.B bd), .string (S3.B bt)] 9))
      replace B1 := Lib.hid (B1.out.alloc (.cells #[.string (S3.B k), .string (S3.B n), .string (S3.B p), .string (S3.B bn), .string (S3.B bd), .string (S3.B bt)] 9))
      have R1 : S2.Row (w2.alloc (.cells #[.string (S3.B k), .string (S3.B n), .string (S3.B p), .string (S3.B bn), .string (S3.B bd), .string (S3.B bt)] 9)) (w2.alloc (.cells #[.string (S3.B k), .string (S3.B n), .string (S3.B p), .string (S3.B bn), .string (S3.B bd), .string (S3.B bt)] 9)).heap.size (some ⟨w2.heap.size, 0, none⟩) (S2.Ss [k, n, p, bn, bd, bt]) := Lk.strs w2 [k, n, p, bn, bd, bt]
      generalize w2.alloc (.cells #[.string (S3.B k), .string (S3.B n), .string (S3.B p), .string (S3.B bn), .string (S3.B bd), .string (S3.B bt)] 9) = w3 at *
      have q := few_any (some ⟨w2.heap.size, 0, none⟩) [k, n, p, bn, bd, bt] 6 w3 R1 (by simp) HT.out
      rw [← HF.out] at q
      refine q.mono ?_
      rintro e w4 ⟨rfl, hq⟩
      obtain rfl := hq.symm
      clear R1 q
      go_wp2_with fail
      refine (K1.out _ A.out.laid _ (Below.refl _ _)).mono ?_
      rintro e w5 ⟨rfl, hb⟩
      replace A := Lib.hid (A.out.step hb)
      replace B1 := Lib.hid (B1.out.step hb)
      clear hb
      go_wp2_with fail
      replace A := Lib.hid (A.out.alloc (.cells #[.string (S3.B n), .string (S3.B d), .string (S3.B t)] 23))
      replace B1 := Lib.hid (B1.out.alloc (.cells #[.string (S3.B n), .string (S3.B d), .string (S3.B t)] 23))
      have B2 := Lib.hid (Lk.Bl.new w5 [.string (S3.B n), .string (S3.B d), .string (S3.B t)] 23)
      generalize w5.alloc (.cells #[.string (S3.B n), .string (S3.B d), .string (S3.B t)] 23) = w6 at *
      refine (K2.out _ A.out.laid _ (Below.refl _ _)).mono ?_
      rintro e w7 ⟨rfl, hb⟩
      replace A := Lib.hid (A.out.step hb)
      replace B1 := Lib.hid (B1.out.step hb)
      replace B2 := Lib.hid (B2.out.step hb)
      clear hb
      have cB2_0 := B2.out.c 0 _ rfl
      have cB2_1 := B2.out.c 1 _ rfl
      have cB2_2 := B2.out.c 2 _ rfl
      have cB1_2 := B1.out.c 2 _ rfl
      go_wp2_with fail
      clear cB2_0 cB2_1 cB2_2 cB1_2
      refine (K3.out _ A.out.laid _ (Below.refl _ _)).mono ?_
      rintro e w8 ⟨rfl, hb⟩
      replace A := Lib.hid (A.out.step hb)
      replace B1 := Lib.hid (B1.out.step hb)
      replace B2 := Lib.hid (B2.out.step hb)
      clear hb
      have cB1_2 := B1.out.c 2 _ rfl
      have cB2_2 := B2.out.c 2 _ rfl
      have cB1_0 := B1.out.c 0 _ rfl
      have cB1_1 := B1.out.c 1 _ rfl
      go_wp2_with fail
      clear cB1_2 cB2_2 cB1_0 cB1_1
      refine (K4.out _ A.out.laid _ (Below.refl _ _)).mono ?_
      rintro e w9 ⟨rfl, hb⟩
      replace A := Lib.hid (A.out.step hb)
      replace B1 := Lib.hid (B1.out.step hb)
      replace B2 := Lib.hid (B2.out.step hb)
      clear hb
      go_wp2_with fail
      replace A := Lib.hid A.out.drew
      replace B1 := Lib.hid B1.out.drew
      replace B2 := Lib.hid B2.out.drew
      refine wp_region_held_drew (S := (fun w' => w'.cell? ⟨W.heap.size, 0, none⟩ = some (.string (S3.B bn)) ∧ w'.cell? ⟨W.heap.size, 1, none⟩ = some (.string (S3.B bd)) ∧ w'.cell? ⟨W.heap.size, 2, none⟩ = some (.string (S3.B bt)))) (by kernel_rfl) ⟨B1.out.c 0 _ rfl, B1.out.c 1 _ rfl, B1.out.c 2 _ rfl⟩ (fun hHeld => ?_)
      refine wpAnyH_take (i := 0) (oi := ⟨_, _, _, _, _, _⟩) (v := ?_) rfl (by kernel_rfl) (by kernel_rfl) (by kernel_rfl) (fun _ _ _ h => h) (Or.inl ⟨by rfl, ?_⟩) (by assumption) ?_
      rotate_left
      · intro wz hSw
        try dsimp only at hSw
        go_simp
        try with_reducible rfl
      try simp only [Act.put, List.setIfInBounds_toArray, List.set_cons_zero, List.set_cons_succ]
      refine wpAnyH_take (i := 1) (oi := ⟨_, _, _, _, _, _⟩) (v := ?_) rfl (by kernel_rfl) (by kernel_rfl) (by kernel_rfl) (fun _ _ _ h => h) (Or.inl ⟨by rfl, ?_⟩) (by assumption) ?_
      rotate_left
      · intro wz hSw
        try dsimp only at hSw
        go_simp
        try with_reducible rfl
      try simp only [Act.put, List.setIfInBounds_toArray, List.set_cons_zero, List.set_cons_succ]
      refine wpAnyH_take (i := 2) (oi := ⟨_, _, _, _, _, _⟩) (v := ?_) rfl (by kernel_rfl) (by kernel_rfl) (by kernel_rfl) (fun _ _ _ h => h) (Or.inl ⟨by rfl, ?_⟩) (by assumption) ?_
      rotate_left
      · intro wz hSw
        try dsimp only at hSw
        go_simp
        try with_reducible rfl
      try simp only [Act.put, List.setIfInBounds_toArray, List.set_cons_zero, List.set_cons_succ]
      refine wpAnyH_take (i := 3) (oi := ⟨_, _, _, _, _, _⟩) (v := ?_) rfl (by kernel_rfl) (by kernel_rfl) (by kernel_rfl) (fun _ _ _ h => h) (Or.inl ⟨by rfl, ?_⟩) (by assumption) ?_
      rotate_left
      · intro wz hSw
        try dsimp only at hSw
        go_simp
        try with_reducible rfl
      try simp only [Act.put, List.setIfInBounds_toArray, List.set_cons_zero, List.set_cons_succ]
      refine wpAnyH_take (i := 4) (oi := ⟨_, _, _, _, _, _⟩) (v := ?_) rfl (by kernel_rfl) (by kernel_rfl) (by kernel_rfl) (fun _ _ _ h => h) (Or.inl ⟨by rfl, ?_⟩) (by assumption) ?_
      rotate_left
      · intro wz hSw
        try dsimp only at hSw
        go_simp
        try with_reducible rfl
      try simp only [Act.put, List.setIfInBounds_toArray, List.set_cons_zero, List.set_cons_succ]
      refine wpAnyH_take (i := 5) (oi := ⟨_, _, _, _, _, _⟩) (v := ?_) rfl (by kernel_rfl) (by kernel_rfl) (by kernel_rfl) (fun _ _ _ h => h) (Or.inl ⟨by rfl, ?_⟩) (by assumption) ?_
      rotate_left
      · intro wz hSw
        try dsimp only at hSw
        go_simp
        try with_reducible rfl
      try simp only [Act.put, List.setIfInBounds_toArray, List.set_cons_zero, List.set_cons_succ]
      refine wpAnyH_take (i := 7) (oi := ⟨_, _, _, _, _, _⟩) (v := ?_) rfl (by kernel_rfl) (by kernel_rfl) (by kernel_rfl) (fun _ _ _ h => h) (Or.inl ⟨by rfl, ?_⟩) (by assumption) ?_
      rotate_left
      · intro wz hSw
        try dsimp only at hSw
        go_simp
        try with_reducible rfl
      try simp only [Act.put, List.setIfInBounds_toArray, List.set_cons_zero, List.set_cons_succ]
      refine wpAnyH_ready (rs := [6]) (by kernel_rfl) (by simp) ?_
      refine AllReadyH.cons (o := ⟨_, _, _, _, _, _⟩) rfl (fun K hK => ?_) AllReadyH.nil
      go_simp
      refine (K5.out _ A.out.laid _ (Below.refl _ _)).mono ?_
      rintro e w10 ⟨rfl, hb⟩
      replace A := Lib.hid (A.out.step hb)
      replace B1 := Lib.hid (B1.out.step hb)
      replace B2 := Lib.hid (B2.out.step hb)
      clear hb hHeld 
      refine hK.out _ _ ⟨B1.out.c 0 _ rfl, B1.out.c 1 _ rfl, B1.out.c 2 _ rfl⟩ (fun hHeld => ?_)
      clear hK K
      try simp only [Act.put, List.setIfInBounds_toArray, List.set_cons_zero, List.set_cons_succ]
      refine wpAnyH_take (i := 8) (oi := ⟨_, _, _, _, _, _⟩) (v := ?_) rfl (by kernel_rfl) (by kernel_rfl) (by kernel_rfl) (fun _ _ _ h => h) (Or.inl ⟨by rfl, ?_⟩) (by assumption) ?_
      rotate_left
      · intro wz hSw
        try dsimp only at hSw
        go_simp
        try with_reducible rfl
      try simp only [Act.put, List.setIfInBounds_toArray, List.set_cons_zero, List.set_cons_succ]
      refine wpAnyH_take (i := 9) (oi := ⟨_, _, _, _, _, _⟩) (v := ?_) rfl (by kernel_rfl) (by kernel_rfl) (by kernel_rfl) (fun _ _ _ h => h) (Or.inl ⟨by rfl, ?_⟩) (by assumption) ?_
      rotate_left
      · intro wz hSw
        try dsimp only at hSw
        go_simp
        try with_reducible rfl
      try simp only [Act.put, List.setIfInBounds_toArray, List.set_cons_zero, List.set_cons_succ]
      refine wpAnyH_take (i := 10) (oi := ⟨_, _, _, _, _, _⟩) (v := ?_) rfl (by kernel_rfl) (by kernel_rfl) (by kernel_rfl) (fun _ _ _ h => h) (Or.inl ⟨by rfl, ?_⟩) (by assumption) ?_
      rotate_left
      · intro wz hSw
        try dsimp only at hSw
        go_simp
        try with_reducible rfl
      try simp only [Act.put, List.setIfInBounds_toArray, List.set_cons_zero, List.set_cons_succ]
      refine wpAnyH_done (by kernel_rfl) ?_ _
      clear hHeld
      go_wp2
      go_ret
      exact ⟨rfl, A.out.bel⟩
    · have ha' := Bool.eq_false_iff.2 ha
      rw [ha', hn ha'] at k4
      have K4 := Lib.hid k4
      clear k4 k5 hn hy lq hq ha ha' hc hW hk hnn hp hbn hbd hbt
      go_enter Tryd.func4, Tryd.ntmps4
      go_wp2_with fail
      replace A := Lib.hid (A.out.alloc (.cells #[.string (S3.B bn), .string (S3.B bd), .string (S3.B bt)] 23))
      have B1 := Lib.hid (Lk.Bl.new W [.string (S3.B bn), .string (S3.B bd), .string (S3.B bt)] 23)
      generalize W.alloc (.cells #[.string (S3.B bn), .string (S3.B bd), .string (S3.B bt)] 23) = w1 at *
      refine (KS.out _ A.out.laid _ (Below.refl _ _)).mono ?_
      rintro e w2 ⟨rfl, hb⟩
      replace A := Lib.hid (A.out.step hb)
      replace B1 := Lib.hid (B1.out.step hb)
      clear hb
      have cB1_0 := B1.out.c 0 _ rfl
      have cB1_1 := B1.out.c 1 _ rfl
      have cB1_2 := B1.out.c 2 _ rfl
      go_wp2_with fail
      clear cB1_0 cB1_1 cB1_2
      replace A := Lib.hid (A.out.alloc (.cells #[.string (S3.B k), .string (S3.B n), .string (S3.B p), .string (S3.B bn), .string (S3.B bd), .string (S3.B bt)] 9))
      replace B1 := Lib.hid (B1.out.alloc (.cells #[.string (S3.B k), .string (S3.B n), .string (S3.B p), .string (S3.B bn), .string (S3.B bd), .string (S3.B bt)] 9))
      have R1 : S2.Row (w2.alloc (.cells #[.string (S3.B k), .string (S3.B n), .string (S3.B p), .string (S3.B bn), .string (S3.B bd), .string (S3.B bt)] 9)) (w2.alloc (.cells #[.string (S3.B k), .string (S3.B n), .string (S3.B p), .string (S3.B bn), .string (S3.B bd), .string (S3.B bt)] 9)).heap.size (some ⟨w2.heap.size, 0, none⟩) (S2.Ss [k, n, p, bn, bd, bt]) := Lk.strs w2 [k, n, p, bn, bd, bt]
      generalize w2.alloc (.cells #[.string (S3.B k), .string (S3.B n), .string (S3.B p), .string (S3.B bn), .string (S3.B bd), .string (S3.B bt)] 9) = w3 at *
      have q := few_any (some ⟨w2.heap.size, 0, none⟩) [k, n, p, bn, bd, bt] 6 w3 R1 (by simp) HT.out
      rw [← HF.out] at q
      refine q.mono ?_
      rintro e w4 ⟨rfl, hq⟩
      obtain rfl := hq.symm
      clear R1 q
      go_wp2_with fail
      refine (K1.out _ A.out.laid _ (Below.refl _ _)).mono ?_
      rintro e w5 ⟨rfl, hb⟩
      replace A := Lib.hid (A.out.step hb)
      replace B1 := Lib.hid (B1.out.step hb)
      clear hb
      go_wp2_with fail
      replace A := Lib.hid (A.out.alloc (.cells #[.string (S3.B n), .string (S3.B d), .string (S3.B t)] 23))
      replace B1 := Lib.hid (B1.out.alloc (.cells #[.string (S3.B n), .string (S3.B d), .string (S3.B t)] 23))
      have B2 := Lib.hid (Lk.Bl.new w5 [.string (S3.B n), .string (S3.B d), .string (S3.B t)] 23)
      generalize w5.alloc (.cells #[.string (S3.B n), .string (S3.B d), .string (S3.B t)] 23) = w6 at *
      refine (K2.out _ A.out.laid _ (Below.refl _ _)).mono ?_
      rintro e w7 ⟨rfl, hb⟩
      replace A := Lib.hid (A.out.step hb)
      replace B1 := Lib.hid (B1.out.step hb)
      replace B2 := Lib.hid (B2.out.step hb)
      clear hb
      have cB2_0 := B2.out.c 0 _ rfl
      have cB2_1 := B2.out.c 1 _ rfl
      have cB2_2 := B2.out.c 2 _ rfl
      have cB1_2 := B1.out.c 2 _ rfl
      go_wp2_with fail
      clear cB2_0 cB2_1 cB2_2 cB1_2
      refine (K3.out _ A.out.laid _ (Below.refl _ _)).mono ?_
      rintro e w8 ⟨rfl, hb⟩
      replace A := Lib.hid (A.out.step hb)
      replace B1 := Lib.hid (B1.out.step hb)
      replace B2 := Lib.hid (B2.out.step hb)
      clear hb
      have cB1_2 := B1.out.c 2 _ rfl
      have cB2_2 := B2.out.c 2 _ rfl
      have cB1_0 := B1.out.c 0 _ rfl
      have cB1_1 := B1.out.c 1 _ rfl
      go_wp2_with fail
      clear cB1_2 cB2_2 cB1_0 cB1_1
      refine (K4.out _ A.out.laid _ (Below.refl _ _)).mono ?_
      rintro e w9 ⟨rfl, hb⟩
      replace A := Lib.hid (A.out.step hb)
      replace B1 := Lib.hid (B1.out.step hb)
      replace B2 := Lib.hid (B2.out.step hb)
      clear hb
      go_wp2
      go_ret
      exact ⟨rfl, A.out.bel⟩
  · rw [decide_eq_false hc] at hf
    have HF := Lib.hid (hf.trans (decide_eq_false hc).symm)
    obtain rfl := hf
    clear hc hW hk hnn hp hbn hbd hbt
    go_enter Tryd.func4, Tryd.ntmps4
    go_wp2_with fail
    replace A := Lib.hid (A.out.alloc (.cells #[.string (S3.B bn), .string (S3.B bd), .string (S3.B bt)] 23))
    have B1 := Lib.hid (Lk.Bl.new W [.string (S3.B bn), .string (S3.B bd), .string (S3.B bt)] 23)
    generalize W.alloc (.cells #[.string (S3.B bn), .string (S3.B bd), .string (S3.B bt)] 23) = w1 at *
    refine (KS.out _ A.out.laid _ (Below.refl _ _)).mono ?_
    rintro e w2 ⟨rfl, hb⟩
    replace A := Lib.hid (A.out.step hb)
    replace B1 := Lib.hid (B1.out.step hb)
    clear hb
    have cB1_0 := B1.out.c 0 _ rfl
    have cB1_1 := B1.out.c 1 _ rfl
    have cB1_2 := B1.out.c 2 _ rfl
    go_wp2_with fail
    clear cB1_0 cB1_1 cB1_2
    replace A := Lib.hid (A.out.alloc (.cells #[.string (S3.B k), .string (S3.B n), .string (S3.B p), .string (S3.B bn), .string (S3.B bd), .string (S3.B bt)] 9))
    replace B1 := Lib.hid (B1.out.alloc (.cells #[.string (S3.B k), .string (S3.B n), .string (S3.B p), .string (S3.B bn), .string (S3.B bd), .string (S3.B bt)] 9))
    have R1 : S2.Row (w2.alloc (.cells #[.string (S3.B k), .string (S3.B n), .string (S3.B p), .string (S3.B bn), .string (S3.B bd), .string (S3.B bt)] 9)) (w2.alloc (.cells #[.string (S3.B k), .string (S3.B n), .string (S3.B p), .string (S3.B bn), .string (S3.B bd), .string (S3.B bt)] 9)).heap.size (some ⟨w2.heap.size, 0, none⟩) (S2.Ss [k, n, p, bn, bd, bt]) := Lk.strs w2 [k, n, p, bn, bd, bt]
    generalize w2.alloc (.cells #[.string (S3.B k), .string (S3.B n), .string (S3.B p), .string (S3.B bn), .string (S3.B bd), .string (S3.B bt)] 9) = w3 at *
    have q := few_any (some ⟨w2.heap.size, 0, none⟩) [k, n, p, bn, bd, bt] 6 w3 R1 (by simp) HT.out
    rw [← HF.out] at q
    refine q.mono ?_
    rintro e w4 ⟨rfl, hq⟩
    obtain rfl := hq.symm
    clear R1 q
    go_wp2
    go_ret
    exact ⟨rfl, A.out.bel⟩
end Se
end Go.Proofs.YtgldbfdiebkfiaaDoor
