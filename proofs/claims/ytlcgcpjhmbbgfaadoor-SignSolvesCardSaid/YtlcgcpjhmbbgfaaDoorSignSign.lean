/-
  Layer 5: Sign.
-/
import Derived.Test.YtlcgcpjhmbbgfaaDoorSignRight
namespace Go.Proofs.YtlcgcpjhmbbgfaaDoor
open Go.RowKit
namespace Sg
attribute [local go_sem] S3.B_size S3.B_app

set_option maxHeartbeats 4000000 in
set_option maxRecDepth 100000 in
theorem psign_ok (W : World) (hW : S3.Laid W) (x y : Int) (m : List UInt8) (ix : isI x) (iy : isI y) (hm : m.length ≤ 2000) : Ok W 17 #[.agg #[.int .i64 x, .int .i64 y], .string (S3.B m)] (keyC (signV x y m)) := by
  intro w hb
  have k1 := fun W (_ : S3.Laid W) => pright_ok W x y ix
  have A := Lib.hid (((At.mk (W := W) hb (laid_below hW hb)).alloc (.cells #[.int .i64 x, .int .i64 y] 23)).alloc (.cells #[.int .i64 0, .int .i64 0] 30))
  have B0 := Lib.hid ((Blk.new w x y 23).alloc (.cells #[.int .i64 0, .int .i64 0] 30))
  have HA0 := Lib.hid (S3.alloc2_snd w #[.int .i64 x, .int .i64 y] #[.int .i64 0, .int .i64 0] 23 30)
  have HL : Hid (w.heap.size + 1 < ((w.alloc (.cells #[.int .i64 x, .int .i64 y] 23)).alloc (.cells #[.int .i64 0, .int .i64 0] 30)).heap.size) := Lib.hid (by simp)
  have hge : Hid (W.heap.size ≤ w.heap.size + 1) := Lib.hid (by have := hb.size; omega)
  have P := Lib.hid (Below.refl ((w.alloc (.cells #[.int .i64 x, .int .i64 y] 23)).alloc (.cells #[.int .i64 0, .int .i64 0] 30)).heap.size ((w.alloc (.cells #[.int .i64 x, .int .i64 y] 23)).alloc (.cells #[.int .i64 0, .int .i64 0] 30)))
  unfold keyC signV
  clear hb
  by_cases hr : Rt x y
  · rw [decide_eq_true hr] at k1
    rw [if_pos hr]
    unfold sigU
    have kA := fun W (_ : S3.Laid W) => text_ok W [110, 111, 110, 99, 101] (by decide)
    have kB := fun W (_ : S3.Laid W) => num_ok W x ix
    have kC := fun W (_ : S3.Laid W) => text_ok W m (by omega)
    have hlt := hash_lt (nonS x m)
    have kR := fun w => red_ok w (hash (nonS x m) : Nat) (by omega)
    rw [show (1 : Int) + ((hash (nonS x m) : Nat) : Int) % 2305843009213693949 = (non x m : Nat) by unfold non sec; omega] at kR
    have hu := sec_lt (nonS x m)
    rw [show sec (nonS x m) = non x m from rfl] at hu
    have hh : hash [tNonce, encZ x, S2.Cd.encT m].flatten = hash (nonS x m) := by
      congr 1
      simp [nonS]
    generalize hash (nonS x m) = h at kR hh
    obtain ⟨u, hud⟩ : ∃ u, u = non x m := ⟨_, rfl⟩
    rw [← hud] at kR hu ⊢
    have iu : isI (u : Int) := by unfold isI S4.isI64; omega
    have kE := fun W (_ : S3.Laid W) => exp_ok W 37 u (by unfold isI S4.isI64; omega) iu
    rw [show S4.powP 37 u = pub u from rfl] at kE
    have hp := pub_lt u
    have ip : isI (pub u : Nat) := by unfold isI S4.isI64; omega
    have kF : ∀ W : World, S3.Laid W → Ok W 35 #[.int .i64 (pub u : Nat), .int .i64 y, .string (S3.B m)] (.int .i64 (chal (pub u : Nat) y m : Nat)) := fun W hW w hb => (pchal_ok w (laid_below hW hb) (pub u : Nat) y m ip iy hm).mono fun _ _ h => ⟨h.1, hb.trans (h.2.mono hb.size)⟩
    have hcl := chal_lt (pub u : Nat) y m
    have kG := fun W (_ : S3.Laid W) => mulN_ok W (chal (pub u : Nat) y m : Nat) x (by unfold isI S4.isI64; omega) ix
    have kH := fun W (_ : S3.Laid W) => addN_ok W u ((chal (pub u : Nat) y m : Nat) * x % 2305843009213693950) iu (by unfold isI S4.isI64; omega)
    obtain ⟨s, hs⟩ : ∃ s, s = ((u : Int) + (chal (pub u : Nat) y m : Nat) * x % 2305843009213693950) % 2305843009213693950 := ⟨_, rfl⟩
    rw [← hs] at kH ⊢
    obtain ⟨p, hpd⟩ : ∃ p, p = ((chal (pub u : Nat) y m : Nat) : Int) * x % 2305843009213693950 := ⟨_, rfl⟩
    rw [← hpd] at kG kH
    obtain ⟨c, hc⟩ : ∃ c, c = chal (pub u : Nat) y m := ⟨_, rfl⟩
    rw [← hc] at kF kG ⊢
    generalize pub u = r at kE kF
    have l1 := tNonce_len
    have l2 := encZ_len x
    have l4 := encT_len m
    rw [show S2.Cd.encT [110, 111, 110, 99, 101] = tNonce from rfl] at kA
    generalize tNonce = a at kA hh l1
    generalize encZ x = b at kB hh l2
    generalize S2.Cd.encT m = f at kC hh l4
    have l1' : a.length ≤ 6 := by omega
    have l4' : f.length ≤ 2009 := by omega
    have K1 := Lib.hid k1
    have KA := Lib.hid kA
    have KB := Lib.hid kB
    have KC := Lib.hid kC
    have KR := Lib.hid kR
    have KE := Lib.hid kE
    have KF := Lib.hid kF
    have KG := Lib.hid kG
    have KH := Lib.hid kH
    have HS := Lib.hid hh
    clear k1 kA kB kC kR kE kF kG kH l1 l4 hs hpd hc hp ip iu hud hu hr hm ix iy hW hlt hh hcl
    go_enter Tryd.func17, Tryd.ntmps17
    go_wp2_with fail
    generalize (w.alloc (.cells #[.int .i64 x, .int .i64 y] 23)).alloc (.cells #[.int .i64 0, .int .i64 0] 30) = w0 at *
    refine (K1.out _ A.out.laid _ (Below.refl _ _)).mono ?_
    rintro e w1 ⟨rfl, hb⟩
    replace A := Lib.hid (A.out.step hb)
    replace P := Lib.hid (P.out.trans (hb.mono P.out.size))
    replace B0 := Lib.hid (B0.out.step hb)
    clear hb
    go_wp2_with fail
    replace A := Lib.hid A.out.drew
    replace P := Lib.hid P.out.drew
    replace B0 := Lib.hid B0.out.drew
    refine wp_region_held_drew (S := (fun w' => w'.cell? ⟨w.heap.size, 0, none⟩ = some (.int .i64 x) ∧ w'.cell? ⟨w.heap.size, 1, none⟩ = some (.int .i64 y))) (by kernel_rfl) ⟨B0.out.c0, B0.out.c1⟩ (fun hHeld => ?_)
    refine wpAnyH_take (i := 1) (oi := ⟨_, _, _, _, _, _⟩) (v := ?_) rfl (by kernel_rfl) (by kernel_rfl) (by kernel_rfl) (fun _ _ _ h => h) (Or.inl ⟨by rfl, ?_⟩) (by assumption) ?_
    rotate_left
    · intro wz hSw
      try dsimp only at hSw
      go_simp
      try with_reducible rfl
    try simp only [Act.put, List.setIfInBounds_toArray, List.set_cons_zero, List.set_cons_succ]
    refine wpAnyH_take (i := 2) (oi := ⟨_, _, _, _, _, _⟩) (v := ?_) rfl (by kernel_rfl) (by kernel_rfl) (by kernel_rfl) (fun _ _ _ h => h) (Or.inl ⟨by rfl, ?_⟩) (by assumption) ?_
    rotate_left
    · intro wz hSw
      try dsimp only at hSw
      go_simp
      try with_reducible rfl
    try simp only [Act.put, List.setIfInBounds_toArray, List.set_cons_zero, List.set_cons_succ]
    refine wpAnyH_take (i := 4) (oi := ⟨_, _, _, _, _, _⟩) (v := ?_) rfl (by kernel_rfl) (by kernel_rfl) (by kernel_rfl) (fun _ _ _ h => h) (Or.inl ⟨by rfl, ?_⟩) (by assumption) ?_
    rotate_left
    · intro wz hSw
      try dsimp only at hSw
      go_simp
      try with_reducible rfl
    try simp only [Act.put, List.setIfInBounds_toArray, List.set_cons_zero, List.set_cons_succ]
    refine wpAnyH_ready (rs := [0]) (by kernel_rfl) (by simp) ?_
    refine AllReadyH.cons (o := ⟨_, _, _, _, _, _⟩) rfl (fun K hK => ?_) AllReadyH.nil
    go_simp
    refine (KA.out _ A.out.laid _ (Below.refl _ _)).mono ?_
    rintro e w2 ⟨rfl, hb⟩
    replace A := Lib.hid (A.out.step hb)
    replace P := Lib.hid (P.out.trans (hb.mono P.out.size))
    replace B0 := Lib.hid (B0.out.step hb)
    clear hb hHeld
    refine hK.out _ _ ⟨B0.out.c0, B0.out.c1⟩ (fun hHeld => ?_)
    clear hK K
    try simp only [Act.put, List.setIfInBounds_toArray, List.set_cons_zero, List.set_cons_succ]
    refine wpAnyH_ready (rs := [3]) (by kernel_rfl) (by simp) ?_
    refine AllReadyH.cons (o := ⟨_, _, _, _, _, _⟩) rfl (fun K hK => ?_) AllReadyH.nil
    go_simp
    refine (KB.out _ A.out.laid _ (Below.refl _ _)).mono ?_
    rintro e w3 ⟨rfl, hb⟩
    replace A := Lib.hid (A.out.step hb)
    replace P := Lib.hid (P.out.trans (hb.mono P.out.size))
    replace B0 := Lib.hid (B0.out.step hb)
    clear hb hHeld
    refine hK.out _ _ ⟨B0.out.c0, B0.out.c1⟩ (fun hHeld => ?_)
    clear hK K
    try simp only [Act.put, List.setIfInBounds_toArray, List.set_cons_zero, List.set_cons_succ]
    refine wpAnyH_ready (rs := [5]) (by kernel_rfl) (by simp) ?_
    refine AllReadyH.cons (o := ⟨_, _, _, _, _, _⟩) rfl (fun K hK => ?_) AllReadyH.nil
    go_simp
    refine (KC.out _ A.out.laid _ (Below.refl _ _)).mono ?_
    rintro e w4 ⟨rfl, hb⟩
    replace A := Lib.hid (A.out.step hb)
    replace P := Lib.hid (P.out.trans (hb.mono P.out.size))
    replace B0 := Lib.hid (B0.out.step hb)
    clear hb hHeld
    refine hK.out _ _ ⟨B0.out.c0, B0.out.c1⟩ (fun hHeld => ?_)
    clear hK K
    try simp only [Act.put, List.setIfInBounds_toArray, List.set_cons_zero, List.set_cons_succ]
    refine wpAnyH_ready (rs := [6]) (by kernel_rfl) (by simp) ?_
    refine AllReadyH.cons (o := ⟨_, _, _, _, _, _⟩) rfl (fun K hK => ?_) AllReadyH.nil
    go_simp
    have hrow := strs_row w4 [a, b, f]
    replace A := Lib.hid (A.out.alloc (.cells #[.string (S3.B a), .string (S3.B b), .string (S3.B f)] 9))
    replace P := Lib.hid (P.out.alloc P.out.size (.cells #[.string (S3.B a), .string (S3.B b), .string (S3.B f)] 9))
    replace B0 := Lib.hid (B0.out.alloc (.cells #[.string (S3.B a), .string (S3.B b), .string (S3.B f)] 9))
    clear hHeld
    refine hK.out _ _ ⟨B0.out.c0, B0.out.c1⟩ (fun hHeld => ?_)
    clear hK K
    try simp only [Act.put, List.setIfInBounds_toArray, List.set_cons_zero, List.set_cons_succ]
    refine wpAnyH_ready (rs := [7]) (by kernel_rfl) (by simp) ?_
    refine AllReadyH.cons (o := ⟨_, _, _, _, _, _⟩) rfl (fun K hK => ?_) AllReadyH.nil
    go_simp
    refine (phash_any w4.heap.size 3 [a, b, f] (w4.alloc (.cells #[.string (S3.B a), .string (S3.B b), .string (S3.B f)] 9)) A.out.laid hrow (by simp) (by simp) (by simp) (by simp; omega)).mono ?_
    rw [HS.out]
    rintro e w5 ⟨rfl, hb⟩
    replace A := Lib.hid (A.out.step hb)
    replace P := Lib.hid (P.out.trans (hb.mono P.out.size))
    replace B0 := Lib.hid (B0.out.step hb)
    clear hb hHeld hrow
    refine hK.out _ _ ⟨B0.out.c0, B0.out.c1⟩ (fun hHeld => ?_)
    clear hK K
    try simp only [Act.put, List.setIfInBounds_toArray, List.set_cons_zero, List.set_cons_succ]
    refine wpAnyH_ready (rs := [8]) (by kernel_rfl) (by simp) ?_
    refine AllReadyH.cons (o := ⟨_, _, _, _, _, _⟩) rfl (fun K hK => ?_) AllReadyH.nil
    go_simp
    refine (KR.out _).mono ?_
    rintro e v ⟨rfl, rfl⟩
    clear hHeld
    refine hK.out _ _ ⟨B0.out.c0, B0.out.c1⟩ (fun hHeld => ?_)
    clear hK K
    try simp only [Act.put, List.setIfInBounds_toArray, List.set_cons_zero, List.set_cons_succ]
    refine wpAnyH_take (i := 9) (oi := ⟨_, _, _, _, _, _⟩) (v := ?_) rfl (by kernel_rfl) (by kernel_rfl) (by kernel_rfl) (fun _ _ _ h => h) (Or.inl ⟨by rfl, ?_⟩) (by assumption) ?_
    rotate_left
    · intro wz hSw
      try dsimp only at hSw
      go_simp
      try with_reducible rfl
    try simp only [Act.put, List.setIfInBounds_toArray, List.set_cons_zero, List.set_cons_succ]
    refine wpAnyH_done (by kernel_rfl) ?_ _
    clear hHeld
    go_wp2_with fail
    replace A := Lib.hid A.out.drew
    replace P := Lib.hid P.out.drew
    replace B0 := Lib.hid B0.out.drew
    refine wp_region_held_drew (S := (fun w' => w'.cell? ⟨w.heap.size, 0, none⟩ = some (.int .i64 x) ∧ w'.cell? ⟨w.heap.size, 1, none⟩ = some (.int .i64 y))) (by kernel_rfl) ⟨B0.out.c0, B0.out.c1⟩ (fun hHeld => ?_)
    refine wpAnyH_take (i := 0) (oi := ⟨_, _, _, _, _, _⟩) (v := ?_) rfl (by kernel_rfl) (by kernel_rfl) (by kernel_rfl) (fun _ _ _ h => h) (Or.inl ⟨by rfl, ?_⟩) (by assumption) ?_
    rotate_left
    · intro wz hSw
      try dsimp only at hSw
      go_simp
      try with_reducible rfl
    try simp only [Act.put, List.setIfInBounds_toArray, List.set_cons_zero, List.set_cons_succ]
    refine wpAnyH_take (i := 2) (oi := ⟨_, _, _, _, _, _⟩) (v := ?_) rfl (by kernel_rfl) (by kernel_rfl) (by kernel_rfl) (fun _ _ _ h => h) (Or.inl ⟨by rfl, ?_⟩) (by assumption) ?_
    rotate_left
    · intro wz hSw
      try dsimp only at hSw
      go_simp
      try with_reducible rfl
    try simp only [Act.put, List.setIfInBounds_toArray, List.set_cons_zero, List.set_cons_succ]
    refine wpAnyH_take (i := 3) (oi := ⟨_, _, _, _, _, _⟩) (v := ?_) rfl (by kernel_rfl) (by kernel_rfl) (by kernel_rfl) (fun _ _ _ h => h) (Or.inl ⟨by rfl, ?_⟩) (by assumption) ?_
    rotate_left
    · intro wz hSw
      try dsimp only at hSw
      go_simp
      try with_reducible rfl
    try simp only [Act.put, List.setIfInBounds_toArray, List.set_cons_zero, List.set_cons_succ]
    refine wpAnyH_take (i := 4) (oi := ⟨_, _, _, _, _, _⟩) (v := ?_) rfl (by kernel_rfl) (by kernel_rfl) (by kernel_rfl) (fun _ _ _ h => h) (Or.inl ⟨by rfl, ?_⟩) (by assumption) ?_
    rotate_left
    · intro wz hSw
      try dsimp only at hSw
      go_simp
      try with_reducible rfl
    try simp only [Act.put, List.setIfInBounds_toArray, List.set_cons_zero, List.set_cons_succ]
    refine wpAnyH_ready (rs := [1]) (by kernel_rfl) (by simp) ?_
    refine AllReadyH.cons (o := ⟨_, _, _, _, _, _⟩) rfl (fun K hK => ?_) AllReadyH.nil
    go_simp
    refine (KE.out _ A.out.laid _ (Below.refl _ _)).mono ?_
    rintro e w6 ⟨rfl, hb⟩
    replace A := Lib.hid (A.out.step hb)
    replace P := Lib.hid (P.out.trans (hb.mono P.out.size))
    replace B0 := Lib.hid (B0.out.step hb)
    clear hb hHeld
    refine hK.out _ _ ⟨B0.out.c0, B0.out.c1⟩ (fun hHeld => ?_)
    clear hK K
    try simp only [Act.put, List.setIfInBounds_toArray, List.set_cons_zero, List.set_cons_succ]
    refine wpAnyH_ready (rs := [5]) (by kernel_rfl) (by simp) ?_
    refine AllReadyH.cons (o := ⟨_, _, _, _, _, _⟩) rfl (fun K hK => ?_) AllReadyH.nil
    go_simp
    refine (KF.out _ A.out.laid _ (Below.refl _ _)).mono ?_
    rintro e w7 ⟨rfl, hb⟩
    replace A := Lib.hid (A.out.step hb)
    replace P := Lib.hid (P.out.trans (hb.mono P.out.size))
    replace B0 := Lib.hid (B0.out.step hb)
    clear hb hHeld
    refine hK.out _ _ ⟨B0.out.c0, B0.out.c1⟩ (fun hHeld => ?_)
    clear hK K
    try simp only [Act.put, List.setIfInBounds_toArray, List.set_cons_zero, List.set_cons_succ]
    refine wpAnyH_take (i := 6) (oi := ⟨_, _, _, _, _, _⟩) (v := ?_) rfl (by kernel_rfl) (by kernel_rfl) (by kernel_rfl) (fun _ _ _ h => h) (Or.inl ⟨by rfl, ?_⟩) (by assumption) ?_
    rotate_left
    · intro wz hSw
      try dsimp only at hSw
      go_simp
      try with_reducible rfl
    try simp only [Act.put, List.setIfInBounds_toArray, List.set_cons_zero, List.set_cons_succ]
    refine wpAnyH_done (by kernel_rfl) ?_ _
    clear hHeld
    have cB00 := B0.out.c0
    have cB01 := B0.out.c1
    go_wp2_with fail
    clear cB00 cB01
    refine (KG.out _ A.out.laid _ (Below.refl _ _)).mono ?_
    rintro e w8 ⟨rfl, hb⟩
    replace A := Lib.hid (A.out.step hb)
    replace P := Lib.hid (P.out.trans (hb.mono P.out.size))
    replace B0 := Lib.hid (B0.out.step hb)
    clear hb
    go_wp2_with fail
    refine (KH.out _ A.out.laid _ (Below.refl _ _)).mono ?_
    rintro e w9 ⟨rfl, hb⟩
    replace A := Lib.hid (A.out.step hb)
    replace P := Lib.hid (P.out.trans (hb.mono P.out.size))
    replace B0 := Lib.hid (B0.out.step hb)
    clear hb
    have HA := Lib.hid ((P.out.block _ HL.out).trans HA0.out)
    go_wp2_with (refine S3.wpList_store_row rfl 30 _ _ rfl (w.heap.size + 1) _ rfl rfl 30 _ HA.out (infoSig _ _) rfl (by simp [Value.oneCell']) ?_)
    exact bodyPost_ret (v := .agg #[.int .i64 c, .int .i64 s]) (results_cell_row Tryd.results17 _ _ (w.heap.size + 1) 30 _ (0, 0) _ rfl (setRow_heap _ _ _ _ _ _ HA.out) Tryd.underlying30 rfl (infoSig _ _)) rfl
      ⟨rfl, below_setRow A.out.bel _ hge.out _⟩
  · rw [decide_eq_false hr] at k1
    rw [if_neg hr]
    have K1 := Lib.hid k1
    clear k1 ix iy hm hr hW
    go_enter Tryd.func17, Tryd.ntmps17
    go_wp2_with fail
    generalize (w.alloc (.cells #[.int .i64 x, .int .i64 y] 23)).alloc (.cells #[.int .i64 0, .int .i64 0] 30) = w0 at *
    refine (K1.out _ A.out.laid _ (Below.refl _ _)).mono ?_
    rintro e w1 ⟨rfl, hb⟩
    replace A := Lib.hid (A.out.step hb)
    replace P := Lib.hid (P.out.trans (hb.mono P.out.size))
    replace B0 := Lib.hid (B0.out.step hb)
    clear hb
    have HA := Lib.hid ((P.out.block _ HL.out).trans HA0.out)
    go_wp2_with (refine S3.wpList_store_row rfl 30 _ _ rfl (w.heap.size + 1) _ rfl rfl 30 _ HA.out (infoSig _ _) rfl (by simp [Value.oneCell']) ?_)
    exact bodyPost_ret (v := .agg #[.int .i64 0, .int .i64 0]) (results_cell_row Tryd.results17 _ _ (w.heap.size + 1) 30 _ (0, 0) _ rfl (setRow_heap _ _ _ _ _ _ HA.out) Tryd.underlying30 rfl (infoSig _ _)) rfl
      ⟨rfl, below_setRow A.out.bel _ hge.out _⟩
end Sg
end Go.Proofs.YtlcgcpjhmbbgfaaDoor
