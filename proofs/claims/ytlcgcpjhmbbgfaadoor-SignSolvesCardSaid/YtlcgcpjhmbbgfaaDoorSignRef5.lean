/-
  Layer 5: the reference: Sign.
-/
import Derived.Test.YtlcgcpjhmbbgfaaDoorSignRef4
namespace Go.Proofs.YtlcgcpjhmbbgfaaDoor
open Go.RowKit
namespace Sg
attribute [local go_sem] S3.B_size S3.B_app

set_option maxHeartbeats 4000000 in
set_option maxRecDepth 100000 in
theorem rsign_ok (W : World) (x y : Int) (m : List UInt8) (ix : isI x) (iy : isI y) (hm : m.length ≤ 3900) : Ok W 18 #[.agg #[.int .i64 x, .int .i64 y], .string (S3.B m)] (keyC (signV x y m)) := by
  intro w hb
  have k1 := fun W => rright_ok W x y ix
  have hw := Lib.hid hb.size
  have g := Lib.hid ((hb.alloc hb.size (.cells #[.int .i64 x, .int .i64 y] 23)).alloc (Nat.le_trans hb.size (by simp)) (.cells #[.int .i64 0, .int .i64 0] 30))
  have hC := S3.alloc2_fst w #[.int .i64 x, .int .i64 y] #[.int .i64 0, .int .i64 0] 23 30
  have HA0 := Lib.hid (S3.alloc2_snd w #[.int .i64 x, .int .i64 y] #[.int .i64 0, .int .i64 0] 23 30)
  have HC : Hid (((w.alloc (.cells #[.int .i64 x, .int .i64 y] 23)).alloc (.cells #[.int .i64 0, .int .i64 0] 30)).cell? ⟨w.heap.size, 0, none⟩ = some (.int .i64 x) ∧ ((w.alloc (.cells #[.int .i64 x, .int .i64 y] 23)).alloc (.cells #[.int .i64 0, .int .i64 0] 30)).cell? ⟨w.heap.size, 1, none⟩ = some (.int .i64 y)) := Lib.hid ⟨by rw [cell_of_row _ _ _ _ _ _ hC]; rfl, by rw [cell_of_row _ _ _ _ _ _ hC]; rfl⟩
  have HZ : Hid (w.heap.size < ((w.alloc (.cells #[.int .i64 x, .int .i64 y] 23)).alloc (.cells #[.int .i64 0, .int .i64 0] 30)).heap.size) := Lib.hid (by simp; omega)
  have HZ1 : Hid (w.heap.size + 1 < ((w.alloc (.cells #[.int .i64 x, .int .i64 y] 23)).alloc (.cells #[.int .i64 0, .int .i64 0] 30)).heap.size) := Lib.hid (by simp)
  unfold keyC signV
  clear hC
  by_cases hr : Rt x y
  · rw [decide_eq_true hr] at k1
    rw [if_pos hr]
    unfold sigU
    have kA := fun W => rtext_ok W [110, 111, 110, 99, 101] (by decide)
    have kB := fun W => rnum_ok W x ix
    have kC := fun W => rtext_ok W m (by omega)
    have kD := fun W => rsec_ok W (nonS x m) (by have := nonS_len x m; omega)
    rw [show sec (nonS x m) = non x m from rfl] at kD
    have hu := sec_lt (nonS x m)
    rw [show sec (nonS x m) = non x m from rfl] at hu
    obtain ⟨u, hud⟩ : ∃ u, u = non x m := ⟨_, rfl⟩
    rw [← hud] at kD hu ⊢
    have iu : isI (u : Int) := by unfold isI S4.isI64; omega
    have kE := fun W => rexp_ok W 37 u iu
    rw [show S4.powP 37 u = pub u from rfl] at kE
    have hp := pub_lt u
    have kF := fun W => rchal_ok W (pub u : Nat) y m (by unfold isI S4.isI64; omega) iy hm
    have kG := fun W => rmulN_ok W (chal (pub u : Nat) y m : Nat) x
    have kH := fun W => raddN_ok W u ((chal (pub u : Nat) y m : Nat) * x % 2305843009213693950)
    obtain ⟨s, hs⟩ : ∃ s, s = ((u : Int) + (chal (pub u : Nat) y m : Nat) * x % 2305843009213693950) % 2305843009213693950 := ⟨_, rfl⟩
    rw [← hs] at kH ⊢
    obtain ⟨p, hpd⟩ : ∃ p, p = ((chal (pub u : Nat) y m : Nat) : Int) * x % 2305843009213693950 := ⟨_, rfl⟩
    rw [← hpd] at kG kH
    obtain ⟨c, hc⟩ : ∃ c, c = chal (pub u : Nat) y m := ⟨_, rfl⟩
    rw [← hc] at kF kG ⊢
    generalize pub u = r at kE kF
    have l1 := tNonce_len
    have l2 := encZ_len x
    have l4 := encT_len m
    rw [show nonS x m = tNonce ++ encZ x ++ S2.Cd.encT m from rfl] at kD
    simp only [List.append_assoc] at kD
    rw [show S2.Cd.encT [110, 111, 110, 99, 101] = tNonce from rfl] at kA
    generalize tNonce = a at kA kD l1
    generalize encZ x = b at kB kD l2
    generalize S2.Cd.encT m = f at kC kD l4
    have l1' : a.length ≤ 6 := by omega
    have l4' : f.length ≤ 3909 := by omega
    have K1 := Lib.hid k1
    have KA := Lib.hid kA
    have KB := Lib.hid kB
    have KC := Lib.hid kC
    have KD := Lib.hid kD
    have KE := Lib.hid kE
    have KF := Lib.hid kF
    have KG := Lib.hid kG
    have KH := Lib.hid kH
    clear k1 kA kB kC kD kE kF kG kH l1 l4 hs hpd hc hp iu hud hu hr hm ix iy hb
    go_enter Tryd.func18, Tryd.ntmps18
    go_wp2_with fail
    generalize (w.alloc (.cells #[.int .i64 x, .int .i64 y] 23)).alloc (.cells #[.int .i64 0, .int .i64 0] 30) = w0 at *
    refine (K1.out w0 _ (Below.refl _ _)).mono ?_
    rintro e w1 ⟨rfl, h1⟩
    have G := Lib.hid h1
    clear h1
    have HDw1 : Hid (w1.cell? ⟨w.heap.size, 0, none⟩ = some (.int .i64 x) ∧ w1.cell? ⟨w.heap.size, 1, none⟩ = some (.int .i64 y)) := Lib.hid ⟨(G.out.cell (p := ⟨w.heap.size, 0, none⟩) HZ.out).trans HC.out.1, (G.out.cell (p := ⟨w.heap.size, 1, none⟩) HZ.out).trans HC.out.2⟩
    go_wp2_with fail
    refine wp_region_held_drew (S := (fun w' => w'.cell? ⟨w.heap.size, 0, none⟩ = some (.int .i64 x) ∧ w'.cell? ⟨w.heap.size, 1, none⟩ = some (.int .i64 y))) (by kernel_rfl) ⟨HDw1.out.1, HDw1.out.2⟩ (fun hHeld => ?_)
    refine wpAnyH_take (i := 1) (oi := ⟨_, _, _, _, _, _⟩) (v := ?_) rfl (by kernel_rfl) (by kernel_rfl) (by kernel_rfl) (fun _ _ _ h => h) (Or.inl ⟨by rfl, ?_⟩) (by assumption) ?_
    rotate_left
    · intro wz hSw
      try dsimp only at hSw
      go_simp
      try with_reducible rfl
    try simp only [Act.put, List.setIfInBounds_toArray, List.set_cons_zero, List.set_cons_succ]
    refine wpAnyH_take (i := 2) (oi := ⟨_, _, _, _, _, _⟩) (v := ?_) rfl (by kernel_rfl) (by kernel_rfl) (by kernel_rfl) (fun _ _ _ h => h) (Or.inl ⟨by rfl, ?_⟩) (by assumption) ?_
    rotate_left
    · intro wz hSw
      try dsimp only at hSw
      go_simp
      try with_reducible rfl
    try simp only [Act.put, List.setIfInBounds_toArray, List.set_cons_zero, List.set_cons_succ]
    refine wpAnyH_take (i := 5) (oi := ⟨_, _, _, _, _, _⟩) (v := ?_) rfl (by kernel_rfl) (by kernel_rfl) (by kernel_rfl) (fun _ _ _ h => h) (Or.inl ⟨by rfl, ?_⟩) (by assumption) ?_
    rotate_left
    · intro wz hSw
      try dsimp only at hSw
      go_simp
      try with_reducible rfl
    try simp only [Act.put, List.setIfInBounds_toArray, List.set_cons_zero, List.set_cons_succ]
    refine wpAnyH_ready (rs := [0]) (by kernel_rfl) (by simp) ?_
    refine AllReadyH.cons (o := ⟨_, _, _, _, _, _⟩) rfl (fun K hK => ?_) AllReadyH.nil
    go_simp
    refine (KA.out w0 _ G.out.drew).mono ?_
    rintro e w2 ⟨rfl, hb⟩
    have Gw2 := Lib.hid hb
    have d0 := (hb.cell (p := ⟨w.heap.size, 0, none⟩) HZ.out).trans HC.out.1
    have d1 := (hb.cell (p := ⟨w.heap.size, 1, none⟩) HZ.out).trans HC.out.2
    clear hb
    refine hK.out _ _ ⟨d0, d1⟩ (fun hHeld => ?_)
    clear hK K d0 d1
    try simp only [Act.put, List.setIfInBounds_toArray, List.set_cons_zero, List.set_cons_succ]
    refine wpAnyH_ready (rs := [3]) (by kernel_rfl) (by simp) ?_
    refine AllReadyH.cons (o := ⟨_, _, _, _, _, _⟩) rfl (fun K hK => ?_) AllReadyH.nil
    go_simp
    refine (KB.out w0 _ Gw2.out).mono ?_
    rintro e w3 ⟨rfl, hb⟩
    have Gw3 := Lib.hid hb
    have d0 := (hb.cell (p := ⟨w.heap.size, 0, none⟩) HZ.out).trans HC.out.1
    have d1 := (hb.cell (p := ⟨w.heap.size, 1, none⟩) HZ.out).trans HC.out.2
    clear hb
    refine hK.out _ _ ⟨d0, d1⟩ (fun hHeld => ?_)
    clear hK K d0 d1
    try simp only [Act.put, List.setIfInBounds_toArray, List.set_cons_zero, List.set_cons_succ]
    refine wpAnyH_take (i := 4) (oi := ⟨_, _, _, _, _, _⟩) (v := .string (S3.B (a ++ b))) rfl (by kernel_rfl) (by kernel_rfl) (by kernel_rfl) (fun _ _ _ h => h) (Or.inl ⟨by rfl, ?_⟩) (by assumption) ?_
    · intro wz hSw
      try dsimp only at hSw
      go_simp
      first | omega | (simp only [List.length_append]; omega)
    try simp only [Act.put, List.setIfInBounds_toArray, List.set_cons_zero, List.set_cons_succ]
    refine wpAnyH_ready (rs := [6]) (by kernel_rfl) (by simp) ?_
    refine AllReadyH.cons (o := ⟨_, _, _, _, _, _⟩) rfl (fun K hK => ?_) AllReadyH.nil
    go_simp
    refine (KC.out w0 _ Gw3.out).mono ?_
    rintro e w4 ⟨rfl, hb⟩
    have Gw4 := Lib.hid hb
    have d0 := (hb.cell (p := ⟨w.heap.size, 0, none⟩) HZ.out).trans HC.out.1
    have d1 := (hb.cell (p := ⟨w.heap.size, 1, none⟩) HZ.out).trans HC.out.2
    clear hb
    refine hK.out _ _ ⟨d0, d1⟩ (fun hHeld => ?_)
    clear hK K d0 d1
    try simp only [Act.put, List.setIfInBounds_toArray, List.set_cons_zero, List.set_cons_succ]
    refine wpAnyH_take (i := 7) (oi := ⟨_, _, _, _, _, _⟩) (v := .string (S3.B (a ++ (b ++ f)))) rfl (by kernel_rfl) (by kernel_rfl) (by kernel_rfl) (fun _ _ _ h => h) (Or.inl ⟨by rfl, ?_⟩) (by assumption) ?_
    · intro wz hSw
      try dsimp only at hSw
      go_simp
      first | omega | (simp only [List.length_append]; omega)
    try simp only [Act.put, List.setIfInBounds_toArray, List.set_cons_zero, List.set_cons_succ]
    refine wpAnyH_ready (rs := [8]) (by kernel_rfl) (by simp) ?_
    refine AllReadyH.cons (o := ⟨_, _, _, _, _, _⟩) rfl (fun K hK => ?_) AllReadyH.nil
    go_simp
    refine (KD.out w0 _ Gw4.out).mono ?_
    rintro e w5 ⟨rfl, hb⟩
    have Gw5 := Lib.hid hb
    have d0 := (hb.cell (p := ⟨w.heap.size, 0, none⟩) HZ.out).trans HC.out.1
    have d1 := (hb.cell (p := ⟨w.heap.size, 1, none⟩) HZ.out).trans HC.out.2
    clear hb
    refine hK.out _ _ ⟨d0, d1⟩ (fun hHeld => ?_)
    clear hK K d0 d1
    try simp only [Act.put, List.setIfInBounds_toArray, List.set_cons_zero, List.set_cons_succ]
    refine wpAnyH_take (i := 9) (oi := ⟨_, _, _, _, _, _⟩) (v := ?_) rfl (by kernel_rfl) (by kernel_rfl) (by kernel_rfl) (fun _ _ _ h => h) (Or.inl ⟨by rfl, ?_⟩) (by assumption) ?_
    rotate_left
    · intro wz hSw
      try dsimp only at hSw
      go_simp
      try with_reducible rfl
    try simp only [Act.put, List.setIfInBounds_toArray, List.set_cons_zero, List.set_cons_succ]
    refine wpAnyH_done (by kernel_rfl) ?_ _
    have HDw5 : Hid (w5.cell? ⟨w.heap.size, 0, none⟩ = some (.int .i64 x) ∧ w5.cell? ⟨w.heap.size, 1, none⟩ = some (.int .i64 y)) := Lib.hid ⟨(Gw5.out.cell (p := ⟨w.heap.size, 0, none⟩) HZ.out).trans HC.out.1, (Gw5.out.cell (p := ⟨w.heap.size, 1, none⟩) HZ.out).trans HC.out.2⟩
    clear hHeld
    go_wp2_with fail
    refine wp_region_held_drew (S := (fun w' => w'.cell? ⟨w.heap.size, 0, none⟩ = some (.int .i64 x) ∧ w'.cell? ⟨w.heap.size, 1, none⟩ = some (.int .i64 y))) (by kernel_rfl) ⟨HDw5.out.1, HDw5.out.2⟩ (fun hHeld => ?_)
    refine wpAnyH_take (i := 0) (oi := ⟨_, _, _, _, _, _⟩) (v := ?_) rfl (by kernel_rfl) (by kernel_rfl) (by kernel_rfl) (fun _ _ _ h => h) (Or.inl ⟨by rfl, ?_⟩) (by assumption) ?_
    rotate_left
    · intro wz hSw
      try dsimp only at hSw
      go_simp
      try with_reducible rfl
    try simp only [Act.put, List.setIfInBounds_toArray, List.set_cons_zero, List.set_cons_succ]
    refine wpAnyH_take (i := 2) (oi := ⟨_, _, _, _, _, _⟩) (v := ?_) rfl (by kernel_rfl) (by kernel_rfl) (by kernel_rfl) (fun _ _ _ h => h) (Or.inl ⟨by rfl, ?_⟩) (by assumption) ?_
    rotate_left
    · intro wz hSw
      try dsimp only at hSw
      go_simp
      try with_reducible rfl
    try simp only [Act.put, List.setIfInBounds_toArray, List.set_cons_zero, List.set_cons_succ]
    refine wpAnyH_take (i := 3) (oi := ⟨_, _, _, _, _, _⟩) (v := ?_) rfl (by kernel_rfl) (by kernel_rfl) (by kernel_rfl) (fun _ _ _ h => h) (Or.inl ⟨by rfl, ?_⟩) (by assumption) ?_
    rotate_left
    · intro wz hSw
      try dsimp only at hSw
      go_simp
      try with_reducible rfl
    try simp only [Act.put, List.setIfInBounds_toArray, List.set_cons_zero, List.set_cons_succ]
    refine wpAnyH_take (i := 4) (oi := ⟨_, _, _, _, _, _⟩) (v := ?_) rfl (by kernel_rfl) (by kernel_rfl) (by kernel_rfl) (fun _ _ _ h => h) (Or.inl ⟨by rfl, ?_⟩) (by assumption) ?_
    rotate_left
    · intro wz hSw
      try dsimp only at hSw
      go_simp
      try with_reducible rfl
    try simp only [Act.put, List.setIfInBounds_toArray, List.set_cons_zero, List.set_cons_succ]
    refine wpAnyH_ready (rs := [1]) (by kernel_rfl) (by simp) ?_
    refine AllReadyH.cons (o := ⟨_, _, _, _, _, _⟩) rfl (fun K hK => ?_) AllReadyH.nil
    go_simp
    refine (KE.out w0 _ Gw5.out.drew).mono ?_
    rintro e w6 ⟨rfl, hb⟩
    have Gw6 := Lib.hid hb
    have d0 := (hb.cell (p := ⟨w.heap.size, 0, none⟩) HZ.out).trans HC.out.1
    have d1 := (hb.cell (p := ⟨w.heap.size, 1, none⟩) HZ.out).trans HC.out.2
    clear hb
    refine hK.out _ _ ⟨d0, d1⟩ (fun hHeld => ?_)
    clear hK K d0 d1
    try simp only [Act.put, List.setIfInBounds_toArray, List.set_cons_zero, List.set_cons_succ]
    refine wpAnyH_ready (rs := [5]) (by kernel_rfl) (by simp) ?_
    refine AllReadyH.cons (o := ⟨_, _, _, _, _, _⟩) rfl (fun K hK => ?_) AllReadyH.nil
    go_simp
    refine (KF.out w0 _ Gw6.out).mono ?_
    rintro e w7 ⟨rfl, hb⟩
    have Gw7 := Lib.hid hb
    have d0 := (hb.cell (p := ⟨w.heap.size, 0, none⟩) HZ.out).trans HC.out.1
    have d1 := (hb.cell (p := ⟨w.heap.size, 1, none⟩) HZ.out).trans HC.out.2
    clear hb
    refine hK.out _ _ ⟨d0, d1⟩ (fun hHeld => ?_)
    clear hK K d0 d1
    try simp only [Act.put, List.setIfInBounds_toArray, List.set_cons_zero, List.set_cons_succ]
    refine wpAnyH_take (i := 6) (oi := ⟨_, _, _, _, _, _⟩) (v := ?_) rfl (by kernel_rfl) (by kernel_rfl) (by kernel_rfl) (fun _ _ _ h => h) (Or.inl ⟨by rfl, ?_⟩) (by assumption) ?_
    rotate_left
    · intro wz hSw
      try dsimp only at hSw
      go_simp
      try with_reducible rfl
    try simp only [Act.put, List.setIfInBounds_toArray, List.set_cons_zero, List.set_cons_succ]
    refine wpAnyH_done (by kernel_rfl) ?_ _
    have HDw7 : Hid (w7.cell? ⟨w.heap.size, 0, none⟩ = some (.int .i64 x) ∧ w7.cell? ⟨w.heap.size, 1, none⟩ = some (.int .i64 y)) := Lib.hid ⟨(Gw7.out.cell (p := ⟨w.heap.size, 0, none⟩) HZ.out).trans HC.out.1, (Gw7.out.cell (p := ⟨w.heap.size, 1, none⟩) HZ.out).trans HC.out.2⟩
    obtain ⟨c0, c1⟩ := HDw7.out
    clear HDw1 HDw5 HDw7 K1 KA KB KC KD KE KF
    go_wp2_with fail
    refine (KG.out w0 _ Gw7.out).mono ?_
    rintro e w8 ⟨rfl, h1⟩
    have G8 := Lib.hid h1
    clear h1 c0 c1
    go_wp2_with fail
    refine (KH.out w0 _ G8.out).mono ?_
    rintro e w9 ⟨rfl, h1⟩
    have G9 := Lib.hid h1
    have HA := Lib.hid ((h1.block _ HZ1.out).trans HA0.out)
    clear h1
    go_wp2_with (refine S3.wpList_store_row rfl 30 _ _ rfl (w.heap.size + 1) _ rfl rfl 30 _ HA.out (infoSig _ _) rfl (by simp [Value.oneCell']) ?_)
    exact bodyPost_ret (v := .agg #[.int .i64 c, .int .i64 s]) (results_cell_row Tryd.results18 _ _ (w.heap.size + 1) 30 _ (0, 0) _ rfl (setRow_heap _ _ _ _ _ _ HA.out) Tryd.underlying30 rfl (infoSig _ _)) rfl
      ⟨rfl, below_setRow (g.out.trans (G9.out.mono (by have := g.out.size; omega))) _ (by have := hw.out; omega) _⟩
  · rw [decide_eq_false hr] at k1
    rw [if_neg hr]
    have K1 := Lib.hid k1
    clear k1 ix iy hb hm hr
    go_enter Tryd.func18, Tryd.ntmps18
    go_wp2_with fail
    generalize (w.alloc (.cells #[.int .i64 x, .int .i64 y] 23)).alloc (.cells #[.int .i64 0, .int .i64 0] 30) = w0 at *
    refine (K1.out w0 _ (Below.refl _ _)).mono ?_
    rintro e w1 ⟨rfl, h1⟩
    have G := Lib.hid h1
    have HA := Lib.hid ((h1.block _ HZ1.out).trans HA0.out)
    clear h1
    go_wp2_with (refine S3.wpList_store_row rfl 30 _ _ rfl (w.heap.size + 1) _ rfl rfl 30 _ HA.out (infoSig _ _) rfl (by simp [Value.oneCell']) ?_)
    exact bodyPost_ret (v := .agg #[.int .i64 0, .int .i64 0]) (results_cell_row Tryd.results18 _ _ (w.heap.size + 1) 30 _ (0, 0) _ rfl (setRow_heap _ _ _ _ _ _ HA.out) Tryd.underlying30 rfl (infoSig _ _)) rfl
      ⟨rfl, below_setRow (g.out.trans (G.out.mono (by have := g.out.size; omega))) _ (by have := hw.out; omega) _⟩
end Sg
end Go.Proofs.YtlcgcpjhmbbgfaaDoor
