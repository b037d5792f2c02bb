/-
  Layer 8: the reference's Inputs.
-/
import Derived.Test.YtfemgakfckabhaaDoorMerkleRef
namespace Go.Proofs.YtfemgakfckabhaaDoor
open Go.RowKit
namespace Mk
attribute [local go_sem] S3.B_size S3.B_app S3.B_list
def ListC (f : Nat) (l r : List Str) : Prop := ∀ (A : Option Addr) (c n : Nat) (w : World), n = l.length → Rs w A l → n ≤ c → Calls Tryd.prog f #[.slice A n c] w (Gives w r)
set_option maxHeartbeats 8000000 in
set_option maxRecDepth 100000 in
theorem rinputs_any (d : Nat) : ∀ (l : List Str), l.length ≤ d → l.length ≤ 200 → (∀ s ∈ l, s.length ≤ 1000) → ListC 24 l (inputs l) := by
  induction d with
  | zero =>
    intro l hd _ _ A c n w hn _ _
    obtain rfl : n = 0 := by omega
    rw [inputs_one (by omega)]
    clear hn hd
    go_enter Tryd.func24, Tryd.ntmps24
    go_wp2
    go_ret
    exact .mk_ (Own.nil _ _) (Below.refl _ _)
  | succ d ih =>
    intro l hd h200 hs A c n w hn hr hc
    by_cases h2 : l.length < 2
    · rw [inputs_one h2]
      have hn2 : (n : Int) < 2 := by omega
      clear ih hd h200 hs hn hr h2
      go_enter Tryd.func24, Tryd.ntmps24
      go_wp2
      go_ret
      exact .mk_ (Own.nil _ _) (Below.refl _ _)
    · have h2 : 2 ≤ l.length := by omega
      obtain ⟨a, rfl⟩ := hr.some_ (by omega)
      have hsp := fun w => rsplit_any l.length w h2 (by omega)
      have hp := sp_pos l.length
      have hk := sp_lt h2
      have hsT : ∀ s ∈ l.take (sp l.length), s.length ≤ 1000 := fun s h => hs s (List.mem_of_mem_take h)
      have hsD : ∀ s ∈ l.drop (sp l.length), s.length ≤ 1000 := fun s h => hs s (List.mem_of_mem_drop h)
      have eT : (l.take (sp l.length)).length = sp l.length := by rw [List.length_take]; omega
      have eD : (l.drop (sp l.length)).length = l.length - sp l.length := by rw [List.length_drop]
      have kT := fun w h => rroot_any 200 (l.take (sp l.length)) (by omega) (by omega) hsT (some a) c (sp l.length) w eT.symm h (by omega)
      have kD := fun w h => rroot_any 200 (l.drop (sp l.length)) (by omega) (by omega) hsD (some (a.add (sp l.length))) (c - sp l.length) (l.length - sp l.length) w eD.symm h (by omega)
      have rt := hr.take (sp l.length)
      have rd := hr.drop (sp l.length)
      have bT := root_le (n := 1000) (by omega) hsT
      have bD := root_le (n := 1000) (by omega) hsD
      have k1 := fun w h => ih (l.take (sp l.length)) (by omega) (by omega) hsT (some a) c (sp l.length) w eT.symm h (by omega)
      have k2 := fun w h => ih (l.drop (sp l.length)) (by omega) (by omega) hsD (some (a.add (sp l.length))) (c - sp l.length) (l.length - sp l.length) w eD.symm h (by omega)
      have kp := fun w => rpre_any (root (l.take (sp l.length))) (root (l.drop (sp l.length))) w bT bD
      have l1 := inputs_len _ (l.take (sp l.length)) (Nat.le_refl _)
      have l2 := inputs_len _ (l.drop (sp l.length)) (Nat.le_refl _)
      rw [inputs_two h2]
      rw [← hn] at kT kD k1 k2 kp hsp hp hk rt rd h2 h200 eT eD l1 l2 ⊢
      generalize l.take (sp n) = lT at *
      generalize l.drop (sp n) = lD at *
      generalize root lT = r1 at *
      generalize root lD = r2 at *
      generalize pre r1 r2 = p at *
      generalize inputs lT = i1 at *
      generalize inputs lD = i2 at *
      generalize sp n = k at *
      have hn2 : (n : Int) ≤ 200 := by omega
      have KT := Lib.hid kT
      have KD := Lib.hid kD
      have KS := Lib.hid hsp
      have RT := Lib.hid rt
      have RD := Lib.hid rd
      have UP := Lib.hid (Up.start w)
      have K1 := Lib.hid k1
      have K2 := Lib.hid k2
      have KP := Lib.hid kp
      have hl1 : i1.length ≤ 200 := by omega
      have hl2 : i2.length ≤ 200 := by omega
      clear ih hs hsT hsD k1 k2 kT kD kp hsp rt rd hr hd h200 hn bT bD l1 l2 eT eD
      go_enter Tryd.func24, Tryd.ntmps24
      go_wp2_with fail
      refine (KS.out _).mono ?_
      rintro e' w1 ⟨rfl, rfl⟩
      go_wp2
      replace UP := Lib.hid UP.out.drew
      refine wp_region_held_drew (S := (fun _ => True)) (by kernel_rfl) trivial (fun hHeld => ?_)
      generalize w.drew = wd at *
      refine wpAnyH_take (i := 0) (oi := ⟨_, _, _, _, _, _⟩) (v := ?_) rfl (by kernel_rfl) (by kernel_rfl) (by kernel_rfl) (fun _ _ _ h => h) (Or.inl ⟨by rfl, ?_⟩) (by assumption) ?_
      rotate_left
      · intro wz hSw
        try dsimp only at hSw
        go_simp
        try with_reducible rfl
      try simp only [Act.put, List.setIfInBounds_toArray, List.set_cons_zero, List.set_cons_succ]
      refine wpAnyH_take (i := 1) (oi := ⟨_, _, _, _, _, _⟩) (v := ?_) rfl (by kernel_rfl) (by kernel_rfl) (by kernel_rfl) (fun _ _ _ h => h) (Or.inl ⟨by rfl, ?_⟩) (by assumption) ?_
      rotate_left
      · intro wz hSw
        try dsimp only at hSw
        go_simp
        try with_reducible rfl
      try simp only [Act.put, List.setIfInBounds_toArray, List.set_cons_zero, List.set_cons_succ]
      refine wpAnyH_take (i := 2) (oi := ⟨_, _, _, _, _, _⟩) (v := .slice (some a) k c) rfl (by kernel_rfl) (by kernel_rfl) (by kernel_rfl) (fun _ _ _ h => h) (Or.inl ⟨by rfl, ?_⟩) (by assumption) ?_
      · intro wz hSw
        try dsimp only at hSw
        go_simp
        intro hx; omega
      try simp only [Act.put, List.setIfInBounds_toArray, List.set_cons_zero, List.set_cons_succ]
      refine wpAnyH_take (i := 4) (oi := ⟨_, _, _, _, _, _⟩) (v := ?_) rfl (by kernel_rfl) (by kernel_rfl) (by kernel_rfl) (fun _ _ _ h => h) (Or.inl ⟨by rfl, ?_⟩) (by assumption) ?_
      rotate_left
      · intro wz hSw
        try dsimp only at hSw
        go_simp
        try with_reducible rfl
      try simp only [Act.put, List.setIfInBounds_toArray, List.set_cons_zero, List.set_cons_succ]
      refine wpAnyH_take (i := 5) (oi := ⟨_, _, _, _, _, _⟩) (v := ?_) rfl (by kernel_rfl) (by kernel_rfl) (by kernel_rfl) (fun _ _ _ h => h) (Or.inl ⟨by rfl, ?_⟩) (by assumption) ?_
      rotate_left
      · intro wz hSw
        try dsimp only at hSw
        go_simp
        try with_reducible rfl
      try simp only [Act.put, List.setIfInBounds_toArray, List.set_cons_zero, List.set_cons_succ]
      refine wpAnyH_take (i := 6) (oi := ⟨_, _, _, _, _, _⟩) (v := .slice (some (a.add k)) (n - k) (c - k)) rfl (by kernel_rfl) (by kernel_rfl) (by kernel_rfl) (fun _ _ _ h => h) (Or.inl ⟨by rfl, ?_⟩) (by assumption) ?_
      · intro wz hSw
        try dsimp only at hSw
        go_simp
        rw [if_pos (by omega), if_neg (by omega)]
      try simp only [Act.put, List.setIfInBounds_toArray, List.set_cons_zero, List.set_cons_succ]
      refine wpAnyH_ready (rs := [3]) (by kernel_rfl) (by simp) ?_
      refine AllReadyH.cons (o := ⟨_, _, _, _, _, _⟩) rfl (fun K hK => ?_) AllReadyH.nil
      go_simp
      refine (K1.out _ (RT.out.step UP.out.bel)).mono ?_
      rintro e wz1 ⟨A1, c1, n1, rfl, hn, hc, ho, hb⟩
      replace ho := ho.mono UP.out.bel.size
      replace UP := Lib.hid (UP.out.step hb)
      have HN1 := Lib.hid hn
      have HC1 := Lib.hid hc
      have O1 := Lib.hid ho
      clear hb hn hc ho hHeld
      refine hK.out _ _ trivial (fun hHeld => ?_)
      clear hK K
      try simp only [Act.put, List.setIfInBounds_toArray, List.set_cons_zero, List.set_cons_succ]
      refine wpAnyH_ready (rs := [7]) (by kernel_rfl) (by simp) ?_
      refine AllReadyH.cons (o := ⟨_, _, _, _, _, _⟩) rfl (fun K hK => ?_) AllReadyH.nil
      go_simp
      refine (K2.out _ (RD.out.step UP.out.bel)).mono ?_
      rintro e wz2 ⟨A2, c2, n2, rfl, hn, hc, ho, hb⟩
      replace ho := ho.mono UP.out.bel.size
      replace UP := Lib.hid (UP.out.step hb)
      replace O1 := Lib.hid (O1.out.step hb)
      have HN2 := Lib.hid hn
      have HC2 := Lib.hid hc
      have O2 := Lib.hid ho
      clear hb hn hc ho hHeld
      refine hK.out _ _ trivial (fun hHeld => ?_)
      clear hK K
      try simp only [Act.put, List.setIfInBounds_toArray, List.set_cons_zero, List.set_cons_succ]
      refine wpAnyH_ready (rs := [8]) (by kernel_rfl) (by simp) ?_
      refine AllReadyH.cons (o := ⟨_, _, _, _, _, _⟩) rfl (fun K hK => ?_) AllReadyH.nil
      refine step_app rfl _ _ rfl O1.out (O2.out.rs) rfl rfl HN2.out (by omega) UP.out.bel.size ?_
      intro v' wz3 ho hg
      have hu := UP.out.grown O1.out (Nat.le_refl _) hg
      obtain ⟨A3, n3, c3, rfl, hn, hc⟩ := ho.sl3
      replace UP := Lib.hid hu
      have O3 := Lib.hid ho
      have HN3 := Lib.hid hn
      have HC3 := Lib.hid hc
      clear ho hg hu hn hc hHeld O1 O2
      refine hK.out _ _ trivial (fun hHeld => ?_)
      clear hK K
      try simp only [Act.put, List.setIfInBounds_toArray, List.set_cons_zero, List.set_cons_succ]
      refine wpAnyH_take (i := 9) (oi := ⟨_, _, _, _, _, _⟩) (v := ?_) rfl (by kernel_rfl) (by kernel_rfl) (by kernel_rfl) (fun _ _ _ h => h) (Or.inl ⟨by rfl, ?_⟩) (by assumption) ?_
      rotate_left
      · intro wz hSw
        try dsimp only at hSw
        go_simp
        try with_reducible rfl
      try simp only [Act.put, List.setIfInBounds_toArray, List.set_cons_zero, List.set_cons_succ]
      refine wpAnyH_done (by kernel_rfl) ?_ _
      clear hHeld
      go_wp2
      replace UP := Lib.hid UP.out.drew
      replace O3 := Lib.hid O3.out.drew
      refine wp_region_held_drew (S := (fun _ => True)) (by kernel_rfl) trivial (fun hHeld => ?_)
      generalize wz3.drew = wz3d at *
      refine wpAnyH_take (i := 0) (oi := ⟨_, _, _, _, _, _⟩) (v := ?_) rfl (by kernel_rfl) (by kernel_rfl) (by kernel_rfl) (fun _ _ _ h => h) (Or.inl ⟨by rfl, ?_⟩) (by assumption) ?_
      rotate_left
      · intro wz hSw
        try dsimp only at hSw
        go_simp
        try with_reducible rfl
      try simp only [Act.put, List.setIfInBounds_toArray, List.set_cons_zero, List.set_cons_succ]
      refine wpAnyH_take (i := 1) (oi := ⟨_, _, _, _, _, _⟩) (v := ?_) rfl (by kernel_rfl) (by kernel_rfl) (by kernel_rfl) (fun _ _ _ h => h) (Or.inl ⟨by rfl, ?_⟩) (by assumption) ?_
      rotate_left
      · intro wz hSw
        try dsimp only at hSw
        go_simp
        try with_reducible rfl
      try simp only [Act.put, List.setIfInBounds_toArray, List.set_cons_zero, List.set_cons_succ]
      refine wpAnyH_take (i := 2) (oi := ⟨_, _, _, _, _, _⟩) (v := ?_) rfl (by kernel_rfl) (by kernel_rfl) (by kernel_rfl) (fun _ _ _ h => h) (Or.inl ⟨by rfl, ?_⟩) (by assumption) ?_
      rotate_left
      · intro wz hSw
        try dsimp only at hSw
        go_simp
        try with_reducible rfl
      try simp only [Act.put, List.setIfInBounds_toArray, List.set_cons_zero, List.set_cons_succ]
      refine wpAnyH_take (i := 3) (oi := ⟨_, _, _, _, _, _⟩) (v := .slice (some a) k c) rfl (by kernel_rfl) (by kernel_rfl) (by kernel_rfl) (fun _ _ _ h => h) (Or.inl ⟨by rfl, ?_⟩) (by assumption) ?_
      · intro wz hSw
        try dsimp only at hSw
        go_simp
        intro hx; omega
      try simp only [Act.put, List.setIfInBounds_toArray, List.set_cons_zero, List.set_cons_succ]
      refine wpAnyH_take (i := 5) (oi := ⟨_, _, _, _, _, _⟩) (v := ?_) rfl (by kernel_rfl) (by kernel_rfl) (by kernel_rfl) (fun _ _ _ h => h) (Or.inl ⟨by rfl, ?_⟩) (by assumption) ?_
      rotate_left
      · intro wz hSw
        try dsimp only at hSw
        go_simp
        try with_reducible rfl
      try simp only [Act.put, List.setIfInBounds_toArray, List.set_cons_zero, List.set_cons_succ]
      refine wpAnyH_take (i := 6) (oi := ⟨_, _, _, _, _, _⟩) (v := ?_) rfl (by kernel_rfl) (by kernel_rfl) (by kernel_rfl) (fun _ _ _ h => h) (Or.inl ⟨by rfl, ?_⟩) (by assumption) ?_
      rotate_left
      · intro wz hSw
        try dsimp only at hSw
        go_simp
        try with_reducible rfl
      try simp only [Act.put, List.setIfInBounds_toArray, List.set_cons_zero, List.set_cons_succ]
      refine wpAnyH_take (i := 7) (oi := ⟨_, _, _, _, _, _⟩) (v := .slice (some (a.add k)) (n - k) (c - k)) rfl (by kernel_rfl) (by kernel_rfl) (by kernel_rfl) (fun _ _ _ h => h) (Or.inl ⟨by rfl, ?_⟩) (by assumption) ?_
      · intro wz hSw
        try dsimp only at hSw
        go_simp
        rw [if_pos (by omega), if_neg (by omega)]
      try simp only [Act.put, List.setIfInBounds_toArray, List.set_cons_zero, List.set_cons_succ]
      refine wpAnyH_ready (rs := [4]) (by kernel_rfl) (by simp) ?_
      refine AllReadyH.cons (o := ⟨_, _, _, _, _, _⟩) rfl (fun K hK => ?_) AllReadyH.nil
      go_simp
      refine (KT.out _ (RT.out.step UP.out.bel)).mono ?_
      rintro e wz4 ⟨rfl, hb⟩
      replace UP := Lib.hid (UP.out.step hb)
      replace O3 := Lib.hid (O3.out.step hb)
      clear hb hHeld
      refine hK.out _ _ trivial (fun hHeld => ?_)
      clear hK K
      try simp only [Act.put, List.setIfInBounds_toArray, List.set_cons_zero, List.set_cons_succ]
      refine wpAnyH_ready (rs := [8]) (by kernel_rfl) (by simp) ?_
      refine AllReadyH.cons (o := ⟨_, _, _, _, _, _⟩) rfl (fun K hK => ?_) AllReadyH.nil
      go_simp
      refine (KD.out _ (RD.out.step UP.out.bel)).mono ?_
      rintro e wz5 ⟨rfl, hb⟩
      replace UP := Lib.hid (UP.out.step hb)
      replace O3 := Lib.hid (O3.out.step hb)
      clear hb hHeld
      refine hK.out _ _ trivial (fun hHeld => ?_)
      clear hK K
      try simp only [Act.put, List.setIfInBounds_toArray, List.set_cons_zero, List.set_cons_succ]
      refine wpAnyH_ready (rs := [9]) (by kernel_rfl) (by simp) ?_
      refine AllReadyH.cons (o := ⟨_, _, _, _, _, _⟩) rfl (fun K hK => ?_) AllReadyH.nil
      go_simp
      refine (KP.out _).mono ?_
      rintro e wq ⟨rfl, hq⟩
      obtain rfl := hq
      clear hHeld
      refine hK.out _ _ trivial (fun hHeld => ?_)
      clear hK K
      try simp only [Act.put, List.setIfInBounds_toArray, List.set_cons_zero, List.set_cons_succ]
      refine wpAnyH_ready (rs := [10]) (by kernel_rfl) (by simp) ?_
      refine AllReadyH.cons (o := ⟨_, _, _, _, _, _⟩) rfl (fun K hK => ?_) AllReadyH.nil
      go_simp
      have RP : Hid (Rs (wz5.alloc (.cells #[.string (S3.B p)] 9)) (some ⟨wz5.heap.size, 0, none⟩) [p]) := Lib.hid (Rs.lit wz5 [p])
      replace UP := Lib.hid (UP.out.alloc (.cells #[.string (S3.B p)] 9))
      replace O3 := Lib.hid (O3.out.alloc (.cells #[.string (S3.B p)] 9))
      clear hHeld
      refine hK.out _ _ trivial (fun hHeld => ?_)
      clear hK K
      try simp only [Act.put, List.setIfInBounds_toArray, List.set_cons_zero, List.set_cons_succ]
      generalize hgx : wz5.heap.size = gx at *
      clear hgx
      generalize wz5.alloc (.cells #[.string (S3.B p)] 9) = wz6 at *
      refine wpAnyH_ready (rs := [11]) (by kernel_rfl) (by simp) ?_
      refine AllReadyH.cons (o := ⟨_, _, _, _, _, _⟩) rfl (fun K hK => ?_) AllReadyH.nil
      refine step_app rfl _ _ rfl O3.out (RP.out) rfl rfl rfl (by rw [List.length_append, List.length_singleton]; omega) UP.out.bel.size ?_
      intro v' wz7 ho hg
      have hu := UP.out.grown O3.out (Nat.le_refl _) hg
      obtain ⟨A4, n4, c4, rfl, hn, hc⟩ := ho.sl3
      replace UP := Lib.hid hu
      have O4 := Lib.hid ho
      have HN4 := Lib.hid hn
      have HC4 := Lib.hid hc
      clear ho hg hu hn hc hHeld O3 
      refine hK.out _ _ trivial (fun hHeld => ?_)
      clear hK K
      try simp only [Act.put, List.setIfInBounds_toArray, List.set_cons_zero, List.set_cons_succ]
      refine wpAnyH_take (i := 12) (oi := ⟨_, _, _, _, _, _⟩) (v := ?_) rfl (by kernel_rfl) (by kernel_rfl) (by kernel_rfl) (fun _ _ _ h => h) (Or.inl ⟨by rfl, ?_⟩) (by assumption) ?_
      rotate_left
      · intro wz hSw
        try dsimp only at hSw
        go_simp
        try with_reducible rfl
      try simp only [Act.put, List.setIfInBounds_toArray, List.set_cons_zero, List.set_cons_succ]
      refine wpAnyH_done (by kernel_rfl) ?_ _
      clear hHeld
      go_wp2
      go_ret
      exact .mk_ O4.out UP.out.bel
end Mk
end Go.Proofs.YtfemgakfckabhaaDoor
