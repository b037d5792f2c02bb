/-
  Layer 8: the reference's Path, inner and Link.
-/
import Derived.Test.YtfemgakfckabhaaDoorMerkleRef2
namespace Go.Proofs.YtfemgakfckabhaaDoor
open Go.RowKit
namespace Mk
attribute [local go_sem] S3.B_size S3.B_app S3.B_list
theorem path_one {l : List Str} (h : l.length < 2) (i : Nat) : path l i = [] := by rw [path, pathR_one h]; rfl
theorem path_lo {l : List Str} {i : Nat} (h : 2 ≤ l.length) (hi : i < sp l.length) : path l i = path (l.take (sp l.length)) i ++ [root (l.drop (sp l.length))] := by
  rw [path, pathR_lo h hi, List.reverse_cons]; rfl
theorem path_hi {l : List Str} {i : Nat} (h : 2 ≤ l.length) (hi : sp l.length ≤ i) : path l i = path (l.drop (sp l.length)) (i - sp l.length) ++ [root (l.take (sp l.length))] := by
  rw [path, pathR_hi h hi, List.reverse_cons]; rfl
theorem path_length (l : List Str) (i : Nat) : (path l i).length ≤ l.length := by rw [path, List.length_reverse]; exact pathR_length _ _ _ (Nat.le_refl _)
def PathC (f : Nat) (l r : List Str) (i : Nat) : Prop := ∀ (A : Option Addr) (c n : Nat) (z : Int) (w : World), n = l.length → z = (i : Int) → Rs w A l → n ≤ c → Calls Tryd.prog f #[.slice A n c, .int .i64 z] w (Gives w r)
set_option maxHeartbeats 8000000 in
set_option maxRecDepth 100000 in
theorem rpath_any (d : Nat) : ∀ (l : List Str) (i : Nat), l.length ≤ d → l.length ≤ 200 → (∀ s ∈ l, s.length ≤ 1000) → i < l.length → PathC 18 l (path l i) i := by
  induction d with
  | zero => intro l i hd _ _ hi; omega
  | succ d ih =>
    intro l i hd h200 hs hi A c n z w hn hz hr hc
    subst hz
    obtain ⟨a, rfl⟩ := hr.some_ (by omega)
    by_cases h2 : l.length < 2
    · rw [path_one h2]
      obtain rfl : n = 1 := by omega
      clear ih hd h200 hs hn hr h2 hi
      go_enter Tryd.func18, Tryd.ntmps18
      go_wp2
      go_ret
      exact .mk_ (Own.nil _ _) (Below.refl _ _)
    have h2 : 2 ≤ l.length := by omega
    by_cases hik : i < sp l.length
    · have hik' : (i : Int) < (sp l.length : Int) := by omega
      have hsp := fun w => rsplit_any l.length w h2 (by omega)
      have hp := sp_pos l.length
      have hk := sp_lt h2
      have hsT : ∀ s ∈ l.take (sp l.length), s.length ≤ 1000 := fun s h => hs s (List.mem_of_mem_take h)
      have hsD : ∀ s ∈ l.drop (sp l.length), s.length ≤ 1000 := fun s h => hs s (List.mem_of_mem_drop h)
      have eT : (l.take (sp l.length)).length = sp l.length := by rw [List.length_take]; omega
      have eD : (l.drop (sp l.length)).length = l.length - sp l.length := by rw [List.length_drop]
      have kT := fun w h => rroot_any 200 (l.take (sp l.length)) (by omega) (by omega) hsT (some a) c (sp l.length) w eT.symm h (by omega)
      have kD := fun w h => rroot_any 200 (l.drop (sp l.length)) (by omega) (by omega) hsD (some (a.add (sp l.length))) (c - sp l.length) (l.length - sp l.length) w eD.symm h (by omega)
      have rt := hr.take (sp l.length)
      have rd := hr.drop (sp l.length)
      have bT := root_le (n := 1000) (by omega) hsT
      have bD := root_le (n := 1000) (by omega) hsD
      have k1 := fun w h => ih (l.take (sp l.length)) i (by omega) (by omega) hsT (by omega) (some a) c (sp l.length) (i : Int) w eT.symm rfl h (by omega)
      have l1 := path_length (l.take (sp l.length)) i
      rw [path_lo h2 hik]
      rw [← hn] at kT kD k1 hsp hp hk rt rd h2 h200 eT eD l1 hik hik' hi ⊢
      generalize l.take (sp n) = lT at *
      generalize l.drop (sp n) = lD at *
      generalize root lT = r1 at *
      generalize root lD = r2 at *
      generalize path lT i = i1 at *
      generalize sp n = k at *
      have hn2 : (n : Int) ≤ 200 := by omega
      have KT := Lib.hid kT
      have KD := Lib.hid kD
      have KS := Lib.hid hsp
      have RT := Lib.hid rt
      have RD := Lib.hid rd
      have UP := Lib.hid (Up.start w)
      have K1 := Lib.hid k1
      have hl1 : i1.length ≤ 200 := by omega
      clear ih hs hsT hsD k1 kT kD hsp rt rd hr hd h200 hn bT bD eT eD l1
      go_enter Tryd.func18, Tryd.ntmps18
      go_wp2_with fail
      refine (KS.out _).mono ?_
      rintro e' w1 ⟨rfl, rfl⟩
      go_wp2
      replace UP := Lib.hid UP.out.drew
      refine wp_region_held_drew (S := (fun _ => True)) (by kernel_rfl) trivial (fun hHeld => ?_)
      generalize w.drew = wd at *
      refine wpAnyH_take (i := 0) (oi := ⟨_, _, _, _, _, _⟩) (v := ?_) rfl (by kernel_rfl) (by kernel_rfl) (by kernel_rfl) (fun _ _ _ h => h) (Or.inl ⟨by rfl, ?_⟩) (by assumption) ?_
      rotate_left
      · intro wz hSw
        try dsimp only at hSw
        go_simp
        try with_reducible rfl
      try simp only [Act.put, List.setIfInBounds_toArray, List.set_cons_zero, List.set_cons_succ]
      refine wpAnyH_take (i := 1) (oi := ⟨_, _, _, _, _, _⟩) (v := ?_) rfl (by kernel_rfl) (by kernel_rfl) (by kernel_rfl) (fun _ _ _ h => h) (Or.inl ⟨by rfl, ?_⟩) (by assumption) ?_
      rotate_left
      · intro wz hSw
        try dsimp only at hSw
        go_simp
        try with_reducible rfl
      try simp only [Act.put, List.setIfInBounds_toArray, List.set_cons_zero, List.set_cons_succ]
      refine wpAnyH_take (i := 2) (oi := ⟨_, _, _, _, _, _⟩) (v := .slice (some a) k c) rfl (by kernel_rfl) (by kernel_rfl) (by kernel_rfl) (fun _ _ _ h => h) (Or.inl ⟨by rfl, ?_⟩) (by assumption) ?_
      · intro wz hSw
        try dsimp only at hSw
        go_simp
        intro hx; omega
      try simp only [Act.put, List.setIfInBounds_toArray, List.set_cons_zero, List.set_cons_succ]
      refine wpAnyH_take (i := 3) (oi := ⟨_, _, _, _, _, _⟩) (v := ?_) rfl (by kernel_rfl) (by kernel_rfl) (by kernel_rfl) (fun _ _ _ h => h) (Or.inl ⟨by rfl, ?_⟩) (by assumption) ?_
      rotate_left
      · intro wz hSw
        try dsimp only at hSw
        go_simp
        try with_reducible rfl
      try simp only [Act.put, List.setIfInBounds_toArray, List.set_cons_zero, List.set_cons_succ]
      refine wpAnyH_take (i := 5) (oi := ⟨_, _, _, _, _, _⟩) (v := ?_) rfl (by kernel_rfl) (by kernel_rfl) (by kernel_rfl) (fun _ _ _ h => h) (Or.inl ⟨by rfl, ?_⟩) (by assumption) ?_
      rotate_left
      · intro wz hSw
        try dsimp only at hSw
        go_simp
        try with_reducible rfl
      try simp only [Act.put, List.setIfInBounds_toArray, List.set_cons_zero, List.set_cons_succ]
      refine wpAnyH_take (i := 6) (oi := ⟨_, _, _, _, _, _⟩) (v := ?_) rfl (by kernel_rfl) (by kernel_rfl) (by kernel_rfl) (fun _ _ _ h => h) (Or.inl ⟨by rfl, ?_⟩) (by assumption) ?_
      rotate_left
      · intro wz hSw
        try dsimp only at hSw
        go_simp
        try with_reducible rfl
      try simp only [Act.put, List.setIfInBounds_toArray, List.set_cons_zero, List.set_cons_succ]
      refine wpAnyH_take (i := 7) (oi := ⟨_, _, _, _, _, _⟩) (v := .slice (some (a.add k)) (n - k) (c - k)) rfl (by kernel_rfl) (by kernel_rfl) (by kernel_rfl) (fun _ _ _ h => h) (Or.inl ⟨by rfl, ?_⟩) (by assumption) ?_
      · intro wz hSw
        try dsimp only at hSw
        go_simp
        rw [if_pos (by omega), if_neg (by omega)]
      try simp only [Act.put, List.setIfInBounds_toArray, List.set_cons_zero, List.set_cons_succ]
      refine wpAnyH_ready (rs := [4]) (by kernel_rfl) (by simp) ?_
      refine AllReadyH.cons (o := ⟨_, _, _, _, _, _⟩) rfl (fun K hK => ?_) AllReadyH.nil
      go_simp
      refine (K1.out _ (RT.out.step UP.out.bel)).mono ?_
      rintro e wz1 ⟨A1, c1, n1, rfl, hn, hc, ho, hb⟩
      replace ho := ho.mono UP.out.bel.size
      replace UP := Lib.hid (UP.out.step hb)
      have HN1 := Lib.hid hn
      have HC1 := Lib.hid hc
      have O1 := Lib.hid ho
      clear hb hn hc ho hHeld
      refine hK.out _ _ trivial (fun hHeld => ?_)
      clear hK K
      try simp only [Act.put, List.setIfInBounds_toArray, List.set_cons_zero, List.set_cons_succ]
      refine wpAnyH_ready (rs := [8]) (by kernel_rfl) (by simp) ?_
      refine AllReadyH.cons (o := ⟨_, _, _, _, _, _⟩) rfl (fun K hK => ?_) AllReadyH.nil
      go_simp
      refine (KD.out _ (RD.out.step UP.out.bel)).mono ?_
      rintro e wz2 ⟨rfl, hb⟩
      replace UP := Lib.hid (UP.out.step hb)
      replace O1 := Lib.hid (O1.out.step hb)
      clear hb hHeld
      refine hK.out _ _ trivial (fun hHeld => ?_)
      clear hK K
      try simp only [Act.put, List.setIfInBounds_toArray, List.set_cons_zero, List.set_cons_succ]
      refine wpAnyH_ready (rs := [9]) (by kernel_rfl) (by simp) ?_
      refine AllReadyH.cons (o := ⟨_, _, _, _, _, _⟩) rfl (fun K hK => ?_) AllReadyH.nil
      go_simp
      have RP : Hid (Rs (wz2.alloc (.cells #[.string (S3.B r2)] 9)) (some ⟨wz2.heap.size, 0, none⟩) [r2]) := Lib.hid (Rs.lit wz2 [r2])
      replace UP := Lib.hid (UP.out.alloc (.cells #[.string (S3.B r2)] 9))
      replace O1 := Lib.hid (O1.out.alloc (.cells #[.string (S3.B r2)] 9))
      clear hHeld
      refine hK.out _ _ trivial (fun hHeld => ?_)
      clear hK K
      try simp only [Act.put, List.setIfInBounds_toArray, List.set_cons_zero, List.set_cons_succ]
      generalize hgx : wz2.heap.size = gx at *
      clear hgx
      generalize wz2.alloc (.cells #[.string (S3.B r2)] 9) = wz3 at *
      refine wpAnyH_ready (rs := [10]) (by kernel_rfl) (by simp) ?_
      refine AllReadyH.cons (o := ⟨_, _, _, _, _, _⟩) rfl (fun K hK => ?_) AllReadyH.nil
      refine step_app rfl _ _ rfl O1.out (RP.out) rfl rfl rfl (by rw [List.length_singleton]; omega) UP.out.bel.size ?_
      intro v' wz4 ho hg
      have hu := UP.out.grown O1.out (Nat.le_refl _) hg
      obtain ⟨A4, n4, c4, rfl, hn, hc⟩ := ho.sl3
      replace UP := Lib.hid hu
      have O4 := Lib.hid ho
      have HN4 := Lib.hid hn
      have HC4 := Lib.hid hc
      clear ho hg hu hn hc hHeld O1 
      refine hK.out _ _ trivial (fun hHeld => ?_)
      clear hK K
      try simp only [Act.put, List.setIfInBounds_toArray, List.set_cons_zero, List.set_cons_succ]
      refine wpAnyH_take (i := 11) (oi := ⟨_, _, _, _, _, _⟩) (v := ?_) rfl (by kernel_rfl) (by kernel_rfl) (by kernel_rfl) (fun _ _ _ h => h) (Or.inl ⟨by rfl, ?_⟩) (by assumption) ?_
      rotate_left
      · intro wz hSw
        try dsimp only at hSw
        go_simp
        try with_reducible rfl
      try simp only [Act.put, List.setIfInBounds_toArray, List.set_cons_zero, List.set_cons_succ]
      refine wpAnyH_done (by kernel_rfl) ?_ _
      clear hHeld
      go_wp2
      go_ret
      exact .mk_ O4.out UP.out.bel
    · have hik' : (sp l.length : Int) ≤ (i : Int) := by omega
      have hsp := fun w => rsplit_any l.length w h2 (by omega)
      have hp := sp_pos l.length
      have hk := sp_lt h2
      have hsT : ∀ s ∈ l.take (sp l.length), s.length ≤ 1000 := fun s h => hs s (List.mem_of_mem_take h)
      have hsD : ∀ s ∈ l.drop (sp l.length), s.length ≤ 1000 := fun s h => hs s (List.mem_of_mem_drop h)
      have eT : (l.take (sp l.length)).length = sp l.length := by rw [List.length_take]; omega
      have eD : (l.drop (sp l.length)).length = l.length - sp l.length := by rw [List.length_drop]
      have kT := fun w h => rroot_any 200 (l.take (sp l.length)) (by omega) (by omega) hsT (some a) c (sp l.length) w eT.symm h (by omega)
      have kD := fun w h => rroot_any 200 (l.drop (sp l.length)) (by omega) (by omega) hsD (some (a.add (sp l.length))) (c - sp l.length) (l.length - sp l.length) w eD.symm h (by omega)
      have rt := hr.take (sp l.length)
      have rd := hr.drop (sp l.length)
      have bT := root_le (n := 1000) (by omega) hsT
      have bD := root_le (n := 1000) (by omega) hsD
      have k1 := fun w h => ih (l.drop (sp l.length)) (i - sp l.length) (by omega) (by omega) hsD (by omega) (some (a.add (sp l.length))) (c - sp l.length) (l.length - sp l.length) ((i : Int) - (sp l.length : Int)) w eD.symm (by omega) h (by omega)
      have l1 := path_length (l.drop (sp l.length)) (i - sp l.length)
      rw [path_hi h2 (by omega)]
      rw [← hn] at kT kD k1 hsp hp hk rt rd h2 h200 eT eD l1 hik hik' hi ⊢
      generalize l.take (sp n) = lT at *
      generalize l.drop (sp n) = lD at *
      generalize root lT = r1 at *
      generalize root lD = r2 at *
      generalize path lD (i - sp n) = i1 at *
      generalize sp n = k at *
      have hn2 : (n : Int) ≤ 200 := by omega
      have KT := Lib.hid kT
      have KD := Lib.hid kD
      have KS := Lib.hid hsp
      have RT := Lib.hid rt
      have RD := Lib.hid rd
      have UP := Lib.hid (Up.start w)
      have K1 := Lib.hid k1
      have hl1 : i1.length ≤ 200 := by omega
      have hsub : IntKind.i64.wrap ((i : Int) - (k : Int)) = (i : Int) - (k : Int) := IntWalk.i64_in _ (by omega)
      clear ih hs hsT hsD k1 kT kD hsp rt rd hr hd h200 hn bT bD eT eD l1
      go_enter Tryd.func18, Tryd.ntmps18
      go_wp2_with fail
      refine (KS.out _).mono ?_
      rintro e' w1 ⟨rfl, rfl⟩
      go_wp2
      replace UP := Lib.hid UP.out.drew
      refine wp_region_held_drew (S := (fun _ => True)) (by kernel_rfl) trivial (fun hHeld => ?_)
      generalize w.drew = wd at *
      refine wpAnyH_take (i := 0) (oi := ⟨_, _, _, _, _, _⟩) (v := ?_) rfl (by kernel_rfl) (by kernel_rfl) (by kernel_rfl) (fun _ _ _ h => h) (Or.inl ⟨by rfl, ?_⟩) (by assumption) ?_
      rotate_left
      · intro wz hSw
        try dsimp only at hSw
        go_simp
        try with_reducible rfl
      try simp only [Act.put, List.setIfInBounds_toArray, List.set_cons_zero, List.set_cons_succ]
      refine wpAnyH_take (i := 1) (oi := ⟨_, _, _, _, _, _⟩) (v := ?_) rfl (by kernel_rfl) (by kernel_rfl) (by kernel_rfl) (fun _ _ _ h => h) (Or.inl ⟨by rfl, ?_⟩) (by assumption) ?_
      rotate_left
      · intro wz hSw
        try dsimp only at hSw
        go_simp
        try with_reducible rfl
      try simp only [Act.put, List.setIfInBounds_toArray, List.set_cons_zero, List.set_cons_succ]
      refine wpAnyH_take (i := 2) (oi := ⟨_, _, _, _, _, _⟩) (v := .slice (some (a.add k)) (n - k) (c - k)) rfl (by kernel_rfl) (by kernel_rfl) (by kernel_rfl) (fun _ _ _ h => h) (Or.inl ⟨by rfl, ?_⟩) (by assumption) ?_
      · intro wz hSw
        try dsimp only at hSw
        go_simp
        rw [if_pos (by omega), if_neg (by omega)]
      try simp only [Act.put, List.setIfInBounds_toArray, List.set_cons_zero, List.set_cons_succ]
      refine wpAnyH_take (i := 3) (oi := ⟨_, _, _, _, _, _⟩) (v := ?_) rfl (by kernel_rfl) (by kernel_rfl) (by kernel_rfl) (fun _ _ _ h => h) (Or.inl ⟨by rfl, ?_⟩) (by assumption) ?_
      rotate_left
      · intro wz hSw
        try dsimp only at hSw
        go_simp
        try with_reducible rfl
      try simp only [Act.put, List.setIfInBounds_toArray, List.set_cons_zero, List.set_cons_succ]
      refine wpAnyH_take (i := 4) (oi := ⟨_, _, _, _, _, _⟩) (v := ?_) rfl (by kernel_rfl) (by kernel_rfl) (by kernel_rfl) (fun _ _ _ h => h) (Or.inl ⟨by rfl, ?_⟩) (by assumption) ?_
      rotate_left
      · intro wz hSw
        try dsimp only at hSw
        go_simp
        try with_reducible rfl
      try simp only [Act.put, List.setIfInBounds_toArray, List.set_cons_zero, List.set_cons_succ]
      refine wpAnyH_take (i := 5) (oi := ⟨_, _, _, _, _, _⟩) (v := .int .i64 ((i : Int) - (k : Int))) rfl (by kernel_rfl) (by kernel_rfl) (by kernel_rfl) (fun _ _ _ h => h) (Or.inl ⟨by rfl, ?_⟩) (by assumption) ?_
      · intro wz hSw
        try dsimp only at hSw
        go_simp
      try simp only [Act.put, List.setIfInBounds_toArray, List.set_cons_zero, List.set_cons_succ]
      refine wpAnyH_take (i := 7) (oi := ⟨_, _, _, _, _, _⟩) (v := ?_) rfl (by kernel_rfl) (by kernel_rfl) (by kernel_rfl) (fun _ _ _ h => h) (Or.inl ⟨by rfl, ?_⟩) (by assumption) ?_
      rotate_left
      · intro wz hSw
        try dsimp only at hSw
        go_simp
        try with_reducible rfl
      try simp only [Act.put, List.setIfInBounds_toArray, List.set_cons_zero, List.set_cons_succ]
      refine wpAnyH_take (i := 8) (oi := ⟨_, _, _, _, _, _⟩) (v := ?_) rfl (by kernel_rfl) (by kernel_rfl) (by kernel_rfl) (fun _ _ _ h => h) (Or.inl ⟨by rfl, ?_⟩) (by assumption) ?_
      rotate_left
      · intro wz hSw
        try dsimp only at hSw
        go_simp
        try with_reducible rfl
      try simp only [Act.put, List.setIfInBounds_toArray, List.set_cons_zero, List.set_cons_succ]
      refine wpAnyH_take (i := 9) (oi := ⟨_, _, _, _, _, _⟩) (v := .slice (some a) k c) rfl (by kernel_rfl) (by kernel_rfl) (by kernel_rfl) (fun _ _ _ h => h) (Or.inl ⟨by rfl, ?_⟩) (by assumption) ?_
      · intro wz hSw
        try dsimp only at hSw
        go_simp
        intro hx; omega
      try simp only [Act.put, List.setIfInBounds_toArray, List.set_cons_zero, List.set_cons_succ]
      refine wpAnyH_ready (rs := [6]) (by kernel_rfl) (by simp) ?_
      refine AllReadyH.cons (o := ⟨_, _, _, _, _, _⟩) rfl (fun K hK => ?_) AllReadyH.nil
      go_simp
      refine (K1.out _ (RD.out.step UP.out.bel)).mono ?_
      rintro e wz1 ⟨A1, c1, n1, rfl, hn, hc, ho, hb⟩
      replace ho := ho.mono UP.out.bel.size
      replace UP := Lib.hid (UP.out.step hb)
      have HN1 := Lib.hid hn
      have HC1 := Lib.hid hc
      have O1 := Lib.hid ho
      clear hb hn hc ho hHeld
      refine hK.out _ _ trivial (fun hHeld => ?_)
      clear hK K
      try simp only [Act.put, List.setIfInBounds_toArray, List.set_cons_zero, List.set_cons_succ]
      refine wpAnyH_ready (rs := [10]) (by kernel_rfl) (by simp) ?_
      refine AllReadyH.cons (o := ⟨_, _, _, _, _, _⟩) rfl (fun K hK => ?_) AllReadyH.nil
      go_simp
      refine (KT.out _ (RT.out.step UP.out.bel)).mono ?_
      rintro e wz2 ⟨rfl, hb⟩
      replace UP := Lib.hid (UP.out.step hb)
      replace O1 := Lib.hid (O1.out.step hb)
      clear hb hHeld
      refine hK.out _ _ trivial (fun hHeld => ?_)
      clear hK K
      try simp only [Act.put, List.setIfInBounds_toArray, List.set_cons_zero, List.set_cons_succ]
      refine wpAnyH_ready (rs := [11]) (by kernel_rfl) (by simp) ?_
      refine AllReadyH.cons (o := ⟨_, _, _, _, _, _⟩) rfl (fun K hK => ?_) AllReadyH.nil
      go_simp
      have RP : Hid (Rs (wz2.alloc (.cells #[.string (S3.B r1)] 9)) (some ⟨wz2.heap.size, 0, none⟩) [r1]) := Lib.hid (Rs.lit wz2 [r1])
      replace UP := Lib.hid (UP.out.alloc (.cells #[.string (S3.B r1)] 9))
      replace O1 := Lib.hid (O1.out.alloc (.cells #[.string (S3.B r1)] 9))
      clear hHeld
      refine hK.out _ _ trivial (fun hHeld => ?_)
      clear hK K
      try simp only [Act.put, List.setIfInBounds_toArray, List.set_cons_zero, List.set_cons_succ]
      generalize hgx : wz2.heap.size = gx at *
      clear hgx
      generalize wz2.alloc (.cells #[.string (S3.B r1)] 9) = wz3 at *
      refine wpAnyH_ready (rs := [12]) (by kernel_rfl) (by simp) ?_
      refine AllReadyH.cons (o := ⟨_, _, _, _, _, _⟩) rfl (fun K hK => ?_) AllReadyH.nil
      refine step_app rfl _ _ rfl O1.out (RP.out) rfl rfl rfl (by rw [List.length_singleton]; omega) UP.out.bel.size ?_
      intro v' wz4 ho hg
      have hu := UP.out.grown O1.out (Nat.le_refl _) hg
      obtain ⟨A4, n4, c4, rfl, hn, hc⟩ := ho.sl3
      replace UP := Lib.hid hu
      have O4 := Lib.hid ho
      have HN4 := Lib.hid hn
      have HC4 := Lib.hid hc
      clear ho hg hu hn hc hHeld O1 
      refine hK.out _ _ trivial (fun hHeld => ?_)
      clear hK K
      try simp only [Act.put, List.setIfInBounds_toArray, List.set_cons_zero, List.set_cons_succ]
      refine wpAnyH_take (i := 13) (oi := ⟨_, _, _, _, _, _⟩) (v := ?_) rfl (by kernel_rfl) (by kernel_rfl) (by kernel_rfl) (fun _ _ _ h => h) (Or.inl ⟨by rfl, ?_⟩) (by assumption) ?_
      rotate_left
      · intro wz hSw
        try dsimp only at hSw
        go_simp
        try with_reducible rfl
      try simp only [Act.put, List.setIfInBounds_toArray, List.set_cons_zero, List.set_cons_succ]
      refine wpAnyH_done (by kernel_rfl) ?_ _
      clear hHeld
      go_wp2
      go_ret
      exact .mk_ O4.out UP.out.bel

def inn (l : List Str) (m : Nat) (b : Bool) : List Str := (linkR l m b).reverse
theorem inn_t (l : List Str) : inn l l.length true = [] := by rw [inn, linkR_all]; rfl
theorem inn_f (l : List Str) : inn l l.length false = [root l] := by rw [inn, linkR_all]; rfl
theorem inn_lo {l : List Str} {m : Nat} {b : Bool} (h : 2 ≤ l.length) (hn : m ≠ l.length) (hm : m ≤ sp l.length) : inn l m b = inn (l.take (sp l.length)) m b ++ [root (l.drop (sp l.length))] := by
  rw [inn, linkR_lo h hn hm, List.reverse_cons]; rfl
theorem inn_hi {l : List Str} {m : Nat} {b : Bool} (h : 2 ≤ l.length) (hn : m ≠ l.length) (hm : sp l.length < m) : inn l m b = inn (l.drop (sp l.length)) (m - sp l.length) false ++ [root (l.take (sp l.length))] := by
  rw [inn, linkR_hi h hn hm, List.reverse_cons]; rfl
theorem inn_length (l : List Str) (m : Nat) (b : Bool) : (inn l m b).length ≤ l.length + 1 := by rw [inn, List.length_reverse]; exact linkR_length _ _ _ _ (Nat.le_refl _)
def InnC (f : Nat) (l r : List Str) (m : Nat) (b : Bool) : Prop := ∀ (A : Option Addr) (c n : Nat) (z : Int) (w : World), n = l.length → z = (m : Int) → Rs w A l → n ≤ c → Calls Tryd.prog f #[.slice A n c, .int .i64 z, .bool b] w (Gives w r)
set_option maxHeartbeats 8000000 in
set_option maxRecDepth 100000 in
theorem rinner_any (d : Nat) : ∀ (l : List Str) (i : Nat) (b : Bool), l.length ≤ d → l.length ≤ 200 → (∀ s ∈ l, s.length ≤ 1000) → 1 ≤ i → i ≤ l.length → InnC 36 l (inn l i b) i b := by
  induction d with
  | zero => intro l i b hd _ _ h1 hi; omega
  | succ d ih =>
    intro l i b hd h200 hs h1 hi A c n z w hn hz hr hc
    subst hz
    obtain ⟨a, rfl⟩ := hr.some_ (by omega)
    by_cases he : i = l.length
    · subst he
      cases b with
      | true =>
        rw [inn_t]
        clear ih hs hr hd
        rw [← hn]
        clear hn h1 h200 hi
        go_enter Tryd.func36, Tryd.ntmps36
        go_wp2
        go_ret
        exact .mk_ (Own.nil _ _) (Below.refl _ _)
      | false =>
        rw [inn_f]
        have kr := rroot_any 200 l (by omega) (by omega) hs (some a) c n w hn hr hc
        rw [← hn]
        generalize root l = r at *
        have KR := Lib.hid kr
        have UP := Lib.hid (Up.start w)
        clear kr ih hs hr hd hn h1 h200 hi
        go_enter Tryd.func36, Tryd.ntmps36
        go_wp2_with fail
        refine KR.out.mono ?_
        rintro e w1 ⟨rfl, hb⟩
        replace UP := Lib.hid (UP.out.step hb)
        clear hb
        go_wp2
        go_ret
        exact .mk_ (Own.lit w1 [r] UP.out.bel.size (by simp)) (UP.out.alloc _).bel
    have h2 : 2 ≤ l.length := by omega
    by_cases hik : i ≤ sp l.length
    · have hik' : (i : Int) ≤ (sp l.length : Int) := by omega
      have he2 : ((i : Int) == (l.length : Int)) = false := by simp; omega
      have hsp := fun w => rsplit_any l.length w h2 (by omega)
      have hp := sp_pos l.length
      have hk := sp_lt h2
      have hsT : ∀ s ∈ l.take (sp l.length), s.length ≤ 1000 := fun s h => hs s (List.mem_of_mem_take h)
      have hsD : ∀ s ∈ l.drop (sp l.length), s.length ≤ 1000 := fun s h => hs s (List.mem_of_mem_drop h)
      have eT : (l.take (sp l.length)).length = sp l.length := by rw [List.length_take]; omega
      have eD : (l.drop (sp l.length)).length = l.length - sp l.length := by rw [List.length_drop]
      have kT := fun w h => rroot_any 200 (l.take (sp l.length)) (by omega) (by omega) hsT (some a) c (sp l.length) w eT.symm h (by omega)
      have kD := fun w h => rroot_any 200 (l.drop (sp l.length)) (by omega) (by omega) hsD (some (a.add (sp l.length))) (c - sp l.length) (l.length - sp l.length) w eD.symm h (by omega)
      have rt := hr.take (sp l.length)
      have rd := hr.drop (sp l.length)
      have bT := root_le (n := 1000) (by omega) hsT
      have bD := root_le (n := 1000) (by omega) hsD
      have k1 := fun w h => ih (l.take (sp l.length)) i b (by omega) (by omega) hsT h1 (by omega) (some a) c (sp l.length) (i : Int) w eT.symm rfl h (by omega)
      have l1 := inn_length (l.take (sp l.length)) i b
      rw [inn_lo h2 he hik]
      rw [← hn] at kT kD k1 hsp hp hk rt rd h2 h200 eT eD l1 hik hik' hi he he2 ⊢
      generalize l.take (sp n) = lT at *
      generalize l.drop (sp n) = lD at *
      generalize root lT = r1 at *
      generalize root lD = r2 at *
      generalize inn lT i b = i1 at *
      generalize sp n = k at *
      have hn2 : (n : Int) ≤ 200 := by omega
      have KT := Lib.hid kT
      have KD := Lib.hid kD
      have KS := Lib.hid hsp
      have RT := Lib.hid rt
      have RD := Lib.hid rd
      have UP := Lib.hid (Up.start w)
      have K1 := Lib.hid k1
      have hl1 : i1.length ≤ 200 := by omega
      clear ih hs hsT hsD k1 kT kD hsp rt rd hr hd h200 hn bT bD eT eD l1
      go_enter Tryd.func36, Tryd.ntmps36
      go_wp2_with fail
      refine (KS.out _).mono ?_
      rintro e' w1 ⟨rfl, rfl⟩
      go_wp2
      replace UP := Lib.hid UP.out.drew
      refine wp_region_held_drew (S := (fun _ => True)) (by kernel_rfl) trivial (fun hHeld => ?_)
      generalize w.drew = wd at *
      refine wpAnyH_take (i := 0) (oi := ⟨_, _, _, _, _, _⟩) (v := ?_) rfl (by kernel_rfl) (by kernel_rfl) (by kernel_rfl) (fun _ _ _ h => h) (Or.inl ⟨by rfl, ?_⟩) (by assumption) ?_
      rotate_left
      · intro wz hSw
        try dsimp only at hSw
        go_simp
        try with_reducible rfl
      try simp only [Act.put, List.setIfInBounds_toArray, List.set_cons_zero, List.set_cons_succ]
      refine wpAnyH_take (i := 1) (oi := ⟨_, _, _, _, _, _⟩) (v := ?_) rfl (by kernel_rfl) (by kernel_rfl) (by kernel_rfl) (fun _ _ _ h => h) (Or.inl ⟨by rfl, ?_⟩) (by assumption) ?_
      rotate_left
      · intro wz hSw
        try dsimp only at hSw
        go_simp
        try with_reducible rfl
      try simp only [Act.put, List.setIfInBounds_toArray, List.set_cons_zero, List.set_cons_succ]
      refine wpAnyH_take (i := 2) (oi := ⟨_, _, _, _, _, _⟩) (v := .slice (some a) k c) rfl (by kernel_rfl) (by kernel_rfl) (by kernel_rfl) (fun _ _ _ h => h) (Or.inl ⟨by rfl, ?_⟩) (by assumption) ?_
      · intro wz hSw
        try dsimp only at hSw
        go_simp
        intro hx; omega
      try simp only [Act.put, List.setIfInBounds_toArray, List.set_cons_zero, List.set_cons_succ]
      refine wpAnyH_take (i := 3) (oi := ⟨_, _, _, _, _, _⟩) (v := ?_) rfl (by kernel_rfl) (by kernel_rfl) (by kernel_rfl) (fun _ _ _ h => h) (Or.inl ⟨by rfl, ?_⟩) (by assumption) ?_
      rotate_left
      · intro wz hSw
        try dsimp only at hSw
        go_simp
        try with_reducible rfl
      try simp only [Act.put, List.setIfInBounds_toArray, List.set_cons_zero, List.set_cons_succ]
      refine wpAnyH_take (i := 4) (oi := ⟨_, _, _, _, _, _⟩) (v := ?_) rfl (by kernel_rfl) (by kernel_rfl) (by kernel_rfl) (fun _ _ _ h => h) (Or.inl ⟨by rfl, ?_⟩) (by assumption) ?_
      rotate_left
      · intro wz hSw
        try dsimp only at hSw
        go_simp
        try with_reducible rfl
      try simp only [Act.put, List.setIfInBounds_toArray, List.set_cons_zero, List.set_cons_succ]
      refine wpAnyH_take (i := 6) (oi := ⟨_, _, _, _, _, _⟩) (v := ?_) rfl (by kernel_rfl) (by kernel_rfl) (by kernel_rfl) (fun _ _ _ h => h) (Or.inl ⟨by rfl, ?_⟩) (by assumption) ?_
      rotate_left
      · intro wz hSw
        try dsimp only at hSw
        go_simp
        try with_reducible rfl
      try simp only [Act.put, List.setIfInBounds_toArray, List.set_cons_zero, List.set_cons_succ]
      refine wpAnyH_take (i := 7) (oi := ⟨_, _, _, _, _, _⟩) (v := ?_) rfl (by kernel_rfl) (by kernel_rfl) (by kernel_rfl) (fun _ _ _ h => h) (Or.inl ⟨by rfl, ?_⟩) (by assumption) ?_
      rotate_left
      · intro wz hSw
        try dsimp only at hSw
        go_simp
        try with_reducible rfl
      try simp only [Act.put, List.setIfInBounds_toArray, List.set_cons_zero, List.set_cons_succ]
      refine wpAnyH_take (i := 8) (oi := ⟨_, _, _, _, _, _⟩) (v := .slice (some (a.add k)) (n - k) (c - k)) rfl (by kernel_rfl) (by kernel_rfl) (by kernel_rfl) (fun _ _ _ h => h) (Or.inl ⟨by rfl, ?_⟩) (by assumption) ?_
      · intro wz hSw
        try dsimp only at hSw
        go_simp
        rw [if_pos (by omega), if_neg (by omega)]
      try simp only [Act.put, List.setIfInBounds_toArray, List.set_cons_zero, List.set_cons_succ]
      refine wpAnyH_ready (rs := [5]) (by kernel_rfl) (by simp) ?_
      refine AllReadyH.cons (o := ⟨_, _, _, _, _, _⟩) rfl (fun K hK => ?_) AllReadyH.nil
      go_simp
      refine (K1.out _ (RT.out.step UP.out.bel)).mono ?_
      rintro e wz1 ⟨A1, c1, n1, rfl, hn, hc, ho, hb⟩
      replace ho := ho.mono UP.out.bel.size
      replace UP := Lib.hid (UP.out.step hb)
      have HN1 := Lib.hid hn
      have HC1 := Lib.hid hc
      have O1 := Lib.hid ho
      clear hb hn hc ho hHeld
      refine hK.out _ _ trivial (fun hHeld => ?_)
      clear hK K
      try simp only [Act.put, List.setIfInBounds_toArray, List.set_cons_zero, List.set_cons_succ]
      refine wpAnyH_ready (rs := [9]) (by kernel_rfl) (by simp) ?_
      refine AllReadyH.cons (o := ⟨_, _, _, _, _, _⟩) rfl (fun K hK => ?_) AllReadyH.nil
      go_simp
      refine (KD.out _ (RD.out.step UP.out.bel)).mono ?_
      rintro e wz2 ⟨rfl, hb⟩
      replace UP := Lib.hid (UP.out.step hb)
      replace O1 := Lib.hid (O1.out.step hb)
      clear hb hHeld
      refine hK.out _ _ trivial (fun hHeld => ?_)
      clear hK K
      try simp only [Act.put, List.setIfInBounds_toArray, List.set_cons_zero, List.set_cons_succ]
      refine wpAnyH_ready (rs := [10]) (by kernel_rfl) (by simp) ?_
      refine AllReadyH.cons (o := ⟨_, _, _, _, _, _⟩) rfl (fun K hK => ?_) AllReadyH.nil
      go_simp
      have RP : Hid (Rs (wz2.alloc (.cells #[.string (S3.B r2)] 9)) (some ⟨wz2.heap.size, 0, none⟩) [r2]) := Lib.hid (Rs.lit wz2 [r2])
      replace UP := Lib.hid (UP.out.alloc (.cells #[.string (S3.B r2)] 9))
      replace O1 := Lib.hid (O1.out.alloc (.cells #[.string (S3.B r2)] 9))
      clear hHeld
      refine hK.out _ _ trivial (fun hHeld => ?_)
      clear hK K
      try simp only [Act.put, List.setIfInBounds_toArray, List.set_cons_zero, List.set_cons_succ]
      generalize hgx : wz2.heap.size = gx at *
      clear hgx
      generalize wz2.alloc (.cells #[.string (S3.B r2)] 9) = wz3 at *
      refine wpAnyH_ready (rs := [11]) (by kernel_rfl) (by simp) ?_
      refine AllReadyH.cons (o := ⟨_, _, _, _, _, _⟩) rfl (fun K hK => ?_) AllReadyH.nil
      refine step_app rfl _ _ rfl O1.out (RP.out) rfl rfl rfl (by rw [List.length_singleton]; omega) UP.out.bel.size ?_
      intro v' wz4 ho hg
      have hu := UP.out.grown O1.out (Nat.le_refl _) hg
      obtain ⟨A4, n4, c4, rfl, hn, hc⟩ := ho.sl3
      replace UP := Lib.hid hu
      have O4 := Lib.hid ho
      have HN4 := Lib.hid hn
      have HC4 := Lib.hid hc
      clear ho hg hu hn hc hHeld O1 
      refine hK.out _ _ trivial (fun hHeld => ?_)
      clear hK K
      try simp only [Act.put, List.setIfInBounds_toArray, List.set_cons_zero, List.set_cons_succ]
      refine wpAnyH_take (i := 12) (oi := ⟨_, _, _, _, _, _⟩) (v := ?_) rfl (by kernel_rfl) (by kernel_rfl) (by kernel_rfl) (fun _ _ _ h => h) (Or.inl ⟨by rfl, ?_⟩) (by assumption) ?_
      rotate_left
      · intro wz hSw
        try dsimp only at hSw
        go_simp
        try with_reducible rfl
      try simp only [Act.put, List.setIfInBounds_toArray, List.set_cons_zero, List.set_cons_succ]
      refine wpAnyH_done (by kernel_rfl) ?_ _
      clear hHeld
      go_wp2
      go_ret
      exact .mk_ O4.out UP.out.bel
    · have hik' : (sp l.length : Int) < (i : Int) := by omega
      have he2 : ((i : Int) == (l.length : Int)) = false := by simp; omega
      have hsp := fun w => rsplit_any l.length w h2 (by omega)
      have hp := sp_pos l.length
      have hk := sp_lt h2
      have hsT : ∀ s ∈ l.take (sp l.length), s.length ≤ 1000 := fun s h => hs s (List.mem_of_mem_take h)
      have hsD : ∀ s ∈ l.drop (sp l.length), s.length ≤ 1000 := fun s h => hs s (List.mem_of_mem_drop h)
      have eT : (l.take (sp l.length)).length = sp l.length := by rw [List.length_take]; omega
      have eD : (l.drop (sp l.length)).length = l.length - sp l.length := by rw [List.length_drop]
      have kT := fun w h => rroot_any 200 (l.take (sp l.length)) (by omega) (by omega) hsT (some a) c (sp l.length) w eT.symm h (by omega)
      have kD := fun w h => rroot_any 200 (l.drop (sp l.length)) (by omega) (by omega) hsD (some (a.add (sp l.length))) (c - sp l.length) (l.length - sp l.length) w eD.symm h (by omega)
      have rt := hr.take (sp l.length)
      have rd := hr.drop (sp l.length)
      have bT := root_le (n := 1000) (by omega) hsT
      have bD := root_le (n := 1000) (by omega) hsD
      have k1 := fun w h => ih (l.drop (sp l.length)) (i - sp l.length) false (by omega) (by omega) hsD (by omega) (by omega) (some (a.add (sp l.length))) (c - sp l.length) (l.length - sp l.length) ((i : Int) - (sp l.length : Int)) w eD.symm (by omega) h (by omega)
      have l1 := inn_length (l.drop (sp l.length)) (i - sp l.length) false
      rw [inn_hi h2 he (by omega)]
      rw [← hn] at kT kD k1 hsp hp hk rt rd h2 h200 eT eD l1 hik hik' hi he he2 ⊢
      generalize l.take (sp n) = lT at *
      generalize l.drop (sp n) = lD at *
      generalize root lT = r1 at *
      generalize root lD = r2 at *
      generalize inn lD (i - sp n) false = i1 at *
      generalize sp n = k at *
      have hn2 : (n : Int) ≤ 200 := by omega
      have KT := Lib.hid kT
      have KD := Lib.hid kD
      have KS := Lib.hid hsp
      have RT := Lib.hid rt
      have RD := Lib.hid rd
      have UP := Lib.hid (Up.start w)
      have K1 := Lib.hid k1
      have hl1 : i1.length ≤ 200 := by omega
      have hsub : IntKind.i64.wrap ((i : Int) - (k : Int)) = (i : Int) - (k : Int) := IntWalk.i64_in _ (by omega)
      clear ih hs hsT hsD k1 kT kD hsp rt rd hr hd h200 hn bT bD eT eD l1
      go_enter Tryd.func36, Tryd.ntmps36
      go_wp2_with fail
      refine (KS.out _).mono ?_
      rintro e' w1 ⟨rfl, rfl⟩
      go_wp2
      replace UP := Lib.hid UP.out.drew
      refine wp_region_held_drew (S := (fun _ => True)) (by kernel_rfl) trivial (fun hHeld => ?_)
      generalize w.drew = wd at *
      refine wpAnyH_take (i := 0) (oi := ⟨_, _, _, _, _, _⟩) (v := ?_) rfl (by kernel_rfl) (by kernel_rfl) (by kernel_rfl) (fun _ _ _ h => h) (Or.inl ⟨by rfl, ?_⟩) (by assumption) ?_
      rotate_left
      · intro wz hSw
        try dsimp only at hSw
        go_simp
        try with_reducible rfl
      try simp only [Act.put, List.setIfInBounds_toArray, List.set_cons_zero, List.set_cons_succ]
      refine wpAnyH_take (i := 1) (oi := ⟨_, _, _, _, _, _⟩) (v := ?_) rfl (by kernel_rfl) (by kernel_rfl) (by kernel_rfl) (fun _ _ _ h => h) (Or.inl ⟨by rfl, ?_⟩) (by assumption) ?_
      rotate_left
      · intro wz hSw
        try dsimp only at hSw
        go_simp
        try with_reducible rfl
      try simp only [Act.put, List.setIfInBounds_toArray, List.set_cons_zero, List.set_cons_succ]
      refine wpAnyH_take (i := 2) (oi := ⟨_, _, _, _, _, _⟩) (v := .slice (some (a.add k)) (n - k) (c - k)) rfl (by kernel_rfl) (by kernel_rfl) (by kernel_rfl) (fun _ _ _ h => h) (Or.inl ⟨by rfl, ?_⟩) (by assumption) ?_
      · intro wz hSw
        try dsimp only at hSw
        go_simp
        rw [if_pos (by omega), if_neg (by omega)]
      try simp only [Act.put, List.setIfInBounds_toArray, List.set_cons_zero, List.set_cons_succ]
      refine wpAnyH_take (i := 3) (oi := ⟨_, _, _, _, _, _⟩) (v := ?_) rfl (by kernel_rfl) (by kernel_rfl) (by kernel_rfl) (fun _ _ _ h => h) (Or.inl ⟨by rfl, ?_⟩) (by assumption) ?_
      rotate_left
      · intro wz hSw
        try dsimp only at hSw
        go_simp
        try with_reducible rfl
      try simp only [Act.put, List.setIfInBounds_toArray, List.set_cons_zero, List.set_cons_succ]
      refine wpAnyH_take (i := 4) (oi := ⟨_, _, _, _, _, _⟩) (v := ?_) rfl (by kernel_rfl) (by kernel_rfl) (by kernel_rfl) (fun _ _ _ h => h) (Or.inl ⟨by rfl, ?_⟩) (by assumption) ?_
      rotate_left
      · intro wz hSw
        try dsimp only at hSw
        go_simp
        try with_reducible rfl
      try simp only [Act.put, List.setIfInBounds_toArray, List.set_cons_zero, List.set_cons_succ]
      refine wpAnyH_take (i := 5) (oi := ⟨_, _, _, _, _, _⟩) (v := .int .i64 ((i : Int) - (k : Int))) rfl (by kernel_rfl) (by kernel_rfl) (by kernel_rfl) (fun _ _ _ h => h) (Or.inl ⟨by rfl, ?_⟩) (by assumption) ?_
      · intro wz hSw
        try dsimp only at hSw
        go_simp
      try simp only [Act.put, List.setIfInBounds_toArray, List.set_cons_zero, List.set_cons_succ]
      refine wpAnyH_take (i := 7) (oi := ⟨_, _, _, _, _, _⟩) (v := ?_) rfl (by kernel_rfl) (by kernel_rfl) (by kernel_rfl) (fun _ _ _ h => h) (Or.inl ⟨by rfl, ?_⟩) (by assumption) ?_
      rotate_left
      · intro wz hSw
        try dsimp only at hSw
        go_simp
        try with_reducible rfl
      try simp only [Act.put, List.setIfInBounds_toArray, List.set_cons_zero, List.set_cons_succ]
      refine wpAnyH_take (i := 8) (oi := ⟨_, _, _, _, _, _⟩) (v := ?_) rfl (by kernel_rfl) (by kernel_rfl) (by kernel_rfl) (fun _ _ _ h => h) (Or.inl ⟨by rfl, ?_⟩) (by assumption) ?_
      rotate_left
      · intro wz hSw
        try dsimp only at hSw
        go_simp
        try with_reducible rfl
      try simp only [Act.put, List.setIfInBounds_toArray, List.set_cons_zero, List.set_cons_succ]
      refine wpAnyH_take (i := 9) (oi := ⟨_, _, _, _, _, _⟩) (v := .slice (some a) k c) rfl (by kernel_rfl) (by kernel_rfl) (by kernel_rfl) (fun _ _ _ h => h) (Or.inl ⟨by rfl, ?_⟩) (by assumption) ?_
      · intro wz hSw
        try dsimp only at hSw
        go_simp
        intro hx; omega
      try simp only [Act.put, List.setIfInBounds_toArray, List.set_cons_zero, List.set_cons_succ]
      refine wpAnyH_ready (rs := [6]) (by kernel_rfl) (by simp) ?_
      refine AllReadyH.cons (o := ⟨_, _, _, _, _, _⟩) rfl (fun K hK => ?_) AllReadyH.nil
      go_simp
      refine (K1.out _ (RD.out.step UP.out.bel)).mono ?_
      rintro e wz1 ⟨A1, c1, n1, rfl, hn, hc, ho, hb⟩
      replace ho := ho.mono UP.out.bel.size
      replace UP := Lib.hid (UP.out.step hb)
      have HN1 := Lib.hid hn
      have HC1 := Lib.hid hc
      have O1 := Lib.hid ho
      clear hb hn hc ho hHeld
      refine hK.out _ _ trivial (fun hHeld => ?_)
      clear hK K
      try simp only [Act.put, List.setIfInBounds_toArray, List.set_cons_zero, List.set_cons_succ]
      refine wpAnyH_ready (rs := [10]) (by kernel_rfl) (by simp) ?_
      refine AllReadyH.cons (o := ⟨_, _, _, _, _, _⟩) rfl (fun K hK => ?_) AllReadyH.nil
      go_simp
      refine (KT.out _ (RT.out.step UP.out.bel)).mono ?_
      rintro e wz2 ⟨rfl, hb⟩
      replace UP := Lib.hid (UP.out.step hb)
      replace O1 := Lib.hid (O1.out.step hb)
      clear hb hHeld
      refine hK.out _ _ trivial (fun hHeld => ?_)
      clear hK K
      try simp only [Act.put, List.setIfInBounds_toArray, List.set_cons_zero, List.set_cons_succ]
      refine wpAnyH_ready (rs := [11]) (by kernel_rfl) (by simp) ?_
      refine AllReadyH.cons (o := ⟨_, _, _, _, _, _⟩) rfl (fun K hK => ?_) AllReadyH.nil
      go_simp
      have RP : Hid (Rs (wz2.alloc (.cells #[.string (S3.B r1)] 9)) (some ⟨wz2.heap.size, 0, none⟩) [r1]) := Lib.hid (Rs.lit wz2 [r1])
      replace UP := Lib.hid (UP.out.alloc (.cells #[.string (S3.B r1)] 9))
      replace O1 := Lib.hid (O1.out.alloc (.cells #[.string (S3.B r1)] 9))
      clear hHeld
      refine hK.out _ _ trivial (fun hHeld => ?_)
      clear hK K
      try simp only [Act.put, List.setIfInBounds_toArray, List.set_cons_zero, List.set_cons_succ]
      generalize hgx : wz2.heap.size = gx at *
      clear hgx
      generalize wz2.alloc (.cells #[.string (S3.B r1)] 9) = wz3 at *
      refine wpAnyH_ready (rs := [12]) (by kernel_rfl) (by simp) ?_
      refine AllReadyH.cons (o := ⟨_, _, _, _, _, _⟩) rfl (fun K hK => ?_) AllReadyH.nil
      refine step_app rfl _ _ rfl O1.out (RP.out) rfl rfl rfl (by rw [List.length_singleton]; omega) UP.out.bel.size ?_
      intro v' wz4 ho hg
      have hu := UP.out.grown O1.out (Nat.le_refl _) hg
      obtain ⟨A4, n4, c4, rfl, hn, hc⟩ := ho.sl3
      replace UP := Lib.hid hu
      have O4 := Lib.hid ho
      have HN4 := Lib.hid hn
      have HC4 := Lib.hid hc
      clear ho hg hu hn hc hHeld O1 
      refine hK.out _ _ trivial (fun hHeld => ?_)
      clear hK K
      try simp only [Act.put, List.setIfInBounds_toArray, List.set_cons_zero, List.set_cons_succ]
      refine wpAnyH_take (i := 13) (oi := ⟨_, _, _, _, _, _⟩) (v := ?_) rfl (by kernel_rfl) (by kernel_rfl) (by kernel_rfl) (fun _ _ _ h => h) (Or.inl ⟨by rfl, ?_⟩) (by assumption) ?_
      rotate_left
      · intro wz hSw
        try dsimp only at hSw
        go_simp
        try with_reducible rfl
      try simp only [Act.put, List.setIfInBounds_toArray, List.set_cons_zero, List.set_cons_succ]
      refine wpAnyH_done (by kernel_rfl) ?_ _
      clear hHeld
      go_wp2
      go_ret
      exact .mk_ O4.out UP.out.bel
set_option maxHeartbeats 8000000 in
set_option maxRecDepth 100000 in
theorem rlink_any (l : List Str) (m : Nat) (h200 : l.length ≤ 200) (hs : ∀ s ∈ l, s.length ≤ 1000) (hm : m ≤ l.length) : PathC 19 l (link l m) m := by
  intro A c n z w hn hz hr hc
  subst hz
  by_cases h0 : m = 0
  · subst h0
    rw [link, if_pos rfl]
    clear hs hr hn h200 hm
    go_enter Tryd.func19, Tryd.ntmps19
    go_wp2
    go_ret
    exact .mk_ (Own.nil _ _) (Below.refl _ _)
  · have k := rinner_any 200 l m true h200 h200 hs (by omega) hm A c n (m : Int) w hn rfl hr hc
    rw [link, if_neg h0]
    rw [show (linkR l m true).reverse = inn l m true from rfl]
    generalize inn l m true = r at *
    have K := Lib.hid k
    have hm0 : ((m : Int) == 0) = false := by simp; omega
    clear k hs hr hn h200 hm h0
    go_enter Tryd.func19, Tryd.ntmps19
    go_wp2_with fail
    refine K.out.mono ?_
    rintro e w1 ⟨A1, c1, n1, rfl, hn, hc1, ho, hb⟩
    have HO := Lib.hid ho
    have HB := Lib.hid hb
    clear hn hc1 ho hb
    go_wp2
    go_ret
    exact .mk_ HO.out HB.out
end Mk
end Go.Proofs.YtfemgakfckabhaaDoor
