/-
  Layer 8: the reference's Root.
-/
import Derived.Test.YtfemgakfckabhaaDoorMerkleApp
namespace Go.Proofs.YtfemgakfckabhaaDoor
open Go.RowKit
namespace Mk
attribute [local go_sem] S3.B_size S3.B_app S3.B_list
def RootC (f : Nat) (l : List Str) : Prop := ∀ (A : Option Addr) (c n : Nat) (w : World), n = l.length → Rs w A l → n ≤ c →
  Calls Tryd.prog f #[.slice A n c] w fun e w' => e = .returned (.string (S3.B (root l))) ∧ Below w.heap.size w w'

set_option maxHeartbeats 8000000 in
set_option maxRecDepth 100000 in
theorem rroot_any (d : Nat) : ∀ (l : List Str), l.length ≤ d → l.length ≤ 200 → (∀ s ∈ l, s.length ≤ 1000) → RootC 16 l := by
  induction d with
  | zero =>
    intro l hd _ _ A c n w hn hr hc
    obtain rfl : l = [] := List.eq_nil_of_length_eq_zero (by omega)
    obtain rfl : n = 0 := hn
    have k := rsha_any [] w (by simp)
    rw [root_nil]
    generalize H [] = x at *
    rw [← litN] at k
    have K := Lib.hid k
    clear k hr
    go_enter Tryd.func16, Tryd.ntmps16
    go_wp2_with fail
    refine K.out.mono ?_
    rintro e w1 ⟨rfl, hb⟩
    have HB := Lib.hid hb
    clear hb
    go_wp2
    go_ret
    exact ⟨rfl, HB.out⟩
  | succ d ih =>
    intro l hd h200 hs A c n w hn hr hc
    by_cases h0 : l.length = 0
    · exact ih l (by omega) h200 hs A c n w hn hr hc
    obtain ⟨a, rfl⟩ := hr.some_ (by omega)
    by_cases h1 : l.length = 1
    · obtain ⟨s, rfl⟩ := len_one h1
      obtain rfl : n = 1 := hn
      rw [root_one]
      have hx : w.cell? a = some (.string (S3.B s)) := hr.at_ (k := 0) (by simp)
      clear ih hr hs
      go_enter Tryd.func16, Tryd.ntmps16
      go_wp2
      go_ret
      exact ⟨rfl, Below.refl _ _⟩
    · have h2 : 2 ≤ l.length := by omega
      have hsp := fun w => rsplit_any l.length w h2 (by omega)
      have hp := sp_pos l.length
      have hk := sp_lt h2
      have hsT : ∀ s ∈ l.take (sp l.length), s.length ≤ 1000 := fun s h => hs s (List.mem_of_mem_take h)
      have hsD : ∀ s ∈ l.drop (sp l.length), s.length ≤ 1000 := fun s h => hs s (List.mem_of_mem_drop h)
      have k1 := ih (l.take (sp l.length)) (by rw [List.length_take]; omega) (by rw [List.length_take]; omega) hsT
      have k2 := ih (l.drop (sp l.length)) (by rw [List.length_drop]; omega) (by rw [List.length_drop]; omega) hsD
      have kn := fun w => rnode_any (root (l.take (sp l.length))) (root (l.drop (sp l.length))) w (root_le (by omega) hsT) (root_le (by omega) hsD)
      rw [root_two h2]
      have rt := hr.take (sp l.length)
      have rd := hr.drop (sp l.length)
      have lt : sp l.length = (l.take (sp l.length)).length := by rw [List.length_take]; omega
      have ld : l.length - sp l.length = (l.drop (sp l.length)).length := by rw [List.length_drop]
      have k1' := fun w h => k1 (some a) c (sp l.length) w lt h (by omega)
      have k2' := fun w h => k2 (some (a.add (sp l.length))) (c - sp l.length) (l.length - sp l.length) w ld h (by omega)
      rw [← hn] at k2' rt rd hk hp hsp h2 k1' kn ⊢
      clear lt ld
      generalize l.take (sp n) = lT at *
      generalize l.drop (sp n) = lD at *
      generalize root lT = r1 at *
      generalize root lD = r2 at *
      generalize node r1 r2 = x at *
      generalize sp n = k at *
      have hn2 : (n : Int) ≤ 200 := by omega
      have K1 := Lib.hid k1'
      have K2 := Lib.hid k2'
      have KN := Lib.hid kn
      have KS := Lib.hid hsp
      have RT := Lib.hid rt
      have RD := Lib.hid rd
      have UP := Lib.hid (Up.start w)
      clear ih hs hsT hsD k1 k2 k1' k2' kn hsp rt rd hr h0 h1 hd h200 hn
      go_enter Tryd.func16, Tryd.ntmps16
      go_wp2_with fail
      refine (KS.out _).mono ?_
      rintro e' w1 ⟨rfl, rfl⟩
      go_wp2
      replace UP := Lib.hid UP.out.drew
      refine wp_region_held_drew (S := (fun _ => True)) (by kernel_rfl) trivial (fun hHeld => ?_)
      generalize w.drew = wd at *
      refine wpAnyH_take (i := 0) (oi := ⟨_, _, _, _, _, _⟩) (v := ?_) rfl (by kernel_rfl) (by kernel_rfl) (by kernel_rfl) (fun _ _ _ h => h) (Or.inl ⟨by rfl, ?_⟩) (by assumption) ?_
      rotate_left
      · intro wz hSw
        try dsimp only at hSw
        go_simp
        try with_reducible rfl
      try simp only [Act.put, List.setIfInBounds_toArray, List.set_cons_zero, List.set_cons_succ]
      refine wpAnyH_take (i := 1) (oi := ⟨_, _, _, _, _, _⟩) (v := ?_) rfl (by kernel_rfl) (by kernel_rfl) (by kernel_rfl) (fun _ _ _ h => h) (Or.inl ⟨by rfl, ?_⟩) (by assumption) ?_
      rotate_left
      · intro wz hSw
        try dsimp only at hSw
        go_simp
        try with_reducible rfl
      try simp only [Act.put, List.setIfInBounds_toArray, List.set_cons_zero, List.set_cons_succ]
      refine wpAnyH_take (i := 2) (oi := ⟨_, _, _, _, _, _⟩) (v := .slice (some a) k c) rfl (by kernel_rfl) (by kernel_rfl) (by kernel_rfl) (fun _ _ _ h => h) (Or.inl ⟨by rfl, ?_⟩) (by assumption) ?_
      · intro wz hSw
        try dsimp only at hSw
        go_simp
        intro hx; omega
      try simp only [Act.put, List.setIfInBounds_toArray, List.set_cons_zero, List.set_cons_succ]
      refine wpAnyH_take (i := 4) (oi := ⟨_, _, _, _, _, _⟩) (v := ?_) rfl (by kernel_rfl) (by kernel_rfl) (by kernel_rfl) (fun _ _ _ h => h) (Or.inl ⟨by rfl, ?_⟩) (by assumption) ?_
      rotate_left
      · intro wz hSw
        try dsimp only at hSw
        go_simp
        try with_reducible rfl
      try simp only [Act.put, List.setIfInBounds_toArray, List.set_cons_zero, List.set_cons_succ]
      refine wpAnyH_take (i := 5) (oi := ⟨_, _, _, _, _, _⟩) (v := ?_) rfl (by kernel_rfl) (by kernel_rfl) (by kernel_rfl) (fun _ _ _ h => h) (Or.inl ⟨by rfl, ?_⟩) (by assumption) ?_
      rotate_left
      · intro wz hSw
        try dsimp only at hSw
        go_simp
        try with_reducible rfl
      try simp only [Act.put, List.setIfInBounds_toArray, List.set_cons_zero, List.set_cons_succ]
      refine wpAnyH_take (i := 6) (oi := ⟨_, _, _, _, _, _⟩) (v := .slice (some (a.add k)) (n - k) (c - k)) rfl (by kernel_rfl) (by kernel_rfl) (by kernel_rfl) (fun _ _ _ h => h) (Or.inl ⟨by rfl, ?_⟩) (by assumption) ?_
      · intro wz hSw
        try dsimp only at hSw
        go_simp
        rw [if_pos (by omega), if_neg (by omega)]
      try simp only [Act.put, List.setIfInBounds_toArray, List.set_cons_zero, List.set_cons_succ]
      refine wpAnyH_ready (rs := [3]) (by kernel_rfl) (by simp) ?_
      refine AllReadyH.cons (o := ⟨_, _, _, _, _, _⟩) rfl (fun K hK => ?_) AllReadyH.nil
      go_simp
      refine (K1.out _ (RT.out.step UP.out.bel)).mono ?_
      rintro e wz1 ⟨rfl, hb⟩
      replace UP := Lib.hid (UP.out.step hb)
      clear hb hHeld
      refine hK.out _ _ trivial (fun hHeld => ?_)
      clear hK K
      try simp only [Act.put, List.setIfInBounds_toArray, List.set_cons_zero, List.set_cons_succ]
      refine wpAnyH_ready (rs := [7]) (by kernel_rfl) (by simp) ?_
      refine AllReadyH.cons (o := ⟨_, _, _, _, _, _⟩) rfl (fun K hK => ?_) AllReadyH.nil
      go_simp
      refine (K2.out _ (RD.out.step UP.out.bel)).mono ?_
      rintro e wz2 ⟨rfl, hb⟩
      replace UP := Lib.hid (UP.out.step hb)
      clear hb hHeld
      refine hK.out _ _ trivial (fun hHeld => ?_)
      clear hK K
      try simp only [Act.put, List.setIfInBounds_toArray, List.set_cons_zero, List.set_cons_succ]
      refine wpAnyH_ready (rs := [8]) (by kernel_rfl) (by simp) ?_
      refine AllReadyH.cons (o := ⟨_, _, _, _, _, _⟩) rfl (fun K hK => ?_) AllReadyH.nil
      go_simp
      refine (KN.out _).mono ?_
      rintro e wz3 ⟨rfl, hb⟩
      replace UP := Lib.hid (UP.out.step hb)
      clear hb hHeld
      refine hK.out _ _ trivial (fun hHeld => ?_)
      clear hK K
      try simp only [Act.put, List.setIfInBounds_toArray, List.set_cons_zero, List.set_cons_succ]
      refine wpAnyH_take (i := 9) (oi := ⟨_, _, _, _, _, _⟩) (v := ?_) rfl (by kernel_rfl) (by kernel_rfl) (by kernel_rfl) (fun _ _ _ h => h) (Or.inl ⟨by rfl, ?_⟩) (by assumption) ?_
      rotate_left
      · intro wz hSw
        try dsimp only at hSw
        go_simp
        try with_reducible rfl
      try simp only [Act.put, List.setIfInBounds_toArray, List.set_cons_zero, List.set_cons_succ]
      refine wpAnyH_done (by kernel_rfl) ?_ _
      clear hHeld
      go_wp2
      go_ret
      exact ⟨rfl, UP.out.bel⟩
end Mk
end Go.Proofs.YtfemgakfckabhaaDoor
