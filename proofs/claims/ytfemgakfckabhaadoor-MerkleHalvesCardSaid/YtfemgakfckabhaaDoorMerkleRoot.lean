/-
  Layer 8: the landed package: Root, a closure that calls itself.
-/
import Derived.Test.YtfemgakfckabhaaDoorMerkleDig
namespace Go.Proofs.YtfemgakfckabhaaDoor
open Go.RowKit
namespace Mk
attribute [local go_sem] S3.B_size S3.B_app S3.B_list run_store_func
/-- The closure of Root, in its own cell. -/
def RClo (w : World) (g : Nat) : Prop := Lk.Bl w g [(.func (.func 32) #[] #[.pointer (some ⟨g, 0, none⟩)])] 28
theorem RClo.step {w w' : World} {g : Nat} (h : RClo w g) (hb : Below w.heap.size w w') : RClo w' g := Lk.Bl.step h hb
theorem RClo.drew {w : World} {g : Nat} (h : RClo w g) : RClo w.drew g := Lk.Bl.drew h
theorem RClo.c {w : World} {g : Nat} (h : RClo w g) (j : Nat) (v : Value) (e : ([(.func (.func 32) #[] #[.pointer (some ⟨g, 0, none⟩)])] : List Value)[j]? = some v) : w.cell? ⟨g, j, none⟩ = some v := Lk.Bl.c h j v e

set_option maxHeartbeats 8000000 in
set_option maxRecDepth 100000 in
theorem root1_any (d : Nat) : ∀ (l : List Str), l.length ≤ d → 1 ≤ l.length → l.length ≤ 200 → (∀ s ∈ l, s.length ≤ 1000) → ∀ (A : Option Addr) (c n g : Nat) (w : World), n = l.length → Rs w A l → n ≤ c → RClo w g → S3.Laid w →
    Calls Tryd.prog 32 #[.slice A n c, .pointer (some ⟨g, 0, none⟩)] w fun e w' => e = .returned (.string (S3.B (root l))) ∧ Below w.heap.size w w' := by
  induction d with
  | zero => intro l hd h1; omega
  | succ d ih =>
    intro l hd h1 h200 hs A c n g w hn hr hc hg hW
    obtain ⟨a, rfl⟩ := hr.some_ (by omega)
    by_cases he : l.length = 1
    · obtain ⟨s, rfl⟩ := len_one he
      obtain rfl : n = 1 := hn
      rw [root_one]
      have hx : w.cell? a = some (.string (S3.B s)) := hr.at_ (k := 0) (by simp)
      clear ih hr hs hg hW
      go_enter Tryd.func32, Tryd.ntmps32
      go_wp2
      go_ret
      exact ⟨rfl, Below.refl _ _⟩
    · have h2 : 2 ≤ l.length := by omega
      have hp := sp_pos l.length
      have hk := sp_lt h2
      have hsT : ∀ s ∈ l.take (sp l.length), s.length ≤ 1000 := fun s h => hs s (List.mem_of_mem_take h)
      have hsD : ∀ s ∈ l.drop (sp l.length), s.length ≤ 1000 := fun s h => hs s (List.mem_of_mem_drop h)
      have eT : (l.take (sp l.length)).length = sp l.length := by rw [List.length_take]; omega
      have eD : (l.drop (sp l.length)).length = l.length - sp l.length := by rw [List.length_drop]
      have rt := hr.take (sp l.length)
      have rd := hr.drop (sp l.length)
      have bT := root_le (n := 1000) (by omega) hsT
      have bD := root_le (n := 1000) (by omega) hsD
      have kc := fun w => cut_any a l.length c w h2 (by omega) (by omega)
      have k1 := fun w hg hW h => ih (l.take (sp l.length)) (by omega) (by omega) (by omega) hsT (some a) (sp l.length) (sp l.length) g w eT.symm h (by omega) hg hW
      have k2 := fun w hg hW h => ih (l.drop (sp l.length)) (by omega) (by omega) (by omega) hsD (some (a.add (sp l.length))) (l.length - sp l.length) (l.length - sp l.length) g w eD.symm h (by omega) hg hW
      have kn := fun w hW => node_any (root (l.take (sp l.length))) (root (l.drop (sp l.length))) w hW (by omega) (by omega)
      rw [root_two h2]
      rw [← hn] at k1 k2 kn kc hp hk rt rd h2 h200 he ⊢
      generalize l.take (sp n) = lT at *
      generalize l.drop (sp n) = lD at *
      generalize root lT = r1 at *
      generalize root lD = r2 at *
      generalize node r1 r2 = x at *
      generalize sp n = k at *
      have hn2 : (n : Int) ≤ 200 := by omega
      have hn3 : ((n : Int) == 1) = false := by simp; omega
      have K1 := Lib.hid k1
      have K2 := Lib.hid k2
      have KN := Lib.hid kn
      have KC := Lib.hid kc
      have RT := Lib.hid rt
      have RD := Lib.hid rd
      have AT := Lib.hid (Lk.At.start hW)
      have G := Lib.hid hg
      clear ih hs hsT hsD k1 k2 kn kc rt rd hr h1 hd h200 hn hW hg bT bD eT eD he
      go_enter Tryd.func32, Tryd.ntmps32
      go_wp2_with fail
      refine (KC.out _).mono ?_
      rintro e w2 ⟨rfl, hb⟩
      replace AT := Lib.hid (AT.out.step hb)
      replace G := Lib.hid (G.out.step hb)
      clear hb
      go_wp2
      replace AT := Lib.hid AT.out.drew
      replace G := Lib.hid G.out.drew
      refine wp_region_held_drew (S := (fun w' => w'.cell? ⟨g, 0, none⟩ = some (.func (.func 32) #[] #[.pointer (some ⟨g, 0, none⟩)]))) (by kernel_rfl) (G.out.c 0 _ rfl) (fun hHeld => ?_)
      generalize w2.drew = w2d at *
      refine wpAnyH_take (i := 0) (oi := ⟨_, _, _, _, _, _⟩) (v := ?_) rfl (by kernel_rfl) (by kernel_rfl) (by kernel_rfl) (fun _ _ _ h => h) (Or.inl ⟨by rfl, ?_⟩) (by assumption) ?_
      rotate_left
      · intro wz hSw
        try dsimp only at hSw
        go_simp
        try with_reducible rfl
      try simp only [Act.put, List.setIfInBounds_toArray, List.set_cons_zero, List.set_cons_succ]
      refine wpAnyH_take (i := 1) (oi := ⟨_, _, _, _, _, _⟩) (v := ?_) rfl (by kernel_rfl) (by kernel_rfl) (by kernel_rfl) (fun _ _ _ h => h) (Or.inl ⟨by rfl, ?_⟩) (by assumption) ?_
      rotate_left
      · intro wz hSw
        try dsimp only at hSw
        go_simp
        try with_reducible rfl
      try simp only [Act.put, List.setIfInBounds_toArray, List.set_cons_zero, List.set_cons_succ]
      refine wpAnyH_take (i := 3) (oi := ⟨_, _, _, _, _, _⟩) (v := ?_) rfl (by kernel_rfl) (by kernel_rfl) (by kernel_rfl) (fun _ _ _ h => h) (Or.inl ⟨by rfl, ?_⟩) (by assumption) ?_
      rotate_left
      · intro wz hSw
        try dsimp only at hSw
        go_simp
        try with_reducible rfl
      try simp only [Act.put, List.setIfInBounds_toArray, List.set_cons_zero, List.set_cons_succ]
      refine wpAnyH_take (i := 4) (oi := ⟨_, _, _, _, _, _⟩) (v := ?_) rfl (by kernel_rfl) (by kernel_rfl) (by kernel_rfl) (fun _ _ _ h => h) (Or.inl ⟨by rfl, ?_⟩) (by assumption) ?_
      rotate_left
      · intro wz hSw
        try dsimp only at hSw
        go_simp
        try with_reducible rfl
      try simp only [Act.put, List.setIfInBounds_toArray, List.set_cons_zero, List.set_cons_succ]
      refine wpAnyH_ready (rs := [2]) (by kernel_rfl) (by simp) ?_
      refine AllReadyH.cons (o := ⟨_, _, _, _, _, _⟩) rfl (fun K hK => ?_) AllReadyH.nil
      go_simp
      refine (K1.out _ G.out AT.out.laid (RT.out.step AT.out.bel)).mono ?_
      rintro e wz1 ⟨rfl, hb⟩
      replace AT := Lib.hid (AT.out.step hb)
      replace G := Lib.hid (G.out.step hb)
      clear hb hHeld
      refine hK.out _ _ (G.out.c 0 _ rfl) (fun hHeld => ?_)
      clear hK K
      try simp only [Act.put, List.setIfInBounds_toArray, List.set_cons_zero, List.set_cons_succ]
      refine wpAnyH_ready (rs := [5]) (by kernel_rfl) (by simp) ?_
      refine AllReadyH.cons (o := ⟨_, _, _, _, _, _⟩) rfl (fun K hK => ?_) AllReadyH.nil
      go_simp
      refine (K2.out _ G.out AT.out.laid (RD.out.step AT.out.bel)).mono ?_
      rintro e wz2 ⟨rfl, hb⟩
      replace AT := Lib.hid (AT.out.step hb)
      replace G := Lib.hid (G.out.step hb)
      clear hb hHeld
      refine hK.out _ _ (G.out.c 0 _ rfl) (fun hHeld => ?_)
      clear hK K
      try simp only [Act.put, List.setIfInBounds_toArray, List.set_cons_zero, List.set_cons_succ]
      refine wpAnyH_ready (rs := [6]) (by kernel_rfl) (by simp) ?_
      refine AllReadyH.cons (o := ⟨_, _, _, _, _, _⟩) rfl (fun K hK => ?_) AllReadyH.nil
      go_simp
      refine (KN.out _ AT.out.laid).mono ?_
      rintro e wz3 ⟨rfl, hb⟩
      replace AT := Lib.hid (AT.out.step hb)
      replace G := Lib.hid (G.out.step hb)
      clear hb hHeld
      refine hK.out _ _ (G.out.c 0 _ rfl) (fun hHeld => ?_)
      clear hK K
      try simp only [Act.put, List.setIfInBounds_toArray, List.set_cons_zero, List.set_cons_succ]
      refine wpAnyH_take (i := 7) (oi := ⟨_, _, _, _, _, _⟩) (v := ?_) rfl (by kernel_rfl) (by kernel_rfl) (by kernel_rfl) (fun _ _ _ h => h) (Or.inl ⟨by rfl, ?_⟩) (by assumption) ?_
      rotate_left
      · intro wz hSw
        try dsimp only at hSw
        go_simp
        try with_reducible rfl
      try simp only [Act.put, List.setIfInBounds_toArray, List.set_cons_zero, List.set_cons_succ]
      refine wpAnyH_done (by kernel_rfl) ?_ _
      clear hHeld
      go_wp2
      go_ret
      exact ⟨rfl, AT.out.bel⟩

set_option maxHeartbeats 8000000 in
set_option maxRecDepth 100000 in
theorem root_any (A : Option Addr) (l : List Str) (c n : Nat) (w : World) (hn : n = l.length) (hr : Rs w A l) (hc : n ≤ c) (h200 : l.length ≤ 200) (hs : ∀ s ∈ l, s.length ≤ 1000) (hW : S3.Laid w) :
    Calls Tryd.prog 15 #[.slice A n c] w fun e w' => e = .returned (.string (S3.B (root l))) ∧ Below w.heap.size w w' := by
  have hn2 : (n : Int) ≤ 200 := by omega
  by_cases h0 : n = 0
  · subst h0
    obtain rfl : l = [] := List.eq_nil_of_length_eq_zero (by omega)
    have k := sha_any [] w hW (by simp)
    rw [root_nil]
    generalize H [] = x at *
    rw [← litN] at k
    have K := Lib.hid k
    clear k hr hW hn h200 hs
    go_enter Tryd.func15, Tryd.ntmps15
    go_wp2_with fail
    refine K.out.mono ?_
    rintro e w1 ⟨rfl, hb⟩
    have HB := Lib.hid hb
    clear hb
    go_wp2
    go_ret
    exact ⟨rfl, HB.out⟩
  have hmf : ∀ (fn : Fn) (first cap : Array Value) (w : World), (Instr.makeFunc fn first cap).run Tryd.prog w = .ok (.func fn first cap) w := fun _ _ _ _ => rfl
  have hn1 : ((n : Int) == 0) = false := by simp; omega
  have k := fun o => root1_any 200 l h200 (by omega) h200 hs A c n w.heap.size (w.alloc o) hn (hr.alloc o) hc
  have ka := fun o => (Lk.At.start hW).alloc o
  have K := Lib.hid k
  have KA := Lib.hid ka
  clear k ka hn hr h200 hs hW h0
  generalize root l = r at *
  go_enter Tryd.func15, Tryd.ntmps15
  go_wp2_with fail
  refine (K.out _ (Lk.Bl.new _ _ _) (KA.out _).laid).mono ?_
  rintro e w1 ⟨rfl, hb⟩
  have HB := Lib.hid (((KA.out _).step hb).bel)
  clear hb
  go_wp2
  go_ret
  exact ⟨rfl, HB.out⟩
end Mk
end Go.Proofs.YtfemgakfckabhaaDoor
