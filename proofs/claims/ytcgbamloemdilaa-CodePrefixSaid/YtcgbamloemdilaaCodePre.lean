/-
  CodePrefix: the walk of the law.
-/
import Derived.Test.YtcgbamloemdilaaCodeCut
import Derived.Deep.RegionHeld3
namespace Go.Proofs.Ytcgbamloemdilaa
open Go.RowKit Go.ChangeShapes Go.WideShapes Go.Deep
open Cd
attribute [local go_sem] B_size B_drop' B_take B_list B_app

/-- The value b with a's kind. -/
def Vl.as_ (b a : Vl) : Vl := ⟨a.k, b.n, b.s, b.A, b.ls, b.c, b.A', b.zs, b.c'⟩
theorem as_kd (b a : Vl) : (b.as_ a).kd = a.kd := rfl
theorem bx_as {w : World} {g : Nat} {a b : Vl} (h : Bx w g b) : Bx (w.setCell ⟨g, 0, none⟩ (.int .i64 a.k)) g (b.as_ a) := by
  have := blk_set h 0 (.int .i64 a.k)
  exact this
theorem bx_far {w : World} {g b i : Nat} {v : Vl} {u : Value} (h : Bx w g v) (hne : g ≠ b) : Bx (w.setCell ⟨b, i, none⟩ u) g v := (Below.heap_setCell w ⟨b, i, none⟩ u g hne).trans h
theorem in_drew {v : Vl} {w : World} (h : v.In w w.heap.size) : v.In w.drew w.drew.heap.size := h
theorem bx_step {w w' : World} {b : Nat} {v : Vl} (h : Bx w b v) (hb : Below w.heap.size w w') : Bx w' b v := bx_below h hb (blk_lt h)

set_option maxHeartbeats 8000000 in
set_option maxRecDepth 100000 in
theorem codePrefix_walk (a b : Vl) (w : World) (hina : a.In w w.heap.size) (hinb : b.In w w.heap.size) (hfa : a.Fit) (hfb : b.Fit) :
    Calls Try.prog 8 #[.agg a.cells, .agg b.cells] w fun e w' => e = .returned (.bool true) ∧ Below w.heap.size w w' := by
  have IA := Lib.hid hina
  have IB := Lib.hid (show (b.as_ a).In w w.heap.size from hinb)
  have FA := Lib.hid hfa
  have FB := Lib.hid (show (b.as_ a).Fit from ⟨hfa.1, hfb.2⟩)
  have ea : a.cells = #[.int .i64 a.k, .int .i64 a.n, .string (B a.s), .slice a.A a.ls.length a.c, .slice a.A' a.zs.length a.c'] := rfl
  have eb : b.cells = #[.int .i64 b.k, .int .i64 b.n, .string (B b.s), .slice b.A b.ls.length b.c, .slice b.A' b.zs.length b.c'] := rfl
  rw [ea, eb]
  have x1 : Bx ((w.alloc (.cells a.cells 45)).alloc (.cells b.cells 45)) w.heap.size a := (Below.heap_alloc _ _ _ (by simp)).trans (bx_new w a)
  have x2 : Bx ((w.alloc (.cells a.cells 45)).alloc (.cells b.cells 45)) (w.heap.size + 1) b := by
    have := bx_new (w.alloc (.cells a.cells 45)) b
    simpa using this
  have B0 := Lib.hid (((Below.refl w.heap.size w).alloc (Nat.le_refl _) (.cells a.cells 45)).alloc (by simp) (.cells b.cells 45))
  have X1 := Lib.hid x1
  have X2 := Lib.hid x2
  clear ea eb x1 x2 hina hinb hfa hfb
  go_enter Try.func8, Try.ntmps8
  go_wp2_with fail
  refine (small_any _).mono ?_
  rintro e w1 ⟨rfl, hb⟩
  have Y1 := Lib.hid (bx_step X1.out hb)
  have Y2 := Lib.hid (bx_step X2.out hb)
  have B1 := B0.out.trans (hb.mono (by simp; omega))
  have hs1 : w.heap.size + 2 ≤ w1.heap.size := by have := hb.size; simpa using this
  have C1 := Lib.hid B1
  clear X1 X2 hb B0 B1
  obtain ⟨c0, c1, c2, c3, c4⟩ := bx_cells Y1.out
  obtain ⟨d0, d1, d2, d3, d4⟩ := bx_cells Y2.out
  have f0 := free_at Y2.out 0
  go_wp2_with fail
  obtain ⟨v0, hv0⟩ : ∃ v0, v0 = w1.setCell ⟨w.heap.size + 1, 0, none⟩ (.int .i64 a.k) := ⟨_, rfl⟩
  have p0 := bx_far (i := 0) (u := .int .i64 a.k) Y1.out (show w.heap.size ≠ w.heap.size + 1 by omega)
  have q0 := bx_as (a := a) Y2.out
  have e0 := C1.out.setCell (p := ⟨w.heap.size + 1, 0, none⟩) (by simp) (.int .i64 a.k)
  obtain ⟨bb, hbb⟩ : ∃ bb, bb = b.as_ a := ⟨_, rfl⟩
  have hkd : bb.kd = a.kd := by rw [hbb]; rfl
  rw [← hv0] at p0 q0 e0 ⊢
  rw [← hbb] at q0 IB FB
  have P0 := Lib.hid p0
  have Q0 := Lib.hid q0
  have D0 := Lib.hid e0
  have HKD := Lib.hid hkd
  clear hv0 p0 q0 e0 hbb hkd Y1 Y2 C1 hs1 f0 c0 c1 c2 c3 c4 d0 d1 d2 d3 d4
  obtain ⟨c0, c1, c2, c3, c4⟩ := bx_cells P0.out
  obtain ⟨d0, d1, d2, d3, d4⟩ := bx_cells Q0.out
  refine (valid_any a v0 (IA.out.step D0.out) FA.out).mono ?_
  rintro e v1 ⟨b1, rfl, hbv, hb⟩
  have P1 := Lib.hid (bx_step P0.out hb)
  have Q1 := Lib.hid (bx_step Q0.out hb)
  have D1 := Lib.hid (good_step D0.out hb)
  clear hb c0 c1 c2 c3 c4 d0 d1 d2 d3 d4
  obtain ⟨c0, c1, c2, c3, c4⟩ := bx_cells P1.out
  obtain ⟨d0, d1, d2, d3, d4⟩ := bx_cells Q1.out
  cases b1
  · clear hbv
    go_wp2
    go_ret
    exact ⟨rfl, D1.out⟩
  have VA := Lib.hid (hbv.1 rfl)
  clear hbv
  go_wp2_with fail
  refine (valid_any bb v1 (IB.out.step D1.out) FB.out).mono ?_
  rintro e v2 ⟨b2, rfl, hbv, hb⟩
  have P2 := Lib.hid (bx_step P1.out hb)
  have Q2 := Lib.hid (bx_step Q1.out hb)
  have D2 := Lib.hid (good_step D1.out hb)
  clear hb c0 c1 c2 c3 c4 d0 d1 d2 d3 d4
  obtain ⟨c0, c1, c2, c3, c4⟩ := bx_cells P2.out
  obtain ⟨d0, d1, d2, d3, d4⟩ := bx_cells Q2.out
  cases b2
  · clear hbv
    go_wp2
    go_ret
    exact ⟨rfl, D2.out⟩
  have VB := Lib.hid (hbv.1 rfl)
  clear hbv
  have oka := vok_ok VA.out FA.out
  have okb := vok_ok VB.out FB.out
  rw [HKD.out] at okb
  have WA := fun w h => write_any a w h FA.out (vok_sz VA.out) (vok_pos VA.out)
  have WB := fun w h => write_any bb w h FB.out (vok_sz VB.out) (vok_pos VB.out)
  have la := encV_len VA.out
  have lb := encV_len VB.out
  have SM := fun w h1 h2 => same_any a bb w h1 h2 FA.out (vok_sz VA.out) (vok_sz VB.out)
  rw [HKD.out] at WB lb
  have hpre := fun t e => (codecV a.kd).prefix_ (a.sm a.kd) (bb.sm a.kd) t oka okb e
  have hsame : a.sm a.kd = bb.sm a.kd → encV a.kd (a.sm a.kd) = encV a.kd (bb.sm a.kd) := fun h => by rw [h]
  obtain ⟨q, hq⟩ : ∃ q, q = encV a.kd (a.sm a.kd) := ⟨_, rfl⟩
  obtain ⟨r, hr⟩ : ∃ r, r = encV a.kd (bb.sm a.kd) := ⟨_, rfl⟩
  rw [← hq] at WA la hpre hsame
  rw [← hr] at WB lb hpre hsame
  have la2 : (q.length : Int) ≤ 200000 := by omega
  have lb2 : (r.length : Int) ≤ 200000 := by omega
  have HWA := Lib.hid WA
  have HWB := Lib.hid WB
  have HSM := Lib.hid SM
  have HPRE := Lib.hid hpre
  have HSAME := Lib.hid hsame
  clear hq hr WA WB SM hpre hsame oka okb
  go_wp2_with fail
  refine (HWA.out _ (IA.out.step D2.out)).mono ?_
  rintro e v3 ⟨rfl, hb⟩
  have P3 := Lib.hid (bx_step P2.out hb)
  have Q3 := Lib.hid (bx_step Q2.out hb)
  have D3 := Lib.hid (good_step D2.out hb)
  clear hb c0 c1 c2 c3 c4 d0 d1 d2 d3 d4
  obtain ⟨c0, c1, c2, c3, c4⟩ := bx_cells P3.out
  obtain ⟨d0, d1, d2, d3, d4⟩ := bx_cells Q3.out
  go_wp2_with fail
  refine (HWB.out _ (IB.out.step D3.out)).mono ?_
  rintro e v4 ⟨rfl, hb⟩
  have P4 := Lib.hid (bx_step P3.out hb)
  have Q4 := Lib.hid (bx_step Q3.out hb)
  have D4 := Lib.hid (good_step D3.out hb)
  clear hb c0 c1 c2 c3 c4 d0 d1 d2 d3 d4
  obtain ⟨c0, c1, c2, c3, c4⟩ := bx_cells P4.out
  obtain ⟨d0, d1, d2, d3, d4⟩ := bx_cells Q4.out
  by_cases hlen : q.length ≤ r.length
  · have hlen2 : (q.length : Int) ≤ r.length := by omega
    by_cases hs : a.sm a.kd = bb.sm a.kd
    · have hqr := HSAME.out hs
      subst hqr
      have SM2 : ∀ w, a.In w w.heap.size → bb.In w w.heap.size → Calls Try.prog 46 #[.agg a.cells, .agg bb.cells] w fun e w' => e = .returned (.bool true) ∧ Below w.heap.size w w' := fun w h1 h2 => by
        have := HSM.out w h1 h2
        rw [decide_eq_true hs] at this
        exact this
      have HSM2 := Lib.hid SM2
      have etk : q.take q.length = q := List.take_length
      have hqq : ((q.length : Int) == (q.length : Int)) = true := by simp
      clear SM2 hs HSM HPRE HSAME
      go_wp2_with fail
      generalize Value.agg #[.int .i64 a.k, .int .i64 a.n, .string (B a.s), .slice a.A a.ls.length a.c, .slice a.A' a.zs.length a.c'] = va
      generalize Value.agg #[.int .i64 b.k, .int .i64 b.n, .string (B b.s), .slice b.A b.ls.length b.c, .slice b.A' b.zs.length b.c'] = vb
      generalize Value.agg #[.int .i64 bb.k, .int .i64 bb.n, .string (B bb.s), .slice bb.A bb.ls.length bb.c, .slice bb.A' bb.zs.length bb.c'] = vbb
      have ia := IA.out.step D4.out
      have ib := IB.out.step D4.out
      clear HWA HWB VA VB HKD IA IB FA FB la lb P0 Q0 P1 Q1 P2 Q2 P3 Q3 D0 D1 D2 D3
      have Dv4x := Lib.hid D4.out.drew
      refine wp_region_held_drew (S := (fun w' => w'.cell? ⟨w.heap.size, 0, none⟩ = some (.int .i64 a.k) ∧ w'.cell? ⟨w.heap.size, 1, none⟩ = some (.int .i64 a.n) ∧ w'.cell? ⟨w.heap.size, 2, none⟩ = some (.string (B a.s)) ∧ w'.cell? ⟨w.heap.size, 3, none⟩ = some (.slice a.A a.ls.length a.c) ∧ w'.cell? ⟨w.heap.size, 4, none⟩ = some (.slice a.A' a.zs.length a.c') ∧ w'.cell? ⟨w.heap.size + 1, 0, none⟩ = some (.int .i64 bb.k) ∧ w'.cell? ⟨w.heap.size + 1, 1, none⟩ = some (.int .i64 bb.n) ∧ w'.cell? ⟨w.heap.size + 1, 2, none⟩ = some (.string (B bb.s)) ∧ w'.cell? ⟨w.heap.size + 1, 3, none⟩ = some (.slice bb.A bb.ls.length bb.c) ∧ w'.cell? ⟨w.heap.size + 1, 4, none⟩ = some (.slice bb.A' bb.zs.length bb.c'))) (by kernel_rfl) ⟨c0, c1, c2, c3, c4, d0, d1, d2, d3, d4⟩ (fun hHeld => ?_)
      clear c0 c1 c2 c3 c4 d0 d1 d2 d3 d4
      refine wpAnyH_take (i := 0) (oi := ⟨_, _, _, _, _, _⟩) (v := ?_) rfl (by kernel_rfl) (by kernel_rfl) (by kernel_rfl) (fun _ _ _ h => h) (Or.inl ⟨by rfl, ?_⟩) (by assumption) ?_
      rotate_left
      · intro wz hSw
        try dsimp only at hSw
        go_simp
        try with_reducible rfl
      try simp only [Act.put, List.setIfInBounds_toArray, List.set_cons_zero, List.set_cons_succ]
      refine wpAnyH_take (i := 1) (oi := ⟨_, _, _, _, _, _⟩) (v := ?_) rfl (by kernel_rfl) (by kernel_rfl) (by kernel_rfl) (fun _ _ _ h => h) (Or.inl ⟨by rfl, ?_⟩) (by assumption) ?_
      rotate_left
      · intro wz hSw
        try dsimp only at hSw
        go_simp
        try with_reducible rfl
      try simp only [Act.put, List.setIfInBounds_toArray, List.set_cons_zero, List.set_cons_succ]
      refine wpAnyH_take (i := 2) (oi := ⟨_, _, _, _, _, _⟩) (v := ?_) rfl (by kernel_rfl) (by kernel_rfl) (by kernel_rfl) (fun _ _ _ h => h) (Or.inl ⟨by rfl, ?_⟩) (by assumption) ?_
      rotate_left
      · intro wz hSw
        try dsimp only at hSw
        go_simp
        try with_reducible rfl
      try simp only [Act.put, List.setIfInBounds_toArray, List.set_cons_zero, List.set_cons_succ]
      refine wpAnyH_take (i := 3) (oi := ⟨_, _, _, _, _, _⟩) (v := ?_) rfl (by kernel_rfl) (by kernel_rfl) (by kernel_rfl) (fun _ _ _ h => h) (Or.inl ⟨by rfl, ?_⟩) (by assumption) ?_
      rotate_left
      · intro wz hSw
        try dsimp only at hSw
        go_simp
        try with_reducible rfl
      try simp only [Act.put, List.setIfInBounds_toArray, List.set_cons_zero, List.set_cons_succ]
      refine wpAnyH_take (i := 4) (oi := ⟨_, _, _, _, _, _⟩) (v := ?_) rfl (by kernel_rfl) (by kernel_rfl) (by kernel_rfl) (fun _ _ _ h => h) (Or.inl ⟨by rfl, ?_⟩) (by assumption) ?_
      rotate_left
      · intro wz hSw
        try dsimp only at hSw
        go_simp
        try with_reducible rfl
      try simp only [Act.put, List.setIfInBounds_toArray, List.set_cons_zero, List.set_cons_succ]
      refine wpAnyH_take (i := 5) (oi := ⟨_, _, _, _, _, _⟩) (v := ?_) rfl (by kernel_rfl) (by kernel_rfl) (by kernel_rfl) (fun _ _ _ h => h) (Or.inl ⟨by rfl, ?_⟩) (by assumption) ?_
      rotate_left
      · intro wz hSw
        try dsimp only at hSw
        go_simp
        try with_reducible rfl
      try simp only [Act.put, List.setIfInBounds_toArray, List.set_cons_zero, List.set_cons_succ]
      refine wpAnyH_take (i := 6) (oi := ⟨_, _, _, _, _, _⟩) (v := ?_) rfl (by kernel_rfl) (by kernel_rfl) (by kernel_rfl) (fun _ _ _ h => h) (Or.inl ⟨by rfl, ?_⟩) (by assumption) ?_
      rotate_left
      · intro wz hSw
        try dsimp only at hSw
        go_simp
        try with_reducible rfl
      try simp only [Act.put, List.setIfInBounds_toArray, List.set_cons_zero, List.set_cons_succ]
      refine wpAnyH_take (i := 7) (oi := ⟨_, _, _, _, _, _⟩) (v := .bool true) rfl (by kernel_rfl) (by kernel_rfl) (by kernel_rfl) (fun _ _ _ h => h) (Or.inl ⟨by rfl, ?_⟩) (by assumption) ?_
      · intro wz hSw
        try dsimp only at hSw
        go_simp
        try simp
      try simp only [Act.put, List.setIfInBounds_toArray, List.set_cons_zero, List.set_cons_succ]
      refine wpAnyH_take (i := 8) (oi := ⟨_, _, _, _, _, _⟩) (v := ?_) rfl (by kernel_rfl) (by kernel_rfl) (by kernel_rfl) (fun _ _ _ h => h) (Or.inl ⟨by rfl, ?_⟩) (by assumption) ?_
      rotate_left
      · intro wz hSw
        try dsimp only at hSw
        go_simp
        try with_reducible rfl
      try simp only [Act.put, List.setIfInBounds_toArray, List.set_cons_zero, List.set_cons_succ]
      refine wpAnyH_take (i := 9) (oi := ⟨_, _, _, _, _, _⟩) (v := ?_) rfl (by kernel_rfl) (by kernel_rfl) (by kernel_rfl) (fun _ _ _ h => h) (Or.inl ⟨by rfl, ?_⟩) (by assumption) ?_
      rotate_left
      · intro wz hSw
        try dsimp only at hSw
        go_simp
        try with_reducible rfl
      try simp only [Act.put, List.setIfInBounds_toArray, List.set_cons_zero, List.set_cons_succ]
      refine wpAnyH_ready (rs := [10]) (by kernel_rfl) (by simp) ?_
      refine AllReadyH.cons (o := ⟨_, _, _, _, _, _⟩) rfl (fun K hK => ?_) AllReadyH.nil
      go_simp
      refine (HSM2.out _ (in_drew ia) (in_drew ib)).mono ?_
      rintro e v5 ⟨rfl, hb⟩
      have Pv5 := Lib.hid (bx_step (show Bx v4.drew _ a from P4.out) hb)
      have Qv5 := Lib.hid (bx_step (show Bx v4.drew _ bb from Q4.out) hb)
      have Dv5 := Lib.hid (good_step (show Below w.heap.size w v4.drew from Dv4x.out) hb)
      obtain ⟨k0, k1, k2, k3, k4⟩ := bx_cells Pv5.out
      obtain ⟨l0, l1, l2, l3, l4⟩ := bx_cells Qv5.out
      clear hb
      refine hK.out _ _ ⟨k0, k1, k2, k3, k4, l0, l1, l2, l3, l4⟩ (fun hHeld => ?_)
      clear hK K k0 k1 k2 k3 k4 l0 l1 l2 l3 l4
      try simp only [Act.put, List.setIfInBounds_toArray, List.set_cons_zero, List.set_cons_succ]
      refine wpAnyH_take (i := 11) (oi := ⟨_, _, _, _, _, _⟩) (v := ?_) rfl (by kernel_rfl) (by kernel_rfl) (by kernel_rfl) (fun _ _ _ h => h) (Or.inl ⟨by rfl, ?_⟩) (by assumption) ?_
      rotate_left
      · intro wz hSw
        try dsimp only at hSw
        go_simp
        try with_reducible rfl
      try simp only [Act.put, List.setIfInBounds_toArray, List.set_cons_zero, List.set_cons_succ]
      refine wpAnyH_take (i := 12) (oi := ⟨_, _, _, _, _, _⟩) (v := ?_) rfl (by kernel_rfl) (by kernel_rfl) (by kernel_rfl) (fun _ _ _ h => h) (Or.inl ⟨by rfl, ?_⟩) (by assumption) ?_
      rotate_left
      · intro wz hSw
        try dsimp only at hSw
        go_simp
        try with_reducible rfl
      try simp only [Act.put, List.setIfInBounds_toArray, List.set_cons_zero, List.set_cons_succ]
      refine wpAnyH_take (i := 13) (oi := ⟨_, _, _, _, _, _⟩) (v := ?_) rfl (by kernel_rfl) (by kernel_rfl) (by kernel_rfl) (fun _ _ _ h => h) (Or.inl ⟨by rfl, ?_⟩) (by assumption) ?_
      rotate_left
      · intro wz hSw
        try dsimp only at hSw
        go_simp
        try with_reducible rfl
      try simp only [Act.put, List.setIfInBounds_toArray, List.set_cons_zero, List.set_cons_succ]
      refine wpAnyH_take (i := 14) (oi := ⟨_, _, _, _, _, _⟩) (v := ?_) rfl (by kernel_rfl) (by kernel_rfl) (by kernel_rfl) (fun _ _ _ h => h) (Or.inl ⟨by rfl, ?_⟩) (by assumption) ?_
      rotate_left
      · intro wz hSw
        try dsimp only at hSw
        go_simp
        try with_reducible rfl
      try simp only [Act.put, List.setIfInBounds_toArray, List.set_cons_zero, List.set_cons_succ]
      refine wpAnyH_take (i := 15) (oi := ⟨_, _, _, _, _, _⟩) (v := ?_) rfl (by kernel_rfl) (by kernel_rfl) (by kernel_rfl) (fun _ _ _ h => h) (Or.inl ⟨by rfl, ?_⟩) (by assumption) ?_
      rotate_left
      · intro wz hSw
        try dsimp only at hSw
        go_simp
        try with_reducible rfl
      try simp only [Act.put, List.setIfInBounds_toArray, List.set_cons_zero, List.set_cons_succ]
      refine wpAnyH_take (i := 16) (oi := ⟨_, _, _, _, _, _⟩) (v := ?_) rfl (by kernel_rfl) (by kernel_rfl) (by kernel_rfl) (fun _ _ _ h => h) (Or.inl ⟨by rfl, ?_⟩) (by assumption) ?_
      rotate_left
      · intro wz hSw
        try dsimp only at hSw
        go_simp
        try with_reducible rfl
      try simp only [Act.put, List.setIfInBounds_toArray, List.set_cons_zero, List.set_cons_succ]
      refine wpAnyH_take (i := 17) (oi := ⟨_, _, _, _, _, _⟩) (v := ?_) rfl (by kernel_rfl) (by kernel_rfl) (by kernel_rfl) (fun _ _ _ h => h) (Or.inl ⟨by rfl, ?_⟩) (by assumption) ?_
      rotate_left
      · intro wz hSw
        try dsimp only at hSw
        go_simp
        try with_reducible rfl
      try simp only [Act.put, List.setIfInBounds_toArray, List.set_cons_zero, List.set_cons_succ]
      refine wpAnyH_take (i := 18) (oi := ⟨_, _, _, _, _, _⟩) (v := .bool true) rfl (by kernel_rfl) (by kernel_rfl) (by kernel_rfl) (fun _ _ _ h => h) (Or.inl ⟨by rfl, ?_⟩) (by assumption) ?_
      · intro wz hSw
        try dsimp only at hSw
        go_simp
        try simp
      try simp only [Act.put, List.setIfInBounds_toArray, List.set_cons_zero, List.set_cons_succ]
      refine wpAnyH_take (i := 19) (oi := ⟨_, _, _, _, _, _⟩) (v := ?_) rfl (by kernel_rfl) (by kernel_rfl) (by kernel_rfl) (fun _ _ _ h => h) (Or.inl ⟨by rfl, ?_⟩) (by assumption) ?_
      rotate_left
      · intro wz hSw
        try dsimp only at hSw
        go_simp
        try with_reducible rfl
      try simp only [Act.put, List.setIfInBounds_toArray, List.set_cons_zero, List.set_cons_succ]
      refine wpAnyH_take (i := 20) (oi := ⟨_, _, _, _, _, _⟩) (v := undef) rfl (by kernel_rfl) (by kernel_rfl) (by kernel_rfl) (fun _ _ _ h => h) (Or.inr ⟨by rfl, rfl⟩) (by assumption) ?_
      try simp only [Act.put, List.setIfInBounds_toArray, List.set_cons_zero, List.set_cons_succ]
      refine wpAnyH_take (i := 21) (oi := ⟨_, _, _, _, _, _⟩) (v := undef) rfl (by kernel_rfl) (by kernel_rfl) (by kernel_rfl) (fun _ _ _ h => h) (Or.inr ⟨by rfl, rfl⟩) (by assumption) ?_
      try simp only [Act.put, List.setIfInBounds_toArray, List.set_cons_zero, List.set_cons_succ]
      refine wpAnyH_take (i := 22) (oi := ⟨_, _, _, _, _, _⟩) (v := undef) rfl (by kernel_rfl) (by kernel_rfl) (by kernel_rfl) (fun _ _ _ h => h) (Or.inr ⟨by rfl, rfl⟩) (by assumption) ?_
      try simp only [Act.put, List.setIfInBounds_toArray, List.set_cons_zero, List.set_cons_succ]
      refine wpAnyH_take (i := 23) (oi := ⟨_, _, _, _, _, _⟩) (v := undef) rfl (by kernel_rfl) (by kernel_rfl) (by kernel_rfl) (fun _ _ _ h => h) (Or.inr ⟨by rfl, rfl⟩) (by assumption) ?_
      try simp only [Act.put, List.setIfInBounds_toArray, List.set_cons_zero, List.set_cons_succ]
      refine wpAnyH_take (i := 24) (oi := ⟨_, _, _, _, _, _⟩) (v := ?_) rfl (by kernel_rfl) (by kernel_rfl) (by kernel_rfl) (fun _ _ _ h => h) (Or.inl ⟨by rfl, ?_⟩) (by assumption) ?_
      rotate_left
      · intro wz hSw
        try dsimp only at hSw
        go_simp
        try with_reducible rfl
      try simp only [Act.put, List.setIfInBounds_toArray, List.set_cons_zero, List.set_cons_succ]
      refine wpAnyH_take (i := 25) (oi := ⟨_, _, _, _, _, _⟩) (v := ?_) rfl (by kernel_rfl) (by kernel_rfl) (by kernel_rfl) (fun _ _ _ h => h) (Or.inl ⟨by rfl, ?_⟩) (by assumption) ?_
      rotate_left
      · intro wz hSw
        try dsimp only at hSw
        go_simp
        try with_reducible rfl
      try simp only [Act.put, List.setIfInBounds_toArray, List.set_cons_zero, List.set_cons_succ]
      refine wpAnyH_take (i := 26) (oi := ⟨_, _, _, _, _, _⟩) (v := ?_) rfl (by kernel_rfl) (by kernel_rfl) (by kernel_rfl) (fun _ _ _ h => h) (Or.inl ⟨by rfl, ?_⟩) (by assumption) ?_
      rotate_left
      · intro wz hSw
        try dsimp only at hSw
        go_simp
        try with_reducible rfl
      try simp only [Act.put, List.setIfInBounds_toArray, List.set_cons_zero, List.set_cons_succ]
      refine wpAnyH_done (by kernel_rfl) ?_ _
      go_wp2
      go_ret
      exact ⟨rfl, Dv5.out⟩
    · have SM2 : ∀ w, a.In w w.heap.size → bb.In w w.heap.size → Calls Try.prog 46 #[.agg a.cells, .agg bb.cells] w fun e w' => e = .returned (.bool false) ∧ Below w.heap.size w w' := fun w h1 h2 => by
        have := HSM.out w h1 h2
        rw [decide_eq_false hs] at this
        exact this
      have HSM2 := Lib.hid SM2
      have hne : r.take q.length ≠ q := fun e => hs (HPRE.out (r.drop q.length) (by
        have h2 := List.take_append_drop q.length r
        rw [e] at h2
        exact h2.symm)).1
      have hcmp : (r.take q.length == q) = false := by simp [hne]
      clear hne hs HSM HPRE HSAME
      by_cases hl : q.length = r.length
      · have hll : ((q.length : Int) == (r.length : Int)) = true := by simp [hl]
        clear hl
        go_wp2_with fail
        generalize Value.agg #[.int .i64 a.k, .int .i64 a.n, .string (B a.s), .slice a.A a.ls.length a.c, .slice a.A' a.zs.length a.c'] = va
        generalize Value.agg #[.int .i64 b.k, .int .i64 b.n, .string (B b.s), .slice b.A b.ls.length b.c, .slice b.A' b.zs.length b.c'] = vb
        generalize Value.agg #[.int .i64 bb.k, .int .i64 bb.n, .string (B bb.s), .slice bb.A bb.ls.length bb.c, .slice bb.A' bb.zs.length bb.c'] = vbb
        have ia := IA.out.step D4.out
        have ib := IB.out.step D4.out
        clear HWA HWB VA VB HKD FA FB IA IB la lb P0 Q0 P1 Q1 P2 Q2 P3 Q3 D0 D1 D2 D3
        have Dv4x := Lib.hid D4.out.drew
        refine wp_region_held_drew (S := (fun w' => w'.cell? ⟨w.heap.size, 0, none⟩ = some (.int .i64 a.k) ∧ w'.cell? ⟨w.heap.size, 1, none⟩ = some (.int .i64 a.n) ∧ w'.cell? ⟨w.heap.size, 2, none⟩ = some (.string (B a.s)) ∧ w'.cell? ⟨w.heap.size, 3, none⟩ = some (.slice a.A a.ls.length a.c) ∧ w'.cell? ⟨w.heap.size, 4, none⟩ = some (.slice a.A' a.zs.length a.c') ∧ w'.cell? ⟨w.heap.size + 1, 0, none⟩ = some (.int .i64 bb.k) ∧ w'.cell? ⟨w.heap.size + 1, 1, none⟩ = some (.int .i64 bb.n) ∧ w'.cell? ⟨w.heap.size + 1, 2, none⟩ = some (.string (B bb.s)) ∧ w'.cell? ⟨w.heap.size + 1, 3, none⟩ = some (.slice bb.A bb.ls.length bb.c) ∧ w'.cell? ⟨w.heap.size + 1, 4, none⟩ = some (.slice bb.A' bb.zs.length bb.c'))) (by kernel_rfl) ⟨c0, c1, c2, c3, c4, d0, d1, d2, d3, d4⟩ (fun hHeld => ?_)
        clear c0 c1 c2 c3 c4 d0 d1 d2 d3 d4
        refine wpAnyH_take (i := 0) (oi := ⟨_, _, _, _, _, _⟩) (v := ?_) rfl (by kernel_rfl) (by kernel_rfl) (by kernel_rfl) (fun _ _ _ h => h) (Or.inl ⟨by rfl, ?_⟩) (by assumption) ?_
        rotate_left
        · intro wz hSw
          try dsimp only at hSw
          go_simp
          try with_reducible rfl
        try simp only [Act.put, List.setIfInBounds_toArray, List.set_cons_zero, List.set_cons_succ]
        refine wpAnyH_take (i := 1) (oi := ⟨_, _, _, _, _, _⟩) (v := ?_) rfl (by kernel_rfl) (by kernel_rfl) (by kernel_rfl) (fun _ _ _ h => h) (Or.inl ⟨by rfl, ?_⟩) (by assumption) ?_
        rotate_left
        · intro wz hSw
          try dsimp only at hSw
          go_simp
          try with_reducible rfl
        try simp only [Act.put, List.setIfInBounds_toArray, List.set_cons_zero, List.set_cons_succ]
        refine wpAnyH_take (i := 2) (oi := ⟨_, _, _, _, _, _⟩) (v := ?_) rfl (by kernel_rfl) (by kernel_rfl) (by kernel_rfl) (fun _ _ _ h => h) (Or.inl ⟨by rfl, ?_⟩) (by assumption) ?_
        rotate_left
        · intro wz hSw
          try dsimp only at hSw
          go_simp
          try with_reducible rfl
        try simp only [Act.put, List.setIfInBounds_toArray, List.set_cons_zero, List.set_cons_succ]
        refine wpAnyH_take (i := 3) (oi := ⟨_, _, _, _, _, _⟩) (v := ?_) rfl (by kernel_rfl) (by kernel_rfl) (by kernel_rfl) (fun _ _ _ h => h) (Or.inl ⟨by rfl, ?_⟩) (by assumption) ?_
        rotate_left
        · intro wz hSw
          try dsimp only at hSw
          go_simp
          try with_reducible rfl
        try simp only [Act.put, List.setIfInBounds_toArray, List.set_cons_zero, List.set_cons_succ]
        refine wpAnyH_take (i := 4) (oi := ⟨_, _, _, _, _, _⟩) (v := ?_) rfl (by kernel_rfl) (by kernel_rfl) (by kernel_rfl) (fun _ _ _ h => h) (Or.inl ⟨by rfl, ?_⟩) (by assumption) ?_
        rotate_left
        · intro wz hSw
          try dsimp only at hSw
          go_simp
          try with_reducible rfl
        try simp only [Act.put, List.setIfInBounds_toArray, List.set_cons_zero, List.set_cons_succ]
        refine wpAnyH_take (i := 5) (oi := ⟨_, _, _, _, _, _⟩) (v := ?_) rfl (by kernel_rfl) (by kernel_rfl) (by kernel_rfl) (fun _ _ _ h => h) (Or.inl ⟨by rfl, ?_⟩) (by assumption) ?_
        rotate_left
        · intro wz hSw
          try dsimp only at hSw
          go_simp
          try with_reducible rfl
        try simp only [Act.put, List.setIfInBounds_toArray, List.set_cons_zero, List.set_cons_succ]
        refine wpAnyH_take (i := 6) (oi := ⟨_, _, _, _, _, _⟩) (v := ?_) rfl (by kernel_rfl) (by kernel_rfl) (by kernel_rfl) (fun _ _ _ h => h) (Or.inl ⟨by rfl, ?_⟩) (by assumption) ?_
        rotate_left
        · intro wz hSw
          try dsimp only at hSw
          go_simp
          try with_reducible rfl
        try simp only [Act.put, List.setIfInBounds_toArray, List.set_cons_zero, List.set_cons_succ]
        refine wpAnyH_take (i := 7) (oi := ⟨_, _, _, _, _, _⟩) (v := .bool false) rfl (by kernel_rfl) (by kernel_rfl) (by kernel_rfl) (fun _ _ _ h => h) (Or.inl ⟨by rfl, ?_⟩) (by assumption) ?_
        · intro wz hSw
          try dsimp only at hSw
          go_simp
          try simp only [Act.put, List.setIfInBounds_toArray, List.set_cons_zero, List.set_cons_succ]
        refine wpAnyH_take (i := 8) (oi := ⟨_, _, _, _, _, _⟩) (v := ?_) rfl (by kernel_rfl) (by kernel_rfl) (by kernel_rfl) (fun _ _ _ h => h) (Or.inl ⟨by rfl, ?_⟩) (by assumption) ?_
        rotate_left
        · intro wz hSw
          try dsimp only at hSw
          go_simp
          try with_reducible rfl
        try simp only [Act.put, List.setIfInBounds_toArray, List.set_cons_zero, List.set_cons_succ]
        refine wpAnyH_take (i := 9) (oi := ⟨_, _, _, _, _, _⟩) (v := ?_) rfl (by kernel_rfl) (by kernel_rfl) (by kernel_rfl) (fun _ _ _ h => h) (Or.inl ⟨by rfl, ?_⟩) (by assumption) ?_
        rotate_left
        · intro wz hSw
          try dsimp only at hSw
          go_simp
          try with_reducible rfl
        try simp only [Act.put, List.setIfInBounds_toArray, List.set_cons_zero, List.set_cons_succ]
        refine wpAnyH_ready (rs := [10]) (by kernel_rfl) (by simp) ?_
        refine AllReadyH.cons (o := ⟨_, _, _, _, _, _⟩) rfl (fun K hK => ?_) AllReadyH.nil
        go_simp
        refine (HSM2.out _ (in_drew ia) (in_drew ib)).mono ?_
        rintro e v5 ⟨rfl, hb⟩
        have Pv5 := Lib.hid (bx_step (show Bx v4.drew _ a from P4.out) hb)
        have Qv5 := Lib.hid (bx_step (show Bx v4.drew _ bb from Q4.out) hb)
        have Dv5 := Lib.hid (good_step (show Below w.heap.size w v4.drew from Dv4x.out) hb)
        obtain ⟨k0, k1, k2, k3, k4⟩ := bx_cells Pv5.out
        obtain ⟨l0, l1, l2, l3, l4⟩ := bx_cells Qv5.out
        clear hb
        refine hK.out _ _ ⟨k0, k1, k2, k3, k4, l0, l1, l2, l3, l4⟩ (fun hHeld => ?_)
        clear hK K k0 k1 k2 k3 k4 l0 l1 l2 l3 l4
        try simp only [Act.put, List.setIfInBounds_toArray, List.set_cons_zero, List.set_cons_succ]
        refine wpAnyH_take (i := 11) (oi := ⟨_, _, _, _, _, _⟩) (v := ?_) rfl (by kernel_rfl) (by kernel_rfl) (by kernel_rfl) (fun _ _ _ h => h) (Or.inl ⟨by rfl, ?_⟩) (by assumption) ?_
        rotate_left
        · intro wz hSw
          try dsimp only at hSw
          go_simp
          try with_reducible rfl
        try simp only [Act.put, List.setIfInBounds_toArray, List.set_cons_zero, List.set_cons_succ]
        refine wpAnyH_take (i := 12) (oi := ⟨_, _, _, _, _, _⟩) (v := ?_) rfl (by kernel_rfl) (by kernel_rfl) (by kernel_rfl) (fun _ _ _ h => h) (Or.inl ⟨by rfl, ?_⟩) (by assumption) ?_
        rotate_left
        · intro wz hSw
          try dsimp only at hSw
          go_simp
          try with_reducible rfl
        try simp only [Act.put, List.setIfInBounds_toArray, List.set_cons_zero, List.set_cons_succ]
        refine wpAnyH_take (i := 13) (oi := ⟨_, _, _, _, _, _⟩) (v := ?_) rfl (by kernel_rfl) (by kernel_rfl) (by kernel_rfl) (fun _ _ _ h => h) (Or.inl ⟨by rfl, ?_⟩) (by assumption) ?_
        rotate_left
        · intro wz hSw
          try dsimp only at hSw
          go_simp
          try with_reducible rfl
        try simp only [Act.put, List.setIfInBounds_toArray, List.set_cons_zero, List.set_cons_succ]
        refine wpAnyH_take (i := 14) (oi := ⟨_, _, _, _, _, _⟩) (v := ?_) rfl (by kernel_rfl) (by kernel_rfl) (by kernel_rfl) (fun _ _ _ h => h) (Or.inl ⟨by rfl, ?_⟩) (by assumption) ?_
        rotate_left
        · intro wz hSw
          try dsimp only at hSw
          go_simp
          try with_reducible rfl
        try simp only [Act.put, List.setIfInBounds_toArray, List.set_cons_zero, List.set_cons_succ]
        refine wpAnyH_take (i := 15) (oi := ⟨_, _, _, _, _, _⟩) (v := ?_) rfl (by kernel_rfl) (by kernel_rfl) (by kernel_rfl) (fun _ _ _ h => h) (Or.inl ⟨by rfl, ?_⟩) (by assumption) ?_
        rotate_left
        · intro wz hSw
          try dsimp only at hSw
          go_simp
          try with_reducible rfl
        try simp only [Act.put, List.setIfInBounds_toArray, List.set_cons_zero, List.set_cons_succ]
        refine wpAnyH_take (i := 16) (oi := ⟨_, _, _, _, _, _⟩) (v := ?_) rfl (by kernel_rfl) (by kernel_rfl) (by kernel_rfl) (fun _ _ _ h => h) (Or.inl ⟨by rfl, ?_⟩) (by assumption) ?_
        rotate_left
        · intro wz hSw
          try dsimp only at hSw
          go_simp
          try with_reducible rfl
        try simp only [Act.put, List.setIfInBounds_toArray, List.set_cons_zero, List.set_cons_succ]
        refine wpAnyH_take (i := 17) (oi := ⟨_, _, _, _, _, _⟩) (v := ?_) rfl (by kernel_rfl) (by kernel_rfl) (by kernel_rfl) (fun _ _ _ h => h) (Or.inl ⟨by rfl, ?_⟩) (by assumption) ?_
        rotate_left
        · intro wz hSw
          try dsimp only at hSw
          go_simp
          try with_reducible rfl
        try simp only [Act.put, List.setIfInBounds_toArray, List.set_cons_zero, List.set_cons_succ]
        refine wpAnyH_take (i := 18) (oi := ⟨_, _, _, _, _, _⟩) (v := .bool true) rfl (by kernel_rfl) (by kernel_rfl) (by kernel_rfl) (fun _ _ _ h => h) (Or.inl ⟨by rfl, ?_⟩) (by assumption) ?_
        · intro wz hSw
          try dsimp only at hSw
          go_simp
          try simp only [Act.put, List.setIfInBounds_toArray, List.set_cons_zero, List.set_cons_succ]
        refine wpAnyH_take (i := 19) (oi := ⟨_, _, _, _, _, _⟩) (v := ?_) rfl (by kernel_rfl) (by kernel_rfl) (by kernel_rfl) (fun _ _ _ h => h) (Or.inl ⟨by rfl, ?_⟩) (by assumption) ?_
        rotate_left
        · intro wz hSw
          try dsimp only at hSw
          go_simp
          try with_reducible rfl
        try simp only [Act.put, List.setIfInBounds_toArray, List.set_cons_zero, List.set_cons_succ]
        refine wpAnyH_take (i := 20) (oi := ⟨_, _, _, _, _, _⟩) (v := undef) rfl (by kernel_rfl) (by kernel_rfl) (by kernel_rfl) (fun _ _ _ h => h) (Or.inr ⟨by rfl, rfl⟩) (by assumption) ?_
        try simp only [Act.put, List.setIfInBounds_toArray, List.set_cons_zero, List.set_cons_succ]
        refine wpAnyH_take (i := 21) (oi := ⟨_, _, _, _, _, _⟩) (v := undef) rfl (by kernel_rfl) (by kernel_rfl) (by kernel_rfl) (fun _ _ _ h => h) (Or.inr ⟨by rfl, rfl⟩) (by assumption) ?_
        try simp only [Act.put, List.setIfInBounds_toArray, List.set_cons_zero, List.set_cons_succ]
        refine wpAnyH_take (i := 22) (oi := ⟨_, _, _, _, _, _⟩) (v := undef) rfl (by kernel_rfl) (by kernel_rfl) (by kernel_rfl) (fun _ _ _ h => h) (Or.inr ⟨by rfl, rfl⟩) (by assumption) ?_
        try simp only [Act.put, List.setIfInBounds_toArray, List.set_cons_zero, List.set_cons_succ]
        refine wpAnyH_take (i := 23) (oi := ⟨_, _, _, _, _, _⟩) (v := undef) rfl (by kernel_rfl) (by kernel_rfl) (by kernel_rfl) (fun _ _ _ h => h) (Or.inr ⟨by rfl, rfl⟩) (by assumption) ?_
        try simp only [Act.put, List.setIfInBounds_toArray, List.set_cons_zero, List.set_cons_succ]
        refine wpAnyH_take (i := 24) (oi := ⟨_, _, _, _, _, _⟩) (v := ?_) rfl (by kernel_rfl) (by kernel_rfl) (by kernel_rfl) (fun _ _ _ h => h) (Or.inl ⟨by rfl, ?_⟩) (by assumption) ?_
        rotate_left
        · intro wz hSw
          try dsimp only at hSw
          go_simp
          try with_reducible rfl
        try simp only [Act.put, List.setIfInBounds_toArray, List.set_cons_zero, List.set_cons_succ]
        refine wpAnyH_take (i := 25) (oi := ⟨_, _, _, _, _, _⟩) (v := ?_) rfl (by kernel_rfl) (by kernel_rfl) (by kernel_rfl) (fun _ _ _ h => h) (Or.inl ⟨by rfl, ?_⟩) (by assumption) ?_
        rotate_left
        · intro wz hSw
          try dsimp only at hSw
          go_simp
          try with_reducible rfl
        try simp only [Act.put, List.setIfInBounds_toArray, List.set_cons_zero, List.set_cons_succ]
        refine wpAnyH_take (i := 26) (oi := ⟨_, _, _, _, _, _⟩) (v := ?_) rfl (by kernel_rfl) (by kernel_rfl) (by kernel_rfl) (fun _ _ _ h => h) (Or.inl ⟨by rfl, ?_⟩) (by assumption) ?_
        rotate_left
        · intro wz hSw
          try dsimp only at hSw
          go_simp
          try with_reducible rfl
        try simp only [Act.put, List.setIfInBounds_toArray, List.set_cons_zero, List.set_cons_succ]
        refine wpAnyH_done (by kernel_rfl) ?_ _
        go_wp2
        go_ret
        exact ⟨rfl, Dv5.out⟩
      · have hll : ((q.length : Int) == (r.length : Int)) = false := by simp; omega
        clear hl
        go_wp2_with fail
        generalize Value.agg #[.int .i64 a.k, .int .i64 a.n, .string (B a.s), .slice a.A a.ls.length a.c, .slice a.A' a.zs.length a.c'] = va
        generalize Value.agg #[.int .i64 b.k, .int .i64 b.n, .string (B b.s), .slice b.A b.ls.length b.c, .slice b.A' b.zs.length b.c'] = vb
        generalize Value.agg #[.int .i64 bb.k, .int .i64 bb.n, .string (B bb.s), .slice bb.A bb.ls.length bb.c, .slice bb.A' bb.zs.length bb.c'] = vbb
        have ia := IA.out.step D4.out
        have ib := IB.out.step D4.out
        clear HWA HWB VA VB HKD FA FB la lb P0 Q0 P1 Q1 P2 Q2 P3 Q3 D0 D1 D2 D3
        have Dv4x := Lib.hid D4.out.drew
        refine wp_region_held_drew (S := (fun w' => w'.cell? ⟨w.heap.size, 0, none⟩ = some (.int .i64 a.k) ∧ w'.cell? ⟨w.heap.size, 1, none⟩ = some (.int .i64 a.n) ∧ w'.cell? ⟨w.heap.size, 2, none⟩ = some (.string (B a.s)) ∧ w'.cell? ⟨w.heap.size, 3, none⟩ = some (.slice a.A a.ls.length a.c) ∧ w'.cell? ⟨w.heap.size, 4, none⟩ = some (.slice a.A' a.zs.length a.c') ∧ w'.cell? ⟨w.heap.size + 1, 0, none⟩ = some (.int .i64 bb.k) ∧ w'.cell? ⟨w.heap.size + 1, 1, none⟩ = some (.int .i64 bb.n) ∧ w'.cell? ⟨w.heap.size + 1, 2, none⟩ = some (.string (B bb.s)) ∧ w'.cell? ⟨w.heap.size + 1, 3, none⟩ = some (.slice bb.A bb.ls.length bb.c) ∧ w'.cell? ⟨w.heap.size + 1, 4, none⟩ = some (.slice bb.A' bb.zs.length bb.c'))) (by kernel_rfl) ⟨c0, c1, c2, c3, c4, d0, d1, d2, d3, d4⟩ (fun hHeld => ?_)
        clear c0 c1 c2 c3 c4 d0 d1 d2 d3 d4
        refine wpAnyH_take (i := 0) (oi := ⟨_, _, _, _, _, _⟩) (v := ?_) rfl (by kernel_rfl) (by kernel_rfl) (by kernel_rfl) (fun _ _ _ h => h) (Or.inl ⟨by rfl, ?_⟩) (by assumption) ?_
        rotate_left
        · intro wz hSw
          try dsimp only at hSw
          go_simp
          try with_reducible rfl
        try simp only [Act.put, List.setIfInBounds_toArray, List.set_cons_zero, List.set_cons_succ]
        refine wpAnyH_take (i := 1) (oi := ⟨_, _, _, _, _, _⟩) (v := ?_) rfl (by kernel_rfl) (by kernel_rfl) (by kernel_rfl) (fun _ _ _ h => h) (Or.inl ⟨by rfl, ?_⟩) (by assumption) ?_
        rotate_left
        · intro wz hSw
          try dsimp only at hSw
          go_simp
          try with_reducible rfl
        try simp only [Act.put, List.setIfInBounds_toArray, List.set_cons_zero, List.set_cons_succ]
        refine wpAnyH_take (i := 2) (oi := ⟨_, _, _, _, _, _⟩) (v := ?_) rfl (by kernel_rfl) (by kernel_rfl) (by kernel_rfl) (fun _ _ _ h => h) (Or.inl ⟨by rfl, ?_⟩) (by assumption) ?_
        rotate_left
        · intro wz hSw
          try dsimp only at hSw
          go_simp
          try with_reducible rfl
        try simp only [Act.put, List.setIfInBounds_toArray, List.set_cons_zero, List.set_cons_succ]
        refine wpAnyH_take (i := 3) (oi := ⟨_, _, _, _, _, _⟩) (v := ?_) rfl (by kernel_rfl) (by kernel_rfl) (by kernel_rfl) (fun _ _ _ h => h) (Or.inl ⟨by rfl, ?_⟩) (by assumption) ?_
        rotate_left
        · intro wz hSw
          try dsimp only at hSw
          go_simp
          try with_reducible rfl
        try simp only [Act.put, List.setIfInBounds_toArray, List.set_cons_zero, List.set_cons_succ]
        refine wpAnyH_take (i := 4) (oi := ⟨_, _, _, _, _, _⟩) (v := ?_) rfl (by kernel_rfl) (by kernel_rfl) (by kernel_rfl) (fun _ _ _ h => h) (Or.inl ⟨by rfl, ?_⟩) (by assumption) ?_
        rotate_left
        · intro wz hSw
          try dsimp only at hSw
          go_simp
          try with_reducible rfl
        try simp only [Act.put, List.setIfInBounds_toArray, List.set_cons_zero, List.set_cons_succ]
        refine wpAnyH_take (i := 5) (oi := ⟨_, _, _, _, _, _⟩) (v := ?_) rfl (by kernel_rfl) (by kernel_rfl) (by kernel_rfl) (fun _ _ _ h => h) (Or.inl ⟨by rfl, ?_⟩) (by assumption) ?_
        rotate_left
        · intro wz hSw
          try dsimp only at hSw
          go_simp
          try with_reducible rfl
        try simp only [Act.put, List.setIfInBounds_toArray, List.set_cons_zero, List.set_cons_succ]
        refine wpAnyH_take (i := 6) (oi := ⟨_, _, _, _, _, _⟩) (v := ?_) rfl (by kernel_rfl) (by kernel_rfl) (by kernel_rfl) (fun _ _ _ h => h) (Or.inl ⟨by rfl, ?_⟩) (by assumption) ?_
        rotate_left
        · intro wz hSw
          try dsimp only at hSw
          go_simp
          try with_reducible rfl
        try simp only [Act.put, List.setIfInBounds_toArray, List.set_cons_zero, List.set_cons_succ]
        refine wpAnyH_take (i := 7) (oi := ⟨_, _, _, _, _, _⟩) (v := .bool false) rfl (by kernel_rfl) (by kernel_rfl) (by kernel_rfl) (fun _ _ _ h => h) (Or.inl ⟨by rfl, ?_⟩) (by assumption) ?_
        · intro wz hSw
          try dsimp only at hSw
          go_simp
          try simp only [Act.put, List.setIfInBounds_toArray, List.set_cons_zero, List.set_cons_succ]
        refine wpAnyH_take (i := 8) (oi := ⟨_, _, _, _, _, _⟩) (v := ?_) rfl (by kernel_rfl) (by kernel_rfl) (by kernel_rfl) (fun _ _ _ h => h) (Or.inl ⟨by rfl, ?_⟩) (by assumption) ?_
        rotate_left
        · intro wz hSw
          try dsimp only at hSw
          go_simp
          try with_reducible rfl
        try simp only [Act.put, List.setIfInBounds_toArray, List.set_cons_zero, List.set_cons_succ]
        refine wpAnyH_take (i := 9) (oi := ⟨_, _, _, _, _, _⟩) (v := ?_) rfl (by kernel_rfl) (by kernel_rfl) (by kernel_rfl) (fun _ _ _ h => h) (Or.inl ⟨by rfl, ?_⟩) (by assumption) ?_
        rotate_left
        · intro wz hSw
          try dsimp only at hSw
          go_simp
          try with_reducible rfl
        try simp only [Act.put, List.setIfInBounds_toArray, List.set_cons_zero, List.set_cons_succ]
        refine wpAnyH_ready (rs := [10]) (by kernel_rfl) (by simp) ?_
        refine AllReadyH.cons (o := ⟨_, _, _, _, _, _⟩) rfl (fun K hK => ?_) AllReadyH.nil
        go_simp
        refine (HSM2.out _ (in_drew ia) (in_drew ib)).mono ?_
        rintro e v5 ⟨rfl, hb⟩
        have Pv5 := Lib.hid (bx_step (show Bx v4.drew _ a from P4.out) hb)
        have Qv5 := Lib.hid (bx_step (show Bx v4.drew _ bb from Q4.out) hb)
        have Dv5 := Lib.hid (good_step (show Below w.heap.size w v4.drew from Dv4x.out) hb)
        obtain ⟨k0, k1, k2, k3, k4⟩ := bx_cells Pv5.out
        obtain ⟨l0, l1, l2, l3, l4⟩ := bx_cells Qv5.out
        clear hb
        refine hK.out _ _ ⟨k0, k1, k2, k3, k4, l0, l1, l2, l3, l4⟩ (fun hHeld => ?_)
        clear hK K k0 k1 k2 k3 k4 l0 l1 l2 l3 l4
        try simp only [Act.put, List.setIfInBounds_toArray, List.set_cons_zero, List.set_cons_succ]
        refine wpAnyH_take (i := 11) (oi := ⟨_, _, _, _, _, _⟩) (v := ?_) rfl (by kernel_rfl) (by kernel_rfl) (by kernel_rfl) (fun _ _ _ h => h) (Or.inl ⟨by rfl, ?_⟩) (by assumption) ?_
        rotate_left
        · intro wz hSw
          try dsimp only at hSw
          go_simp
          try with_reducible rfl
        try simp only [Act.put, List.setIfInBounds_toArray, List.set_cons_zero, List.set_cons_succ]
        refine wpAnyH_take (i := 12) (oi := ⟨_, _, _, _, _, _⟩) (v := ?_) rfl (by kernel_rfl) (by kernel_rfl) (by kernel_rfl) (fun _ _ _ h => h) (Or.inl ⟨by rfl, ?_⟩) (by assumption) ?_
        rotate_left
        · intro wz hSw
          try dsimp only at hSw
          go_simp
          try with_reducible rfl
        try simp only [Act.put, List.setIfInBounds_toArray, List.set_cons_zero, List.set_cons_succ]
        refine wpAnyH_take (i := 13) (oi := ⟨_, _, _, _, _, _⟩) (v := ?_) rfl (by kernel_rfl) (by kernel_rfl) (by kernel_rfl) (fun _ _ _ h => h) (Or.inl ⟨by rfl, ?_⟩) (by assumption) ?_
        rotate_left
        · intro wz hSw
          try dsimp only at hSw
          go_simp
          try with_reducible rfl
        try simp only [Act.put, List.setIfInBounds_toArray, List.set_cons_zero, List.set_cons_succ]
        refine wpAnyH_take (i := 14) (oi := ⟨_, _, _, _, _, _⟩) (v := ?_) rfl (by kernel_rfl) (by kernel_rfl) (by kernel_rfl) (fun _ _ _ h => h) (Or.inl ⟨by rfl, ?_⟩) (by assumption) ?_
        rotate_left
        · intro wz hSw
          try dsimp only at hSw
          go_simp
          try with_reducible rfl
        try simp only [Act.put, List.setIfInBounds_toArray, List.set_cons_zero, List.set_cons_succ]
        refine wpAnyH_take (i := 15) (oi := ⟨_, _, _, _, _, _⟩) (v := ?_) rfl (by kernel_rfl) (by kernel_rfl) (by kernel_rfl) (fun _ _ _ h => h) (Or.inl ⟨by rfl, ?_⟩) (by assumption) ?_
        rotate_left
        · intro wz hSw
          try dsimp only at hSw
          go_simp
          try with_reducible rfl
        try simp only [Act.put, List.setIfInBounds_toArray, List.set_cons_zero, List.set_cons_succ]
        refine wpAnyH_take (i := 16) (oi := ⟨_, _, _, _, _, _⟩) (v := ?_) rfl (by kernel_rfl) (by kernel_rfl) (by kernel_rfl) (fun _ _ _ h => h) (Or.inl ⟨by rfl, ?_⟩) (by assumption) ?_
        rotate_left
        · intro wz hSw
          try dsimp only at hSw
          go_simp
          try with_reducible rfl
        try simp only [Act.put, List.setIfInBounds_toArray, List.set_cons_zero, List.set_cons_succ]
        refine wpAnyH_take (i := 17) (oi := ⟨_, _, _, _, _, _⟩) (v := ?_) rfl (by kernel_rfl) (by kernel_rfl) (by kernel_rfl) (fun _ _ _ h => h) (Or.inl ⟨by rfl, ?_⟩) (by assumption) ?_
        rotate_left
        · intro wz hSw
          try dsimp only at hSw
          go_simp
          try with_reducible rfl
        try simp only [Act.put, List.setIfInBounds_toArray, List.set_cons_zero, List.set_cons_succ]
        refine wpAnyH_take (i := 18) (oi := ⟨_, _, _, _, _, _⟩) (v := .bool false) rfl (by kernel_rfl) (by kernel_rfl) (by kernel_rfl) (fun _ _ _ h => h) (Or.inl ⟨by rfl, ?_⟩) (by assumption) ?_
        · intro wz hSw
          try dsimp only at hSw
          go_simp
          try simp only [Act.put, List.setIfInBounds_toArray, List.set_cons_zero, List.set_cons_succ]
        refine wpAnyH_take (i := 19) (oi := ⟨_, _, _, _, _, _⟩) (v := ?_) rfl (by kernel_rfl) (by kernel_rfl) (by kernel_rfl) (fun _ _ _ h => h) (Or.inl ⟨by rfl, ?_⟩) (by assumption) ?_
        rotate_left
        · intro wz hSw
          try dsimp only at hSw
          go_simp
          try with_reducible rfl
        try simp only [Act.put, List.setIfInBounds_toArray, List.set_cons_zero, List.set_cons_succ]
        refine wpAnyH_take (i := 20) (oi := ⟨_, _, _, _, _, _⟩) (v := ?_) rfl (by kernel_rfl) (by kernel_rfl) (by kernel_rfl) (fun _ _ _ h => h) (Or.inl ⟨by rfl, ?_⟩) (by assumption) ?_
        rotate_left
        · intro wz hSw
          try dsimp only at hSw
          go_simp
          try with_reducible rfl
        try simp only [Act.put, List.setIfInBounds_toArray, List.set_cons_zero, List.set_cons_succ]
        refine wpAnyH_take (i := 21) (oi := ⟨_, _, _, _, _, _⟩) (v := ?_) rfl (by kernel_rfl) (by kernel_rfl) (by kernel_rfl) (fun _ _ _ h => h) (Or.inl ⟨by rfl, ?_⟩) (by assumption) ?_
        rotate_left
        · intro wz hSw
          try dsimp only at hSw
          go_simp
          try with_reducible rfl
        try simp only [Act.put, List.setIfInBounds_toArray, List.set_cons_zero, List.set_cons_succ]
        refine wpAnyH_ready (rs := [22]) (by kernel_rfl) (by simp) ?_
        refine AllReadyH.cons (o := ⟨_, _, _, _, _, _⟩) rfl (fun K hK => ?_) AllReadyH.nil
        go_simp
        refine (HSM2.out _ (IA.out.step Dv5.out) (IB.out.step Dv5.out)).mono ?_
        rintro e v6 ⟨rfl, hb⟩
        have Pv6 := Lib.hid (bx_step (show Bx v5 _ a from Pv5.out) hb)
        have Qv6 := Lib.hid (bx_step (show Bx v5 _ bb from Qv5.out) hb)
        have Dv6 := Lib.hid (good_step (show Below w.heap.size w v5 from Dv5.out) hb)
        obtain ⟨k0, k1, k2, k3, k4⟩ := bx_cells Pv6.out
        obtain ⟨l0, l1, l2, l3, l4⟩ := bx_cells Qv6.out
        clear hb
        refine hK.out _ _ ⟨k0, k1, k2, k3, k4, l0, l1, l2, l3, l4⟩ (fun hHeld => ?_)
        clear hK K k0 k1 k2 k3 k4 l0 l1 l2 l3 l4
        try simp only [Act.put, List.setIfInBounds_toArray, List.set_cons_zero, List.set_cons_succ]
        refine wpAnyH_take (i := 23) (oi := ⟨_, _, _, _, _, _⟩) (v := ?_) rfl (by kernel_rfl) (by kernel_rfl) (by kernel_rfl) (fun _ _ _ h => h) (Or.inl ⟨by rfl, ?_⟩) (by assumption) ?_
        rotate_left
        · intro wz hSw
          try dsimp only at hSw
          go_simp
          try with_reducible rfl
        try simp only [Act.put, List.setIfInBounds_toArray, List.set_cons_zero, List.set_cons_succ]
        refine wpAnyH_take (i := 24) (oi := ⟨_, _, _, _, _, _⟩) (v := ?_) rfl (by kernel_rfl) (by kernel_rfl) (by kernel_rfl) (fun _ _ _ h => h) (Or.inl ⟨by rfl, ?_⟩) (by assumption) ?_
        rotate_left
        · intro wz hSw
          try dsimp only at hSw
          go_simp
          try with_reducible rfl
        try simp only [Act.put, List.setIfInBounds_toArray, List.set_cons_zero, List.set_cons_succ]
        refine wpAnyH_take (i := 25) (oi := ⟨_, _, _, _, _, _⟩) (v := ?_) rfl (by kernel_rfl) (by kernel_rfl) (by kernel_rfl) (fun _ _ _ h => h) (Or.inl ⟨by rfl, ?_⟩) (by assumption) ?_
        rotate_left
        · intro wz hSw
          try dsimp only at hSw
          go_simp
          try with_reducible rfl
        try simp only [Act.put, List.setIfInBounds_toArray, List.set_cons_zero, List.set_cons_succ]
        refine wpAnyH_take (i := 26) (oi := ⟨_, _, _, _, _, _⟩) (v := ?_) rfl (by kernel_rfl) (by kernel_rfl) (by kernel_rfl) (fun _ _ _ h => h) (Or.inl ⟨by rfl, ?_⟩) (by assumption) ?_
        rotate_left
        · intro wz hSw
          try dsimp only at hSw
          go_simp
          try with_reducible rfl
        try simp only [Act.put, List.setIfInBounds_toArray, List.set_cons_zero, List.set_cons_succ]
        refine wpAnyH_done (by kernel_rfl) ?_ _
        go_wp2
        go_ret
        exact ⟨rfl, Dv6.out⟩
  · have hlen2 : (r.length : Int) < q.length := by omega
    have hs : decide (a.sm a.kd = bb.sm a.kd) = false := by
      rw [decide_eq_false_iff_not]
      intro h
      have := HSAME.out h
      rw [this] at hlen
      omega
    have SM2 := HSM.out v4 (IA.out.step D4.out) (IB.out.step D4.out)
    rw [hs] at SM2
    have HSM2 := Lib.hid SM2
    clear SM2 hs
    go_wp2_with fail
    refine HSM2.out.mono ?_
    rintro e v5 ⟨rfl, hb⟩
    have D5 := Lib.hid (good_step D4.out hb)
    clear hb
    go_wp2
    go_ret
    exact ⟨rfl, D5.out⟩
end Go.Proofs.Ytcgbamloemdilaa
