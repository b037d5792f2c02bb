/-
  Layer 9 (disk): Append.
-/
import Derived.Test.YtihanhdepijijaaDiskArm
import Derived.Deep.RegionHeld3
namespace Go.Proofs.Ytihanhdepijijaa.S9
open Go.RowKit
namespace Dk
attribute [local go_sem] S2.B_size
theorem chk_one (D : MD) (f : Int) : chkE D [f] = D.chk1 f := by simp [chkE, MD.chk1]
theorem chk_two (D : MD) (f g : Int) : chkE D [f, g] = D.chk2 f g := by simp [chkE, MD.chk2]
theorem check1_any {X : Nat → Prop} {p : Nat} {D : MD} {w : World} (f : Int) (h : Dk X w p D) :
    Calls Try.prog 37 #[ptr p, .slice (some ⟨w.heap.size, 0, none⟩) 1 1] (w.alloc (.cells #[.int .i64 f] 3)) fun e w' => e = .returned (.int .i64 (D.chk1 f)) ∧ w.alloc (.cells #[.int .i64 f] 3) = w' := by
  rw [← chk_one]
  refine check_any X p D [f] _ 1 1 rfl (by decide) _ (.inr ⟨_, rfl, by simp, ?_⟩) (h.alloc _)
  intro j u hu
  exact S2.one_cell j u hu
theorem check2_any {X : Nat → Prop} {p : Nat} {D : MD} {w : World} (f g : Int) (h : Dk X w p D) :
    Calls Try.prog 37 #[ptr p, .slice (some ⟨w.heap.size, 0, none⟩) 2 2] (w.alloc (.cells #[.int .i64 f, .int .i64 g] 3)) fun e w' => e = .returned (.int .i64 (D.chk2 f g)) ∧ w.alloc (.cells #[.int .i64 f, .int .i64 g] 3) = w' := by
  rw [← chk_two]
  refine check_any X p D [f, g] _ 2 2 rfl (by decide) _ (.inr ⟨_, rfl, by simp, ?_⟩) (h.alloc _)
  intro j u hu
  have hh : (w.alloc (.cells #[Value.int .i64 f, .int .i64 g] 3)).heap[w.heap.size]? = some (.cells #[Value.int .i64 f, .int .i64 g] 3 (0, 0)) := heap_alloc_new w _
  rw [Addr.add_lit, Nat.zero_add, cell_of_row _ _ _ _ _ _ hh, List.getElem?_toArray]
  exact hu
theorem step_app_str {o : Oper} {a : Act} {w : World} {ops : Array Oper} {K : Act → World → Prop} {Q : Exit → Act → World → Prop} {E : Prop}
    (hg : o.guard = none) (x y : Operand) (hop : o.op = Op.call { callee := Callee.builtin Builtin.append, args := #[x, y], argTypes := #[58, 9] })
    {v : Value} {l s : Str} (hown : By w v l) (hx : a.eval x = v) (hy : a.eval y = .string (S2.B s)) (hn : l.length + s.length ≤ 100000000)
    (hK : ∀ v' w', By w' v' (l ++ s) → w.grownBy w' v.ownBlock → (v'.ownBlock = v.ownBlock ∨ ∀ g, v'.ownBlock = some g → w.heap.size ≤ g) → K (a.put o.dst v') w') :
    if Region.wanted o (yielded ops a.tmps) = true then Oper.wp Try.prog o a w K Q else E := by
  have hw : Region.wanted o (yielded ops a.tmps) = true := by simp [Region.wanted, hg]
  rw [if_pos hw]
  obtain ⟨v', w', hrun, r1, r2, r3⟩ := run_append_str (w := w) o.type hown hn
  unfold Oper.wp
  simp [execOp, hop, resolve, invoke, builtin, hx, hy, hrun, Result.andThen]
  exact hK v' w' r1 r2 r3
set_option maxHeartbeats 4000000 in
set_option maxRecDepth 100000 in
theorem Append_any (X : Nat → Prop) (p : Nat) (D : MD) (f : Int) (s : Str) (hs : s.length ≤ 1000000000) (w : World) (h : Dk X w p D) :
    Calls Try.prog 21 #[ptr p, .int .i64 f, .string (S2.B s)] w fun e w' => e = .returned (.int .i64 (D.app f s).1) ∧ Dk X w' p (D.app f s).2 ∧ Fr X w w' := by
  have KC := Lib.hid (check1_any f h)
  have hok := h.ok
  have hsI : (s.length : Int) ≤ 1000000000 := by omega
  have H := Lib.hid h
  clear h hs
  cases hd : D.down with
  | true =>
    have hE : D.appE f s = 8 := by simp [MD.appE, MD.chk1, hd]
    have HC := Lib.hid (show D.chk1 f = 8 by simp [MD.chk1, hd])
    have hh : D.hit = false := by simp [MD.hit, hd]
    clear hd hok
    have R := Lib.hid (show (D.app f s).1 = 8 ∧ (D.app f s).2 = D.tick from by unfold MD.app MD.app1; rw [hE, hh]; exact ⟨rfl, rfl⟩)
    have HH := Lib.hid (show D.hit = false from hh)
    clear hh hE
    go_enter Try.func21, Try.ntmps21
    go_wp2_with fail
    refine KC.out.mono ?_
    rintro e w1 ⟨rfl, hq⟩
    have H1 := Lib.hid (show Dk X w1 p _ by rw [← hq]; exact H.out.alloc _)
    have F1 := Lib.hid (show Fr X w w1 by rw [← hq]; exact (Fr.refl X w).alloc H.out.lt _)
    clear hq H KC
    rw [HC.out]
    have H4 := H1
    have F4 := F1
    go_wp2_with fail
    refine (interrupted_any X p D _ H4.out).mono ?_
    rintro e w9 ⟨rfl, h9, f9⟩
    have H9 := Lib.hid h9
    have F9 := Lib.hid (F4.out.trans f9)
    clear h9 f9
    rw [HH.out] 
    go_wp2
    go_ret
    exact ⟨by rw [R.out.1]; rfl, by rw [R.out.2]; exact H9.out, F9.out⟩
  | false =>
    cases hf : isF f with
    | false =>
      have hE : D.appE f s = 1 := by simp [MD.appE, MD.chk1, hd, hf]
      have HC := Lib.hid (show D.chk1 f = 1 by simp [MD.chk1, hd, hf])
      clear hd hf hok
      cases hh : D.hit with
      | false =>
        have R := Lib.hid (show (D.app f s).1 = 1 ∧ (D.app f s).2 = D.tick from by unfold MD.app MD.app1; rw [hE, hh]; exact ⟨rfl, rfl⟩)
        have HH := Lib.hid (show D.hit = false from hh)
        clear hh hE
        go_enter Try.func21, Try.ntmps21
        go_wp2_with fail
        refine KC.out.mono ?_
        rintro e w1 ⟨rfl, hq⟩
        have H1 := Lib.hid (show Dk X w1 p _ by rw [← hq]; exact H.out.alloc _)
        have F1 := Lib.hid (show Fr X w w1 by rw [← hq]; exact (Fr.refl X w).alloc H.out.lt _)
        clear hq H KC
        rw [HC.out]
        have H4 := H1
        have F4 := F1
        go_wp2_with fail
        refine (interrupted_any X p D _ H4.out).mono ?_
        rintro e w9 ⟨rfl, h9, f9⟩
        have H9 := Lib.hid h9
        have F9 := Lib.hid (F4.out.trans f9)
        clear h9 f9
        rw [HH.out] 
        go_wp2
        go_ret
        exact ⟨by rw [R.out.1]; rfl, by rw [R.out.2]; exact H9.out, F9.out⟩
      | true =>
        have R := Lib.hid (show (D.app f s).1 = 8 ∧ (D.app f s).2 = D.tick from by unfold MD.app MD.app1; rw [hE, hh]; exact ⟨rfl, rfl⟩)
        have HH := Lib.hid (show D.hit = true from hh)
        clear hh hE
        go_enter Try.func21, Try.ntmps21
        go_wp2_with fail
        refine KC.out.mono ?_
        rintro e w1 ⟨rfl, hq⟩
        have H1 := Lib.hid (show Dk X w1 p _ by rw [← hq]; exact H.out.alloc _)
        have F1 := Lib.hid (show Fr X w w1 by rw [← hq]; exact (Fr.refl X w).alloc H.out.lt _)
        clear hq H KC
        rw [HC.out]
        have H4 := H1
        have F4 := F1
        go_wp2_with fail
        refine (interrupted_any X p D _ H4.out).mono ?_
        rintro e w9 ⟨rfl, h9, f9⟩
        have H9 := Lib.hid h9
        have F9 := Lib.hid (F4.out.trans f9)
        clear h9 f9
        rw [HH.out] 
        go_wp2
        go_ret
        exact ⟨by rw [R.out.1]; rfl, by rw [R.out.2]; exact H9.out, F9.out⟩
    | true =>
      obtain ⟨k, hk, rfl⟩ : ∃ k : Nat, k < 8 ∧ f = (k : Int) := ⟨f.toNat, isF_nat hf⟩
      have hkk : (k : Int) < 8 := by omega
      obtain ⟨m, hm⟩ : ∃ m, m = (D.text k).length := ⟨_, rfl⟩
      have hml := hok.len k hk
      have hsz : D.size (k : Int) = m := by unfold MD.size; rw [if_pos hf, hm]; rfl
      have HSZ := Lib.hid hsz
      have HC := Lib.hid (show D.chk1 (k : Int) = 0 by simp [MD.chk1, hd, hf])
      have hm2 : (m : Int) ≤ 16777216 := by omega
      have HK8 := Lib.hid hk
      by_cases hlen : (16777216 : Int) - m < s.length
      · have hE : D.appE (k : Int) s = 7 := by unfold MD.appE; rw [HC.out, if_neg (by simp), hsz, if_pos hlen]
        clear hd hf hok hm hml hsz hk
        cases hh : D.hit with
        | false =>
          have R := Lib.hid (show (D.app (k : Int) s).1 = 7 ∧ (D.app (k : Int) s).2 = D.tick from by unfold MD.app MD.app1; rw [hE, hh]; exact ⟨rfl, rfl⟩)
          have HH := Lib.hid (show D.hit = false from hh)
          clear hh hE
          go_enter Try.func21, Try.ntmps21
          go_wp2_with fail
          refine KC.out.mono ?_
          rintro e w1 ⟨rfl, hq⟩
          have H1 := Lib.hid (show Dk X w1 p _ by rw [← hq]; exact H.out.alloc _)
          have F1 := Lib.hid (show Fr X w w1 by rw [← hq]; exact (Fr.refl X w).alloc H.out.lt _)
          clear hq H KC
          rw [HC.out]
          go_wp2_with fail
          refine (size_any X p D (k : Int) w1 H1.out).mono ?_
          rintro e w2 ⟨rfl, rfl⟩
          rw [HSZ.out]
          have H4 := H1
          have F4 := F1
          go_wp2_with fail
          refine (interrupted_any X p D _ H4.out).mono ?_
          rintro e w9 ⟨rfl, h9, f9⟩
          have H9 := Lib.hid h9
          have F9 := Lib.hid (F4.out.trans f9)
          clear h9 f9
          rw [HH.out] 
          go_wp2
          go_ret
          exact ⟨by rw [R.out.1]; rfl, by rw [R.out.2]; exact H9.out, F9.out⟩
        | true =>
          have R := Lib.hid (show (D.app (k : Int) s).1 = 8 ∧ (D.app (k : Int) s).2 = D.tick from by unfold MD.app MD.app1; rw [hE, hh]; exact ⟨rfl, rfl⟩)
          have HH := Lib.hid (show D.hit = true from hh)
          clear hh hE
          go_enter Try.func21, Try.ntmps21
          go_wp2_with fail
          refine KC.out.mono ?_
          rintro e w1 ⟨rfl, hq⟩
          have H1 := Lib.hid (show Dk X w1 p _ by rw [← hq]; exact H.out.alloc _)
          have F1 := Lib.hid (show Fr X w w1 by rw [← hq]; exact (Fr.refl X w).alloc H.out.lt _)
          clear hq H KC
          rw [HC.out]
          go_wp2_with fail
          refine (size_any X p D (k : Int) w1 H1.out).mono ?_
          rintro e w2 ⟨rfl, rfl⟩
          rw [HSZ.out]
          have H4 := H1
          have F4 := F1
          go_wp2_with fail
          refine (interrupted_any X p D _ H4.out).mono ?_
          rintro e w9 ⟨rfl, h9, f9⟩
          have H9 := Lib.hid h9
          have F9 := Lib.hid (F4.out.trans f9)
          clear h9 f9
          rw [HH.out] 
          go_wp2
          go_ret
          exact ⟨by rw [R.out.1]; rfl, by rw [R.out.2]; exact H9.out, F9.out⟩
      · have hE : D.appE (k : Int) s = 0 := by unfold MD.appE; rw [HC.out, if_neg (by simp), hsz, if_neg hlen]
        have hle : (s.length : Int) ≤ 16777216 - m := by omega
        have HBN := Lib.hid (show (D.text k).length + s.length ≤ 100000000 by omega)
        have HBL := Lib.hid (show (D.text k).length + s.length ≤ 16777216 by omega)
        clear hd hf hok hm hml hsz hk hlen
        cases hh : D.hit with
        | false =>
          have R := Lib.hid (show (D.app (k : Int) s).1 = 0 ∧ (D.app (k : Int) s).2 = (D.put k s).tick from by unfold MD.app MD.app1; rw [hE, hh]; exact ⟨rfl, rfl⟩)
          have HH := Lib.hid (show (D.put k s).hit = false from hh)
          clear hh hE
          go_enter Try.func21, Try.ntmps21
          go_wp2_with fail
          refine KC.out.mono ?_
          rintro e w1 ⟨rfl, hq⟩
          have H1 := Lib.hid (show Dk X w1 p _ by rw [← hq]; exact H.out.alloc _)
          have F1 := Lib.hid (show Fr X w w1 by rw [← hq]; exact (Fr.refl X w).alloc H.out.lt _)
          clear hq H KC
          rw [HC.out]
          go_wp2_with fail
          refine (size_any X p D (k : Int) w1 H1.out).mono ?_
          rintro e w2 ⟨rfl, rfl⟩
          rw [HSZ.out]
          go_wp2
          obtain ⟨hok, vs, hv⟩ := H1.out
          replace hv := hv.drew
          obtain ⟨A, n, c, he, hn, hnc⟩ := (hv.own k HK8.out).sl
          have c1 := hv.c_v HK8.out
          have hby := hv.own k HK8.out
          have f1 := hv.free (k * 2)
          rw [he] at c1 hby
          have HV := Lib.hid hv
          have HBY := Lib.hid hby
          have HE := Lib.hid he
          have FD := Lib.hid F1.out.drew
          clear hv hby he hn hnc hok
          refine wp_region_held_drew (S := (fun _ => True)) (by kernel_rfl) trivial (fun hHeld => ?_)
          generalize w1.drew = wd at *
          refine wpAnyH_take (i := 0) (oi := ⟨_, _, _, _, _, _⟩) (v := ?_) rfl (by kernel_rfl) (by kernel_rfl) (by kernel_rfl) (fun _ _ _ h => h) (Or.inl ⟨by rfl, ?_⟩) (by assumption) ?_
          rotate_left
          · intro wz hSw
            try dsimp only at hSw
            go_simp
            try with_reducible rfl
          try simp only [Act.put, List.setIfInBounds_toArray, List.set_cons_zero, List.set_cons_succ]
          refine wpAnyH_take (i := 1) (oi := ⟨_, _, _, _, _, _⟩) (v := ?_) rfl (by kernel_rfl) (by kernel_rfl) (by kernel_rfl) (fun _ _ _ h => h) (Or.inl ⟨by rfl, ?_⟩) (by assumption) ?_
          rotate_left
          · intro wz hSw
            try dsimp only at hSw
            go_simp
            try with_reducible rfl
          try simp only [Act.put, List.setIfInBounds_toArray, List.set_cons_zero, List.set_cons_succ]
          refine wpAnyH_take (i := 2) (oi := ⟨_, _, _, _, _, _⟩) (v := ?_) rfl (by kernel_rfl) (by kernel_rfl) (by kernel_rfl) (fun _ _ _ h => h) (Or.inl ⟨by rfl, ?_⟩) (by assumption) ?_
          rotate_left
          · intro wz hSw
            try dsimp only at hSw
            go_simp
            try with_reducible rfl
          try simp only [Act.put, List.setIfInBounds_toArray, List.set_cons_zero, List.set_cons_succ]
          refine wpAnyH_take (i := 3) (oi := ⟨_, _, _, _, _, _⟩) (v := ?_) rfl (by kernel_rfl) (by kernel_rfl) (by kernel_rfl) (fun _ _ _ h => h) (Or.inl ⟨by rfl, ?_⟩) (by assumption) ?_
          rotate_left
          · intro wz hSw
            try dsimp only at hSw
            go_simp
            try with_reducible rfl
          try simp only [Act.put, List.setIfInBounds_toArray, List.set_cons_zero, List.set_cons_succ]
          refine wpAnyH_take (i := 4) (oi := ⟨_, _, _, _, _, _⟩) (v := ?_) rfl (by kernel_rfl) (by kernel_rfl) (by kernel_rfl) (fun _ _ _ h => h) (Or.inl ⟨by rfl, ?_⟩) (by assumption) ?_
          rotate_left
          · intro wz hSw
            try dsimp only at hSw
            go_simp
            try with_reducible rfl
          try simp only [Act.put, List.setIfInBounds_toArray, List.set_cons_zero, List.set_cons_succ]
          refine wpAnyH_take (i := 5) (oi := ⟨_, _, _, _, _, _⟩) (v := ?_) rfl (by kernel_rfl) (by kernel_rfl) (by kernel_rfl) (fun _ _ _ h => h) (Or.inl ⟨by rfl, ?_⟩) (by assumption) ?_
          rotate_left
          · intro wz hSw
            try dsimp only at hSw
            go_simp
            try with_reducible rfl
          try simp only [Act.put, List.setIfInBounds_toArray, List.set_cons_zero, List.set_cons_succ]
          refine wpAnyH_take (i := 6) (oi := ⟨_, _, _, _, _, _⟩) (v := ?_) rfl (by kernel_rfl) (by kernel_rfl) (by kernel_rfl) (fun _ _ _ h => h) (Or.inl ⟨by rfl, ?_⟩) (by assumption) ?_
          rotate_left
          · intro wz hSw
            try dsimp only at hSw
            go_simp
            try with_reducible rfl
          try simp only [Act.put, List.setIfInBounds_toArray, List.set_cons_zero, List.set_cons_succ]
          refine wpAnyH_take (i := 7) (oi := ⟨_, _, _, _, _, _⟩) (v := ?_) rfl (by kernel_rfl) (by kernel_rfl) (by kernel_rfl) (fun _ _ _ h => h) (Or.inl ⟨by rfl, ?_⟩) (by assumption) ?_
          rotate_left
          · intro wz hSw
            try dsimp only at hSw
            go_simp
            try with_reducible rfl
          try simp only [Act.put, List.setIfInBounds_toArray, List.set_cons_zero, List.set_cons_succ]
          refine wpAnyH_take (i := 9) (oi := ⟨_, _, _, _, _, _⟩) (v := ?_) rfl (by kernel_rfl) (by kernel_rfl) (by kernel_rfl) (fun _ _ _ h => h) (Or.inl ⟨by rfl, ?_⟩) (by assumption) ?_
          rotate_left
          · intro wz hSw
            try dsimp only at hSw
            go_simp
            try with_reducible rfl
          try simp only [Act.put, List.setIfInBounds_toArray, List.set_cons_zero, List.set_cons_succ]
          refine wpAnyH_take (i := 11) (oi := ⟨_, _, _, _, _, _⟩) (v := ?_) rfl (by kernel_rfl) (by kernel_rfl) (by kernel_rfl) (fun _ _ _ h => h) (Or.inl ⟨by rfl, ?_⟩) (by assumption) ?_
          rotate_left
          · intro wz hSw
            try dsimp only at hSw
            go_simp
            try with_reducible rfl
          try simp only [Act.put, List.setIfInBounds_toArray, List.set_cons_zero, List.set_cons_succ]
          refine wpAnyH_take (i := 12) (oi := ⟨_, _, _, _, _, _⟩) (v := ?_) rfl (by kernel_rfl) (by kernel_rfl) (by kernel_rfl) (fun _ _ _ h => h) (Or.inl ⟨by rfl, ?_⟩) (by assumption) ?_
          rotate_left
          · intro wz hSw
            try dsimp only at hSw
            go_simp
            try with_reducible rfl
          try simp only [Act.put, List.setIfInBounds_toArray, List.set_cons_zero, List.set_cons_succ]
          refine wpAnyH_ready (rs := [8]) (by kernel_rfl) (by simp) ?_
          refine AllReadyH.cons (o := ⟨_, _, _, _, _, _⟩) rfl (fun K hK => ?_) AllReadyH.nil
          go_simp
          clear hHeld
          refine hK.out _ _ trivial (fun hHeld => ?_)
          clear hK K
          try simp only [Act.put, List.setIfInBounds_toArray, List.set_cons_zero, List.set_cons_succ]
          refine wpAnyH_ready (rs := [10]) (by kernel_rfl) (by simp) ?_
          refine AllReadyH.cons (o := ⟨_, _, _, _, _, _⟩) rfl (fun K hK => ?_) AllReadyH.nil
          refine step_app_str rfl _ _ rfl HBY.out rfl rfl HBN.out ?_
          intro v' w3 ho hg hl
          obtain ⟨A3, n3, c3, rfl, hn3, hc3⟩ := ho.sl
          clear hn3 hc3
          have s1 := HV.out.set_v HK8.out _ _ (by rw [HE.out]; exact hg) (by rw [HE.out]; exact hl) ho
          have c3' : w3.cell? ⟨p, k * 2, none⟩ = some (.slice A n c) := by
            refine hg.cell c1 ?_
            intro e
            exact HV.out.offp k HK8.out (by rw [HE.out]; exact e.symm)
          have f3' : w3.frozen? ⟨p, k * 2, none⟩ = false := by
            rw [World.frozen?_of_block (hg.block p HV.out.p_lt (fun e => HV.out.offp k HK8.out (by rw [HE.out]; exact e.symm)))]
            exact f1
          have S1 := Lib.hid s1
          clear ho hg hl s1 c1 f1
          clear hHeld
          refine hK.out _ _ trivial (fun hHeld => ?_)
          clear hK K
          try simp only [Act.put, List.setIfInBounds_toArray, List.set_cons_zero, List.set_cons_succ]
          refine wpAnyH_take (i := 13) (oi := ⟨_, _, _, _, _, _⟩) (v := ?_) rfl (by kernel_rfl) (by kernel_rfl) (by kernel_rfl) (fun _ _ _ h => h) (Or.inl ⟨by rfl, ?_⟩) (by assumption) ?_
          rotate_left
          · intro wz hSw
            try dsimp only at hSw
            go_simp
            try with_reducible rfl
          try simp only [Act.put, List.setIfInBounds_toArray, List.set_cons_zero, List.set_cons_succ]
          refine wpAnyH_take (i := 14) (oi := ⟨_, _, _, _, _, _⟩) (v := ?_) rfl (by kernel_rfl) (by kernel_rfl) (by kernel_rfl) (fun _ _ _ h => h) (Or.inl ⟨by rfl, ?_⟩) (by assumption) ?_
          rotate_left
          · intro wz hSw
            try dsimp only at hSw
            go_simp
            try with_reducible rfl
          try simp only [Act.put, List.setIfInBounds_toArray, List.set_cons_zero, List.set_cons_succ]
          refine wpAnyH_ready (rs := [15]) (by kernel_rfl) (by simp) ?_
          refine AllReadyH.cons (o := ⟨_, _, _, _, _, _⟩) rfl (fun K hK => ?_) AllReadyH.nil
          go_simp
          clear hHeld
          refine hK.out _ _ trivial (fun hHeld => ?_)
          clear hK K
          try simp only [Act.put, List.setIfInBounds_toArray, List.set_cons_zero, List.set_cons_succ]
          refine wpAnyH_done (by kernel_rfl) ?_ _
          clear hHeld
          have H4 := Lib.hid (show Dk X _ p (D.put k s) from ⟨put_ok H1.out.ok HBL.out, _, S1.out.1⟩)
          have F4 := Lib.hid (FD.out.trans S1.out.2)
          clear c3' f3' S1
          generalize w3.setCell _ _ = w4 at *
          go_wp2_with fail
          refine (interrupted_any X p (D.put k s) _ H4.out).mono ?_
          rintro e w9 ⟨rfl, h9, f9⟩
          have H9 := Lib.hid h9
          have F9 := Lib.hid (F4.out.trans f9)
          clear h9 f9
          rw [HH.out] 
          go_wp2
          go_ret
          exact ⟨by rw [R.out.1]; rfl, by rw [R.out.2]; exact H9.out, F9.out⟩
        | true =>
          have R := Lib.hid (show (D.app (k : Int) s).1 = 8 ∧ (D.app (k : Int) s).2 = (D.put k s).tick from by unfold MD.app MD.app1; rw [hE, hh]; exact ⟨rfl, rfl⟩)
          have HH := Lib.hid (show (D.put k s).hit = true from hh)
          clear hh hE
          go_enter Try.func21, Try.ntmps21
          go_wp2_with fail
          refine KC.out.mono ?_
          rintro e w1 ⟨rfl, hq⟩
          have H1 := Lib.hid (show Dk X w1 p _ by rw [← hq]; exact H.out.alloc _)
          have F1 := Lib.hid (show Fr X w w1 by rw [← hq]; exact (Fr.refl X w).alloc H.out.lt _)
          clear hq H KC
          rw [HC.out]
          go_wp2_with fail
          refine (size_any X p D (k : Int) w1 H1.out).mono ?_
          rintro e w2 ⟨rfl, rfl⟩
          rw [HSZ.out]
          go_wp2
          obtain ⟨hok, vs, hv⟩ := H1.out
          replace hv := hv.drew
          obtain ⟨A, n, c, he, hn, hnc⟩ := (hv.own k HK8.out).sl
          have c1 := hv.c_v HK8.out
          have hby := hv.own k HK8.out
          have f1 := hv.free (k * 2)
          rw [he] at c1 hby
          have HV := Lib.hid hv
          have HBY := Lib.hid hby
          have HE := Lib.hid he
          have FD := Lib.hid F1.out.drew
          clear hv hby he hn hnc hok
          refine wp_region_held_drew (S := (fun _ => True)) (by kernel_rfl) trivial (fun hHeld => ?_)
          generalize w1.drew = wd at *
          refine wpAnyH_take (i := 0) (oi := ⟨_, _, _, _, _, _⟩) (v := ?_) rfl (by kernel_rfl) (by kernel_rfl) (by kernel_rfl) (fun _ _ _ h => h) (Or.inl ⟨by rfl, ?_⟩) (by assumption) ?_
          rotate_left
          · intro wz hSw
            try dsimp only at hSw
            go_simp
            try with_reducible rfl
          try simp only [Act.put, List.setIfInBounds_toArray, List.set_cons_zero, List.set_cons_succ]
          refine wpAnyH_take (i := 1) (oi := ⟨_, _, _, _, _, _⟩) (v := ?_) rfl (by kernel_rfl) (by kernel_rfl) (by kernel_rfl) (fun _ _ _ h => h) (Or.inl ⟨by rfl, ?_⟩) (by assumption) ?_
          rotate_left
          · intro wz hSw
            try dsimp only at hSw
            go_simp
            try with_reducible rfl
          try simp only [Act.put, List.setIfInBounds_toArray, List.set_cons_zero, List.set_cons_succ]
          refine wpAnyH_take (i := 2) (oi := ⟨_, _, _, _, _, _⟩) (v := ?_) rfl (by kernel_rfl) (by kernel_rfl) (by kernel_rfl) (fun _ _ _ h => h) (Or.inl ⟨by rfl, ?_⟩) (by assumption) ?_
          rotate_left
          · intro wz hSw
            try dsimp only at hSw
            go_simp
            try with_reducible rfl
          try simp only [Act.put, List.setIfInBounds_toArray, List.set_cons_zero, List.set_cons_succ]
          refine wpAnyH_take (i := 3) (oi := ⟨_, _, _, _, _, _⟩) (v := ?_) rfl (by kernel_rfl) (by kernel_rfl) (by kernel_rfl) (fun _ _ _ h => h) (Or.inl ⟨by rfl, ?_⟩) (by assumption) ?_
          rotate_left
          · intro wz hSw
            try dsimp only at hSw
            go_simp
            try with_reducible rfl
          try simp only [Act.put, List.setIfInBounds_toArray, List.set_cons_zero, List.set_cons_succ]
          refine wpAnyH_take (i := 4) (oi := ⟨_, _, _, _, _, _⟩) (v := ?_) rfl (by kernel_rfl) (by kernel_rfl) (by kernel_rfl) (fun _ _ _ h => h) (Or.inl ⟨by rfl, ?_⟩) (by assumption) ?_
          rotate_left
          · intro wz hSw
            try dsimp only at hSw
            go_simp
            try with_reducible rfl
          try simp only [Act.put, List.setIfInBounds_toArray, List.set_cons_zero, List.set_cons_succ]
          refine wpAnyH_take (i := 5) (oi := ⟨_, _, _, _, _, _⟩) (v := ?_) rfl (by kernel_rfl) (by kernel_rfl) (by kernel_rfl) (fun _ _ _ h => h) (Or.inl ⟨by rfl, ?_⟩) (by assumption) ?_
          rotate_left
          · intro wz hSw
            try dsimp only at hSw
            go_simp
            try with_reducible rfl
          try simp only [Act.put, List.setIfInBounds_toArray, List.set_cons_zero, List.set_cons_succ]
          refine wpAnyH_take (i := 6) (oi := ⟨_, _, _, _, _, _⟩) (v := ?_) rfl (by kernel_rfl) (by kernel_rfl) (by kernel_rfl) (fun _ _ _ h => h) (Or.inl ⟨by rfl, ?_⟩) (by assumption) ?_
          rotate_left
          · intro wz hSw
            try dsimp only at hSw
            go_simp
            try with_reducible rfl
          try simp only [Act.put, List.setIfInBounds_toArray, List.set_cons_zero, List.set_cons_succ]
          refine wpAnyH_take (i := 7) (oi := ⟨_, _, _, _, _, _⟩) (v := ?_) rfl (by kernel_rfl) (by kernel_rfl) (by kernel_rfl) (fun _ _ _ h => h) (Or.inl ⟨by rfl, ?_⟩) (by assumption) ?_
          rotate_left
          · intro wz hSw
            try dsimp only at hSw
            go_simp
            try with_reducible rfl
          try simp only [Act.put, List.setIfInBounds_toArray, List.set_cons_zero, List.set_cons_succ]
          refine wpAnyH_take (i := 9) (oi := ⟨_, _, _, _, _, _⟩) (v := ?_) rfl (by kernel_rfl) (by kernel_rfl) (by kernel_rfl) (fun _ _ _ h => h) (Or.inl ⟨by rfl, ?_⟩) (by assumption) ?_
          rotate_left
          · intro wz hSw
            try dsimp only at hSw
            go_simp
            try with_reducible rfl
          try simp only [Act.put, List.setIfInBounds_toArray, List.set_cons_zero, List.set_cons_succ]
          refine wpAnyH_take (i := 11) (oi := ⟨_, _, _, _, _, _⟩) (v := ?_) rfl (by kernel_rfl) (by kernel_rfl) (by kernel_rfl) (fun _ _ _ h => h) (Or.inl ⟨by rfl, ?_⟩) (by assumption) ?_
          rotate_left
          · intro wz hSw
            try dsimp only at hSw
            go_simp
            try with_reducible rfl
          try simp only [Act.put, List.setIfInBounds_toArray, List.set_cons_zero, List.set_cons_succ]
          refine wpAnyH_take (i := 12) (oi := ⟨_, _, _, _, _, _⟩) (v := ?_) rfl (by kernel_rfl) (by kernel_rfl) (by kernel_rfl) (fun _ _ _ h => h) (Or.inl ⟨by rfl, ?_⟩) (by assumption) ?_
          rotate_left
          · intro wz hSw
            try dsimp only at hSw
            go_simp
            try with_reducible rfl
          try simp only [Act.put, List.setIfInBounds_toArray, List.set_cons_zero, List.set_cons_succ]
          refine wpAnyH_ready (rs := [8]) (by kernel_rfl) (by simp) ?_
          refine AllReadyH.cons (o := ⟨_, _, _, _, _, _⟩) rfl (fun K hK => ?_) AllReadyH.nil
          go_simp
          clear hHeld
          refine hK.out _ _ trivial (fun hHeld => ?_)
          clear hK K
          try simp only [Act.put, List.setIfInBounds_toArray, List.set_cons_zero, List.set_cons_succ]
          refine wpAnyH_ready (rs := [10]) (by kernel_rfl) (by simp) ?_
          refine AllReadyH.cons (o := ⟨_, _, _, _, _, _⟩) rfl (fun K hK => ?_) AllReadyH.nil
          refine step_app_str rfl _ _ rfl HBY.out rfl rfl HBN.out ?_
          intro v' w3 ho hg hl
          obtain ⟨A3, n3, c3, rfl, hn3, hc3⟩ := ho.sl
          clear hn3 hc3
          have s1 := HV.out.set_v HK8.out _ _ (by rw [HE.out]; exact hg) (by rw [HE.out]; exact hl) ho
          have c3' : w3.cell? ⟨p, k * 2, none⟩ = some (.slice A n c) := by
            refine hg.cell c1 ?_
            intro e
            exact HV.out.offp k HK8.out (by rw [HE.out]; exact e.symm)
          have f3' : w3.frozen? ⟨p, k * 2, none⟩ = false := by
            rw [World.frozen?_of_block (hg.block p HV.out.p_lt (fun e => HV.out.offp k HK8.out (by rw [HE.out]; exact e.symm)))]
            exact f1
          have S1 := Lib.hid s1
          clear ho hg hl s1 c1 f1
          clear hHeld
          refine hK.out _ _ trivial (fun hHeld => ?_)
          clear hK K
          try simp only [Act.put, List.setIfInBounds_toArray, List.set_cons_zero, List.set_cons_succ]
          refine wpAnyH_take (i := 13) (oi := ⟨_, _, _, _, _, _⟩) (v := ?_) rfl (by kernel_rfl) (by kernel_rfl) (by kernel_rfl) (fun _ _ _ h => h) (Or.inl ⟨by rfl, ?_⟩) (by assumption) ?_
          rotate_left
          · intro wz hSw
            try dsimp only at hSw
            go_simp
            try with_reducible rfl
          try simp only [Act.put, List.setIfInBounds_toArray, List.set_cons_zero, List.set_cons_succ]
          refine wpAnyH_take (i := 14) (oi := ⟨_, _, _, _, _, _⟩) (v := ?_) rfl (by kernel_rfl) (by kernel_rfl) (by kernel_rfl) (fun _ _ _ h => h) (Or.inl ⟨by rfl, ?_⟩) (by assumption) ?_
          rotate_left
          · intro wz hSw
            try dsimp only at hSw
            go_simp
            try with_reducible rfl
          try simp only [Act.put, List.setIfInBounds_toArray, List.set_cons_zero, List.set_cons_succ]
          refine wpAnyH_ready (rs := [15]) (by kernel_rfl) (by simp) ?_
          refine AllReadyH.cons (o := ⟨_, _, _, _, _, _⟩) rfl (fun K hK => ?_) AllReadyH.nil
          go_simp
          clear hHeld
          refine hK.out _ _ trivial (fun hHeld => ?_)
          clear hK K
          try simp only [Act.put, List.setIfInBounds_toArray, List.set_cons_zero, List.set_cons_succ]
          refine wpAnyH_done (by kernel_rfl) ?_ _
          clear hHeld
          have H4 := Lib.hid (show Dk X _ p (D.put k s) from ⟨put_ok H1.out.ok HBL.out, _, S1.out.1⟩)
          have F4 := Lib.hid (FD.out.trans S1.out.2)
          clear c3' f3' S1
          generalize w3.setCell _ _ = w4 at *
          go_wp2_with fail
          refine (interrupted_any X p (D.put k s) _ H4.out).mono ?_
          rintro e w9 ⟨rfl, h9, f9⟩
          have H9 := Lib.hid h9
          have F9 := Lib.hid (F4.out.trans f9)
          clear h9 f9
          rw [HH.out] 
          go_wp2
          go_ret
          exact ⟨by rw [R.out.1]; rfl, by rw [R.out.2]; exact H9.out, F9.out⟩
end Dk
end Go.Proofs.Ytihanhdepijijaa.S9
