/-
  Layer 8: the landed package: Link.
-/
import Derived.Test.YtfemgakfckabhaaDoorMerklePath
namespace Go.Proofs.YtfemgakfckabhaaDoor
open Go.RowKit
namespace Mk
attribute [local go_sem] S3.B_size S3.B_app S3.B_list run_store_func
set_option maxHeartbeats 8000000 in
set_option maxRecDepth 100000 in
theorem link1_any (d : Nat) : ∀ (l : List Str) (i : Nat) (b : Bool), l.length ≤ d → l.length ≤ 200 → (∀ s ∈ l, s.length ≤ 1000) → 1 ≤ i → i ≤ l.length → ∀ (A : Option Addr) (c n : Nat) (z : Int) (W0 w : World) (v : Value) (acc : List Str), n = l.length → z = (i : Int) → Rs W0 A l → n ≤ c →
    Cl (.func (.func 31) #[] #[.pointer (some ⟨W0.heap.size, 0, none⟩), .pointer (some ⟨W0.heap.size + 1, 0, none⟩)]) 47 W0 w v v acc → acc.length + l.length ≤ 900 →
    Calls Tryd.prog 31 #[.slice A n c, .int .i64 z, .bool b, .pointer (some ⟨W0.heap.size, 0, none⟩), .pointer (some ⟨W0.heap.size + 1, 0, none⟩)] w (ClP (.func (.func 31) #[] #[.pointer (some ⟨W0.heap.size, 0, none⟩), .pointer (some ⟨W0.heap.size + 1, 0, none⟩)]) 47 W0 (acc ++ inn l i b)) := by
  induction d with
  | zero => intro l i b hd _ _ h1 hi; omega
  | succ d ih =>
    intro l i b hd h200 hs h1 hi A c n z W0 w v acc hn hz hr hc hcl hacc
    subst hz
    obtain ⟨a, rfl⟩ := hr.some_ (by omega)
    by_cases he : i = l.length
    · subst he
      cases b with
      | true =>
        rw [inn_t, List.append_nil]
        have CL := Lib.hid hcl
        rw [← hn]
        clear ih hd h200 hs hn hr h1 hi hcl hacc
        go_enter Tryd.func31, Tryd.ntmps31
        go_wp2
        refine bodyPost_ret (results_none rfl _ _ _) rfl ?_
        exact ⟨rfl, _, CL.out⟩
      | false =>
        rw [inn_f]
        have kr := fun w hW h => root_any (some a) l c n w hn h hc h200 hs hW
        rw [← hn]
        have KR := Lib.hid kr
        have RL := Lib.hid hr
        have CL := Lib.hid hcl
        have hl1 : acc.length ≤ 900 := by omega
        generalize root l = r at *
        clear kr ih hd h200 hs hn hr h1 hi hcl hacc
        go_enter Tryd.func31, Tryd.ntmps31
        go_wp2
        replace CL := Lib.hid CL.out.drew
        refine wp_region_held_drew (S := (fun _ => True)) (by kernel_rfl) trivial (fun hHeld => ?_)
        generalize w.drew = wd at *
        refine wpAnyH_take (i := 1) (oi := ⟨_, _, _, _, _, _⟩) (v := ?_) rfl (by kernel_rfl) (by kernel_rfl) (by kernel_rfl) (fun _ _ _ h => h) (Or.inl ⟨by rfl, ?_⟩) (by assumption) ?_
        rotate_left
        · intro wz hSw
          try dsimp only at hSw
          go_simp
          try with_reducible rfl
        try simp only [Act.put, List.setIfInBounds_toArray, List.set_cons_zero, List.set_cons_succ]
        refine wpAnyH_ready (rs := [0, 2]) (by kernel_rfl) (by simp) ?_
        refine AllReadyH.cons (o := ⟨_, _, _, _, _, _⟩) rfl (fun K hK => ?_) (AllReadyH.cons (o := ⟨_, _, _, _, _, _⟩) rfl (fun K hK => ?_) AllReadyH.nil)
        · have hcell := CL.out.cellP
          go_simp
          clear hcell hHeld
          refine hK.out _ _ trivial (fun hHeld => ?_)
          clear hK K
          try simp only [Act.put, List.setIfInBounds_toArray, List.set_cons_zero, List.set_cons_succ]
          refine wpAnyH_ready (rs := [2]) (by kernel_rfl) (by simp) ?_
          refine AllReadyH.cons (o := ⟨_, _, _, _, _, _⟩) rfl (fun K hK => ?_) AllReadyH.nil
          go_simp
          refine (KR.out _ CL.out.at_.laid (RL.out.step CL.out.at_.bel)).mono ?_
          rintro e wz1 ⟨rfl, hb⟩
          replace CL := Lib.hid (CL.out.step hb)
          clear hb hHeld
          refine hK.out _ _ trivial (fun hHeld => ?_)
          clear hK K
          try simp only [Act.put, List.setIfInBounds_toArray, List.set_cons_zero, List.set_cons_succ]
          refine wpAnyH_ready (rs := [3]) (by kernel_rfl) (by simp) ?_
          refine AllReadyH.cons (o := ⟨_, _, _, _, _, _⟩) rfl (fun K hK => ?_) AllReadyH.nil
          go_simp
          have RP : Hid (Rs (wz1.alloc (.cells #[.string (S3.B r)] 9)) (some ⟨wz1.heap.size, 0, none⟩) [r]) := Lib.hid (Rs.lit wz1 [r])
          replace CL := Lib.hid (CL.out.alloc (.cells #[.string (S3.B r)] 9))
          clear hHeld
          refine hK.out _ _ trivial (fun hHeld => ?_)
          clear hK K
          try simp only [Act.put, List.setIfInBounds_toArray, List.set_cons_zero, List.set_cons_succ]
          generalize hgx : wz1.heap.size = gx at *
          clear hgx
          generalize wz1.alloc (.cells #[.string (S3.B r)] 9) = wz2 at *
          refine wpAnyH_ready (rs := [4]) (by kernel_rfl) (by simp) ?_
          refine AllReadyH.cons (o := ⟨_, _, _, _, _, _⟩) rfl (fun K hK => ?_) AllReadyH.nil
          refine step_app rfl _ _ rfl CL.out.own RP.out rfl rfl rfl (by rw [List.length_singleton]; omega) CL.out.size ?_
          intro v' wz3 ho hg
          obtain ⟨A3, n3, c3, rfl, hn3, hc3⟩ := ho.sl3
          replace CL := Lib.hid (CL.out.app ho hg)
          clear ho hg hn3 hc3 RP hHeld
          refine hK.out _ _ trivial (fun hHeld => ?_)
          clear hK K
          try simp only [Act.put, List.setIfInBounds_toArray, List.set_cons_zero, List.set_cons_succ]
          refine wpAnyH_ready (rs := [5]) (by kernel_rfl) (by simp) ?_
          refine AllReadyH.cons (o := ⟨_, _, _, _, _, _⟩) rfl (fun K hK => ?_) AllReadyH.nil
          have hcell := CL.out.cellP
          have hfr := CL.out.freeP
          go_simp
          clear hcell hfr hHeld
          refine hK.out _ _ trivial (fun hHeld => ?_)
          clear hK K
          try simp only [Act.put, List.setIfInBounds_toArray, List.set_cons_zero, List.set_cons_succ]
          replace CL := Lib.hid CL.out.put
          generalize wz3.setCell _ _ = wz4 at *
          refine wpAnyH_done (by kernel_rfl) ?_ _
          clear hHeld
          go_wp2
          refine bodyPost_ret (results_none rfl _ _ _) rfl ?_
          exact ⟨rfl, _, CL.out⟩
        · go_simp
          refine (KR.out _ CL.out.at_.laid (RL.out.step CL.out.at_.bel)).mono ?_
          rintro e wz1 ⟨rfl, hb⟩
          replace CL := Lib.hid (CL.out.step hb)
          clear hb hHeld
          refine hK.out _ _ trivial (fun hHeld => ?_)
          clear hK K
          try simp only [Act.put, List.setIfInBounds_toArray, List.set_cons_zero, List.set_cons_succ]
          refine wpAnyH_ready (rs := [0, 3]) (by kernel_rfl) (by simp) ?_
          refine AllReadyH.cons (o := ⟨_, _, _, _, _, _⟩) rfl (fun K hK => ?_) (AllReadyH.cons (o := ⟨_, _, _, _, _, _⟩) rfl (fun K hK => ?_) AllReadyH.nil)
          · have hcell := CL.out.cellP
            go_simp
            clear hcell hHeld
            refine hK.out _ _ trivial (fun hHeld => ?_)
            clear hK K
            try simp only [Act.put, List.setIfInBounds_toArray, List.set_cons_zero, List.set_cons_succ]
            refine wpAnyH_ready (rs := [3]) (by kernel_rfl) (by simp) ?_
            refine AllReadyH.cons (o := ⟨_, _, _, _, _, _⟩) rfl (fun K hK => ?_) AllReadyH.nil
            go_simp
            have RP : Hid (Rs (wz1.alloc (.cells #[.string (S3.B r)] 9)) (some ⟨wz1.heap.size, 0, none⟩) [r]) := Lib.hid (Rs.lit wz1 [r])
            replace CL := Lib.hid (CL.out.alloc (.cells #[.string (S3.B r)] 9))
            clear hHeld
            refine hK.out _ _ trivial (fun hHeld => ?_)
            clear hK K
            try simp only [Act.put, List.setIfInBounds_toArray, List.set_cons_zero, List.set_cons_succ]
            generalize hgx : wz1.heap.size = gx at *
            clear hgx
            generalize wz1.alloc (.cells #[.string (S3.B r)] 9) = wz2 at *
            refine wpAnyH_ready (rs := [4]) (by kernel_rfl) (by simp) ?_
            refine AllReadyH.cons (o := ⟨_, _, _, _, _, _⟩) rfl (fun K hK => ?_) AllReadyH.nil
            refine step_app rfl _ _ rfl CL.out.own RP.out rfl rfl rfl (by rw [List.length_singleton]; omega) CL.out.size ?_
            intro v' wz3 ho hg
            obtain ⟨A3, n3, c3, rfl, hn3, hc3⟩ := ho.sl3
            replace CL := Lib.hid (CL.out.app ho hg)
            clear ho hg hn3 hc3 RP hHeld
            refine hK.out _ _ trivial (fun hHeld => ?_)
            clear hK K
            try simp only [Act.put, List.setIfInBounds_toArray, List.set_cons_zero, List.set_cons_succ]
            refine wpAnyH_ready (rs := [5]) (by kernel_rfl) (by simp) ?_
            refine AllReadyH.cons (o := ⟨_, _, _, _, _, _⟩) rfl (fun K hK => ?_) AllReadyH.nil
            have hcell := CL.out.cellP
            have hfr := CL.out.freeP
            go_simp
            clear hcell hfr hHeld
            refine hK.out _ _ trivial (fun hHeld => ?_)
            clear hK K
            try simp only [Act.put, List.setIfInBounds_toArray, List.set_cons_zero, List.set_cons_succ]
            replace CL := Lib.hid CL.out.put
            generalize wz3.setCell _ _ = wz4 at *
            refine wpAnyH_done (by kernel_rfl) ?_ _
            clear hHeld
            go_wp2
            refine bodyPost_ret (results_none rfl _ _ _) rfl ?_
            exact ⟨rfl, _, CL.out⟩
          · go_simp
            have RP : Hid (Rs (wz1.alloc (.cells #[.string (S3.B r)] 9)) (some ⟨wz1.heap.size, 0, none⟩) [r]) := Lib.hid (Rs.lit wz1 [r])
            replace CL := Lib.hid (CL.out.alloc (.cells #[.string (S3.B r)] 9))
            clear hHeld
            refine hK.out _ _ trivial (fun hHeld => ?_)
            clear hK K
            try simp only [Act.put, List.setIfInBounds_toArray, List.set_cons_zero, List.set_cons_succ]
            generalize hgx : wz1.heap.size = gx at *
            clear hgx
            generalize wz1.alloc (.cells #[.string (S3.B r)] 9) = wz2 at *
            refine wpAnyH_ready (rs := [0]) (by kernel_rfl) (by simp) ?_
            refine AllReadyH.cons (o := ⟨_, _, _, _, _, _⟩) rfl (fun K hK => ?_) AllReadyH.nil
            have hcell := CL.out.cellP
            go_simp
            clear hcell hHeld
            refine hK.out _ _ trivial (fun hHeld => ?_)
            clear hK K
            try simp only [Act.put, List.setIfInBounds_toArray, List.set_cons_zero, List.set_cons_succ]
            refine wpAnyH_ready (rs := [4]) (by kernel_rfl) (by simp) ?_
            refine AllReadyH.cons (o := ⟨_, _, _, _, _, _⟩) rfl (fun K hK => ?_) AllReadyH.nil
            refine step_app rfl _ _ rfl CL.out.own RP.out rfl rfl rfl (by rw [List.length_singleton]; omega) CL.out.size ?_
            intro v' wz3 ho hg
            obtain ⟨A3, n3, c3, rfl, hn3, hc3⟩ := ho.sl3
            replace CL := Lib.hid (CL.out.app ho hg)
            clear ho hg hn3 hc3 RP hHeld
            refine hK.out _ _ trivial (fun hHeld => ?_)
            clear hK K
            try simp only [Act.put, List.setIfInBounds_toArray, List.set_cons_zero, List.set_cons_succ]
            refine wpAnyH_ready (rs := [5]) (by kernel_rfl) (by simp) ?_
            refine AllReadyH.cons (o := ⟨_, _, _, _, _, _⟩) rfl (fun K hK => ?_) AllReadyH.nil
            have hcell := CL.out.cellP
            have hfr := CL.out.freeP
            go_simp
            clear hcell hfr hHeld
            refine hK.out _ _ trivial (fun hHeld => ?_)
            clear hK K
            try simp only [Act.put, List.setIfInBounds_toArray, List.set_cons_zero, List.set_cons_succ]
            replace CL := Lib.hid CL.out.put
            generalize wz3.setCell _ _ = wz4 at *
            refine wpAnyH_done (by kernel_rfl) ?_ _
            clear hHeld
            go_wp2
            refine bodyPost_ret (results_none rfl _ _ _) rfl ?_
            exact ⟨rfl, _, CL.out⟩
    have h2 : 2 ≤ l.length := by omega
    have he2 : ((i : Int) == (l.length : Int)) = false := by simp; omega
    by_cases hik : i ≤ sp l.length
    · have hik' : (i : Int) ≤ (sp l.length : Int) := by omega
      have hp := sp_pos l.length
      have hk := sp_lt h2
      have hsT : ∀ s ∈ l.take (sp l.length), s.length ≤ 1000 := fun s h => hs s (List.mem_of_mem_take h)
      have hsD : ∀ s ∈ l.drop (sp l.length), s.length ≤ 1000 := fun s h => hs s (List.mem_of_mem_drop h)
      have eT : (l.take (sp l.length)).length = sp l.length := by rw [List.length_take]; omega
      have eD : (l.drop (sp l.length)).length = l.length - sp l.length := by rw [List.length_drop]
      have rt := hr.take (sp l.length)
      have rd := hr.drop (sp l.length)
      have bT := root_le (n := 1000) (by omega) hsT
      have bD := root_le (n := 1000) (by omega) hsD
      have kc := fun w => cut_any a l.length c w h2 (by omega) (by omega)
      have k1 := fun w v h => ih (l.take (sp l.length)) i b (by omega) (by omega) hsT h1 (by omega) (some a) (sp l.length) (sp l.length) (i : Int) W0 w v acc eT.symm rfl rt (by omega) h (by omega)
      have kT := fun w hW h => root_any (some a) (l.take (sp l.length)) (sp l.length) (sp l.length) w eT.symm h (by omega) (by omega) hsT hW
      have kD := fun w hW h => root_any (some (a.add (sp l.length))) (l.drop (sp l.length)) (l.length - sp l.length) (l.length - sp l.length) w eD.symm h (by omega) (by omega) hsD hW
      have l1 := inn_length (l.take (sp l.length)) i b
      rw [inn_lo h2 he hik, ← List.append_assoc]
      rw [← hn] at k1 kT kD kc hp hk rt rd h2 h200 hacc l1 eT eD hik hik' hi he he2 ⊢
      have hl1 : (acc ++ inn (l.take (sp n)) i b).length ≤ 1000 := by rw [List.length_append]; omega
      generalize l.take (sp n) = lT at *
      generalize l.drop (sp n) = lD at *
      generalize root lT = r1 at *
      generalize root lD = r2 at *
      generalize acc ++ inn lT i b = acc1 at *
      generalize sp n = k at *
      have hn2 : (n : Int) ≤ 200 := by omega
      have K1 := Lib.hid k1
      have KT := Lib.hid kT
      have KD := Lib.hid kD
      have KC := Lib.hid kc
      have RT := Lib.hid rt
      have RD := Lib.hid rd
      have CL := Lib.hid hcl
      clear ih hs hsT hsD k1 kT kD kc rt rd hr hd h200 hn hcl bT bD eT eD l1 hacc he
      go_enter Tryd.func31, Tryd.ntmps31
      go_wp2_with fail
      refine (KC.out _).mono ?_
      rintro e w2 ⟨rfl, hb⟩
      replace CL := Lib.hid (CL.out.step hb)
      clear hb
      have hcd := CL.out.cellD
      go_wp2_with fail
      refine (K1.out _ _ CL.out).mono ?_
      rintro e wr ⟨rfl, v1, hcl⟩
      replace CL := Lib.hid hcl
      clear hcl hcd
      go_wp2
      replace CL := Lib.hid CL.out.drew
      refine wp_region_held_drew (S := (fun _ => True)) (by kernel_rfl) trivial (fun hHeld => ?_)
      generalize wr.drew = wrd at *
      refine wpAnyH_take (i := 1) (oi := ⟨_, _, _, _, _, _⟩) (v := ?_) rfl (by kernel_rfl) (by kernel_rfl) (by kernel_rfl) (fun _ _ _ h => h) (Or.inl ⟨by rfl, ?_⟩) (by assumption) ?_
      rotate_left
      · intro wz hSw
        try dsimp only at hSw
        go_simp
        try with_reducible rfl
      try simp only [Act.put, List.setIfInBounds_toArray, List.set_cons_zero, List.set_cons_succ]
      refine wpAnyH_ready (rs := [0, 2]) (by kernel_rfl) (by simp) ?_
      refine AllReadyH.cons (o := ⟨_, _, _, _, _, _⟩) rfl (fun K hK => ?_) (AllReadyH.cons (o := ⟨_, _, _, _, _, _⟩) rfl (fun K hK => ?_) AllReadyH.nil)
      · have hcell := CL.out.cellP
        go_simp
        clear hcell hHeld
        refine hK.out _ _ trivial (fun hHeld => ?_)
        clear hK K
        try simp only [Act.put, List.setIfInBounds_toArray, List.set_cons_zero, List.set_cons_succ]
        refine wpAnyH_ready (rs := [2]) (by kernel_rfl) (by simp) ?_
        refine AllReadyH.cons (o := ⟨_, _, _, _, _, _⟩) rfl (fun K hK => ?_) AllReadyH.nil
        go_simp
        refine (KD.out _ CL.out.at_.laid (RD.out.step CL.out.at_.bel)).mono ?_
        rintro e wz1 ⟨rfl, hb⟩
        replace CL := Lib.hid (CL.out.step hb)
        clear hb hHeld
        refine hK.out _ _ trivial (fun hHeld => ?_)
        clear hK K
        try simp only [Act.put, List.setIfInBounds_toArray, List.set_cons_zero, List.set_cons_succ]
        refine wpAnyH_ready (rs := [3]) (by kernel_rfl) (by simp) ?_
        refine AllReadyH.cons (o := ⟨_, _, _, _, _, _⟩) rfl (fun K hK => ?_) AllReadyH.nil
        go_simp
        have RP : Hid (Rs (wz1.alloc (.cells #[.string (S3.B r2)] 9)) (some ⟨wz1.heap.size, 0, none⟩) [r2]) := Lib.hid (Rs.lit wz1 [r2])
        replace CL := Lib.hid (CL.out.alloc (.cells #[.string (S3.B r2)] 9))
        clear hHeld
        refine hK.out _ _ trivial (fun hHeld => ?_)
        clear hK K
        try simp only [Act.put, List.setIfInBounds_toArray, List.set_cons_zero, List.set_cons_succ]
        generalize hgx : wz1.heap.size = gx at *
        clear hgx
        generalize wz1.alloc (.cells #[.string (S3.B r2)] 9) = wz2 at *
        refine wpAnyH_ready (rs := [4]) (by kernel_rfl) (by simp) ?_
        refine AllReadyH.cons (o := ⟨_, _, _, _, _, _⟩) rfl (fun K hK => ?_) AllReadyH.nil
        refine step_app rfl _ _ rfl CL.out.own RP.out rfl rfl rfl (by rw [List.length_singleton]; omega) CL.out.size ?_
        intro v' wz3 ho hg
        obtain ⟨A3, n3, c3, rfl, hn3, hc3⟩ := ho.sl3
        replace CL := Lib.hid (CL.out.app ho hg)
        clear ho hg hn3 hc3 RP hHeld
        refine hK.out _ _ trivial (fun hHeld => ?_)
        clear hK K
        try simp only [Act.put, List.setIfInBounds_toArray, List.set_cons_zero, List.set_cons_succ]
        refine wpAnyH_ready (rs := [5]) (by kernel_rfl) (by simp) ?_
        refine AllReadyH.cons (o := ⟨_, _, _, _, _, _⟩) rfl (fun K hK => ?_) AllReadyH.nil
        have hcell := CL.out.cellP
        have hfr := CL.out.freeP
        go_simp
        clear hcell hfr hHeld
        refine hK.out _ _ trivial (fun hHeld => ?_)
        clear hK K
        try simp only [Act.put, List.setIfInBounds_toArray, List.set_cons_zero, List.set_cons_succ]
        replace CL := Lib.hid CL.out.put
        generalize wz3.setCell _ _ = wz4 at *
        refine wpAnyH_done (by kernel_rfl) ?_ _
        clear hHeld
        go_wp2
        go_end0
        exact ⟨rfl, _, CL.out⟩
      · go_simp
        refine (KD.out _ CL.out.at_.laid (RD.out.step CL.out.at_.bel)).mono ?_
        rintro e wz1 ⟨rfl, hb⟩
        replace CL := Lib.hid (CL.out.step hb)
        clear hb hHeld
        refine hK.out _ _ trivial (fun hHeld => ?_)
        clear hK K
        try simp only [Act.put, List.setIfInBounds_toArray, List.set_cons_zero, List.set_cons_succ]
        refine wpAnyH_ready (rs := [0, 3]) (by kernel_rfl) (by simp) ?_
        refine AllReadyH.cons (o := ⟨_, _, _, _, _, _⟩) rfl (fun K hK => ?_) (AllReadyH.cons (o := ⟨_, _, _, _, _, _⟩) rfl (fun K hK => ?_) AllReadyH.nil)
        · have hcell := CL.out.cellP
          go_simp
          clear hcell hHeld
          refine hK.out _ _ trivial (fun hHeld => ?_)
          clear hK K
          try simp only [Act.put, List.setIfInBounds_toArray, List.set_cons_zero, List.set_cons_succ]
          refine wpAnyH_ready (rs := [3]) (by kernel_rfl) (by simp) ?_
          refine AllReadyH.cons (o := ⟨_, _, _, _, _, _⟩) rfl (fun K hK => ?_) AllReadyH.nil
          go_simp
          have RP : Hid (Rs (wz1.alloc (.cells #[.string (S3.B r2)] 9)) (some ⟨wz1.heap.size, 0, none⟩) [r2]) := Lib.hid (Rs.lit wz1 [r2])
          replace CL := Lib.hid (CL.out.alloc (.cells #[.string (S3.B r2)] 9))
          clear hHeld
          refine hK.out _ _ trivial (fun hHeld => ?_)
          clear hK K
          try simp only [Act.put, List.setIfInBounds_toArray, List.set_cons_zero, List.set_cons_succ]
          generalize hgx : wz1.heap.size = gx at *
          clear hgx
          generalize wz1.alloc (.cells #[.string (S3.B r2)] 9) = wz2 at *
          refine wpAnyH_ready (rs := [4]) (by kernel_rfl) (by simp) ?_
          refine AllReadyH.cons (o := ⟨_, _, _, _, _, _⟩) rfl (fun K hK => ?_) AllReadyH.nil
          refine step_app rfl _ _ rfl CL.out.own RP.out rfl rfl rfl (by rw [List.length_singleton]; omega) CL.out.size ?_
          intro v' wz3 ho hg
          obtain ⟨A3, n3, c3, rfl, hn3, hc3⟩ := ho.sl3
          replace CL := Lib.hid (CL.out.app ho hg)
          clear ho hg hn3 hc3 RP hHeld
          refine hK.out _ _ trivial (fun hHeld => ?_)
          clear hK K
          try simp only [Act.put, List.setIfInBounds_toArray, List.set_cons_zero, List.set_cons_succ]
          refine wpAnyH_ready (rs := [5]) (by kernel_rfl) (by simp) ?_
          refine AllReadyH.cons (o := ⟨_, _, _, _, _, _⟩) rfl (fun K hK => ?_) AllReadyH.nil
          have hcell := CL.out.cellP
          have hfr := CL.out.freeP
          go_simp
          clear hcell hfr hHeld
          refine hK.out _ _ trivial (fun hHeld => ?_)
          clear hK K
          try simp only [Act.put, List.setIfInBounds_toArray, List.set_cons_zero, List.set_cons_succ]
          replace CL := Lib.hid CL.out.put
          generalize wz3.setCell _ _ = wz4 at *
          refine wpAnyH_done (by kernel_rfl) ?_ _
          clear hHeld
          go_wp2
          go_end0
          exact ⟨rfl, _, CL.out⟩
        · go_simp
          have RP : Hid (Rs (wz1.alloc (.cells #[.string (S3.B r2)] 9)) (some ⟨wz1.heap.size, 0, none⟩) [r2]) := Lib.hid (Rs.lit wz1 [r2])
          replace CL := Lib.hid (CL.out.alloc (.cells #[.string (S3.B r2)] 9))
          clear hHeld
          refine hK.out _ _ trivial (fun hHeld => ?_)
          clear hK K
          try simp only [Act.put, List.setIfInBounds_toArray, List.set_cons_zero, List.set_cons_succ]
          generalize hgx : wz1.heap.size = gx at *
          clear hgx
          generalize wz1.alloc (.cells #[.string (S3.B r2)] 9) = wz2 at *
          refine wpAnyH_ready (rs := [0]) (by kernel_rfl) (by simp) ?_
          refine AllReadyH.cons (o := ⟨_, _, _, _, _, _⟩) rfl (fun K hK => ?_) AllReadyH.nil
          have hcell := CL.out.cellP
          go_simp
          clear hcell hHeld
          refine hK.out _ _ trivial (fun hHeld => ?_)
          clear hK K
          try simp only [Act.put, List.setIfInBounds_toArray, List.set_cons_zero, List.set_cons_succ]
          refine wpAnyH_ready (rs := [4]) (by kernel_rfl) (by simp) ?_
          refine AllReadyH.cons (o := ⟨_, _, _, _, _, _⟩) rfl (fun K hK => ?_) AllReadyH.nil
          refine step_app rfl _ _ rfl CL.out.own RP.out rfl rfl rfl (by rw [List.length_singleton]; omega) CL.out.size ?_
          intro v' wz3 ho hg
          obtain ⟨A3, n3, c3, rfl, hn3, hc3⟩ := ho.sl3
          replace CL := Lib.hid (CL.out.app ho hg)
          clear ho hg hn3 hc3 RP hHeld
          refine hK.out _ _ trivial (fun hHeld => ?_)
          clear hK K
          try simp only [Act.put, List.setIfInBounds_toArray, List.set_cons_zero, List.set_cons_succ]
          refine wpAnyH_ready (rs := [5]) (by kernel_rfl) (by simp) ?_
          refine AllReadyH.cons (o := ⟨_, _, _, _, _, _⟩) rfl (fun K hK => ?_) AllReadyH.nil
          have hcell := CL.out.cellP
          have hfr := CL.out.freeP
          go_simp
          clear hcell hfr hHeld
          refine hK.out _ _ trivial (fun hHeld => ?_)
          clear hK K
          try simp only [Act.put, List.setIfInBounds_toArray, List.set_cons_zero, List.set_cons_succ]
          replace CL := Lib.hid CL.out.put
          generalize wz3.setCell _ _ = wz4 at *
          refine wpAnyH_done (by kernel_rfl) ?_ _
          clear hHeld
          go_wp2
          go_end0
          exact ⟨rfl, _, CL.out⟩
    · have hik' : (sp l.length : Int) < (i : Int) := by omega
      have hp := sp_pos l.length
      have hk := sp_lt h2
      have hsT : ∀ s ∈ l.take (sp l.length), s.length ≤ 1000 := fun s h => hs s (List.mem_of_mem_take h)
      have hsD : ∀ s ∈ l.drop (sp l.length), s.length ≤ 1000 := fun s h => hs s (List.mem_of_mem_drop h)
      have eT : (l.take (sp l.length)).length = sp l.length := by rw [List.length_take]; omega
      have eD : (l.drop (sp l.length)).length = l.length - sp l.length := by rw [List.length_drop]
      have rt := hr.take (sp l.length)
      have rd := hr.drop (sp l.length)
      have bT := root_le (n := 1000) (by omega) hsT
      have bD := root_le (n := 1000) (by omega) hsD
      have kc := fun w => cut_any a l.length c w h2 (by omega) (by omega)
      have k1 := fun w v h => ih (l.drop (sp l.length)) (i - sp l.length) false (by omega) (by omega) hsD (by omega) (by omega) (some (a.add (sp l.length))) (l.length - sp l.length) (l.length - sp l.length) ((i : Int) - (sp l.length : Int)) W0 w v acc eD.symm (by omega) rd (by omega) h (by omega)
      have kT := fun w hW h => root_any (some a) (l.take (sp l.length)) (sp l.length) (sp l.length) w eT.symm h (by omega) (by omega) hsT hW
      have kD := fun w hW h => root_any (some (a.add (sp l.length))) (l.drop (sp l.length)) (l.length - sp l.length) (l.length - sp l.length) w eD.symm h (by omega) (by omega) hsD hW
      have l1 := inn_length (l.drop (sp l.length)) (i - sp l.length) false
      rw [inn_hi h2 he (by omega), ← List.append_assoc]
      rw [← hn] at k1 kT kD kc hp hk rt rd h2 h200 hacc l1 eT eD hik hik' hi he he2 ⊢
      have hl1 : (acc ++ inn (l.drop (sp n)) (i - sp n) false).length ≤ 1000 := by rw [List.length_append]; omega
      generalize l.take (sp n) = lT at *
      generalize l.drop (sp n) = lD at *
      generalize root lT = r1 at *
      generalize root lD = r2 at *
      generalize acc ++ inn lD (i - sp n) false = acc1 at *
      generalize sp n = k at *
      have hn2 : (n : Int) ≤ 200 := by omega
      have K1 := Lib.hid k1
      have KT := Lib.hid kT
      have KD := Lib.hid kD
      have KC := Lib.hid kc
      have RT := Lib.hid rt
      have RD := Lib.hid rd
      have CL := Lib.hid hcl
      clear ih hs hsT hsD k1 kT kD kc rt rd hr hd h200 hn hcl bT bD eT eD l1 hacc he
      go_enter Tryd.func31, Tryd.ntmps31
      go_wp2_with fail
      refine (KC.out _).mono ?_
      rintro e w2 ⟨rfl, hb⟩
      replace CL := Lib.hid (CL.out.step hb)
      clear hb
      have hcd := CL.out.cellD
      go_wp2_with fail
      refine (K1.out _ _ CL.out).mono ?_
      rintro e wr ⟨rfl, v1, hcl⟩
      replace CL := Lib.hid hcl
      clear hcl hcd
      go_wp2
      replace CL := Lib.hid CL.out.drew
      refine wp_region_held_drew (S := (fun _ => True)) (by kernel_rfl) trivial (fun hHeld => ?_)
      generalize wr.drew = wrd at *
      refine wpAnyH_take (i := 1) (oi := ⟨_, _, _, _, _, _⟩) (v := ?_) rfl (by kernel_rfl) (by kernel_rfl) (by kernel_rfl) (fun _ _ _ h => h) (Or.inl ⟨by rfl, ?_⟩) (by assumption) ?_
      rotate_left
      · intro wz hSw
        try dsimp only at hSw
        go_simp
        try with_reducible rfl
      try simp only [Act.put, List.setIfInBounds_toArray, List.set_cons_zero, List.set_cons_succ]
      refine wpAnyH_ready (rs := [0, 2]) (by kernel_rfl) (by simp) ?_
      refine AllReadyH.cons (o := ⟨_, _, _, _, _, _⟩) rfl (fun K hK => ?_) (AllReadyH.cons (o := ⟨_, _, _, _, _, _⟩) rfl (fun K hK => ?_) AllReadyH.nil)
      · have hcell := CL.out.cellP
        go_simp
        clear hcell hHeld
        refine hK.out _ _ trivial (fun hHeld => ?_)
        clear hK K
        try simp only [Act.put, List.setIfInBounds_toArray, List.set_cons_zero, List.set_cons_succ]
        refine wpAnyH_ready (rs := [2]) (by kernel_rfl) (by simp) ?_
        refine AllReadyH.cons (o := ⟨_, _, _, _, _, _⟩) rfl (fun K hK => ?_) AllReadyH.nil
        go_simp
        refine (KT.out _ CL.out.at_.laid (RT.out.step CL.out.at_.bel)).mono ?_
        rintro e wz1 ⟨rfl, hb⟩
        replace CL := Lib.hid (CL.out.step hb)
        clear hb hHeld
        refine hK.out _ _ trivial (fun hHeld => ?_)
        clear hK K
        try simp only [Act.put, List.setIfInBounds_toArray, List.set_cons_zero, List.set_cons_succ]
        refine wpAnyH_ready (rs := [3]) (by kernel_rfl) (by simp) ?_
        refine AllReadyH.cons (o := ⟨_, _, _, _, _, _⟩) rfl (fun K hK => ?_) AllReadyH.nil
        go_simp
        have RP : Hid (Rs (wz1.alloc (.cells #[.string (S3.B r1)] 9)) (some ⟨wz1.heap.size, 0, none⟩) [r1]) := Lib.hid (Rs.lit wz1 [r1])
        replace CL := Lib.hid (CL.out.alloc (.cells #[.string (S3.B r1)] 9))
        clear hHeld
        refine hK.out _ _ trivial (fun hHeld => ?_)
        clear hK K
        try simp only [Act.put, List.setIfInBounds_toArray, List.set_cons_zero, List.set_cons_succ]
        generalize hgx : wz1.heap.size = gx at *
        clear hgx
        generalize wz1.alloc (.cells #[.string (S3.B r1)] 9) = wz2 at *
        refine wpAnyH_ready (rs := [4]) (by kernel_rfl) (by simp) ?_
        refine AllReadyH.cons (o := ⟨_, _, _, _, _, _⟩) rfl (fun K hK => ?_) AllReadyH.nil
        refine step_app rfl _ _ rfl CL.out.own RP.out rfl rfl rfl (by rw [List.length_singleton]; omega) CL.out.size ?_
        intro v' wz3 ho hg
        obtain ⟨A3, n3, c3, rfl, hn3, hc3⟩ := ho.sl3
        replace CL := Lib.hid (CL.out.app ho hg)
        clear ho hg hn3 hc3 RP hHeld
        refine hK.out _ _ trivial (fun hHeld => ?_)
        clear hK K
        try simp only [Act.put, List.setIfInBounds_toArray, List.set_cons_zero, List.set_cons_succ]
        refine wpAnyH_ready (rs := [5]) (by kernel_rfl) (by simp) ?_
        refine AllReadyH.cons (o := ⟨_, _, _, _, _, _⟩) rfl (fun K hK => ?_) AllReadyH.nil
        have hcell := CL.out.cellP
        have hfr := CL.out.freeP
        go_simp
        clear hcell hfr hHeld
        refine hK.out _ _ trivial (fun hHeld => ?_)
        clear hK K
        try simp only [Act.put, List.setIfInBounds_toArray, List.set_cons_zero, List.set_cons_succ]
        replace CL := Lib.hid CL.out.put
        generalize wz3.setCell _ _ = wz4 at *
        refine wpAnyH_done (by kernel_rfl) ?_ _
        clear hHeld
        go_wp2
        go_end0
        exact ⟨rfl, _, CL.out⟩
      · go_simp
        refine (KT.out _ CL.out.at_.laid (RT.out.step CL.out.at_.bel)).mono ?_
        rintro e wz1 ⟨rfl, hb⟩
        replace CL := Lib.hid (CL.out.step hb)
        clear hb hHeld
        refine hK.out _ _ trivial (fun hHeld => ?_)
        clear hK K
        try simp only [Act.put, List.setIfInBounds_toArray, List.set_cons_zero, List.set_cons_succ]
        refine wpAnyH_ready (rs := [0, 3]) (by kernel_rfl) (by simp) ?_
        refine AllReadyH.cons (o := ⟨_, _, _, _, _, _⟩) rfl (fun K hK => ?_) (AllReadyH.cons (o := ⟨_, _, _, _, _, _⟩) rfl (fun K hK => ?_) AllReadyH.nil)
        · have hcell := CL.out.cellP
          go_simp
          clear hcell hHeld
          refine hK.out _ _ trivial (fun hHeld => ?_)
          clear hK K
          try simp only [Act.put, List.setIfInBounds_toArray, List.set_cons_zero, List.set_cons_succ]
          refine wpAnyH_ready (rs := [3]) (by kernel_rfl) (by simp) ?_
          refine AllReadyH.cons (o := ⟨_, _, _, _, _, _⟩) rfl (fun K hK => ?_) AllReadyH.nil
          go_simp
          have RP : Hid (Rs (wz1.alloc (.cells #[.string (S3.B r1)] 9)) (some ⟨wz1.heap.size, 0, none⟩) [r1]) := Lib.hid (Rs.lit wz1 [r1])
          replace CL := Lib.hid (CL.out.alloc (.cells #[.string (S3.B r1)] 9))
          clear hHeld
          refine hK.out _ _ trivial (fun hHeld => ?_)
          clear hK K
          try simp only [Act.put, List.setIfInBounds_toArray, List.set_cons_zero, List.set_cons_succ]
          generalize hgx : wz1.heap.size = gx at *
          clear hgx
          generalize wz1.alloc (.cells #[.string (S3.B r1)] 9) = wz2 at *
          refine wpAnyH_ready (rs := [4]) (by kernel_rfl) (by simp) ?_
          refine AllReadyH.cons (o := ⟨_, _, _, _, _, _⟩) rfl (fun K hK => ?_) AllReadyH.nil
          refine step_app rfl _ _ rfl CL.out.own RP.out rfl rfl rfl (by rw [List.length_singleton]; omega) CL.out.size ?_
          intro v' wz3 ho hg
          obtain ⟨A3, n3, c3, rfl, hn3, hc3⟩ := ho.sl3
          replace CL := Lib.hid (CL.out.app ho hg)
          clear ho hg hn3 hc3 RP hHeld
          refine hK.out _ _ trivial (fun hHeld => ?_)
          clear hK K
          try simp only [Act.put, List.setIfInBounds_toArray, List.set_cons_zero, List.set_cons_succ]
          refine wpAnyH_ready (rs := [5]) (by kernel_rfl) (by simp) ?_
          refine AllReadyH.cons (o := ⟨_, _, _, _, _, _⟩) rfl (fun K hK => ?_) AllReadyH.nil
          have hcell := CL.out.cellP
          have hfr := CL.out.freeP
          go_simp
          clear hcell hfr hHeld
          refine hK.out _ _ trivial (fun hHeld => ?_)
          clear hK K
          try simp only [Act.put, List.setIfInBounds_toArray, List.set_cons_zero, List.set_cons_succ]
          replace CL := Lib.hid CL.out.put
          generalize wz3.setCell _ _ = wz4 at *
          refine wpAnyH_done (by kernel_rfl) ?_ _
          clear hHeld
          go_wp2
          go_end0
          exact ⟨rfl, _, CL.out⟩
        · go_simp
          have RP : Hid (Rs (wz1.alloc (.cells #[.string (S3.B r1)] 9)) (some ⟨wz1.heap.size, 0, none⟩) [r1]) := Lib.hid (Rs.lit wz1 [r1])
          replace CL := Lib.hid (CL.out.alloc (.cells #[.string (S3.B r1)] 9))
          clear hHeld
          refine hK.out _ _ trivial (fun hHeld => ?_)
          clear hK K
          try simp only [Act.put, List.setIfInBounds_toArray, List.set_cons_zero, List.set_cons_succ]
          generalize hgx : wz1.heap.size = gx at *
          clear hgx
          generalize wz1.alloc (.cells #[.string (S3.B r1)] 9) = wz2 at *
          refine wpAnyH_ready (rs := [0]) (by kernel_rfl) (by simp) ?_
          refine AllReadyH.cons (o := ⟨_, _, _, _, _, _⟩) rfl (fun K hK => ?_) AllReadyH.nil
          have hcell := CL.out.cellP
          go_simp
          clear hcell hHeld
          refine hK.out _ _ trivial (fun hHeld => ?_)
          clear hK K
          try simp only [Act.put, List.setIfInBounds_toArray, List.set_cons_zero, List.set_cons_succ]
          refine wpAnyH_ready (rs := [4]) (by kernel_rfl) (by simp) ?_
          refine AllReadyH.cons (o := ⟨_, _, _, _, _, _⟩) rfl (fun K hK => ?_) AllReadyH.nil
          refine step_app rfl _ _ rfl CL.out.own RP.out rfl rfl rfl (by rw [List.length_singleton]; omega) CL.out.size ?_
          intro v' wz3 ho hg
          obtain ⟨A3, n3, c3, rfl, hn3, hc3⟩ := ho.sl3
          replace CL := Lib.hid (CL.out.app ho hg)
          clear ho hg hn3 hc3 RP hHeld
          refine hK.out _ _ trivial (fun hHeld => ?_)
          clear hK K
          try simp only [Act.put, List.setIfInBounds_toArray, List.set_cons_zero, List.set_cons_succ]
          refine wpAnyH_ready (rs := [5]) (by kernel_rfl) (by simp) ?_
          refine AllReadyH.cons (o := ⟨_, _, _, _, _, _⟩) rfl (fun K hK => ?_) AllReadyH.nil
          have hcell := CL.out.cellP
          have hfr := CL.out.freeP
          go_simp
          clear hcell hfr hHeld
          refine hK.out _ _ trivial (fun hHeld => ?_)
          clear hK K
          try simp only [Act.put, List.setIfInBounds_toArray, List.set_cons_zero, List.set_cons_succ]
          replace CL := Lib.hid CL.out.put
          generalize wz3.setCell _ _ = wz4 at *
          refine wpAnyH_done (by kernel_rfl) ?_ _
          clear hHeld
          go_wp2
          go_end0
          exact ⟨rfl, _, CL.out⟩
set_option maxHeartbeats 8000000 in
set_option maxRecDepth 100000 in
theorem link_yes (A : Option Addr) (l : List Str) (i c n : Nat) (z : Int) (w : World) (hn : n = l.length) (hz : z = (i : Int)) (hr : Rs w A l) (hc : n ≤ c) (h200 : l.length ≤ 200) (hs : ∀ s ∈ l, s.length ≤ 1000) (hi : i ≤ l.length) (hW : S3.Laid w) :
    Calls Tryd.prog 14 #[.slice A n c, .int .i64 z] w (GivesB w (link l i)) := by
  subst hz
  have hmf : ∀ (fn : Fn) (first cap : Array Value) (w : World), (Instr.makeFunc fn first cap).run Tryd.prog w = .ok (.func fn first cap) w := fun _ _ _ _ => rfl
  have hn2 : (n : Int) ≤ 200 := by omega
  have hi2 : (i : Int) ≤ (n : Int) := by omega
  by_cases h0 : i = 0
  · subst h0
    rw [link, if_pos rfl]
    clear hn hr h200 hs hW hi hmf
    go_enter Tryd.func14, Tryd.ntmps14
    go_wp2
    go_ret2
    exact .mk_ (Own.nil _ _) (Below.refl _ _)
  have k := link1_any 200 l i true h200 h200 hs (by omega) hi A c n (i : Int) w _ _ [] hn rfl hr hc (Cl.start hW _ _) (by simp; omega)
  rw [List.nil_append] at k
  have hi3 : ((i : Int) == 0) = false := by simp; omega
  rw [link, if_neg h0, show (linkR l i true).reverse = inn l i true from rfl]
  have K := Lib.hid k
  clear k hn hr h200 hs hW hi h0
  generalize inn l i true = r at *
  go_enter Tryd.func14, Tryd.ntmps14
  go_wp2_with fail
  refine K.out.mono ?_
  rintro e w1 ⟨rfl, v, hcl⟩
  have CL := Lib.hid hcl
  have hcell := hcl.cellP
  clear hcl K
  go_wp2
  go_ret2
  exact .mk_ (CL.out.own.mono (by omega)) CL.out.at_.bel
set_option maxHeartbeats 1000000 in
theorem link_no (A : Option Addr) (l : List Str) (c n : Nat) (z : Int) (w : World) (hn : n = l.length) (h : z < 0 ∨ (n : Int) < z) (h200 : l.length ≤ 200) :
    Calls Tryd.prog 14 #[.slice A n c, .int .i64 z] w fun e w' => e = .returned (.tuple #[.slice none 0 0, .bool false]) ∧ w = w' := by
  have hn2 : (n : Int) ≤ 200 := by omega
  clear hn
  by_cases hz : z < 0
  · clear h
    go_enter Tryd.func14, Tryd.ntmps14
    go_wp2
    go_ret2
    exact ⟨rfl, rfl⟩
  · have h0 : 0 ≤ z := by omega
    have h1 : (n : Int) < z := by omega
    clear h hz
    go_enter Tryd.func14, Tryd.ntmps14
    go_wp2
    go_ret2
    exact ⟨rfl, rfl⟩
end Mk
end Go.Proofs.YtfemgakfckabhaaDoor
