/-
  Layer 9 (disk): Turn, Read, New.
-/
import Derived.Test.YtihanhdepijijaaDiskCut
import Derived.Deep.RegionHeld3
namespace Go.Proofs.Ytihanhdepijijaa.S9
open Go.RowKit
namespace Dk
/-- The machine's whole block turned, and which slice is whose. -/
theorem Dv.rows {X : Nat → Prop} {w : World} {p : Nat} {D D' : MD} {vs vs' : Nat → Value} (h : Dv X w p D vs) (new : Array Value) (hc : Cur new vs' D') (ho : ∀ i, i < 8 → By w (vs' i) (D'.text i)) (hp : ∀ i, i < 8 → (vs' i).ownBlock ≠ some p)
    (hX : ∀ i, i < 8 → ∀ g, (vs' i).ownBlock = some g → ¬ X g) (ha : ∀ i, i < 8 → ∀ j, j < 8 → i ≠ j → ∀ g, (vs' i).ownBlock = some g → (vs' j).ownBlock ≠ some g) : Dv X (w.setRow p new) p D' vs' ∧ Fr X w (w.setRow p new) := by
  obtain ⟨cur, h1, _⟩ := h.blk
  exact ⟨⟨⟨new, setRow_heap w p cur new _ _ h1, hc⟩, fun i hi => own_keep (ho i hi) (fun g hg => setRow_other w p g new (fun e => hp i hi (by rw [hg, e]))), hp, hX, ha, h.pX, fun k hk => by simpa [World.setRow] using h.lt k hk⟩, (Fr.refl X w).row p new h.pX⟩
/-- The cells of a file laid over another's. -/
def lay (cur : Array Value) (k : Nat) (v : Value) (d : Int) : Array Value := (cur.toList.take (k * 2) ++ [v, .int .i64 d] ++ cur.toList.drop (k * 2 + 2)).toArray
theorem lay_get {cur : Array Value} (hs : cur.size = 27) {k : Nat} (hk : k < 8) (v : Value) (d : Int) (i : Nat) : (lay cur k v d)[i]? = if i = k * 2 then some v else if i = k * 2 + 1 then some (.int .i64 d) else cur[i]? := by
  have := get_part cur (k * 2) [v, .int .i64 d] (by simp only [List.length_cons, List.length_nil]; omega) i
  rw [show (lay cur k v d) = (cur.toList.take (k * 2) ++ [v, .int .i64 d] ++ cur.toList.drop (k * 2 + [v, Value.int .i64 d].length)).toArray from rfl, this]
  simp only [List.length_cons, List.length_nil]
  by_cases h1 : i = k * 2
  · subst h1; simp
  · by_cases h2 : i = k * 2 + 1
    · subst h2
      rw [if_neg (by omega), if_pos (by omega), if_neg (by omega), if_pos rfl, show k * 2 + 1 - k * 2 = 1 by omega]
      rfl
    · rw [if_neg h1, if_neg h2]
      split
      · rfl
      · rw [if_neg (by omega)]
theorem lay_size {cur : Array Value} (hs : cur.size = 27) {k : Nat} (hk : k < 8) (v : Value) (d : Int) : (lay cur k v d).size = 27 := by
  rw [← hs]
  exact size_part cur (k * 2) [v, .int .i64 d] (by simp only [List.length_cons, List.length_nil]; omega)
/-- File m turned into file k, and m emptied. -/
theorem Dv.set_swap {X : Nat → Prop} {w : World} {p : Nat} {D : MD} {vs : Nat → Value} (h : Dv X w p D vs) {k m : Nat} (hk : k < 8) (hm : m < 8) (hkm : k ≠ m) {cur : Array Value} (hc : Cur cur vs D) :
    Dv X (w.setRow p (lay (lay cur k (vs m) (D.dur m : Nat)) m (.slice none 0 0) 0)) p (D.swap k m) (upd (upd vs k (vs m)) m (.slice none 0 0)) ∧ Fr X w (w.setRow p (lay (lay cur k (vs m) (D.dur m : Nat)) m (.slice none 0 0) 0)) := by
  have hs1 := lay_size hc.size hk (vs m) (D.dur m : Nat)
  have hu : ∀ i, i ≠ m → i ≠ k → upd (upd vs k (vs m)) m (.slice none 0 0) i = vs i := fun i h1 h2 => by rw [upd_other _ _ h1, upd_other _ _ h2]
  have hum : upd (upd vs k (vs m)) m (.slice none 0 0) m = .slice none 0 0 := upd_same _ _ _
  have huk : upd (upd vs k (vs m)) m (.slice none 0 0) k = vs m := by rw [upd_other _ _ hkm, upd_same]
  refine h.rows _ ⟨lay_size hs1 hm _ _, fun i hi => ?_, fun i hi => ?_, ?_, ?_, ?_, fun i hi => ?_⟩ (fun i hi => ?_) (fun i hi => ?_) (fun i hi g hg => ?_) (fun i hi j hj hij g hg => ?_)
  · rw [lay_get hs1 hm, lay_get hc.size hk]
    by_cases h1 : i = m
    · subst h1; rw [if_pos rfl, hum]
    · by_cases h2 : i = k
      · subst h2; rw [if_neg (by omega), if_neg (by omega), if_pos rfl, huk]
      · rw [if_neg (by omega), if_neg (by omega), if_neg (by omega), if_neg (by omega), hc.v i hi, hu i h1 h2]
  · rw [lay_get hs1 hm, lay_get hc.size hk]
    show _ = some (Value.int .i64 (upd (upd D.dur k (D.dur m)) m 0 i : Nat))
    by_cases h1 : i = m
    · subst h1; rw [if_neg (by omega), if_pos rfl, upd_same]; rfl
    · by_cases h2 : i = k
      · subst h2; rw [if_neg (by omega), if_neg (by omega), if_neg (by omega), if_pos rfl, upd_other _ _ h1, upd_same]
      · rw [if_neg (by omega), if_neg (by omega), if_neg (by omega), if_neg (by omega), hc.d i hi, upd_other _ _ h1, upd_other _ _ h2]
  · rw [lay_get hs1 hm, lay_get hc.size hk, if_neg (by omega), if_neg (by omega), if_neg (by omega), if_neg (by omega)]; exact hc.down
  · rw [lay_get hs1 hm, lay_get hc.size hk, if_neg (by omega), if_neg (by omega), if_neg (by omega), if_neg (by omega)]; exact hc.lost
  · rw [lay_get hs1 hm, lay_get hc.size hk, if_neg (by omega), if_neg (by omega), if_neg (by omega), if_neg (by omega)]; exact hc.calls
  · rw [lay_get hs1 hm, lay_get hc.size hk, if_neg (by omega), if_neg (by omega), if_neg (by omega), if_neg (by omega)]; exact hc.keep i hi
  · show By w _ (upd (upd D.text k (D.text m)) m [] i)
    by_cases h1 : i = m
    · subst h1; rw [hum, upd_same]; exact By.nil w
    · by_cases h2 : i = k
      · subst h2; rw [huk, upd_other _ _ h1, upd_same]; exact h.own m hm
      · rw [hu i h1 h2, upd_other _ _ h1, upd_other _ _ h2]; exact h.own i hi
  · by_cases h1 : i = m
    · subst h1; rw [hum]; intro e; cases e
    · by_cases h2 : i = k
      · subst h2; rw [huk]; exact h.offp m hm
      · rw [hu i h1 h2]; exact h.offp i hi
  · by_cases h1 : i = m
    · subst h1; rw [hum] at hg; cases hg
    · by_cases h2 : i = k
      · subst h2; rw [huk] at hg; exact h.offX m hm g hg
      · rw [hu i h1 h2] at hg; exact h.offX i hi g hg
  · by_cases h1 : i = m
    · subst h1; rw [hum] at hg; cases hg
    · by_cases h3 : j = m
      · subst h3; rw [hum]; intro e; cases e
      · by_cases h2 : i = k
        · subst h2
          rw [huk] at hg
          rw [hu j h3 (by omega)]
          exact h.apart m hm j hj (by omega) g hg
        · rw [hu i h1 h2] at hg
          by_cases h4 : j = k
          · subst h4; rw [huk]; exact h.apart i hi m hm h1 g hg
          · rw [hu j h3 h4]; exact h.apart i hi j hj hij g hg
theorem step_load_part {o : Oper} {a : Act} {w : World} {ops : Array Oper} {K : Act → World → Prop} {Q : Exit → Act → World → Prop} {E : Prop}
    (hg : o.guard = none) (ty : TypeId) (x : Operand) (hop : o.op = .load ty x) (ad : Addr) (hx : a.eval x = .pointer (some ad)) (cs : List Value) (d : TypeDesc) (hc : ∀ j v, cs[j]? = some v → w.cell? (ad.add j) = some v)
    (hu : Try.prog.underlying ty = some d) (hd : aggD d = true) (hi : (Try.prog.info? ty).map (·.size) = some cs.length)
    (hK : K (a.put o.dst (.agg cs.toArray)) w) : if Region.wanted o (yielded ops a.tmps) = true then Oper.wp Try.prog o a w K Q else E := by
  have hw : Region.wanted o (yielded ops a.tmps) = true := by simp [Region.wanted, hg]
  rw [if_pos hw]
  unfold Oper.wp execOp
  simp only [hop, hx, Instr.loadAt, Instr.sureAddr, Sem.run_bind, Sem.run_pure, Result.andThen_ok, run_loadVar_part w ad ty cs d hc hu hd hi]
  exact hK
theorem step_store_part {o : Oper} {a : Act} {w : World} {ops : Array Oper} {K : Act → World → Prop} {Q : Exit → Act → World → Prop} {E : Prop}
    (hg : o.guard = none) (x y : Operand) (hop : o.op = .store 60 x y) (p k : Nat) (hx : a.eval x = .pointer (some ⟨p, k * 2, none⟩)) (v : Value) (d : Int) (hy : a.eval y = .agg #[v, .int .i64 d]) (cur : Array Value) (t : TypeId) (hr : w.heap[p]? = some (.cells cur t (0, 0)))
    (hk : k < 8) (hs : cur.size = 27) (h1 : v.oneCell' = true)
    (hK : K (a.put o.dst undef) (w.setRow p (lay cur k v d))) : if Region.wanted o (yielded ops a.tmps) = true then Oper.wp Try.prog o a w K Q else E := by
  have hw : Region.wanted o (yielded ops a.tmps) = true := by simp [Region.wanted, hg]
  rw [if_pos hw]
  have hrun := run_storeVar_part (P := Try.prog) 60 p (k * 2) #[v, .int .i64 d] cur t w hr (by kernel_rfl) (by simp; omega) (Array.all_eq_true_iff_forall_mem.2 fun u hu => by
    simp only [List.mem_toArray, List.mem_cons, List.not_mem_nil, or_false] at hu
    rcases hu with rfl | rfl
    · exact h1
    · rfl)
  unfold Oper.wp execOp
  simp only [hop, hx, hy, Instr.storeAt, Instr.sureAddr, Sem.run_bind, Sem.run_pure, Result.andThen_ok]
  rw [show (cur.toList.take (k * 2) ++ (#[v, .int .i64 d] : Array Value).toList ++ cur.toList.drop (k * 2 + (#[v, .int .i64 d] : Array Value).size)).toArray = lay cur k v d from rfl] at hrun
  rw [hrun]
  exact hK
set_option maxHeartbeats 4000000 in
set_option maxRecDepth 100000 in
theorem Turn_any (X : Nat → Prop) (p : Nat) (D : MD) (f g : Int) (w : World) (h : Dk X w p D) :
    Calls Try.prog 42 #[ptr p, .int .i64 f, .int .i64 g] w fun e w' => e = .returned (.int .i64 (D.turn f g).1) ∧ Dk X w' p (D.turn f g).2 ∧ Fr X w w' := by
  have hok := tick_ok h.ok
  have HI := Lib.hid (interrupted_any X p D w h)
  clear h
  have R := Lib.hid (show D.turn f g = if D.hit then (8, D.tick) else D.tick.turn1 f g from rfl)
  generalize D.tick = T at *
  cases hh : D.hit with
  | true =>
    rw [hh] at HI R
    clear hh
    go_enter Try.func42, Try.ntmps42
    go_wp2_with fail
    refine HI.out.mono ?_
    rintro e w1 ⟨rfl, h1, f1⟩
    have H1 := Lib.hid h1
    have F1 := Lib.hid f1
    clear h1 f1
    go_wp2
    go_ret
    exact ⟨by rw [R.out]; rfl, by rw [R.out]; exact H1.out, F1.out⟩
  | false =>
    rw [hh] at HI R
    replace R := Lib.hid (show _ = T.turn1 f g from R.out)
    clear hh
    cases hd : T.down with
    | true =>
      have HC := Lib.hid (show T.chk2 f g = 8 by simp [MD.chk2, hd])
      replace R := Lib.hid (R.out.trans (show T.turn1 f g = (8, T) by unfold MD.turn1; rw [HC.out]; rfl))
      clear hd hok
      go_enter Try.func42, Try.ntmps42
      go_wp2_with fail
      refine HI.out.mono ?_
      rintro e w1 ⟨rfl, h1, f1⟩
      have KC := Lib.hid (check2_any f g h1)
      have HL := Lib.hid h1.lt
      have HA := Lib.hid (fun o => h1.alloc o)
      have F1 := Lib.hid f1
      clear h1 f1 HI
      go_wp2_with fail
      refine KC.out.mono ?_
      rintro e w2 ⟨rfl, hq⟩
      have H2 := Lib.hid (show Dk X w2 p T by rw [← hq]; exact HA.out _)
      have F2 := Lib.hid (show Fr X w w2 by rw [← hq]; exact F1.out.alloc HL.out _)
      clear hq KC HA HL F1
      rw [HC.out]
      go_wp2
      go_ret
      exact ⟨by rw [R.out]; rfl, by rw [R.out]; exact H2.out, F2.out⟩
    | false =>
      cases hf : (isF f && isF g) with
      | false =>
        have HC := Lib.hid (show T.chk2 f g = 1 by simp only [MD.chk2, hd, hf]; rfl)
        replace R := Lib.hid (R.out.trans (show T.turn1 f g = (1, T) by unfold MD.turn1; rw [HC.out]; rfl))
        clear hd hok hf
        go_enter Try.func42, Try.ntmps42
        go_wp2_with fail
        refine HI.out.mono ?_
        rintro e w1 ⟨rfl, h1, f1⟩
        have KC := Lib.hid (check2_any f g h1)
        have HL := Lib.hid h1.lt
        have HA := Lib.hid (fun o => h1.alloc o)
        have F1 := Lib.hid f1
        clear h1 f1 HI
        go_wp2_with fail
        refine KC.out.mono ?_
        rintro e w2 ⟨rfl, hq⟩
        have H2 := Lib.hid (show Dk X w2 p T by rw [← hq]; exact HA.out _)
        have F2 := Lib.hid (show Fr X w w2 by rw [← hq]; exact F1.out.alloc HL.out _)
        clear hq KC HA HL F1
        rw [HC.out]
        go_wp2
        go_ret
        exact ⟨by rw [R.out]; rfl, by rw [R.out]; exact H2.out, F2.out⟩
      | true =>
        have HC := Lib.hid (show T.chk2 f g = 0 by simp only [MD.chk2, hd, hf]; rfl)
        clear hd
        rw [Bool.and_eq_true] at hf
        by_cases hfg : f = g
        · subst hfg
          replace R := Lib.hid (R.out.trans (show T.turn1 f f = (1, T) by unfold MD.turn1; rw [HC.out, if_neg (by simp), if_pos rfl]))
          clear hok hf
          go_enter Try.func42, Try.ntmps42
          go_wp2_with fail
          refine HI.out.mono ?_
          rintro e w1 ⟨rfl, h1, f1⟩
          have KC := Lib.hid (check2_any f f h1)
          have HL := Lib.hid h1.lt
          have HA := Lib.hid (fun o => h1.alloc o)
          have F1 := Lib.hid f1
          clear h1 f1 HI
          go_wp2_with fail
          refine KC.out.mono ?_
          rintro e w2 ⟨rfl, hq⟩
          have H2 := Lib.hid (show Dk X w2 p T by rw [← hq]; exact HA.out _)
          have F2 := Lib.hid (show Fr X w w2 by rw [← hq]; exact F1.out.alloc HL.out _)
          clear hq KC HA HL F1
          rw [HC.out]
          go_wp2
          go_ret
          exact ⟨by rw [R.out]; rfl, by rw [R.out]; exact H2.out, F2.out⟩
        · obtain ⟨k, hk, rfl⟩ : ∃ k : Nat, k < 8 ∧ f = (k : Int) := ⟨f.toNat, isF_nat hf.1⟩
          obtain ⟨m, hm, rfl⟩ : ∃ k : Nat, k < 8 ∧ g = (k : Int) := ⟨g.toNat, isF_nat hf.2⟩
          have hkk : (k : Int) < 8 := by omega
          have hmm : (m : Int) < 8 := by omega
          have hne : ((k : Int) == (m : Int)) = false := by simpa using hfg
          have HNE := Lib.hid (show k ≠ m by omega)
          have hs : T.size (m : Int) = (T.text m).length := by unfold MD.size; rw [if_pos hf.2]; rfl
          have HS := Lib.hid hs
          have HK8 := Lib.hid hk
          have HM8 := Lib.hid hm
          by_cases hgt : T.dur m < (T.text m).length
          · replace R := Lib.hid (R.out.trans (show T.turn1 (k : Int) (m : Int) = (9, T) by unfold MD.turn1; simp only [Int.toNat_natCast]; rw [HC.out, if_neg (by simp), if_neg (by omega), if_pos hgt]))
            have hgI : (T.dur m : Int) < ((T.text m).length : Int) := by omega
            clear hok hf hk hm hgt hs hfg
            go_enter Try.func42, Try.ntmps42
            go_wp2_with fail
            refine HI.out.mono ?_
            rintro e w1 ⟨rfl, h1, f1⟩
            have KC := Lib.hid (check2_any (k : Int) (m : Int) h1)
            have HL := Lib.hid h1.lt
            have HA := Lib.hid (fun o => h1.alloc o)
            have F1 := Lib.hid f1
            clear h1 f1 HI
            go_wp2_with fail
            refine KC.out.mono ?_
            rintro e w2 ⟨rfl, hq⟩
            have H2 := Lib.hid (show Dk X w2 p T by rw [← hq]; exact HA.out _)
            have F2 := Lib.hid (show Fr X w w2 by rw [← hq]; exact F1.out.alloc HL.out _)
            clear hq KC HA HL F1
            rw [HC.out]
            go_wp2
            obtain ⟨_, vs, hv⟩ := H2.out
            have c2 := hv.drew.c_d HM8.out
            have HV := Lib.hid hv.drew
            have HX := Lib.hid (show Dk X w2.drew p T from H2.out.drew)
            have FD := Lib.hid F2.out.drew
            clear H2 hv
            refine wp_region_held_drew (S := (fun wz => wz.cell? ⟨p, m * 2 + 1, none⟩ = some (.int .i64 (T.dur m : Nat)))) (by kernel_rfl) c2 (fun hHeld => ?_)
            generalize w2.drew = wd at *
            refine wpAnyH_take (i := 0) (oi := ⟨_, _, _, _, _, _⟩) (v := ?_) rfl (by kernel_rfl) (by kernel_rfl) (by kernel_rfl) (fun _ _ _ h => h) (Or.inl ⟨by rfl, ?_⟩) (by assumption) ?_
            rotate_left
            · intro wz hSw
              try dsimp only at hSw
              go_simp
              try with_reducible rfl
            try simp only [Act.put, List.setIfInBounds_toArray, List.set_cons_zero, List.set_cons_succ]
            refine wpAnyH_take (i := 1) (oi := ⟨_, _, _, _, _, _⟩) (v := ?_) rfl (by kernel_rfl) (by kernel_rfl) (by kernel_rfl) (fun _ _ _ h => h) (Or.inl ⟨by rfl, ?_⟩) (by assumption) ?_
            rotate_left
            · intro wz hSw
              try dsimp only at hSw
              go_simp
              try with_reducible rfl
            try simp only [Act.put, List.setIfInBounds_toArray, List.set_cons_zero, List.set_cons_succ]
            refine wpAnyH_take (i := 2) (oi := ⟨_, _, _, _, _, _⟩) (v := ?_) rfl (by kernel_rfl) (by kernel_rfl) (by kernel_rfl) (fun _ _ _ h => h) (Or.inl ⟨by rfl, ?_⟩) (by assumption) ?_
            rotate_left
            · intro wz hSw
              try dsimp only at hSw
              go_simp
              try with_reducible rfl
            try simp only [Act.put, List.setIfInBounds_toArray, List.set_cons_zero, List.set_cons_succ]
            refine wpAnyH_take (i := 3) (oi := ⟨_, _, _, _, _, _⟩) (v := ?_) rfl (by kernel_rfl) (by kernel_rfl) (by kernel_rfl) (fun _ _ _ h => h) (Or.inl ⟨by rfl, ?_⟩) (by assumption) ?_
            rotate_left
            · intro wz hSw
              try dsimp only at hSw
              go_simp
              try with_reducible rfl
            try simp only [Act.put, List.setIfInBounds_toArray, List.set_cons_zero, List.set_cons_succ]
            refine wpAnyH_take (i := 4) (oi := ⟨_, _, _, _, _, _⟩) (v := ?_) rfl (by kernel_rfl) (by kernel_rfl) (by kernel_rfl) (fun _ _ _ h => h) (Or.inl ⟨by rfl, ?_⟩) (by assumption) ?_
            rotate_left
            · intro wz hSw
              try dsimp only at hSw
              go_simp
              try with_reducible rfl
            try simp only [Act.put, List.setIfInBounds_toArray, List.set_cons_zero, List.set_cons_succ]
            refine wpAnyH_take (i := 5) (oi := ⟨_, _, _, _, _, _⟩) (v := ?_) rfl (by kernel_rfl) (by kernel_rfl) (by kernel_rfl) (fun _ _ _ h => h) (Or.inl ⟨by rfl, ?_⟩) (by assumption) ?_
            rotate_left
            · intro wz hSw
              try dsimp only at hSw
              go_simp
              try with_reducible rfl
            try simp only [Act.put, List.setIfInBounds_toArray, List.set_cons_zero, List.set_cons_succ]
            refine wpAnyH_take (i := 6) (oi := ⟨_, _, _, _, _, _⟩) (v := ?_) rfl (by kernel_rfl) (by kernel_rfl) (by kernel_rfl) (fun _ _ _ h => h) (Or.inl ⟨by rfl, ?_⟩) (by assumption) ?_
            rotate_left
            · intro wz hSw
              try dsimp only at hSw
              go_simp
              try with_reducible rfl
            try simp only [Act.put, List.setIfInBounds_toArray, List.set_cons_zero, List.set_cons_succ]
            refine wpAnyH_take (i := 7) (oi := ⟨_, _, _, _, _, _⟩) (v := ?_) rfl (by kernel_rfl) (by kernel_rfl) (by kernel_rfl) (fun _ _ _ h => h) (Or.inl ⟨by rfl, ?_⟩) (by assumption) ?_
            rotate_left
            · intro wz hSw
              try dsimp only at hSw
              go_simp
              try with_reducible rfl
            try simp only [Act.put, List.setIfInBounds_toArray, List.set_cons_zero, List.set_cons_succ]
            refine wpAnyH_take (i := 8) (oi := ⟨_, _, _, _, _, _⟩) (v := ?_) rfl (by kernel_rfl) (by kernel_rfl) (by kernel_rfl) (fun _ _ _ h => h) (Or.inl ⟨by rfl, ?_⟩) (by assumption) ?_
            rotate_left
            · intro wz hSw
              try dsimp only at hSw
              go_simp
              try with_reducible rfl
            try simp only [Act.put, List.setIfInBounds_toArray, List.set_cons_zero, List.set_cons_succ]
            refine wpAnyH_ready (rs := [9]) (by kernel_rfl) (by simp) ?_
            refine AllReadyH.cons (o := ⟨_, _, _, _, _, _⟩) rfl (fun K hK => ?_) AllReadyH.nil
            go_simp
            refine (size_any X p T (m : Int) wd HX.out).mono ?_
            rintro e wq ⟨rfl, hq⟩
            obtain rfl := hq
            rw [HS.out]
            clear hHeld
            refine hK.out _ _ c2 (fun hHeld => ?_)
            clear hK K
            try simp only [Act.put, List.setIfInBounds_toArray, List.set_cons_zero, List.set_cons_succ]
            refine wpAnyH_take (i := 10) (oi := ⟨_, _, _, _, _, _⟩) (v := ?_) rfl (by kernel_rfl) (by kernel_rfl) (by kernel_rfl) (fun _ _ _ h => h) (Or.inl ⟨by rfl, ?_⟩) (by assumption) ?_
            rotate_left
            · intro wz hSw
              try dsimp only at hSw
              go_simp
              try with_reducible rfl
            try simp only [Act.put, List.setIfInBounds_toArray, List.set_cons_zero, List.set_cons_succ]
            refine wpAnyH_done (by kernel_rfl) ?_ _
            clear hHeld
            go_wp2
            go_ret
            exact ⟨by rw [R.out]; rfl, by rw [R.out]; exact HX.out, FD.out⟩
          · replace R := Lib.hid (R.out.trans (show T.turn1 (k : Int) (m : Int) = (0, T.swap k m) by unfold MD.turn1; simp only [Int.toNat_natCast]; rw [HC.out, if_neg (by simp), if_neg (by omega), if_neg hgt]))
            have hle : ((T.text m).length : Int) ≤ (T.dur m : Int) := by omega
            have HO := Lib.hid (swap_ok hok (f := k) hm)
            clear hok hf hk hm hgt hs hfg
            go_enter Try.func42, Try.ntmps42
            go_wp2_with fail
            refine HI.out.mono ?_
            rintro e w1 ⟨rfl, h1, f1⟩
            have KC := Lib.hid (check2_any (k : Int) (m : Int) h1)
            have HL := Lib.hid h1.lt
            have HA := Lib.hid (fun o => h1.alloc o)
            have F1 := Lib.hid f1
            clear h1 f1 HI
            go_wp2_with fail
            refine KC.out.mono ?_
            rintro e w2 ⟨rfl, hq⟩
            have H2 := Lib.hid (show Dk X w2 p T by rw [← hq]; exact HA.out _)
            have F2 := Lib.hid (show Fr X w w2 by rw [← hq]; exact F1.out.alloc HL.out _)
            clear hq KC HA HL F1
            rw [HC.out]
            go_wp2
            obtain ⟨_, vs, hv⟩ := H2.out
            have c2 := hv.drew.c_d HM8.out
            have HV := Lib.hid hv.drew
            have HX := Lib.hid (show Dk X w2.drew p T from H2.out.drew)
            have FD := Lib.hid F2.out.drew
            clear H2 hv
            refine wp_region_held_drew (S := (fun wz => wz.cell? ⟨p, m * 2 + 1, none⟩ = some (.int .i64 (T.dur m : Nat)))) (by kernel_rfl) c2 (fun hHeld => ?_)
            generalize w2.drew = wd at *
            refine wpAnyH_take (i := 0) (oi := ⟨_, _, _, _, _, _⟩) (v := ?_) rfl (by kernel_rfl) (by kernel_rfl) (by kernel_rfl) (fun _ _ _ h => h) (Or.inl ⟨by rfl, ?_⟩) (by assumption) ?_
            rotate_left
            · intro wz hSw
              try dsimp only at hSw
              go_simp
              try with_reducible rfl
            try simp only [Act.put, List.setIfInBounds_toArray, List.set_cons_zero, List.set_cons_succ]
            refine wpAnyH_take (i := 1) (oi := ⟨_, _, _, _, _, _⟩) (v := ?_) rfl (by kernel_rfl) (by kernel_rfl) (by kernel_rfl) (fun _ _ _ h => h) (Or.inl ⟨by rfl, ?_⟩) (by assumption) ?_
            rotate_left
            · intro wz hSw
              try dsimp only at hSw
              go_simp
              try with_reducible rfl
            try simp only [Act.put, List.setIfInBounds_toArray, List.set_cons_zero, List.set_cons_succ]
            refine wpAnyH_take (i := 2) (oi := ⟨_, _, _, _, _, _⟩) (v := ?_) rfl (by kernel_rfl) (by kernel_rfl) (by kernel_rfl) (fun _ _ _ h => h) (Or.inl ⟨by rfl, ?_⟩) (by assumption) ?_
            rotate_left
            · intro wz hSw
              try dsimp only at hSw
              go_simp
              try with_reducible rfl
            try simp only [Act.put, List.setIfInBounds_toArray, List.set_cons_zero, List.set_cons_succ]
            refine wpAnyH_take (i := 3) (oi := ⟨_, _, _, _, _, _⟩) (v := ?_) rfl (by kernel_rfl) (by kernel_rfl) (by kernel_rfl) (fun _ _ _ h => h) (Or.inl ⟨by rfl, ?_⟩) (by assumption) ?_
            rotate_left
            · intro wz hSw
              try dsimp only at hSw
              go_simp
              try with_reducible rfl
            try simp only [Act.put, List.setIfInBounds_toArray, List.set_cons_zero, List.set_cons_succ]
            refine wpAnyH_take (i := 4) (oi := ⟨_, _, _, _, _, _⟩) (v := ?_) rfl (by kernel_rfl) (by kernel_rfl) (by kernel_rfl) (fun _ _ _ h => h) (Or.inl ⟨by rfl, ?_⟩) (by assumption) ?_
            rotate_left
            · intro wz hSw
              try dsimp only at hSw
              go_simp
              try with_reducible rfl
            try simp only [Act.put, List.setIfInBounds_toArray, List.set_cons_zero, List.set_cons_succ]
            refine wpAnyH_take (i := 5) (oi := ⟨_, _, _, _, _, _⟩) (v := ?_) rfl (by kernel_rfl) (by kernel_rfl) (by kernel_rfl) (fun _ _ _ h => h) (Or.inl ⟨by rfl, ?_⟩) (by assumption) ?_
            rotate_left
            · intro wz hSw
              try dsimp only at hSw
              go_simp
              try with_reducible rfl
            try simp only [Act.put, List.setIfInBounds_toArray, List.set_cons_zero, List.set_cons_succ]
            refine wpAnyH_take (i := 6) (oi := ⟨_, _, _, _, _, _⟩) (v := ?_) rfl (by kernel_rfl) (by kernel_rfl) (by kernel_rfl) (fun _ _ _ h => h) (Or.inl ⟨by rfl, ?_⟩) (by assumption) ?_
            rotate_left
            · intro wz hSw
              try dsimp only at hSw
              go_simp
              try with_reducible rfl
            try simp only [Act.put, List.setIfInBounds_toArray, List.set_cons_zero, List.set_cons_succ]
            refine wpAnyH_take (i := 7) (oi := ⟨_, _, _, _, _, _⟩) (v := ?_) rfl (by kernel_rfl) (by kernel_rfl) (by kernel_rfl) (fun _ _ _ h => h) (Or.inl ⟨by rfl, ?_⟩) (by assumption) ?_
            rotate_left
            · intro wz hSw
              try dsimp only at hSw
              go_simp
              try with_reducible rfl
            try simp only [Act.put, List.setIfInBounds_toArray, List.set_cons_zero, List.set_cons_succ]
            refine wpAnyH_take (i := 8) (oi := ⟨_, _, _, _, _, _⟩) (v := ?_) rfl (by kernel_rfl) (by kernel_rfl) (by kernel_rfl) (fun _ _ _ h => h) (Or.inl ⟨by rfl, ?_⟩) (by assumption) ?_
            rotate_left
            · intro wz hSw
              try dsimp only at hSw
              go_simp
              try with_reducible rfl
            try simp only [Act.put, List.setIfInBounds_toArray, List.set_cons_zero, List.set_cons_succ]
            refine wpAnyH_ready (rs := [9]) (by kernel_rfl) (by simp) ?_
            refine AllReadyH.cons (o := ⟨_, _, _, _, _, _⟩) rfl (fun K hK => ?_) AllReadyH.nil
            go_simp
            refine (size_any X p T (m : Int) wd HX.out).mono ?_
            rintro e wq ⟨rfl, hq⟩
            obtain rfl := hq
            rw [HS.out]
            clear hHeld
            refine hK.out _ _ c2 (fun hHeld => ?_)
            clear hK K
            try simp only [Act.put, List.setIfInBounds_toArray, List.set_cons_zero, List.set_cons_succ]
            refine wpAnyH_take (i := 10) (oi := ⟨_, _, _, _, _, _⟩) (v := ?_) rfl (by kernel_rfl) (by kernel_rfl) (by kernel_rfl) (fun _ _ _ h => h) (Or.inl ⟨by rfl, ?_⟩) (by assumption) ?_
            rotate_left
            · intro wz hSw
              try dsimp only at hSw
              go_simp
              try with_reducible rfl
            try simp only [Act.put, List.setIfInBounds_toArray, List.set_cons_zero, List.set_cons_succ]
            refine wpAnyH_done (by kernel_rfl) ?_ _
            clear hHeld
            go_wp2
            replace HV := Lib.hid HV.out.drew
            replace FD := Lib.hid FD.out.drew
            obtain ⟨cur, hrow, hcur⟩ := HV.out.blk
            have hcs := hcur.size
            have hld : ∀ j v, [vs m, Value.int .i64 (T.dur m : Nat)][j]? = some v → wd.drew.cell? ((⟨p, m * 2, none⟩ : Addr).add j) = some v := by
              intro j v hj
              match j, hj with
              | 0, hj => simp at hj; subst hj; rw [Addr.add_lit]; exact HV.out.c_v HM8.out
              | 1, hj => simp at hj; subst hj; rw [Addr.add_lit]; exact HV.out.c_d HM8.out
            obtain ⟨A, n, c, he, _, _⟩ := (HV.out.own m HM8.out).sl
            rw [he] at hld
            have HLD := Lib.hid hld
            have HROW := Lib.hid hrow
            have HCUR := Lib.hid hcur
            have HCS := Lib.hid hcs
            have HE := Lib.hid he
            have SW := HV.out.set_swap HK8.out HM8.out HNE.out hcur
            rw [he] at SW
            replace SW := Lib.hid SW
            clear hrow hcur hcs hld he HX c2
            refine wp_region_held_drew (S := (fun _ => True)) (by kernel_rfl) trivial (fun hHeld => ?_)
            generalize wd.drew = we at *
            refine wpAnyH_take (i := 0) (oi := ⟨_, _, _, _, _, _⟩) (v := ?_) rfl (by kernel_rfl) (by kernel_rfl) (by kernel_rfl) (fun _ _ _ h => h) (Or.inl ⟨by rfl, ?_⟩) (by assumption) ?_
            rotate_left
            · intro wz hSw
              try dsimp only at hSw
              go_simp
              try with_reducible rfl
            try simp only [Act.put, List.setIfInBounds_toArray, List.set_cons_zero, List.set_cons_succ]
            refine wpAnyH_take (i := 1) (oi := ⟨_, _, _, _, _, _⟩) (v := ?_) rfl (by kernel_rfl) (by kernel_rfl) (by kernel_rfl) (fun _ _ _ h => h) (Or.inl ⟨by rfl, ?_⟩) (by assumption) ?_
            rotate_left
            · intro wz hSw
              try dsimp only at hSw
              go_simp
              try with_reducible rfl
            try simp only [Act.put, List.setIfInBounds_toArray, List.set_cons_zero, List.set_cons_succ]
            refine wpAnyH_take (i := 2) (oi := ⟨_, _, _, _, _, _⟩) (v := ?_) rfl (by kernel_rfl) (by kernel_rfl) (by kernel_rfl) (fun _ _ _ h => h) (Or.inl ⟨by rfl, ?_⟩) (by assumption) ?_
            rotate_left
            · intro wz hSw
              try dsimp only at hSw
              go_simp
              try with_reducible rfl
            try simp only [Act.put, List.setIfInBounds_toArray, List.set_cons_zero, List.set_cons_succ]
            refine wpAnyH_take (i := 3) (oi := ⟨_, _, _, _, _, _⟩) (v := ?_) rfl (by kernel_rfl) (by kernel_rfl) (by kernel_rfl) (fun _ _ _ h => h) (Or.inl ⟨by rfl, ?_⟩) (by assumption) ?_
            rotate_left
            · intro wz hSw
              try dsimp only at hSw
              go_simp
              try with_reducible rfl
            try simp only [Act.put, List.setIfInBounds_toArray, List.set_cons_zero, List.set_cons_succ]
            refine wpAnyH_take (i := 4) (oi := ⟨_, _, _, _, _, _⟩) (v := ?_) rfl (by kernel_rfl) (by kernel_rfl) (by kernel_rfl) (fun _ _ _ h => h) (Or.inl ⟨by rfl, ?_⟩) (by assumption) ?_
            rotate_left
            · intro wz hSw
              try dsimp only at hSw
              go_simp
              try with_reducible rfl
            try simp only [Act.put, List.setIfInBounds_toArray, List.set_cons_zero, List.set_cons_succ]
            refine wpAnyH_take (i := 5) (oi := ⟨_, _, _, _, _, _⟩) (v := ?_) rfl (by kernel_rfl) (by kernel_rfl) (by kernel_rfl) (fun _ _ _ h => h) (Or.inl ⟨by rfl, ?_⟩) (by assumption) ?_
            rotate_left
            · intro wz hSw
              try dsimp only at hSw
              go_simp
              try with_reducible rfl
            try simp only [Act.put, List.setIfInBounds_toArray, List.set_cons_zero, List.set_cons_succ]
            refine wpAnyH_take (i := 6) (oi := ⟨_, _, _, _, _, _⟩) (v := ?_) rfl (by kernel_rfl) (by kernel_rfl) (by kernel_rfl) (fun _ _ _ h => h) (Or.inl ⟨by rfl, ?_⟩) (by assumption) ?_
            rotate_left
            · intro wz hSw
              try dsimp only at hSw
              go_simp
              try with_reducible rfl
            try simp only [Act.put, List.setIfInBounds_toArray, List.set_cons_zero, List.set_cons_succ]
            refine wpAnyH_take (i := 7) (oi := ⟨_, _, _, _, _, _⟩) (v := ?_) rfl (by kernel_rfl) (by kernel_rfl) (by kernel_rfl) (fun _ _ _ h => h) (Or.inl ⟨by rfl, ?_⟩) (by assumption) ?_
            rotate_left
            · intro wz hSw
              try dsimp only at hSw
              go_simp
              try with_reducible rfl
            try simp only [Act.put, List.setIfInBounds_toArray, List.set_cons_zero, List.set_cons_succ]
            refine wpAnyH_take (i := 8) (oi := ⟨_, _, _, _, _, _⟩) (v := ?_) rfl (by kernel_rfl) (by kernel_rfl) (by kernel_rfl) (fun _ _ _ h => h) (Or.inl ⟨by rfl, ?_⟩) (by assumption) ?_
            rotate_left
            · intro wz hSw
              try dsimp only at hSw
              go_simp
              try with_reducible rfl
            try simp only [Act.put, List.setIfInBounds_toArray, List.set_cons_zero, List.set_cons_succ]
            refine wpAnyH_take (i := 10) (oi := ⟨_, _, _, _, _, _⟩) (v := ?_) rfl (by kernel_rfl) (by kernel_rfl) (by kernel_rfl) (fun _ _ _ h => h) (Or.inl ⟨by rfl, ?_⟩) (by assumption) ?_
            rotate_left
            · intro wz hSw
              try dsimp only at hSw
              go_simp
              try with_reducible rfl
            try simp only [Act.put, List.setIfInBounds_toArray, List.set_cons_zero, List.set_cons_succ]
            refine wpAnyH_take (i := 11) (oi := ⟨_, _, _, _, _, _⟩) (v := ?_) rfl (by kernel_rfl) (by kernel_rfl) (by kernel_rfl) (fun _ _ _ h => h) (Or.inl ⟨by rfl, ?_⟩) (by assumption) ?_
            rotate_left
            · intro wz hSw
              try dsimp only at hSw
              go_simp
              try with_reducible rfl
            try simp only [Act.put, List.setIfInBounds_toArray, List.set_cons_zero, List.set_cons_succ]
            refine wpAnyH_take (i := 12) (oi := ⟨_, _, _, _, _, _⟩) (v := ?_) rfl (by kernel_rfl) (by kernel_rfl) (by kernel_rfl) (fun _ _ _ h => h) (Or.inl ⟨by rfl, ?_⟩) (by assumption) ?_
            rotate_left
            · intro wz hSw
              try dsimp only at hSw
              go_simp
              try with_reducible rfl
            try simp only [Act.put, List.setIfInBounds_toArray, List.set_cons_zero, List.set_cons_succ]
            refine wpAnyH_take (i := 15) (oi := ⟨_, _, _, _, _, _⟩) (v := ?_) rfl (by kernel_rfl) (by kernel_rfl) (by kernel_rfl) (fun _ _ _ h => h) (Or.inl ⟨by rfl, ?_⟩) (by assumption) ?_
            rotate_left
            · intro wz hSw
              try dsimp only at hSw
              go_simp
              try with_reducible rfl
            try simp only [Act.put, List.setIfInBounds_toArray, List.set_cons_zero, List.set_cons_succ]
            refine wpAnyH_take (i := 16) (oi := ⟨_, _, _, _, _, _⟩) (v := ?_) rfl (by kernel_rfl) (by kernel_rfl) (by kernel_rfl) (fun _ _ _ h => h) (Or.inl ⟨by rfl, ?_⟩) (by assumption) ?_
            rotate_left
            · intro wz hSw
              try dsimp only at hSw
              go_simp
              try with_reducible rfl
            try simp only [Act.put, List.setIfInBounds_toArray, List.set_cons_zero, List.set_cons_succ]
            refine wpAnyH_ready (rs := [9]) (by kernel_rfl) (by simp) ?_
            refine AllReadyH.cons (o := ⟨_, _, _, _, _, _⟩) rfl (fun K hK => ?_) AllReadyH.nil
            refine step_load_part rfl 60 _ rfl ⟨p, m * 2, none⟩ rfl [.slice A n c, .int .i64 (T.dur m : Nat)] _ HLD.out Try.underlying60 rfl (by kernel_rfl) ?_
            clear hHeld
            refine hK.out _ _ trivial (fun hHeld => ?_)
            clear hK K
            try simp only [Act.put, List.setIfInBounds_toArray, List.set_cons_zero, List.set_cons_succ]
            refine wpAnyH_take (i := 13) (oi := ⟨_, _, _, _, _, _⟩) (v := ?_) rfl (by kernel_rfl) (by kernel_rfl) (by kernel_rfl) (fun _ _ _ h => h) (Or.inl ⟨by rfl, ?_⟩) (by assumption) ?_
            rotate_left
            · intro wz hSw
              try dsimp only at hSw
              go_simp
              try with_reducible rfl
            try simp only [Act.put, List.setIfInBounds_toArray, List.set_cons_zero, List.set_cons_succ]
            refine wpAnyH_ready (rs := [14]) (by kernel_rfl) (by simp) ?_
            refine AllReadyH.cons (o := ⟨_, _, _, _, _, _⟩) rfl (fun K hK => ?_) AllReadyH.nil
            refine step_store_part rfl _ _ rfl p k rfl (.slice A n c) (T.dur m : Nat) rfl cur _ HROW.out HK8.out HCS.out rfl ?_
            clear hHeld
            refine hK.out _ _ trivial (fun hHeld => ?_)
            clear hK K
            try simp only [Act.put]
            have HR2 := Lib.hid (show (we.setRow p (lay cur k (.slice A n c) (T.dur m : Nat))).heap[p]? = some (.cells (lay cur k (.slice A n c) (T.dur m : Nat)) 67 (0, 0)) from setRow_heap _ _ _ _ _ _ HROW.out)
            refine wpAnyH_take (i := 17) (oi := ⟨_, _, _, _, _, _⟩) (v := ?_) rfl (by kernel_rfl) (by kernel_rfl) (by kernel_rfl) (fun _ _ _ h => h) (Or.inl ⟨by rfl, ?_⟩) (by assumption) ?_
            rotate_left
            · intro wz hSw
              try dsimp only at hSw
              go_simp
              try with_reducible rfl
            try simp only [Act.put, List.setIfInBounds_toArray, List.set_cons_zero, List.set_cons_succ]
            refine wpAnyH_ready (rs := [18]) (by kernel_rfl) (by simp) ?_
            refine AllReadyH.cons (o := ⟨_, _, _, _, _, _⟩) rfl (fun K hK => ?_) AllReadyH.nil
            refine step_store_part rfl _ _ rfl p m rfl (.slice none 0 0) 0 rfl _ _ HR2.out HM8.out (lay_size HCS.out HK8.out _ _) rfl ?_
            clear hHeld
            refine hK.out _ _ trivial (fun hHeld => ?_)
            clear hK K
            try simp only [Act.put]
            refine wpAnyH_done (by kernel_rfl) ?_ _
            clear hHeld
            rw [setRow_setRow]
            have H3 := Lib.hid (show Dk X _ p (T.swap k m) from ⟨HO.out, _, SW.out.1⟩)
            have F3 := Lib.hid (FD.out.trans SW.out.2)
            clear SW HR2
            generalize we.setRow _ _ = w5 at *
            go_wp2
            go_ret
            exact ⟨by rw [R.out]; rfl, by rw [R.out]; exact H3.out, F3.out⟩
end Dk
end Go.Proofs.Ytihanhdepijijaa.S9
