/-
  Layer 10 (wal): Append.
-/
import Derived.Test.YtihanhdepijijaaWalBuf
namespace Go.Proofs.Ytihanhdepijijaa
open Go.RowKit
namespace Wl
open S9.Dk (Dk Fr MD By)
attribute [local go_sem] S2.B_size S2.B_drop' S2.B_take S2.B_list S2.B_app
theorem hv_step {X : Nat → Prop} {w w' : World} {x p : Nat} {f : Int} {v : Value} {R : List Str} {D : MD} (h : Lv X w x p f v R D) (hb : Below w.heap.size w w') : Lv X w' x p f v R D := h.more hb fun _ hk => .inl hk
set_option maxHeartbeats 2000000 in
set_option maxRecDepth 100000 in
theorem Append_any (X : Nat → Prop) (x p : Nat) (f : Int) (R : List Str) (D : MD) (s : Str) (w : World) (h : Lg X w x p f R D) (hR : R.length + 1 ≤ 16000000) (hs : s.length ≤ 281474976710656) :
    Calls Try.prog 23 #[ptr x, .string (S2.B s)] w fun e w' => e = .returned (.int .i64 (lapp c4 D f R s).1) ∧ Lg X w' x p f (lapp c4 D f R s).2.1 (lapp c4 D f R s).2.2 ∧ Fr X w w' := by
  obtain ⟨v, hv⟩ := h
  have KT := tooLong_any s w hs
  by_cases hlong : 1048576 < s.length
  · have hr : lapp c4 D f R s = (7, R, D) := if_pos hlong
    rw [hr]
    rw [decide_eq_true hlong] at KT
    have K := Lib.hid KT
    have HV := Lib.hid hv
    clear KT hr hlong hv hs hR
    go_enter Try.func23, Try.ntmps23
    go_wp2_with fail
    refine K.out.mono ?_
    rintro e w1 ⟨rfl, rfl⟩
    clear K
    go_wp2
    go_ret
    exact ⟨rfl, ⟨_, HV.out⟩, Fr.refl _ _⟩
  rw [decide_eq_false hlong] at KT
  have hr : lapp c4 D f R s = ((D.app f (record c4 s)).1, if (D.app f (record c4 s)).1 = 0 then R ++ [s] else R, (D.app f (record c4 s)).2) := if_neg hlong
  rw [hr]
  have c0 : w.drew.cell? ⟨x, 0, none⟩ = some (ptr p) := hv.log.c0
  have c1 : w.drew.cell? ⟨x, 1, none⟩ = some (.int .i64 f) := hv.log.c1
  have F0 := Lib.hid (show Fr (plus X x v) w w.drew from (Fr.refl _ _).drew)
  have KTL := Lib.hid KT
  have KR := Lib.hid fun w => record_any s w (by omega)
  have KA := Lib.hid fun w' (h : Dk (plus X x v) w' p D) => S9.Dk.Append_any (plus X x v) p D f (record c4 s) (by rw [record_length c4_len]; have := S2.Cd.encN_len s.length; omega) w' h
  have HV := Lib.hid (show Lv X w.drew x p f v R D from ⟨⟨hv.log.blk, hv.log.own, hv.log.xX, hv.log.vX, hv.log.vx⟩, hv.disk.drew⟩)
  have HR := Lib.hid hR
  obtain ⟨q, hq⟩ : ∃ q, q = record c4 s := ⟨_, rfl⟩
  rw [← hq] at KR KA ⊢
  generalize D.app f q = r at *
  obtain ⟨z, D'⟩ := r
  dsimp only at *
  clear KT hr hlong hv hs hR hq
  by_cases hz : z = 0
  · subst hz
    simp only [if_true]
    go_enter Try.func23, Try.ntmps23
    go_wp2_with fail
    refine KTL.out.mono ?_
    rintro e w1 ⟨rfl, rfl⟩
    clear KTL
    go_wp2
    refine wp_region_held_drew (S := (fun w' => w'.cell? ⟨x, 0, none⟩ = some (ptr p) ∧ w'.cell? ⟨x, 1, none⟩ = some (.int .i64 f))) (by kernel_rfl) ⟨c0, c1⟩ (fun hHeld => ?_)
    refine wpAnyH_take (i := 0) (oi := ⟨_, _, _, _, _, _⟩) (v := ?_) rfl (by kernel_rfl) (by kernel_rfl) (by kernel_rfl) (fun _ _ _ h => h) (Or.inl ⟨by rfl, ?_⟩) (by assumption) ?_
    rotate_left
    · intro wz hSw
      try dsimp only at hSw
      go_simp
      try with_reducible rfl
    try simp only [Act.put, List.setIfInBounds_toArray, List.set_cons_zero, List.set_cons_succ]
    refine wpAnyH_take (i := 1) (oi := ⟨_, _, _, _, _, _⟩) (v := ?_) rfl (by kernel_rfl) (by kernel_rfl) (by kernel_rfl) (fun _ _ _ h => h) (Or.inl ⟨by rfl, ?_⟩) (by assumption) ?_
    rotate_left
    · intro wz hSw
      try dsimp only at hSw
      go_simp
      try with_reducible rfl
    try simp only [Act.put, List.setIfInBounds_toArray, List.set_cons_zero, List.set_cons_succ]
    refine wpAnyH_take (i := 2) (oi := ⟨_, _, _, _, _, _⟩) (v := ?_) rfl (by kernel_rfl) (by kernel_rfl) (by kernel_rfl) (fun _ _ _ h => h) (Or.inl ⟨by rfl, ?_⟩) (by assumption) ?_
    rotate_left
    · intro wz hSw
      try dsimp only at hSw
      go_simp
      try with_reducible rfl
    try simp only [Act.put, List.setIfInBounds_toArray, List.set_cons_zero, List.set_cons_succ]
    refine wpAnyH_take (i := 3) (oi := ⟨_, _, _, _, _, _⟩) (v := ?_) rfl (by kernel_rfl) (by kernel_rfl) (by kernel_rfl) (fun _ _ _ h => h) (Or.inl ⟨by rfl, ?_⟩) (by assumption) ?_
    rotate_left
    · intro wz hSw
      try dsimp only at hSw
      go_simp
      try with_reducible rfl
    try simp only [Act.put, List.setIfInBounds_toArray, List.set_cons_zero, List.set_cons_succ]
    refine wpAnyH_take (i := 4) (oi := ⟨_, _, _, _, _, _⟩) (v := ?_) rfl (by kernel_rfl) (by kernel_rfl) (by kernel_rfl) (fun _ _ _ h => h) (Or.inl ⟨by rfl, ?_⟩) (by assumption) ?_
    rotate_left
    · intro wz hSw
      try dsimp only at hSw
      go_simp
      try with_reducible rfl
    try simp only [Act.put, List.setIfInBounds_toArray, List.set_cons_zero, List.set_cons_succ]
    refine wpAnyH_take (i := 5) (oi := ⟨_, _, _, _, _, _⟩) (v := ?_) rfl (by kernel_rfl) (by kernel_rfl) (by kernel_rfl) (fun _ _ _ h => h) (Or.inl ⟨by rfl, ?_⟩) (by assumption) ?_
    rotate_left
    · intro wz hSw
      try dsimp only at hSw
      go_simp
      try with_reducible rfl
    try simp only [Act.put, List.setIfInBounds_toArray, List.set_cons_zero, List.set_cons_succ]
    refine wpAnyH_take (i := 6) (oi := ⟨_, _, _, _, _, _⟩) (v := ?_) rfl (by kernel_rfl) (by kernel_rfl) (by kernel_rfl) (fun _ _ _ h => h) (Or.inl ⟨by rfl, ?_⟩) (by assumption) ?_
    rotate_left
    · intro wz hSw
      try dsimp only at hSw
      go_simp
      try with_reducible rfl
    try simp only [Act.put, List.setIfInBounds_toArray, List.set_cons_zero, List.set_cons_succ]
    refine wpAnyH_take (i := 7) (oi := ⟨_, _, _, _, _, _⟩) (v := ?_) rfl (by kernel_rfl) (by kernel_rfl) (by kernel_rfl) (fun _ _ _ h => h) (Or.inl ⟨by rfl, ?_⟩) (by assumption) ?_
    rotate_left
    · intro wz hSw
      try dsimp only at hSw
      go_simp
      try with_reducible rfl
    try simp only [Act.put, List.setIfInBounds_toArray, List.set_cons_zero, List.set_cons_succ]
    refine wpAnyH_take (i := 8) (oi := ⟨_, _, _, _, _, _⟩) (v := ?_) rfl (by kernel_rfl) (by kernel_rfl) (by kernel_rfl) (fun _ _ _ h => h) (Or.inl ⟨by rfl, ?_⟩) (by assumption) ?_
    rotate_left
    · intro wz hSw
      try dsimp only at hSw
      go_simp
      try with_reducible rfl
    try simp only [Act.put, List.setIfInBounds_toArray, List.set_cons_zero, List.set_cons_succ]
    refine wpAnyH_ready (rs := [9]) (by kernel_rfl) (by simp) ?_
    refine AllReadyH.cons (o := ⟨_, _, _, _, _, _⟩) rfl (fun K hK => ?_) AllReadyH.nil
    go_simp
    refine (KR.out _).mono ?_
    rintro e w1 ⟨rfl, hb⟩
    have HV1 := Lib.hid (hv_step HV.out hb)
    have F1 := Lib.hid (F0.out.trans (Fr.of_below hb HV.out.disk.lt))
    clear hb hHeld c0 c1 KR
    refine hK.out _ _ ⟨HV1.out.log.c0, HV1.out.log.c1⟩ (fun hHeld => ?_)
    clear hK K
    try simp only [Act.put, List.setIfInBounds_toArray, List.set_cons_zero, List.set_cons_succ]
    refine wpAnyH_ready (rs := [10]) (by kernel_rfl) (by simp) ?_
    refine AllReadyH.cons (o := ⟨_, _, _, _, _, _⟩) rfl (fun K hK => ?_) AllReadyH.nil
    go_simp
    refine (KA.out _ HV1.out.disk).mono ?_
    rintro e w2 ⟨rfl, h1, f1⟩
    have HV2 := Lib.hid (HV1.out.fr f1 h1)
    replace F1 := Lib.hid (F1.out.trans f1)
    clear h1 f1 hHeld HV1
    refine hK.out _ _ ⟨HV2.out.log.c0, HV2.out.log.c1⟩ (fun hHeld => ?_)
    clear hK K
    try simp only [Act.put, List.setIfInBounds_toArray, List.set_cons_zero, List.set_cons_succ]
    refine wpAnyH_take (i := 11) (oi := ⟨_, _, _, _, _, _⟩) (v := ?_) rfl (by kernel_rfl) (by kernel_rfl) (by kernel_rfl) (fun _ _ _ h => h) (Or.inl ⟨by rfl, ?_⟩) (by assumption) ?_
    rotate_left
    · intro wz hSw
      try dsimp only at hSw
      go_simp
      try with_reducible rfl
    try simp only [Act.put, List.setIfInBounds_toArray, List.set_cons_zero, List.set_cons_succ]
    refine wpAnyH_done (by kernel_rfl) ?_ _
    clear hHeld KA HV
    obtain ⟨A, n, c, rfl, hn, hcap⟩ := HV2.out.log.own.sl
    have c2 := HV2.out.log.c2
    have fz : w2.frozen? ⟨x, 2, none⟩ = false := S2.free_at HV2.out.log.blk 2
    have hsrc : S2.Row (w2.alloc (.cells #[.string (S2.B s)] 9)) (w2.alloc (.cells #[.string (S2.B s)] 9)).heap.size (some ⟨w2.heap.size, 0, none⟩) (S2.Ss [s]) := row_one w2 s
    have hv2 := hv_step HV2.out ((Below.refl _ _).alloc (Nat.le_refl _) (.cells #[.string (S2.B s)] 9))
    have F2 := Lib.hid (F1.out.trans (Fr.of_below ((Below.refl _ _).alloc (Nat.le_refl _) (.cells #[.string (S2.B s)] 9)) HV2.out.disk.lt))
    have HV3 := Lib.hid hv2
    have HSRC := Lib.hid hsrc
    have HBD := Lib.hid (show R.length + [s].length ≤ 16000000 by have := HR.out; simp; omega)
    clear hv2 hsrc F1 HV2 HR hn hcap
    go_wp2_with (at_builtin; refine wpList_app (lo := R) (ln := [s]) rfl _ _ rfl HV3.out.log.own HSRC.out rfl rfl rfl HBD.out ?_)
    intro v' w3 ho hg hpl
    obtain ⟨A', n', c', rfl, hn', hc'⟩ := ho.sl
    have hset := HV3.out.set_rows ho hg (by rw [World.size_alloc]; exact hpl)
    have e3 := (hg.block x HV3.out.log.x_lt (fun e => HV3.out.log.vx e.symm)).trans HV3.out.log.blk
    have c2' : w3.cell? ⟨x, 2, none⟩ = some (.slice A n c) := S2.cell_at e3 2
    have fz' : w3.frozen? ⟨x, 2, none⟩ = false := S2.free_at e3 2
    have RR := Lib.hid (show Lg X (w3.setCell ⟨x, 2, none⟩ (.slice A' n' c')) x p f (R ++ [s]) D' ∧ Fr X w (w3.setCell ⟨x, 2, none⟩ (.slice A' n' c')) from
      ⟨⟨_, hset.1⟩, (F2.out.weaken (Lv.sub X x _)).trans hset.2⟩)
    clear hset ho hg hpl HV3 HSRC F2 HBD hn' hc' e3
    go_wp2
    go_ret
    exact ⟨rfl, RR.out⟩
  · have hz' : (z == 0) = false := by simpa using hz
    simp only [if_neg hz]
    go_enter Try.func23, Try.ntmps23
    go_wp2_with fail
    refine KTL.out.mono ?_
    rintro e w1 ⟨rfl, rfl⟩
    clear KTL
    go_wp2
    refine wp_region_held_drew (S := (fun w' => w'.cell? ⟨x, 0, none⟩ = some (ptr p) ∧ w'.cell? ⟨x, 1, none⟩ = some (.int .i64 f))) (by kernel_rfl) ⟨c0, c1⟩ (fun hHeld => ?_)
    refine wpAnyH_take (i := 0) (oi := ⟨_, _, _, _, _, _⟩) (v := ?_) rfl (by kernel_rfl) (by kernel_rfl) (by kernel_rfl) (fun _ _ _ h => h) (Or.inl ⟨by rfl, ?_⟩) (by assumption) ?_
    rotate_left
    · intro wz hSw
      try dsimp only at hSw
      go_simp
      try with_reducible rfl
    try simp only [Act.put, List.setIfInBounds_toArray, List.set_cons_zero, List.set_cons_succ]
    refine wpAnyH_take (i := 1) (oi := ⟨_, _, _, _, _, _⟩) (v := ?_) rfl (by kernel_rfl) (by kernel_rfl) (by kernel_rfl) (fun _ _ _ h => h) (Or.inl ⟨by rfl, ?_⟩) (by assumption) ?_
    rotate_left
    · intro wz hSw
      try dsimp only at hSw
      go_simp
      try with_reducible rfl
    try simp only [Act.put, List.setIfInBounds_toArray, List.set_cons_zero, List.set_cons_succ]
    refine wpAnyH_take (i := 2) (oi := ⟨_, _, _, _, _, _⟩) (v := ?_) rfl (by kernel_rfl) (by kernel_rfl) (by kernel_rfl) (fun _ _ _ h => h) (Or.inl ⟨by rfl, ?_⟩) (by assumption) ?_
    rotate_left
    · intro wz hSw
      try dsimp only at hSw
      go_simp
      try with_reducible rfl
    try simp only [Act.put, List.setIfInBounds_toArray, List.set_cons_zero, List.set_cons_succ]
    refine wpAnyH_take (i := 3) (oi := ⟨_, _, _, _, _, _⟩) (v := ?_) rfl (by kernel_rfl) (by kernel_rfl) (by kernel_rfl) (fun _ _ _ h => h) (Or.inl ⟨by rfl, ?_⟩) (by assumption) ?_
    rotate_left
    · intro wz hSw
      try dsimp only at hSw
      go_simp
      try with_reducible rfl
    try simp only [Act.put, List.setIfInBounds_toArray, List.set_cons_zero, List.set_cons_succ]
    refine wpAnyH_take (i := 4) (oi := ⟨_, _, _, _, _, _⟩) (v := ?_) rfl (by kernel_rfl) (by kernel_rfl) (by kernel_rfl) (fun _ _ _ h => h) (Or.inl ⟨by rfl, ?_⟩) (by assumption) ?_
    rotate_left
    · intro wz hSw
      try dsimp only at hSw
      go_simp
      try with_reducible rfl
    try simp only [Act.put, List.setIfInBounds_toArray, List.set_cons_zero, List.set_cons_succ]
    refine wpAnyH_take (i := 5) (oi := ⟨_, _, _, _, _, _⟩) (v := ?_) rfl (by kernel_rfl) (by kernel_rfl) (by kernel_rfl) (fun _ _ _ h => h) (Or.inl ⟨by rfl, ?_⟩) (by assumption) ?_
    rotate_left
    · intro wz hSw
      try dsimp only at hSw
      go_simp
      try with_reducible rfl
    try simp only [Act.put, List.setIfInBounds_toArray, List.set_cons_zero, List.set_cons_succ]
    refine wpAnyH_take (i := 6) (oi := ⟨_, _, _, _, _, _⟩) (v := ?_) rfl (by kernel_rfl) (by kernel_rfl) (by kernel_rfl) (fun _ _ _ h => h) (Or.inl ⟨by rfl, ?_⟩) (by assumption) ?_
    rotate_left
    · intro wz hSw
      try dsimp only at hSw
      go_simp
      try with_reducible rfl
    try simp only [Act.put, List.setIfInBounds_toArray, List.set_cons_zero, List.set_cons_succ]
    refine wpAnyH_take (i := 7) (oi := ⟨_, _, _, _, _, _⟩) (v := ?_) rfl (by kernel_rfl) (by kernel_rfl) (by kernel_rfl) (fun _ _ _ h => h) (Or.inl ⟨by rfl, ?_⟩) (by assumption) ?_
    rotate_left
    · intro wz hSw
      try dsimp only at hSw
      go_simp
      try with_reducible rfl
    try simp only [Act.put, List.setIfInBounds_toArray, List.set_cons_zero, List.set_cons_succ]
    refine wpAnyH_take (i := 8) (oi := ⟨_, _, _, _, _, _⟩) (v := ?_) rfl (by kernel_rfl) (by kernel_rfl) (by kernel_rfl) (fun _ _ _ h => h) (Or.inl ⟨by rfl, ?_⟩) (by assumption) ?_
    rotate_left
    · intro wz hSw
      try dsimp only at hSw
      go_simp
      try with_reducible rfl
    try simp only [Act.put, List.setIfInBounds_toArray, List.set_cons_zero, List.set_cons_succ]
    refine wpAnyH_ready (rs := [9]) (by kernel_rfl) (by simp) ?_
    refine AllReadyH.cons (o := ⟨_, _, _, _, _, _⟩) rfl (fun K hK => ?_) AllReadyH.nil
    go_simp
    refine (KR.out _).mono ?_
    rintro e w1 ⟨rfl, hb⟩
    have HV1 := Lib.hid (hv_step HV.out hb)
    have F1 := Lib.hid (F0.out.trans (Fr.of_below hb HV.out.disk.lt))
    clear hb hHeld c0 c1 KR
    refine hK.out _ _ ⟨HV1.out.log.c0, HV1.out.log.c1⟩ (fun hHeld => ?_)
    clear hK K
    try simp only [Act.put, List.setIfInBounds_toArray, List.set_cons_zero, List.set_cons_succ]
    refine wpAnyH_ready (rs := [10]) (by kernel_rfl) (by simp) ?_
    refine AllReadyH.cons (o := ⟨_, _, _, _, _, _⟩) rfl (fun K hK => ?_) AllReadyH.nil
    go_simp
    refine (KA.out _ HV1.out.disk).mono ?_
    rintro e w2 ⟨rfl, h1, f1⟩
    have HV2 := Lib.hid (HV1.out.fr f1 h1)
    replace F1 := Lib.hid (F1.out.trans f1)
    clear h1 f1 hHeld HV1
    refine hK.out _ _ ⟨HV2.out.log.c0, HV2.out.log.c1⟩ (fun hHeld => ?_)
    clear hK K
    try simp only [Act.put, List.setIfInBounds_toArray, List.set_cons_zero, List.set_cons_succ]
    refine wpAnyH_take (i := 11) (oi := ⟨_, _, _, _, _, _⟩) (v := ?_) rfl (by kernel_rfl) (by kernel_rfl) (by kernel_rfl) (fun _ _ _ h => h) (Or.inl ⟨by rfl, ?_⟩) (by assumption) ?_
    rotate_left
    · intro wz hSw
      try dsimp only at hSw
      go_simp
      try with_reducible rfl
    try simp only [Act.put, List.setIfInBounds_toArray, List.set_cons_zero, List.set_cons_succ]
    refine wpAnyH_done (by kernel_rfl) ?_ _
    clear hHeld KA HV
    go_wp2
    go_ret
    exact ⟨rfl, ⟨_, HV2.out⟩, F1.out.weaken (Lv.sub X x v)⟩
end Wl
end Go.Proofs.Ytihanhdepijijaa
