/-
  Layer 10 (wal): Rewrite.
-/
import Derived.Test.YtihanhdepijijaaWalAppend
namespace Go.Proofs.Ytihanhdepijijaa
open Go.RowKit
namespace Wl
open S9.Dk (Dk Fr MD By)
attribute [local go_sem] S2.B_size S2.B_drop' S2.B_take S2.B_list S2.B_app
theorem all_ok {L : List Str} (h : anyLong L = false) : L.all (fun s => decide (s.length ≤ 1048576)) = true := by
  unfold anyLong at h
  rw [List.any_eq_false] at h
  rw [List.all_eq_true]
  intro s hs
  have := h s hs
  simp only [decide_eq_true_eq] at this ⊢
  omega
theorem not_ok {L : List Str} (h : anyLong L = true) : L.all (fun s => decide (s.length ≤ 1048576)) = false := by
  unfold anyLong at h
  rw [List.any_eq_true] at h
  obtain ⟨s, hs, h2⟩ := h
  rw [List.all_eq_false]
  refine ⟨s, hs, ?_⟩
  simp only [decide_eq_true_eq] at h2 ⊢
  omega
section
variable {D D1 D2 D3 D4 : MD} {f z : Int} {R L : List Str}
theorem rew1_cut (D : MD) (f : Int) : rew1 D f = cutTo D (f + 1) 0 := by
  unfold rew1 cutTo
  by_cases h : 0 < D.size (f + 1)
  · rw [if_pos h, if_neg (by omega)]; rfl
  · rw [if_neg h, if_pos (by omega)]
theorem lrew_0 (h : anyLong L = true) : lrew c4 D f R L = (7, R, D) := by
  unfold lrew
  rw [not_ok h]
  rfl
theorem lrew_1 (h : anyLong L = false) (h1 : rew1 D f = (z, D1)) (hz : z ≠ 0) : lrew c4 D f R L = (z, R, D1) := by
  simp [lrew, all_ok h, rewE, h1, rew2, rew3, rew4, hz]
theorem lrew_2 (h : anyLong L = false) (h1 : rew1 D f = (0, D1)) (h2 : D1.app (f + 1) (records c4 L) = (z, D2)) (hz : z ≠ 0) : lrew c4 D f R L = (z, R, D2) := by
  simp [lrew, all_ok h, rewE, h1, h2, rew2, rew3, rew4, hz]
theorem lrew_3 (h : anyLong L = false) (h1 : rew1 D f = (0, D1)) (h2 : D1.app (f + 1) (records c4 L) = (0, D2)) (h3 : D2.flush (f + 1) = (z, D3)) (hz : z ≠ 0) : lrew c4 D f R L = (z, R, D3) := by
  simp [lrew, all_ok h, rewE, h1, h2, h3, rew2, rew3, rew4, hz]
theorem lrew_4 (h : anyLong L = false) (h1 : rew1 D f = (0, D1)) (h2 : D1.app (f + 1) (records c4 L) = (0, D2)) (h3 : D2.flush (f + 1) = (0, D3)) (h4 : D3.turn f (f + 1) = (z, D4)) (hz : z ≠ 0) : lrew c4 D f R L = (z, R, D4) := by
  simp [lrew, all_ok h, rewE, h1, h2, h3, h4, rew2, rew3, rew4, hz]
theorem lrew_5 (h : anyLong L = false) (h1 : rew1 D f = (0, D1)) (h2 : D1.app (f + 1) (records c4 L) = (0, D2)) (h3 : D2.flush (f + 1) = (0, D3)) (h4 : D3.turn f (f + 1) = (0, D4)) : lrew c4 D f R L = (0, L, D4) := by
  simp [lrew, all_ok h, rewE, h1, h2, h3, h4, rew2, rew3, rew4]
end
set_option maxHeartbeats 4000000 in
set_option maxRecDepth 100000 in
theorem Rewrite_any (X : Nat → Prop) (x p : Nat) (f : Int) (R : List Str) (D : MD) (A : Option Addr) (n c : Nat) (L : List Str) (w : World) (h : Lg X w x p f R D) (hf : 0 ≤ f ∧ f ≤ 6) (hr : Rx X w A L) (hn : n = L.length) (hn2 : n ≤ 16000000)
    (hs : ∀ s ∈ L, s.length ≤ 281474976710656) (hl : (records c4 L).length ≤ 1000000000) :
    Calls Try.prog 22 #[ptr x, .slice A n c] w fun e w' => e = .returned (.int .i64 (lrew c4 D f R L).1) ∧ Lg X w' x p f (lrew c4 D f R L).2.1 (lrew c4 D f R L).2.2 ∧ Fr X w w' := by
  obtain ⟨v, hv⟩ := h
  have KC := contains_any A n c L w (hr.row hv.lt) hn (by omega) hs
  obtain ⟨r, hr5⟩ : ∃ r, r = lrew c4 D f R L := ⟨_, rfl⟩
  rw [← hr5]
  cases hb : anyLong L with
  | true =>
    have E := Lib.hid (hr5.trans (lrew_0 hb))
    rw [hb] at KC
    have K := Lib.hid KC
    have HV := Lib.hid hv
    clear KC hb hr5 hv hr hn hn2 hs hl
    go_enter Try.func22, Try.ntmps22
    go_wp2_with fail
    refine K.out.mono ?_
    rintro e w1 ⟨rfl, rfl⟩
    clear K
    go_wp2
    go_ret
    exact ⟨by rw [E.out]; rfl, by rw [E.out]; exact ⟨_, HV.out⟩, Fr.refl _ _⟩
  | false =>
    rw [hb] at KC
    have KCH := Lib.hid KC
    have HB := Lib.hid hb
    have HR5 := Lib.hid hr5
    have HRX := Lib.hid hr
    have HN := Lib.hid hn
    have HN2 := Lib.hid hn2
    have HL := Lib.hid hl
    have c0 : w.drew.cell? ⟨x, 0, none⟩ = some (ptr p) := hv.log.c0
    have c1 : w.drew.cell? ⟨x, 1, none⟩ = some (.int .i64 f) := hv.log.c1
    have F1 := Lib.hid (show Fr (plus X x v) w w.drew from (Fr.refl _ _).drew)
    have HV1 := Lib.hid (show Lv X w.drew x p f v R D from ⟨⟨hv.log.blk, hv.log.own, hv.log.xX, hv.log.vX, hv.log.vx⟩, hv.disk.drew⟩)
    have hf0 : 0 ≤ f := hf.1
    have hf6 : f ≤ 6 := hf.2
    clear KC hb hr5 hr hn hn2 hs hl hv hf
    go_enter Try.func22, Try.ntmps22
    go_wp2_with fail
    refine KCH.out.mono ?_
    rintro e w1 ⟨rfl, rfl⟩
    clear KCH
    go_wp2
    refine wp_region_held_drew (S := (fun w' => w'.cell? ⟨x, 0, none⟩ = some (ptr p) ∧ w'.cell? ⟨x, 1, none⟩ = some (.int .i64 f))) (by kernel_rfl) ⟨c0, c1⟩ (fun hHeld => ?_)
    refine wpAnyH_take (i := 0) (oi := ⟨_, _, _, _, _, _⟩) (v := ?_) rfl (by kernel_rfl) (by kernel_rfl) (by kernel_rfl) (fun _ _ _ h => h) (Or.inl ⟨by rfl, ?_⟩) (by assumption) ?_
    rotate_left
    · intro wz hSw
      try dsimp only at hSw
      go_simp
      try with_reducible rfl
    try simp only [Act.put, List.setIfInBounds_toArray, List.set_cons_zero, List.set_cons_succ]
    refine wpAnyH_take (i := 1) (oi := ⟨_, _, _, _, _, _⟩) (v := ?_) rfl (by kernel_rfl) (by kernel_rfl) (by kernel_rfl) (fun _ _ _ h => h) (Or.inl ⟨by rfl, ?_⟩) (by assumption) ?_
    rotate_left
    · intro wz hSw
      try dsimp only at hSw
      go_simp
      try with_reducible rfl
    try simp only [Act.put, List.setIfInBounds_toArray, List.set_cons_zero, List.set_cons_succ]
    refine wpAnyH_take (i := 2) (oi := ⟨_, _, _, _, _, _⟩) (v := ?_) rfl (by kernel_rfl) (by kernel_rfl) (by kernel_rfl) (fun _ _ _ h => h) (Or.inl ⟨by rfl, ?_⟩) (by assumption) ?_
    rotate_left
    · intro wz hSw
      try dsimp only at hSw
      go_simp
      try with_reducible rfl
    try simp only [Act.put, List.setIfInBounds_toArray, List.set_cons_zero, List.set_cons_succ]
    refine wpAnyH_take (i := 3) (oi := ⟨_, _, _, _, _, _⟩) (v := ?_) rfl (by kernel_rfl) (by kernel_rfl) (by kernel_rfl) (fun _ _ _ h => h) (Or.inl ⟨by rfl, ?_⟩) (by assumption) ?_
    rotate_left
    · intro wz hSw
      try dsimp only at hSw
      go_simp
      try with_reducible rfl
    try simp only [Act.put, List.setIfInBounds_toArray, List.set_cons_zero, List.set_cons_succ]
    refine wpAnyH_take (i := 4) (oi := ⟨_, _, _, _, _, _⟩) (v := ?_) rfl (by kernel_rfl) (by kernel_rfl) (by kernel_rfl) (fun _ _ _ h => h) (Or.inl ⟨by rfl, ?_⟩) (by assumption) ?_
    rotate_left
    · intro wz hSw
      try dsimp only at hSw
      go_simp
      try with_reducible rfl
    try simp only [Act.put, List.setIfInBounds_toArray, List.set_cons_zero, List.set_cons_succ]
    refine wpAnyH_take (i := 5) (oi := ⟨_, _, _, _, _, _⟩) (v := ?_) rfl (by kernel_rfl) (by kernel_rfl) (by kernel_rfl) (fun _ _ _ h => h) (Or.inl ⟨by rfl, ?_⟩) (by assumption) ?_
    rotate_left
    · intro wz hSw
      try dsimp only at hSw
      go_simp
      try with_reducible rfl
    try simp only [Act.put, List.setIfInBounds_toArray, List.set_cons_zero, List.set_cons_succ]
    refine wpAnyH_take (i := 6) (oi := ⟨_, _, _, _, _, _⟩) (v := ?_) rfl (by kernel_rfl) (by kernel_rfl) (by kernel_rfl) (fun _ _ _ h => h) (Or.inl ⟨by rfl, ?_⟩) (by assumption) ?_
    rotate_left
    · intro wz hSw
      try dsimp only at hSw
      go_simp
      try with_reducible rfl
    try simp only [Act.put, List.setIfInBounds_toArray, List.set_cons_zero, List.set_cons_succ]
    refine wpAnyH_take (i := 7) (oi := ⟨_, _, _, _, _, _⟩) (v := ?_) rfl (by kernel_rfl) (by kernel_rfl) (by kernel_rfl) (fun _ _ _ h => h) (Or.inl ⟨by rfl, ?_⟩) (by assumption) ?_
    rotate_left
    · intro wz hSw
      try dsimp only at hSw
      go_simp
      try with_reducible rfl
    try simp only [Act.put, List.setIfInBounds_toArray, List.set_cons_zero, List.set_cons_succ]
    refine wpAnyH_take (i := 8) (oi := ⟨_, _, _, _, _, _⟩) (v := .int .i64 (f + 1)) rfl (by kernel_rfl) (by kernel_rfl) (by kernel_rfl) (fun _ _ _ h => h) (Or.inl ⟨by rfl, ?_⟩) (by assumption) ?_
    · intro wz hSw
      try dsimp only at hSw
      go_simp
      exact IntWalk.i64_in _ (by omega)
    try simp only [Act.put, List.setIfInBounds_toArray, List.set_cons_zero, List.set_cons_succ]
    refine wpAnyH_take (i := 9) (oi := ⟨_, _, _, _, _, _⟩) (v := ?_) rfl (by kernel_rfl) (by kernel_rfl) (by kernel_rfl) (fun _ _ _ h => h) (Or.inl ⟨by rfl, ?_⟩) (by assumption) ?_
    rotate_left
    · intro wz hSw
      try dsimp only at hSw
      go_simp
      try with_reducible rfl
    try simp only [Act.put, List.setIfInBounds_toArray, List.set_cons_zero, List.set_cons_succ]
    refine wpAnyH_take (i := 10) (oi := ⟨_, _, _, _, _, _⟩) (v := ?_) rfl (by kernel_rfl) (by kernel_rfl) (by kernel_rfl) (fun _ _ _ h => h) (Or.inl ⟨by rfl, ?_⟩) (by assumption) ?_
    rotate_left
    · intro wz hSw
      try dsimp only at hSw
      go_simp
      try with_reducible rfl
    try simp only [Act.put, List.setIfInBounds_toArray, List.set_cons_zero, List.set_cons_succ]
    refine wpAnyH_done (by kernel_rfl) ?_ _
    clear hHeld c0 c1
    obtain ⟨w1, hw1⟩ : ∃ w1, w1 = w.drew := ⟨_, rfl⟩
    rw [← hw1] at HV1 F1 ⊢
    clear hw1
    -- the file behind is emptied
    go_wp2_with fail
    refine (shorten_any _ p D (f + 1) 0 w1 HV1.out.disk).mono ?_
    rintro e w2 ⟨rfl, h1, f1⟩
    rw [← rew1_cut] at h1 ⊢
    obtain ⟨z1, D1, hp1⟩ : ∃ z1 D1, rew1 D f = (z1, D1) := ⟨_, _, rfl⟩
    rw [hp1] at h1 ⊢
    dsimp only at h1 ⊢
    have HP1 := Lib.hid hp1
    have HV2 := Lib.hid (HV1.out.fr f1 h1)
    replace F1 := Lib.hid (F1.out.trans f1)
    clear h1 f1 hp1 HV1
    by_cases hz : z1 = 0
    case neg =>
      have E := Lib.hid (HR5.out.trans (lrew_1 HB.out HP1.out hz))
      have hz' : (z1 == 0) = false := by simpa using hz
      clear hz HP1 HB HR5 HRX HN HN2 HL
      go_wp2
      go_ret
      exact ⟨by rw [E.out]; rfl, by rw [E.out]; exact ⟨_, HV2.out⟩, F1.out.weaken (Lv.sub X x v)⟩
    subst hz
    -- the records are appended
    have KJ := Lib.hid (joined_any A n c L w2 ((HRX.out.fr (F1.out.weaken (Lv.sub X x v))).row HV2.out.lt) HN.out HL.out)
    go_wp2_with fail
    refine KJ.out.mono ?_
    rintro e w3 ⟨rfl, hb3⟩
    have HV3 := Lib.hid (hv_step HV2.out hb3)
    replace F1 := Lib.hid (F1.out.trans (Fr.of_below hb3 HV2.out.disk.lt))
    clear hb3 KJ HV2
    have KA := Lib.hid (S9.Dk.Append_any (plus X x v) p D1 (f + 1) (records c4 L) HL.out w3 HV3.out.disk)
    go_wp2_with fail
    refine KA.out.mono ?_
    rintro e w4 ⟨rfl, h1, f1⟩
    obtain ⟨z2, D2, hp2⟩ : ∃ z2 D2, D1.app (f + 1) (records c4 L) = (z2, D2) := ⟨_, _, rfl⟩
    rw [hp2] at h1 ⊢
    dsimp only at h1 ⊢
    have HP2 := Lib.hid hp2
    have HV4 := Lib.hid (HV3.out.fr f1 h1)
    replace F1 := Lib.hid (F1.out.trans f1)
    clear h1 f1 hp2 HV3 KA
    by_cases hz : z2 = 0
    case neg =>
      have E := Lib.hid (HR5.out.trans (lrew_2 HB.out HP1.out HP2.out hz))
      have hz' : (z2 == 0) = false := by simpa using hz
      clear hz HP1 HP2 HB HR5 HRX HN HN2 HL
      go_wp2
      go_ret
      exact ⟨by rw [E.out]; rfl, by rw [E.out]; exact ⟨_, HV4.out⟩, F1.out.weaken (Lv.sub X x v)⟩
    subst hz
    -- they are flushed
    have KF := Lib.hid (S9.Dk.Flush_any (plus X x v) p D2 (f + 1) w4 HV4.out.disk)
    go_wp2_with fail
    refine KF.out.mono ?_
    rintro e w5 ⟨rfl, h1, f1⟩
    obtain ⟨z3, D3, hp3⟩ : ∃ z3 D3, D2.flush (f + 1) = (z3, D3) := ⟨_, _, rfl⟩
    rw [hp3] at h1 ⊢
    dsimp only at h1 ⊢
    have HP3 := Lib.hid hp3
    have HV5 := Lib.hid (HV4.out.fr f1 h1)
    replace F1 := Lib.hid (F1.out.trans f1)
    clear h1 f1 hp3 HV4 KF
    by_cases hz : z3 = 0
    case neg =>
      have E := Lib.hid (HR5.out.trans (lrew_3 HB.out HP1.out HP2.out HP3.out hz))
      have hz' : (z3 == 0) = false := by simpa using hz
      clear hz HP1 HP2 HP3 HB HR5 HRX HN HN2 HL
      go_wp2
      go_ret
      exact ⟨by rw [E.out]; rfl, by rw [E.out]; exact ⟨_, HV5.out⟩, F1.out.weaken (Lv.sub X x v)⟩
    subst hz
    -- the files are turned
    have c1 := HV5.out.log.c1
    have KT := Lib.hid (S9.Dk.Turn_any (plus X x v) p D3 f (f + 1) w5 HV5.out.disk)
    go_wp2_with fail
    refine KT.out.mono ?_
    rintro e w6 ⟨rfl, h1, f1⟩
    obtain ⟨z4, D4, hp4⟩ : ∃ z4 D4, D3.turn f (f + 1) = (z4, D4) := ⟨_, _, rfl⟩
    rw [hp4] at h1 ⊢
    dsimp only at h1 ⊢
    have HP4 := Lib.hid hp4
    have HV6 := Lib.hid (HV5.out.fr f1 h1)
    replace F1 := Lib.hid (F1.out.trans f1)
    clear h1 f1 hp4 HV5 KT c1
    by_cases hz : z4 = 0
    case neg =>
      have E := Lib.hid (HR5.out.trans (lrew_4 HB.out HP1.out HP2.out HP3.out HP4.out hz))
      have hz' : (z4 == 0) = false := by simpa using hz
      clear hz HP1 HP2 HP3 HP4 HB HR5 HRX HN HN2 HL
      go_wp2
      go_ret
      exact ⟨by rw [E.out]; rfl, by rw [E.out]; exact ⟨_, HV6.out⟩, F1.out.weaken (Lv.sub X x v)⟩
    subst hz
    -- the rows are kept
    have E := Lib.hid (HR5.out.trans (lrew_5 HB.out HP1.out HP2.out HP3.out HP4.out))
    have KCL := Lib.hid (Clone_any A n c L w6 ((HRX.out.fr (F1.out.weaken (Lv.sub X x v))).row HV6.out.lt) HN.out (by rw [← HN.out]; exact HN2.out))
    clear HP1 HP2 HP3 HP4 HB HR5 HRX HN HN2 HL
    go_wp2_with fail
    refine KCL.out.mono ?_
    rintro e w7 ⟨v', rfl, ho, hnew, hb7⟩
    have HV7 := hv_step HV6.out hb7
    have hset := HV6.out.set_rows ho ⟨hb7.os, hb7.tape, hb7.output, hb7.size, fun k hk _ => hb7.block k hk⟩ (.inr hnew)
    have c2 := HV7.log.c2
    have fz : w7.frozen? ⟨x, 2, none⟩ = false := S2.free_at HV7.log.blk 2
    obtain ⟨A', n', c', rfl, hn', hc'⟩ := ho.sl
    have RR := Lib.hid (show Lg X (w7.setCell ⟨x, 2, none⟩ (.slice A' n' c')) x p f L D4 ∧ Fr X w (w7.setCell ⟨x, 2, none⟩ (.slice A' n' c')) from
      ⟨⟨_, hset.1⟩, (F1.out.weaken (Lv.sub X x _)).trans hset.2⟩)
    clear hset ho hnew hb7 HV7 HV6 F1 KCL hn' hc'
    go_wp2
    go_ret
    exact ⟨by rw [E.out]; rfl, by rw [E.out]; exact RR.out.1, RR.out.2⟩
end Wl
end Go.Proofs.Ytihanhdepijijaa
