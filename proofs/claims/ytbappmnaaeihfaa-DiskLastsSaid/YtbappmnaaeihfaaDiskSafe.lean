/-
  Layer 9 (disk) in plain Lean: what the law DiskLasts keeps beside the machine is durable, whatever the operation.
-/
import Derived.Test.YtbappmnaaeihfaaDiskDo
namespace Go.Proofs.Ytbappmnaaeihfaa
open Go.RowKit
namespace Dk
/-- What is kept is a beginning of what is durable. -/
def Safe (D : MD) (sf : Nat → Str) : Prop := ∀ f, f < 8 → sf f <+: (D.text f).take (D.dur f)
/-- All is durable. -/
def Full (D : MD) : Prop := ∀ f, f < 8 → D.dur f = (D.text f).length
theorem Safe.text {D : MD} {sf : Nat → Str} (h : Safe D sf) {f : Nat} (hf : f < 8) : sf f <+: D.text f := (h f hf).trans (List.take_prefix _ _)
theorem crash_full {D : MD} (h : D.Ok) (k : Nat → Int) : Full (D.crash k) := fun f hf => by
  have := cutAt_le D h k hf
  show D.cutAt k f = ((D.text f).take (D.cutAt k f)).length
  rw [List.length_take]
  omega
theorem crash_safe {D : MD} {sf : Nat → Str} (h : D.Ok) (hs : Safe D sf) (k : Nat → Int) : Safe (D.crash k) sf := fun f hf => by
  have h1 := crash_full h k f hf
  rw [h1, List.take_length]
  refine (hs f hf).trans ?_
  show _ <+: (D.text f).take (D.cutAt k f)
  have := (cutAt_le D h k hf).1
  rw [show D.dur f = min (D.dur f) (D.cutAt k f) by omega, ← List.take_take]
  exact List.take_prefix _ _
theorem tick_safe {D : MD} {sf : Nat → Str} (h : D.Ok) (hs : Safe D sf) : Safe D.tick sf := by
  unfold MD.tick
  split
  · exact hs
  · split
    · exact crash_safe h hs _
    · exact hs
theorem tick_full {D : MD} (h : D.Ok) (hd : D.down = false) (ht : D.tick.down = true) : Full D.tick := by
  unfold MD.tick at *
  split at ht
  · rw [hd] at ht; cases ht
  · rename_i h0
    rw [if_neg h0]
    split at ht
    · rename_i h1
      rw [if_pos h1]
      exact crash_full h _
    · have : D.down = true := ht
      rw [hd] at this; cases this
theorem tick_down {D : MD} (h : D.down = true) : D.tick = D := by unfold MD.tick; rw [if_pos (.inl h)]
theorem put_safe {D : MD} {sf : Nat → Str} (h : D.Ok) (hs : Safe D sf) (i : Nat) (s : Str) : Safe (D.put i s) sf := fun f hf => by
  show _ <+: (upd D.text i (D.text i ++ s) f).take (D.dur f)
  by_cases e : f = i
  · subst e
    rw [upd_same, List.take_append_of_le_length (h.dur f hf)]
    exact hs f hf
  · rw [upd_other _ _ e]
    exact hs f hf
theorem chk1_zero {D : MD} {f : Int} (h : D.chk1 f = 0) : D.down = false ∧ isF f = true := by
  unfold MD.chk1 at h
  cases hd : D.down <;> cases hf : isF f <;> simp [hd, hf] at h ⊢
theorem chk2_zero {D : MD} {f g : Int} (h : D.chk2 f g = 0) : D.down = false ∧ isF f = true ∧ isF g = true := by
  unfold MD.chk2 at h
  cases hd : D.down <;> cases hf : isF f <;> cases hg : isF g <;> simp [hd, hf, hg] at h ⊢
theorem app_safe {D : MD} {sf : Nat → Str} (h : D.Ok) (hs : Safe D sf) (f : Int) (s : Str) : Safe (D.app f s).2 sf ∧ (D.down = false → (D.app f s).2.down = true → Full (D.app f s).2) := by
  have h1 : (D.app1 f s).Ok ∧ Safe (D.app1 f s) sf ∧ (D.app1 f s).down = D.down := by
    unfold MD.app1
    split
    · rename_i he
      have h2 : D.chk1 f = 0 := by
        unfold MD.appE at he
        split at he
        · contradiction
        · rename_i h3; exact Decidable.byContradiction fun h4 => h3 h4
      obtain ⟨_, hf⟩ := chk1_zero h2
      have hl : (D.text f.toNat).length + s.length ≤ 16777216 := by
        unfold MD.appE at he
        rw [if_neg (by rw [h2]; decide)] at he
        split at he
        · cases he
        · rename_i h3
          unfold MD.size at h3
          rw [if_pos hf] at h3
          omega
      exact ⟨put_ok h hl, put_safe h hs _ s, rfl⟩
    · exact ⟨h, hs, rfl⟩
  exact ⟨tick_safe h1.1 h1.2.1, fun hd ht => tick_full h1.1 (h1.2.2.trans hd) ht⟩
theorem prefix_take {a b : Str} (h : a <+: b) (n : Nat) : a.take n <+: b.take n := by
  obtain ⟨t, rfl⟩ := h
  rw [List.take_append]
  exact List.prefix_append _ _
theorem flush_safe {D : MD} {sf : Nat → Str} (h : D.Ok) (hs : Safe D sf) (f : Int) :
    ((D.flush f).1 ≠ 0 → Safe (D.flush f).2 sf ∧ (D.down = false → (D.flush f).2.down = true → Full (D.flush f).2)) ∧
    ((D.flush f).1 = 0 → isF f = true ∧ D.down = false ∧ (D.flush f).2.down = false ∧ Safe (D.flush f).2 (upd sf f.toNat ((D.flush f).2.text f.toNat))) := by
  have ht := tick_safe h hs
  have hk := tick_ok h
  have hfu := fun hd h1 => tick_full h hd h1
  unfold MD.flush
  cases hh : D.hit with
  | true => exact ⟨fun _ => ⟨ht, hfu⟩, fun h0 => by cases h0⟩
  | false =>
    have hdd : D.tick.down = false → D.down = false := fun h1 => by
      cases hd : D.down with
      | false => rfl
      | true => rw [tick_down hd, hd] at h1; cases h1
    generalize D.tick = T at *
    simp only [if_neg (show ¬ (false = true) by decide)]
    unfold MD.flush1
    split
    · exact ⟨fun _ => ⟨ht, hfu⟩, fun h0 => by contradiction⟩
    · rename_i hc
      obtain ⟨hd, hf⟩ := chk1_zero (Decidable.byContradiction fun h4 => hc h4)
      split
      · exact ⟨fun _ => ⟨ht, fun _ h1 => by have : T.down = true := h1; rw [hd] at this; cases this⟩, fun h0 => by cases h0⟩
      · refine ⟨fun h0 => absurd rfl h0, fun _ => ⟨hf, hdd hd, hd, fun i hi => ?_⟩⟩
        show upd sf f.toNat (T.text f.toNat) i <+: (T.text i).take (upd T.dur f.toNat (T.text f.toNat).length i)
        by_cases e : i = f.toNat
        · rw [e, upd_same, upd_same, List.take_length]
          exact List.prefix_refl _
        · rw [upd_other _ _ e, upd_other _ _ e]
          exact ht i hi
theorem cut_safe {D : MD} {sf : Nat → Str} (h : D.Ok) (hs : Safe D sf) (f n : Int) :
    ((D.cut f n).1 ≠ 0 → Safe (D.cut f n).2 sf ∧ (D.down = false → (D.cut f n).2.down = true → Full (D.cut f n).2)) ∧
    ((D.cut f n).1 = 0 → isF f = true ∧ 0 ≤ n ∧ D.down = false ∧ (D.cut f n).2.down = false ∧ Safe (D.cut f n).2 (upd sf f.toNat ((sf f.toNat).take n.toNat))) := by
  have ht := tick_safe h hs
  have hk := tick_ok h
  have hfu := fun hd h1 => tick_full h hd h1
  unfold MD.cut
  cases hh : D.hit with
  | true => exact ⟨fun _ => ⟨ht, hfu⟩, fun h0 => by cases h0⟩
  | false =>
    have hdd : D.tick.down = false → D.down = false := fun h1 => by
      cases hd : D.down with
      | false => rfl
      | true => rw [tick_down hd, hd] at h1; cases h1
    generalize D.tick = T at *
    simp only [if_neg (show ¬ (false = true) by decide)]
    unfold MD.cut1
    split
    · exact ⟨fun _ => ⟨ht, hfu⟩, fun h0 => by contradiction⟩
    · rename_i hc
      obtain ⟨hd, hf⟩ := chk1_zero (Decidable.byContradiction fun h4 => hc h4)
      split
      · exact ⟨fun _ => ⟨ht, hfu⟩, fun h0 => by cases h0⟩
      · rename_i hr
        refine ⟨fun h0 => absurd rfl h0, fun _ => ⟨hf, by omega, hdd hd, hd, fun i hi => ?_⟩⟩
        show upd sf f.toNat ((sf f.toNat).take n.toNat) i <+: (upd T.text f.toNat ((T.text f.toNat).take n.toNat) i).take (upd T.dur f.toNat (min (T.dur f.toNat) n.toNat) i)
        by_cases e : i = f.toNat
        · rw [e] at hi ⊢
          rw [upd_same, upd_same, upd_same, List.take_take, show min (min (T.dur f.toNat) n.toNat) n.toNat = min n.toNat (T.dur f.toNat) by omega, ← List.take_take]
          exact prefix_take (ht _ hi) _
        · rw [upd_other _ _ e, upd_other _ _ e, upd_other _ _ e]
          exact ht i hi
theorem turn_safe {D : MD} {sf : Nat → Str} (h : D.Ok) (hs : Safe D sf) (f g : Int) :
    ((D.turn f g).1 ≠ 0 → Safe (D.turn f g).2 sf ∧ (D.down = false → (D.turn f g).2.down = true → Full (D.turn f g).2)) ∧
    ((D.turn f g).1 = 0 → isF f = true ∧ isF g = true ∧ D.down = false ∧ (D.turn f g).2.down = false ∧ Safe (D.turn f g).2 (upd (upd sf f.toNat (sf g.toNat)) g.toNat [])) := by
  have ht := tick_safe h hs
  have hk := tick_ok h
  have hfu := fun hd h1 => tick_full h hd h1
  unfold MD.turn
  cases hh : D.hit with
  | true => exact ⟨fun _ => ⟨ht, hfu⟩, fun h0 => by cases h0⟩
  | false =>
    have hdd : D.tick.down = false → D.down = false := fun h1 => by
      cases hd : D.down with
      | false => rfl
      | true => rw [tick_down hd, hd] at h1; cases h1
    generalize D.tick = T at *
    simp only [if_neg (show ¬ (false = true) by decide)]
    unfold MD.turn1
    split
    · exact ⟨fun _ => ⟨ht, hfu⟩, fun h0 => by contradiction⟩
    · rename_i hc
      obtain ⟨hd, hf, hg⟩ := chk2_zero (Decidable.byContradiction fun h4 => hc h4)
      split
      · exact ⟨fun _ => ⟨ht, hfu⟩, fun h0 => by cases h0⟩
      · split
        · exact ⟨fun _ => ⟨ht, hfu⟩, fun h0 => by cases h0⟩
        · refine ⟨fun h0 => absurd rfl h0, fun _ => ⟨hf, hg, hdd hd, hd, fun i hi => ?_⟩⟩
          show upd (upd sf f.toNat (sf g.toNat)) g.toNat [] i <+: (upd (upd T.text f.toNat (T.text g.toNat)) g.toNat [] i).take (upd (upd T.dur f.toNat (T.dur g.toNat)) g.toNat 0 i)
          by_cases e : i = g.toNat
          · rw [e, upd_same, upd_same]
            exact List.nil_prefix
          · rw [upd_other _ _ e, upd_other _ _ e, upd_other _ _ e]
            by_cases e2 : i = f.toNat
            · rw [e2, upd_same, upd_same, upd_same]
              exact ht _ (isF_nat hg).1
            · rw [upd_other _ _ e2, upd_other _ _ e2, upd_other _ _ e2]
              exact ht i hi
/-- An operation at which DiskLasts keeps nothing anew. -/
theorem act_safe {D : MD} {sf : Nat → Str} (h : D.Ok) (hs : Safe D sf) (a : Ac) (hk : (a.Do % 11 = 2 ∨ a.Do % 11 = 3 ∨ a.Do % 11 = 4) → (D.act a).1.2 ≠ 0) :
    Safe (D.act a).2 sf ∧ (D.down = false → (D.act a).2.down = true → Full (D.act a).2) := by
  unfold MD.act at *
  split
  · exact app_safe h hs _ _
  · rename_i h0
    rw [if_neg h0] at hk
    split
    · rename_i h1
      rw [if_pos h1] at hk
      exact (flush_safe h hs _).1 (hk (.inl h1))
    · rename_i h1
      rw [if_neg h1] at hk
      split
      · rename_i h2
        rw [if_pos h2] at hk
        exact (cut_safe h hs _ _).1 (hk (.inr (.inl h2)))
      · rename_i h2
        rw [if_neg h2] at hk
        split
        · rename_i h3
          rw [if_pos h3] at hk
          exact (turn_safe h hs _ _).1 (hk (.inr (.inr h3)))
        · split
          · refine ⟨?_, fun hd _ => ?_⟩
            · show Safe (D.Crash a.K) sf
              unfold MD.Crash
              split
              · exact hs
              · exact crash_safe h hs _
            · show Full (D.Crash a.K)
              unfold MD.Crash
              rw [if_neg (by simp [hd])]
              exact crash_full h _
          · split
            · exact ⟨hs, fun hd ht => by have : D.down = true := ht; rw [hd] at this; cases this⟩
            · split
              · exact ⟨hs, fun hd ht => by cases ht⟩
              · split
                · exact ⟨hs, fun hd ht => by have : D.down = true := ht; rw [hd] at this; cases this⟩
                · split
                  · refine ⟨?_, fun hd ht => ?_⟩
                    · show Safe (D.arm a.N a.K) sf
                      unfold MD.arm
                      split <;> exact hs
                    · have : D.down = true := by
                        have h5 : (D.arm a.N a.K).down = true := ht
                        unfold MD.arm at h5
                        split at h5 <;> exact h5
                      rw [hd] at this; cases this
                  · exact ⟨hs, fun hd ht => by have : D.down = true := ht; rw [hd] at this; cases this⟩
theorem act_two {D : MD} {a : Ac} (h : a.Do % 11 = 2) : D.act a = (([], (D.flush a.F).1), (D.flush a.F).2) := by
  unfold MD.act
  rw [if_neg (by omega), if_pos h]
theorem act_three {D : MD} {a : Ac} (h : a.Do % 11 = 3) : D.act a = (([], (D.cut a.F a.N).1), (D.cut a.F a.N).2) := by
  unfold MD.act
  rw [if_neg (by omega), if_neg (by omega), if_pos h]
theorem act_four {D : MD} {a : Ac} (h : a.Do % 11 = 4) : D.act a = (([], (D.turn a.F a.G).1), (D.turn a.F a.G).2) := by
  unfold MD.act
  rw [if_neg (by omega), if_neg (by omega), if_neg (by omega), if_pos h]
theorem arm_safe {D : MD} {sf : Nat → Str} (hs : Safe D sf) : Safe (D.arm 0 []).start sf := hs
/-- Behind a crash that the law has seen: all is kept. -/
theorem again_safe {D : MD} (hf : Full D) : Safe (D.start.Crash []) D.text := fun f h8 => by
  show D.text f <+: ((D.text f).take (D.start.cutAt (kof []) f)).take (D.start.cutAt (kof []) f)
  have e : D.start.cutAt (kof []) f = (D.text f).length := by
    have := hf f h8
    unfold MD.cutAt
    show D.dur f + min (kof [] f).toNat ((D.text f).length - D.dur f) = _
    simp [kof]
    omega
  rw [e, List.take_length, List.take_length]
  exact List.prefix_refl _
theorem start_read (D : MD) {f : Nat} (h : f < 8) : D.start.read (f : Int) = (D.text f, 0) := by
  unfold MD.read
  rw [show D.start.chk1 (f : Int) = 0 by simp [MD.chk1, MD.start, isF]; omega, if_neg (by decide)]
  rfl
theorem crash_prefix (D : MD) (ks : List Int) (f : Nat) : (D.Crash ks).text f <+: D.text f := by
  unfold MD.Crash
  split
  · exact List.prefix_refl _
  · exact List.take_prefix _ _
end Dk
end Go.Proofs.Ytbappmnaaeihfaa
