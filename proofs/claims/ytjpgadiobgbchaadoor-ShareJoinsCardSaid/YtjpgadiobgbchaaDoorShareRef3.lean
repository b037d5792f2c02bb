/-
  Layer 7: the reference's Join, Fits, Same.
-/
import Derived.Test.YtjpgadiobgbchaaDoorShareRef2
import Derived.Deep.Slices
namespace Go.Proofs.YtjpgadiobgbchaaDoor
open Go.RowKit
namespace Sh
attribute [local go_sem] S3.B_size S3.B_app S3.B_list

/-- What Join hands back. -/
noncomputable def joinP (l : List (Int × Int)) (t : Int) : Int × Bool := if 1 ≤ t ∧ t ≤ l.length ∧ Valid (l.take t.toNat) then (joinV l t.toNat, true) else (0, false)
noncomputable instance (l : List (Int × Int)) (t : Nat) : Decidable (Fit l t) := Classical.propDecidable _
/-- What Fits hands back. -/
noncomputable def fitP (l : List (Int × Int)) (t : Int) : Bool := decide (1 ≤ t ∧ Valid l ∧ Fit l t.toNat)
theorem drop_all {l : List (Int × Int)} {t : Nat} {Q : Int × Int → Prop} : (∀ p ∈ l.drop t, Q p) ↔ ∀ (k : Nat) (h : k < l.length), t ≤ k → Q l[k] := by
  constructor
  · intro h k hk htk
    refine h _ ?_
    rw [List.mem_iff_getElem]
    exact ⟨k - t, by rw [List.length_drop]; omega, by rw [List.getElem_drop]; congr 1; omega⟩
  · intro h p hp
    obtain ⟨i, hi, rfl⟩ := List.mem_iff_getElem.1 hp
    rw [List.length_drop] at hi
    rw [List.getElem_drop]
    exact h _ (by omega) (by omega)
/-- The shares from T on, below j, lie on the polynomial of the first T. -/
def Pass (l : List (Int × Int)) (T j : Nat) : Prop := ∀ (k : Nat) (h : k < l.length), T ≤ k → k < j → Cg (poly (l.take T) l[k].1) l[k].2
noncomputable instance (l : List (Int × Int)) (T j : Nat) : Decidable (Pass l T j) := Classical.propDecidable _

set_option maxHeartbeats 8000000 in
set_option maxRecDepth 100000 in
theorem rjoin_any (A : Option Addr) (l : List (Int × Int)) (cap : Nat) (t : Int) (w : World) (hr : S2.Row w w.heap.size A (Sc l)) (hn : l.length ≤ 1099511627776) (hcap : l.length ≤ cap) :
    Calls Tryd.prog 13 #[.slice A l.length cap, .int .i64 t] w fun e w' => e = .returned (.tuple #[.int .i64 (joinP l t).1, .bool (joinP l t).2]) ∧ Below w.heap.size w w' := by
  have hnl : (l.length : Int) ≤ 1099511627776 := by omega
  by_cases h1 : t < 1
  · have hf : joinP l t = (0, false) := if_neg (fun h => by have := h.1; omega)
    rw [hf]
    clear hf
    go_enter Tryd.func13, Tryd.ntmps13
    go_wp2
    go_ret2
    exact ⟨rfl, Below.refl _ _⟩
  by_cases h2 : (l.length : Int) < t
  · have hf : joinP l t = (0, false) := if_neg (fun h => by have := h.2.1; omega)
    rw [hf]
    clear hf
    go_enter Tryd.func13, Tryd.ntmps13
    go_wp2
    go_ret2
    exact ⟨rfl, Below.refl _ _⟩
  obtain ⟨T, rfl⟩ := Int.eq_ofNat_of_zero_le (show 0 ≤ t by omega)
  obtain ⟨a, rfl, hab, _, _⟩ := row_at hr (show 0 < l.length by omega)
  have hlen : (l.take T).length = T := by rw [List.length_take]; omega
  have k1 := fun w' hb => rvalid_any (some a) (l.take T) cap w' (((row_take hr T).below hb).more hb.size) (by rw [hlen]; omega)
  rw [hlen] at k1
  have hT1 : (T : Int) ≤ (cap : Int) := by omega
  have hT2 : (T : Int) ≤ (l.length : Int) := by omega
  by_cases hv : Valid (l.take T)
  · have hf : joinP l (T : Int) = (joinV l T, true) := if_pos ⟨by omega, by omega, hv⟩
    rw [hf]
    rw [validB_true hv] at k1
    have k2 := fun w' hb => rvalue_any (some a) (l.take T) cap 0 w' (((row_take hr T).below hb).more hb.size) (by rw [hlen]; omega) hv
    rw [hlen] at k2
    have hj : poly (l.take T) 0 % 2305843009213693951 = joinV l T := rfl
    rw [hj] at k2
    generalize joinV l T = r at k2
    have K1 := Lib.hid k1
    have K2 := Lib.hid k2
    clear k1 k2 hf hj hv hr hlen
    go_enter Tryd.func13, Tryd.ntmps13
    go_wp2_with fail
    refine (K1.out w (Below.refl _ _)).mono ?_
    rintro e w1 ⟨rfl, hb⟩
    have HB := Lib.hid hb
    clear hb
    go_wp2_with fail
    refine (K2.out w1 HB.out).mono ?_
    rintro e w2 ⟨rfl, hb⟩
    have HB2 := Lib.hid (HB.out.trans (hb.mono HB.out.size))
    clear hb
    go_wp2
    go_ret2
    exact ⟨rfl, HB2.out⟩
  · have hf : joinP l (T : Int) = (0, false) := if_neg (fun h => hv h.2.2)
    rw [hf]
    have hv2 : validB (l.take T) = false := by unfold validB; exact decide_eq_false hv
    rw [hv2] at k1
    have K1 := Lib.hid k1
    clear k1 hf hv hv2 hr hlen
    go_enter Tryd.func13, Tryd.ntmps13
    go_wp2_with fail
    refine (K1.out w (Below.refl _ _)).mono ?_
    rintro e w1 ⟨rfl, hb⟩
    have HB := Lib.hid hb
    clear hb
    go_wp2
    go_ret2
    exact ⟨rfl, HB.out⟩

set_option maxHeartbeats 8000000 in
set_option maxRecDepth 100000 in
theorem rfits_any (A : Option Addr) (l : List (Int × Int)) (cap : Nat) (t : Int) (w : World) (hr : S2.Row w w.heap.size A (Sc l)) (hn : l.length ≤ 1099511627776) (hcap : l.length ≤ cap) (ht : S4.isI64 t) :
    Calls Tryd.prog 15 #[.slice A l.length cap, .int .i64 t] w fun e w' => e = .returned (.bool (fitP l t)) ∧ Below w.heap.size w w' := by
  have hnl : (l.length : Int) ≤ 1099511627776 := by omega
  unfold S4.isI64 at ht
  by_cases h1 : t < 1
  · have hf : fitP l t = false := decide_eq_false (fun h => by have := h.1; omega)
    rw [hf]
    clear hf
    go_enter Tryd.func15, Tryd.ntmps15
    go_wp2
    go_ret
    exact ⟨rfl, Below.refl _ _⟩
  have k1 := rvalid_any A l cap w hr hn
  by_cases hv : Valid l
  · rw [validB_true hv] at k1
    obtain ⟨T, rfl⟩ := Int.eq_ofNat_of_zero_le (show 0 ≤ t by omega)
    obtain ⟨f, hf⟩ : ∃ f, f = fitP l (T : Int) := ⟨_, rfl⟩
    rw [← hf]
    have hff : f = decide (Pass l T l.length) := by
      rw [hf]
      unfold fitP
      apply decide_eq_decide.2
      rw [Int.toNat_natCast, fit_iff hv.apart, drop_all]
      exact ⟨fun h k hk htk _ => h.2.2 k hk htk, fun h => ⟨by omega, hv, fun k hk htk => h k hk htk hk⟩⟩
    have K1 := Lib.hid k1
    have HF := Lib.hid hff
    have HR := Lib.hid hr
    have HV := Lib.hid hv
    have HT := Lib.hid (show 1 ≤ T by omega)
    clear k1 hf hff hr hv
    go_enter Tryd.func15, Tryd.ntmps15
    go_wp2_with fail
    refine K1.out.mono ?_
    rintro e w1 ⟨rfl, hb⟩
    have HB := Lib.hid hb
    clear hb
    go_wp2
    go_loopw [5] (fun vi wr => ∃ j : Nat, T ≤ j ∧ (j ≤ l.length ∨ j = T) ∧ vi = .int .i64 (j : Int) ∧ Pass l T j ∧ Below w.heap.size w wr) (fun vi _ => l.length - (intOf vi).toNat)
    case atStart => exact ⟨T, Nat.le_refl _, .inr rfl, rfl, fun k _ h1 h2 => absurd h2 (by omega), HB.out⟩
    case round =>
      obtain ⟨j, hTj, hjl, rfl, hok, hbel⟩ := hrel
      have HOK := Lib.hid hok
      clear hok
      by_cases hlt : j < l.length
      · have hlt' : (j : Int) < (l.length : Int) := by omega
        have hbel2 := hbel.drew
        obtain ⟨a, rfl, hab, hx, hy⟩ := row_at (HR.out.below hbel2) hlt
        have hlen : (l.take T).length = T := by rw [List.length_take]; omega
        have hT1 : (T : Int) ≤ (cap : Int) := by omega
        have hT2 : (T : Int) ≤ (l.length : Int) := by omega
        have k1 := fun x => rvalue_any (some a) (l.take T) cap x wr.drew (((row_take HR.out T).below hbel2).more hbel2.size) (by rw [hlen]; omega) (HV.out.take T)
        have k1 := k1 l[j].1
        rw [hlen] at k1
        have hyr := HV.out.y _ (List.getElem_mem hlt)
        have hOKj := fun h : f = true => by
          rw [HF.out] at h
          exact of_decide_eq_true h j hlt hTj hlt
        obtain ⟨p, hp⟩ : ∃ p, p = poly (l.take T) l[j].1 % 2305843009213693951 := ⟨_, rfl⟩
        rw [← hp] at k1
        have hcg : Cg (poly (l.take T) l[j].1) l[j].2 ↔ p = l[j].2 := by
          constructor
          · intro h
            rw [hp]
            have := cg_mod.1 h
            omega
          · intro h
            rw [← h, hp]
            exact (cg_res _).symm
        obtain ⟨x, hxd⟩ : ∃ x, x = l[j].1 := ⟨_, rfl⟩
        obtain ⟨y, hyd⟩ : ∃ x, x = l[j].2 := ⟨_, rfl⟩
        rw [← hxd] at hx k1
        rw [← hyd] at hy hcg
        have K1' : Hid (∀ w', w' = wr.drew → Calls Tryd.prog 32 #[.slice (some a) T cap, .int .i64 x] w' fun e w2 => e = .returned (.int .i64 p) ∧ Below w'.heap.size w' w2) := Lib.hid (fun w' hw => by rw [hw]; exact k1)
        have HCG := Lib.hid hcg
        clear hyr hp hxd hcg k1 hbel hlen
        by_cases hpy : p = y
        · have hpy2 : (p == y) = true := by simpa using hpy
          have HOJ : Hid (Cg (poly (l.take T) l[j].1) l[j].2) := Lib.hid (by rw [← hyd]; exact HCG.out.2 hpy)
          clear hOKj hyd
          go_wp2
          have K1 : Hid (∀ w', w' = wr.drew → Calls Tryd.prog 32 #[.slice (some a) T cap, .int .i64 x] w' fun e w2 => e = .returned (.int .i64 p) ∧ Below w'.heap.size w' w2) := K1'
          refine wp_region_held_drew (S := (fun w' => w'.cell? (a.add (j * 2)) = some (.int .i64 x) ∧ w'.cell? ⟨(a.add (j * 2)).block, (a.add (j * 2)).off + 1, none⟩ = some (.int .i64 y))) (by kernel_rfl) ⟨hx, hy⟩ (fun hHeld => ?_)
          refine wpAnyH_take (i := 0) (oi := ⟨_, _, _, _, _, _⟩) (v := ?_) rfl (by kernel_rfl) (by kernel_rfl) (by kernel_rfl) (fun _ _ _ h => h) (Or.inl ⟨by rfl, ?_⟩) (by assumption) ?_
          rotate_left
          · intro wz hSw
            try dsimp only at hSw
            go_simp
            try with_reducible rfl
          try simp only [Act.put, List.setIfInBounds_toArray, List.set_cons_zero, List.set_cons_succ]
          refine wpAnyH_take (i := 1) (oi := ⟨_, _, _, _, _, _⟩) (v := ?_) rfl (by kernel_rfl) (by kernel_rfl) (by kernel_rfl) (fun _ _ _ h => h) (Or.inl ⟨by rfl, ?_⟩) (by assumption) ?_
          rotate_left
          · intro wz hSw
            try dsimp only at hSw
            go_simp
            try with_reducible rfl
          try simp only [Act.put, List.setIfInBounds_toArray, List.set_cons_zero, List.set_cons_succ]
          refine wpAnyH_take (i := 2) (oi := ⟨_, _, _, _, _, _⟩) (v := ?_) rfl (by kernel_rfl) (by kernel_rfl) (by kernel_rfl) (fun _ _ _ h => h) (Or.inl ⟨by rfl, ?_⟩) (by assumption) ?_
          rotate_left
          · intro wz hSw
            try dsimp only at hSw
            go_simp
            try with_reducible rfl
          try simp only [Act.put, List.setIfInBounds_toArray, List.set_cons_zero, List.set_cons_succ]
          refine wpAnyH_take (i := 3) (oi := ⟨_, _, _, _, _, _⟩) (v := ?_) rfl (by kernel_rfl) (by kernel_rfl) (by kernel_rfl) (fun _ _ _ h => h) (Or.inl ⟨by rfl, ?_⟩) (by assumption) ?_
          rotate_left
          · intro wz hSw
            try dsimp only at hSw
            go_simp
            try with_reducible rfl
          try simp only [Act.put, List.setIfInBounds_toArray, List.set_cons_zero, List.set_cons_succ]
          refine wpAnyH_take (i := 4) (oi := ⟨_, _, _, _, _, _⟩) (v := ?_) rfl (by kernel_rfl) (by kernel_rfl) (by kernel_rfl) (fun _ _ _ h => h) (Or.inl ⟨by rfl, ?_⟩) (by assumption) ?_
          rotate_left
          · intro wz hSw
            try dsimp only at hSw
            go_simp
            try with_reducible rfl
          try simp only [Act.put, List.setIfInBounds_toArray, List.set_cons_zero, List.set_cons_succ]
          refine wpAnyH_take (i := 5) (oi := ⟨_, _, _, _, _, _⟩) (v := ?_) rfl (by kernel_rfl) (by kernel_rfl) (by kernel_rfl) (fun _ _ _ h => h) (Or.inl ⟨by rfl, ?_⟩) (by assumption) ?_
          rotate_left
          · intro wz hSw
            try dsimp only at hSw
            go_simp
            try with_reducible rfl
          try simp only [Act.put, List.setIfInBounds_toArray, List.set_cons_zero, List.set_cons_succ]
          refine wpAnyH_take (i := 6) (oi := ⟨_, _, _, _, _, _⟩) (v := ?_) rfl (by kernel_rfl) (by kernel_rfl) (by kernel_rfl) (fun _ _ _ h => h) (Or.inl ⟨by rfl, ?_⟩) (by assumption) ?_
          rotate_left
          · intro wz hSw
            try dsimp only at hSw
            go_simp
            try with_reducible rfl
          try simp only [Act.put, List.setIfInBounds_toArray, List.set_cons_zero, List.set_cons_succ]
          refine wpAnyH_take (i := 7) (oi := ⟨_, _, _, _, _, _⟩) (v := ?_) rfl (by kernel_rfl) (by kernel_rfl) (by kernel_rfl) (fun _ _ _ h => h) (Or.inl ⟨by rfl, ?_⟩) (by assumption) ?_
          rotate_left
          · intro wz hSw
            try dsimp only at hSw
            go_simp
            try with_reducible rfl
          try simp only [Act.put, List.setIfInBounds_toArray, List.set_cons_zero, List.set_cons_succ]
          refine wpAnyH_take (i := 9) (oi := ⟨_, _, _, _, _, _⟩) (v := ?_) rfl (by kernel_rfl) (by kernel_rfl) (by kernel_rfl) (fun _ _ _ h => h) (Or.inl ⟨by rfl, ?_⟩) (by assumption) ?_
          rotate_left
          · intro wz hSw
            try dsimp only at hSw
            go_simp
            try with_reducible rfl
          try simp only [Act.put, List.setIfInBounds_toArray, List.set_cons_zero, List.set_cons_succ]
          refine wpAnyH_take (i := 10) (oi := ⟨_, _, _, _, _, _⟩) (v := ?_) rfl (by kernel_rfl) (by kernel_rfl) (by kernel_rfl) (fun _ _ _ h => h) (Or.inl ⟨by rfl, ?_⟩) (by assumption) ?_
          rotate_left
          · intro wz hSw
            try dsimp only at hSw
            go_simp
            try with_reducible rfl
          try simp only [Act.put, List.setIfInBounds_toArray, List.set_cons_zero, List.set_cons_succ]
          refine wpAnyH_take (i := 11) (oi := ⟨_, _, _, _, _, _⟩) (v := ?_) rfl (by kernel_rfl) (by kernel_rfl) (by kernel_rfl) (fun _ _ _ h => h) (Or.inl ⟨by rfl, ?_⟩) (by assumption) ?_
          rotate_left
          · intro wz hSw
            try dsimp only at hSw
            go_simp
            try with_reducible rfl
          try simp only [Act.put, List.setIfInBounds_toArray, List.set_cons_zero, List.set_cons_succ]
          refine wpAnyH_take (i := 12) (oi := ⟨_, _, _, _, _, _⟩) (v := ?_) rfl (by kernel_rfl) (by kernel_rfl) (by kernel_rfl) (fun _ _ _ h => h) (Or.inl ⟨by rfl, ?_⟩) (by assumption) ?_
          rotate_left
          · intro wz hSw
            try dsimp only at hSw
            go_simp
            try with_reducible rfl
          try simp only [Act.put, List.setIfInBounds_toArray, List.set_cons_zero, List.set_cons_succ]
          refine wpAnyH_take (i := 13) (oi := ⟨_, _, _, _, _, _⟩) (v := ?_) rfl (by kernel_rfl) (by kernel_rfl) (by kernel_rfl) (fun _ _ _ h => h) (Or.inl ⟨by rfl, ?_⟩) (by assumption) ?_
          rotate_left
          · intro wz hSw
            try dsimp only at hSw
            go_simp
            try with_reducible rfl
          try simp only [Act.put, List.setIfInBounds_toArray, List.set_cons_zero, List.set_cons_succ]
          refine wpAnyH_ready (rs := [8]) (by kernel_rfl) (by simp) ?_
          refine AllReadyH.cons (o := ⟨_, _, _, _, _, _⟩) rfl (fun K hK => ?_) AllReadyH.nil
          go_simp
          refine (K1.out _ rfl).mono ?_
          rintro e wk ⟨rfl, hb⟩
          have hb4 := Lib.hid (hbel2.trans (hb.mono hbel2.size))
          have hx3 := (hb.cell (p := a.add (j * 2)) (by rw [S2.add_block]; exact Nat.lt_of_lt_of_le hab hbel2.size)).trans hx
          have hy3 := (hb.cell (p := ⟨(a.add (j * 2)).block, (a.add (j * 2)).off + 1, none⟩) (by rw [S2.add_block]; exact Nat.lt_of_lt_of_le hab hbel2.size)).trans hy
          clear hb hHeld
          refine hK.out _ _ ⟨hx3, hy3⟩ (fun hHeld => ?_)
          clear hK K
          try simp only [Act.put, List.setIfInBounds_toArray, List.set_cons_zero, List.set_cons_succ]
          refine wpAnyH_take (i := 14) (oi := ⟨_, _, _, _, _, _⟩) (v := ?_) rfl (by kernel_rfl) (by kernel_rfl) (by kernel_rfl) (fun _ _ _ h => h) (Or.inl ⟨by rfl, ?_⟩) (by assumption) ?_
          rotate_left
          · intro wz hSw
            try dsimp only at hSw
            go_simp
            try with_reducible rfl
          try simp only [Act.put, List.setIfInBounds_toArray, List.set_cons_zero, List.set_cons_succ]
          refine wpAnyH_done (by kernel_rfl) ?_ _
          clear hHeld
          go_wp2
          go_roundw
          case rel => exact ⟨j + 1, by omega, .inl hlt, by go_num, fun k h hk1 hk2 => by
            rcases Nat.lt_or_ge k j with h2 | h2
            · exact HOK.out k h hk1 h2
            · obtain rfl : k = j := by omega
              exact HOJ.out, hb4.out⟩
          case measure => simp [intOf]; omega
        · have hpy2 : (p == y) = false := by simpa using hpy
          have hff : f = false := by
            cases f with
            | true => exact absurd (HCG.out.1 (by rw [hyd]; exact hOKj rfl)) hpy
            | false => rfl
          obtain rfl := hff
          clear hOKj hyd
          go_wp2
          have K1 : Hid (∀ w', w' = wr.drew → Calls Tryd.prog 32 #[.slice (some a) T cap, .int .i64 x] w' fun e w2 => e = .returned (.int .i64 p) ∧ Below w'.heap.size w' w2) := K1'
          refine wp_region_held_drew (S := (fun w' => w'.cell? (a.add (j * 2)) = some (.int .i64 x) ∧ w'.cell? ⟨(a.add (j * 2)).block, (a.add (j * 2)).off + 1, none⟩ = some (.int .i64 y))) (by kernel_rfl) ⟨hx, hy⟩ (fun hHeld => ?_)
          refine wpAnyH_take (i := 0) (oi := ⟨_, _, _, _, _, _⟩) (v := ?_) rfl (by kernel_rfl) (by kernel_rfl) (by kernel_rfl) (fun _ _ _ h => h) (Or.inl ⟨by rfl, ?_⟩) (by assumption) ?_
          rotate_left
          · intro wz hSw
            try dsimp only at hSw
            go_simp
            try with_reducible rfl
          try simp only [Act.put, List.setIfInBounds_toArray, List.set_cons_zero, List.set_cons_succ]
          refine wpAnyH_take (i := 1) (oi := ⟨_, _, _, _, _, _⟩) (v := ?_) rfl (by kernel_rfl) (by kernel_rfl) (by kernel_rfl) (fun _ _ _ h => h) (Or.inl ⟨by rfl, ?_⟩) (by assumption) ?_
          rotate_left
          · intro wz hSw
            try dsimp only at hSw
            go_simp
            try with_reducible rfl
          try simp only [Act.put, List.setIfInBounds_toArray, List.set_cons_zero, List.set_cons_succ]
          refine wpAnyH_take (i := 2) (oi := ⟨_, _, _, _, _, _⟩) (v := ?_) rfl (by kernel_rfl) (by kernel_rfl) (by kernel_rfl) (fun _ _ _ h => h) (Or.inl ⟨by rfl, ?_⟩) (by assumption) ?_
          rotate_left
          · intro wz hSw
            try dsimp only at hSw
            go_simp
            try with_reducible rfl
          try simp only [Act.put, List.setIfInBounds_toArray, List.set_cons_zero, List.set_cons_succ]
          refine wpAnyH_take (i := 3) (oi := ⟨_, _, _, _, _, _⟩) (v := ?_) rfl (by kernel_rfl) (by kernel_rfl) (by kernel_rfl) (fun _ _ _ h => h) (Or.inl ⟨by rfl, ?_⟩) (by assumption) ?_
          rotate_left
          · intro wz hSw
            try dsimp only at hSw
            go_simp
            try with_reducible rfl
          try simp only [Act.put, List.setIfInBounds_toArray, List.set_cons_zero, List.set_cons_succ]
          refine wpAnyH_take (i := 4) (oi := ⟨_, _, _, _, _, _⟩) (v := ?_) rfl (by kernel_rfl) (by kernel_rfl) (by kernel_rfl) (fun _ _ _ h => h) (Or.inl ⟨by rfl, ?_⟩) (by assumption) ?_
          rotate_left
          · intro wz hSw
            try dsimp only at hSw
            go_simp
            try with_reducible rfl
          try simp only [Act.put, List.setIfInBounds_toArray, List.set_cons_zero, List.set_cons_succ]
          refine wpAnyH_take (i := 5) (oi := ⟨_, _, _, _, _, _⟩) (v := ?_) rfl (by kernel_rfl) (by kernel_rfl) (by kernel_rfl) (fun _ _ _ h => h) (Or.inl ⟨by rfl, ?_⟩) (by assumption) ?_
          rotate_left
          · intro wz hSw
            try dsimp only at hSw
            go_simp
            try with_reducible rfl
          try simp only [Act.put, List.setIfInBounds_toArray, List.set_cons_zero, List.set_cons_succ]
          refine wpAnyH_take (i := 6) (oi := ⟨_, _, _, _, _, _⟩) (v := ?_) rfl (by kernel_rfl) (by kernel_rfl) (by kernel_rfl) (fun _ _ _ h => h) (Or.inl ⟨by rfl, ?_⟩) (by assumption) ?_
          rotate_left
          · intro wz hSw
            try dsimp only at hSw
            go_simp
            try with_reducible rfl
          try simp only [Act.put, List.setIfInBounds_toArray, List.set_cons_zero, List.set_cons_succ]
          refine wpAnyH_take (i := 7) (oi := ⟨_, _, _, _, _, _⟩) (v := ?_) rfl (by kernel_rfl) (by kernel_rfl) (by kernel_rfl) (fun _ _ _ h => h) (Or.inl ⟨by rfl, ?_⟩) (by assumption) ?_
          rotate_left
          · intro wz hSw
            try dsimp only at hSw
            go_simp
            try with_reducible rfl
          try simp only [Act.put, List.setIfInBounds_toArray, List.set_cons_zero, List.set_cons_succ]
          refine wpAnyH_take (i := 9) (oi := ⟨_, _, _, _, _, _⟩) (v := ?_) rfl (by kernel_rfl) (by kernel_rfl) (by kernel_rfl) (fun _ _ _ h => h) (Or.inl ⟨by rfl, ?_⟩) (by assumption) ?_
          rotate_left
          · intro wz hSw
            try dsimp only at hSw
            go_simp
            try with_reducible rfl
          try simp only [Act.put, List.setIfInBounds_toArray, List.set_cons_zero, List.set_cons_succ]
          refine wpAnyH_take (i := 10) (oi := ⟨_, _, _, _, _, _⟩) (v := ?_) rfl (by kernel_rfl) (by kernel_rfl) (by kernel_rfl) (fun _ _ _ h => h) (Or.inl ⟨by rfl, ?_⟩) (by assumption) ?_
          rotate_left
          · intro wz hSw
            try dsimp only at hSw
            go_simp
            try with_reducible rfl
          try simp only [Act.put, List.setIfInBounds_toArray, List.set_cons_zero, List.set_cons_succ]
          refine wpAnyH_take (i := 11) (oi := ⟨_, _, _, _, _, _⟩) (v := ?_) rfl (by kernel_rfl) (by kernel_rfl) (by kernel_rfl) (fun _ _ _ h => h) (Or.inl ⟨by rfl, ?_⟩) (by assumption) ?_
          rotate_left
          · intro wz hSw
            try dsimp only at hSw
            go_simp
            try with_reducible rfl
          try simp only [Act.put, List.setIfInBounds_toArray, List.set_cons_zero, List.set_cons_succ]
          refine wpAnyH_take (i := 12) (oi := ⟨_, _, _, _, _, _⟩) (v := ?_) rfl (by kernel_rfl) (by kernel_rfl) (by kernel_rfl) (fun _ _ _ h => h) (Or.inl ⟨by rfl, ?_⟩) (by assumption) ?_
          rotate_left
          · intro wz hSw
            try dsimp only at hSw
            go_simp
            try with_reducible rfl
          try simp only [Act.put, List.setIfInBounds_toArray, List.set_cons_zero, List.set_cons_succ]
          refine wpAnyH_take (i := 13) (oi := ⟨_, _, _, _, _, _⟩) (v := ?_) rfl (by kernel_rfl) (by kernel_rfl) (by kernel_rfl) (fun _ _ _ h => h) (Or.inl ⟨by rfl, ?_⟩) (by assumption) ?_
          rotate_left
          · intro wz hSw
            try dsimp only at hSw
            go_simp
            try with_reducible rfl
          try simp only [Act.put, List.setIfInBounds_toArray, List.set_cons_zero, List.set_cons_succ]
          refine wpAnyH_ready (rs := [8]) (by kernel_rfl) (by simp) ?_
          refine AllReadyH.cons (o := ⟨_, _, _, _, _, _⟩) rfl (fun K hK => ?_) AllReadyH.nil
          go_simp
          refine (K1.out _ rfl).mono ?_
          rintro e wk ⟨rfl, hb⟩
          have hb4 := Lib.hid (hbel2.trans (hb.mono hbel2.size))
          have hx3 := (hb.cell (p := a.add (j * 2)) (by rw [S2.add_block]; exact Nat.lt_of_lt_of_le hab hbel2.size)).trans hx
          have hy3 := (hb.cell (p := ⟨(a.add (j * 2)).block, (a.add (j * 2)).off + 1, none⟩) (by rw [S2.add_block]; exact Nat.lt_of_lt_of_le hab hbel2.size)).trans hy
          clear hb hHeld
          refine hK.out _ _ ⟨hx3, hy3⟩ (fun hHeld => ?_)
          clear hK K
          try simp only [Act.put, List.setIfInBounds_toArray, List.set_cons_zero, List.set_cons_succ]
          refine wpAnyH_take (i := 14) (oi := ⟨_, _, _, _, _, _⟩) (v := ?_) rfl (by kernel_rfl) (by kernel_rfl) (by kernel_rfl) (fun _ _ _ h => h) (Or.inl ⟨by rfl, ?_⟩) (by assumption) ?_
          rotate_left
          · intro wz hSw
            try dsimp only at hSw
            go_simp
            try with_reducible rfl
          try simp only [Act.put, List.setIfInBounds_toArray, List.set_cons_zero, List.set_cons_succ]
          refine wpAnyH_done (by kernel_rfl) ?_ _
          clear hHeld
          go_wp2
          go_ret
          exact ⟨rfl, hb4.out⟩
      · have hge : (l.length : Int) ≤ (j : Int) := by omega
        have hff : f = true := by
          rw [HF.out]
          exact decide_eq_true (fun k h hk _ => HOK.out k h hk (by omega))
        obtain rfl := hff
        go_wp2
        go_ret
        exact ⟨rfl, hbel⟩
  · have hv2 : validB l = false := by unfold validB; exact decide_eq_false hv
    have hf : fitP l t = false := decide_eq_false (fun h => hv h.2.1)
    rw [hf]
    rw [hv2] at k1
    have K1 := Lib.hid k1
    clear k1 hf hv hv2 hr
    go_enter Tryd.func15, Tryd.ntmps15
    go_wp2_with fail
    refine K1.out.mono ?_
    rintro e w1 ⟨rfl, hb⟩
    have HB := Lib.hid hb
    clear hb
    go_wp2
    go_ret
    exact ⟨rfl, HB.out⟩
end Sh
end Go.Proofs.YtjpgadiobgbchaaDoor
