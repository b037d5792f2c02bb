/-
  Layer 12: slices.Equal and slices.Clone.
-/
import Derived.Test.YtojbicpchjiplaaGreatDoorActLc
import Derived.Lib.SliceRun
namespace Go.Proofs.YtojbicpchjiplaaGreatDoor
open Go.RowKit
namespace Ld
open Ax
open S11.Idt (Str isId isName ids)
attribute [local go_sem] S2.B_size S2.B_list S2.B_app S2.B_take litE
set_option maxHeartbeats 4000000 in
set_option maxRecDepth 100000 in
theorem eqS_any (A A' : Option Addr) (l l' : List Str) (n c n' c' : Nat) (r : Bool) (w : World) (hn : n = l.length) (hn' : n' = l'.length) (hr : S2.Row w w.heap.size A (S2.Ss l)) (hr' : S2.Row w w.heap.size A' (S2.Ss l')) (hb : n ≤ 1000000) (hb' : n' ≤ 1000000) (he : r = true ↔ l = l') :
    Calls Tryz.prog 64 #[.slice A n c, .slice A' n' c'] w fun x w' => x = .returned (.bool r) ∧ Below w.heap.size w w' := by
  have hbI : (n : Int) ≤ 1000000 := by omega
  have hbI' : (n' : Int) ≤ 1000000 := by omega
  by_cases hl : n = n'
  rotate_left
  · have hlI : ((n : Int) == (n' : Int)) = false := beq_eq_false_iff_ne.2 (by omega)
    have hlN : ((n : Int) != (n' : Int)) = true := by rw [bne, hlI]; rfl
    have hrf : r = false := by
      cases r with
      | false => rfl
      | true => exact absurd (by rw [hn, hn', he.1 rfl]) hl
    subst hrf
    clear hn hn' hr hr' hb hb' he hl
    go_enter Tryz.func64, Tryz.ntmps64
    go_wp2
    go_ret
    exact ⟨rfl, Below.refl _ _⟩
  subst hl
  have hlN : ((n : Int) != (n : Int)) = false := by simp
  have HN := Lib.hid hn
  have HN' := Lib.hid hn'
  have HR := Lib.hid hr
  have HR' := Lib.hid hr'
  have HE := Lib.hid he
  clear hn hn' hr hr' hb hb' he hbI'
  go_enter Tryz.func64, Tryz.ntmps64
  go_wp2_with fail
  clear hlN
  go_loopw [13] (fun i wr => ∃ k : Nat, i = .int .i64 (k : Int) ∧ k ≤ n ∧ l.take k = l'.take k ∧ Below w.heap.size w wr) (fun i _ => n - (intOf i).toNat)
  case atStart => exact ⟨0, rfl, Nat.zero_le _, by simp, Below.refl _ _⟩
  case round =>
    obtain ⟨k, rfl, hk, ht, hbw⟩ := hrel
    have HT := Lib.hid ht
    have HB := Lib.hid (Lk.At.mk hbw)
    clear ht hbw
    by_cases hc : k < n
    · have hcI : (k : Int) < (n : Int) := by omega
      have hkb : (k : Int) ≤ 1000000 := by omega
      have hk1 : k < l.length := by have := HN.out; omega
      have hk2 : k < l'.length := by have := HN'.out; omega
      obtain ⟨a, rfl, _, hca⟩ := (HR.out.below HB.out.bel).str hk1
      obtain ⟨b, rfl, _, hcb⟩ := (HR'.out.below HB.out.bel).str hk2
      obtain ⟨x, hx⟩ : ∃ x, x = l[k] := ⟨_, rfl⟩
      obtain ⟨y, hy⟩ : ∃ y, y = l'[k] := ⟨_, rfl⟩
      rw [← hx] at hca
      rw [← hy] at hcb
      have hyes : x = y → l.take (k + 1) = l'.take (k + 1) := fun h => by
        rw [List.take_succ_eq_append_getElem hk1, List.take_succ_eq_append_getElem hk2, HT.out, ← hx, ← hy, h]
      have hno : x ≠ y → r = false := fun h => by
        cases hrr : r with
        | false => rfl
        | true =>
          have e := HE.out.1 hrr
          subst e
          exact absurd (hx.trans hy.symm) h
      have HY := Lib.hid hyes
      have HNO := Lib.hid hno
      have q0 := Lib.hid (show World.cell? wr (a.add k) = some (.string (S2.B x)) from hca)
      have q1 := Lib.hid (show World.cell? wr (b.add k) = some (.string (S2.B y)) from hcb)
      clear hyes hno hx hy hca hcb hk
      by_cases he : x = y
      · have HX := Lib.hid (HY.out he)
        subst he
        clear HY HNO
        go_wp2_with fail
        replace HB := Lib.hid HB.out.drew
        refine wp_region_held_drew (S := (fun w' => w'.cell? (a.add k) = some (.string (S2.B x)) ∧ w'.cell? (b.add k) = some (.string (S2.B x)))) (by kernel_rfl) ⟨q0.out, q1.out⟩ (fun hHeld => ?_)
        refine wpAnyH_take (i := 0) (oi := ⟨_, _, _, _, _, _⟩) (v := ?_) rfl (by kernel_rfl) (by kernel_rfl) (by kernel_rfl) (fun _ _ _ h => h) (Or.inl ⟨by rfl, ?_⟩) (by assumption) ?_
        rotate_left
        · intro wz hSw
          try dsimp only at hSw
          go_simp
          try with_reducible rfl
        try simp only [Act.put, List.setIfInBounds_toArray, List.set_cons_zero, List.set_cons_succ]
        refine wpAnyH_take (i := 1) (oi := ⟨_, _, _, _, _, _⟩) (v := ?_) rfl (by kernel_rfl) (by kernel_rfl) (by kernel_rfl) (fun _ _ _ h => h) (Or.inl ⟨by rfl, ?_⟩) (by assumption) ?_
        rotate_left
        · intro wz hSw
          try dsimp only at hSw
          go_simp
          try with_reducible rfl
        try simp only [Act.put, List.setIfInBounds_toArray, List.set_cons_zero, List.set_cons_succ]
        refine wpAnyH_take (i := 2) (oi := ⟨_, _, _, _, _, _⟩) (v := ?_) rfl (by kernel_rfl) (by kernel_rfl) (by kernel_rfl) (fun _ _ _ h => h) (Or.inl ⟨by rfl, ?_⟩) (by assumption) ?_
        rotate_left
        · intro wz hSw
          try dsimp only at hSw
          go_simp
          try with_reducible rfl
        try simp only [Act.put, List.setIfInBounds_toArray, List.set_cons_zero, List.set_cons_succ]
        refine wpAnyH_take (i := 3) (oi := ⟨_, _, _, _, _, _⟩) (v := ?_) rfl (by kernel_rfl) (by kernel_rfl) (by kernel_rfl) (fun _ _ _ h => h) (Or.inl ⟨by rfl, ?_⟩) (by assumption) ?_
        rotate_left
        · intro wz hSw
          try dsimp only at hSw
          go_simp
          try with_reducible rfl
        try simp only [Act.put, List.setIfInBounds_toArray, List.set_cons_zero, List.set_cons_succ]
        refine wpAnyH_take (i := 4) (oi := ⟨_, _, _, _, _, _⟩) (v := ?_) rfl (by kernel_rfl) (by kernel_rfl) (by kernel_rfl) (fun _ _ _ h => h) (Or.inl ⟨by rfl, ?_⟩) (by assumption) ?_
        rotate_left
        · intro wz hSw
          try dsimp only at hSw
          go_simp
          try with_reducible rfl
        try simp only [Act.put, List.setIfInBounds_toArray, List.set_cons_zero, List.set_cons_succ]
        refine wpAnyH_take (i := 5) (oi := ⟨_, _, _, _, _, _⟩) (v := ?_) rfl (by kernel_rfl) (by kernel_rfl) (by kernel_rfl) (fun _ _ _ h => h) (Or.inl ⟨by rfl, ?_⟩) (by assumption) ?_
        rotate_left
        · intro wz hSw
          try dsimp only at hSw
          go_simp
          try with_reducible rfl
        try simp only [Act.put, List.setIfInBounds_toArray, List.set_cons_zero, List.set_cons_succ]
        refine wpAnyH_take (i := 6) (oi := ⟨_, _, _, _, _, _⟩) (v := ?_) rfl (by kernel_rfl) (by kernel_rfl) (by kernel_rfl) (fun _ _ _ h => h) (Or.inl ⟨by rfl, ?_⟩) (by assumption) ?_
        rotate_left
        · intro wz hSw
          try dsimp only at hSw
          go_simp
          try with_reducible rfl
        try simp only [Act.put, List.setIfInBounds_toArray, List.set_cons_zero, List.set_cons_succ]
        refine wpAnyH_take (i := 7) (oi := ⟨_, _, _, _, _, _⟩) (v := ?_) rfl (by kernel_rfl) (by kernel_rfl) (by kernel_rfl) (fun _ _ _ h => h) (Or.inl ⟨by rfl, ?_⟩) (by assumption) ?_
        rotate_left
        · intro wz hSw
          try dsimp only at hSw
          go_simp
          try with_reducible rfl
        try simp only [Act.put, List.setIfInBounds_toArray, List.set_cons_zero, List.set_cons_succ]
        refine wpAnyH_take (i := 8) (oi := ⟨_, _, _, _, _, _⟩) (v := ?_) rfl (by kernel_rfl) (by kernel_rfl) (by kernel_rfl) (fun _ _ _ h => h) (Or.inl ⟨by rfl, ?_⟩) (by assumption) ?_
        rotate_left
        · intro wz hSw
          try dsimp only at hSw
          go_simp
          try with_reducible rfl
        try simp only [Act.put, List.setIfInBounds_toArray, List.set_cons_zero, List.set_cons_succ]
        refine wpAnyH_done (by kernel_rfl) ?_ _
        clear hHeld q0 q1
        go_wp2
        go_roundw
        case rel => exact ⟨k + 1, by go_num, by omega, HX.out, HB.out.bel⟩
        case measure => simp [intOf]; omega
      · have HX := Lib.hid (HNO.out he)
        have hef : (x == y) = false := beq_eq_false_iff_ne.2 he
        clear he
        clear HY HNO
        go_wp2_with fail
        replace HB := Lib.hid HB.out.drew
        refine wp_region_held_drew (S := (fun w' => w'.cell? (a.add k) = some (.string (S2.B x)) ∧ w'.cell? (b.add k) = some (.string (S2.B y)))) (by kernel_rfl) ⟨q0.out, q1.out⟩ (fun hHeld => ?_)
        refine wpAnyH_take (i := 0) (oi := ⟨_, _, _, _, _, _⟩) (v := ?_) rfl (by kernel_rfl) (by kernel_rfl) (by kernel_rfl) (fun _ _ _ h => h) (Or.inl ⟨by rfl, ?_⟩) (by assumption) ?_
        rotate_left
        · intro wz hSw
          try dsimp only at hSw
          go_simp
          try with_reducible rfl
        try simp only [Act.put, List.setIfInBounds_toArray, List.set_cons_zero, List.set_cons_succ]
        refine wpAnyH_take (i := 1) (oi := ⟨_, _, _, _, _, _⟩) (v := ?_) rfl (by kernel_rfl) (by kernel_rfl) (by kernel_rfl) (fun _ _ _ h => h) (Or.inl ⟨by rfl, ?_⟩) (by assumption) ?_
        rotate_left
        · intro wz hSw
          try dsimp only at hSw
          go_simp
          try with_reducible rfl
        try simp only [Act.put, List.setIfInBounds_toArray, List.set_cons_zero, List.set_cons_succ]
        refine wpAnyH_take (i := 2) (oi := ⟨_, _, _, _, _, _⟩) (v := ?_) rfl (by kernel_rfl) (by kernel_rfl) (by kernel_rfl) (fun _ _ _ h => h) (Or.inl ⟨by rfl, ?_⟩) (by assumption) ?_
        rotate_left
        · intro wz hSw
          try dsimp only at hSw
          go_simp
          try with_reducible rfl
        try simp only [Act.put, List.setIfInBounds_toArray, List.set_cons_zero, List.set_cons_succ]
        refine wpAnyH_take (i := 3) (oi := ⟨_, _, _, _, _, _⟩) (v := ?_) rfl (by kernel_rfl) (by kernel_rfl) (by kernel_rfl) (fun _ _ _ h => h) (Or.inl ⟨by rfl, ?_⟩) (by assumption) ?_
        rotate_left
        · intro wz hSw
          try dsimp only at hSw
          go_simp
          try with_reducible rfl
        try simp only [Act.put, List.setIfInBounds_toArray, List.set_cons_zero, List.set_cons_succ]
        refine wpAnyH_take (i := 4) (oi := ⟨_, _, _, _, _, _⟩) (v := ?_) rfl (by kernel_rfl) (by kernel_rfl) (by kernel_rfl) (fun _ _ _ h => h) (Or.inl ⟨by rfl, ?_⟩) (by assumption) ?_
        rotate_left
        · intro wz hSw
          try dsimp only at hSw
          go_simp
          try with_reducible rfl
        try simp only [Act.put, List.setIfInBounds_toArray, List.set_cons_zero, List.set_cons_succ]
        refine wpAnyH_take (i := 5) (oi := ⟨_, _, _, _, _, _⟩) (v := ?_) rfl (by kernel_rfl) (by kernel_rfl) (by kernel_rfl) (fun _ _ _ h => h) (Or.inl ⟨by rfl, ?_⟩) (by assumption) ?_
        rotate_left
        · intro wz hSw
          try dsimp only at hSw
          go_simp
          try with_reducible rfl
        try simp only [Act.put, List.setIfInBounds_toArray, List.set_cons_zero, List.set_cons_succ]
        refine wpAnyH_take (i := 6) (oi := ⟨_, _, _, _, _, _⟩) (v := ?_) rfl (by kernel_rfl) (by kernel_rfl) (by kernel_rfl) (fun _ _ _ h => h) (Or.inl ⟨by rfl, ?_⟩) (by assumption) ?_
        rotate_left
        · intro wz hSw
          try dsimp only at hSw
          go_simp
          try with_reducible rfl
        try simp only [Act.put, List.setIfInBounds_toArray, List.set_cons_zero, List.set_cons_succ]
        refine wpAnyH_take (i := 7) (oi := ⟨_, _, _, _, _, _⟩) (v := ?_) rfl (by kernel_rfl) (by kernel_rfl) (by kernel_rfl) (fun _ _ _ h => h) (Or.inl ⟨by rfl, ?_⟩) (by assumption) ?_
        rotate_left
        · intro wz hSw
          try dsimp only at hSw
          go_simp
          try with_reducible rfl
        try simp only [Act.put, List.setIfInBounds_toArray, List.set_cons_zero, List.set_cons_succ]
        refine wpAnyH_take (i := 8) (oi := ⟨_, _, _, _, _, _⟩) (v := ?_) rfl (by kernel_rfl) (by kernel_rfl) (by kernel_rfl) (fun _ _ _ h => h) (Or.inl ⟨by rfl, ?_⟩) (by assumption) ?_
        rotate_left
        · intro wz hSw
          try dsimp only at hSw
          go_simp
          try with_reducible rfl
        try simp only [Act.put, List.setIfInBounds_toArray, List.set_cons_zero, List.set_cons_succ]
        refine wpAnyH_done (by kernel_rfl) ?_ _
        clear hHeld q0 q1
        go_wp2
        go_ret
        exact ⟨by rw [HX.out]; rfl, HB.out.bel⟩
    · have hcI : ¬ (k : Int) < (n : Int) := by omega
      have hrt : r = true := HE.out.2 (by have := HT.out; rwa [List.take_of_length_le (by have := HN.out; omega), List.take_of_length_le (by have := HN'.out; omega)] at this)
      subst hrt
      clear hk
      go_wp2
      go_ret
      exact ⟨rfl, HB.out.bel⟩
set_option maxHeartbeats 4000000 in
set_option maxRecDepth 100000 in
theorem eqW_any (A A' : Option Addr) (l l' : List Wr) (n c n' c' : Nat) (r : Bool) (w : World) (hn : n = l.length) (hn' : n' = l'.length) (hr : S2.Row w w.heap.size A (Ws l)) (hr' : S2.Row w w.heap.size A' (Ws l')) (hb : n ≤ 1000000) (hb' : n' ≤ 1000000) (he : r = true ↔ l = l') :
    Calls Tryz.prog 65 #[.slice A n c, .slice A' n' c'] w fun x w' => x = .returned (.bool r) ∧ Below w.heap.size w w' := by
  have hbI : (n : Int) ≤ 1000000 := by omega
  have hbI' : (n' : Int) ≤ 1000000 := by omega
  by_cases hl : n = n'
  rotate_left
  · have hlI : ((n : Int) == (n' : Int)) = false := beq_eq_false_iff_ne.2 (by omega)
    have hlN : ((n : Int) != (n' : Int)) = true := by rw [bne, hlI]; rfl
    have hrf : r = false := by
      cases r with
      | false => rfl
      | true => exact absurd (by rw [hn, hn', he.1 rfl]) hl
    subst hrf
    clear hn hn' hr hr' hb hb' he hl
    go_enter Tryz.func65, Tryz.ntmps65
    go_wp2
    go_ret
    exact ⟨rfl, Below.refl _ _⟩
  subst hl
  have hlN : ((n : Int) != (n : Int)) = false := by simp
  have HN := Lib.hid hn
  have HN' := Lib.hid hn'
  have HR := Lib.hid hr
  have HR' := Lib.hid hr'
  have HE := Lib.hid he
  clear hn hn' hr hr' hb hb' he hbI'
  go_enter Tryz.func65, Tryz.ntmps65
  go_wp2_with fail
  clear hlN
  go_loopw [13] (fun i wr => ∃ k : Nat, i = .int .i64 (k : Int) ∧ k ≤ n ∧ l.take k = l'.take k ∧ Below w.heap.size w wr) (fun i _ => n - (intOf i).toNat)
  case atStart => exact ⟨0, rfl, Nat.zero_le _, by simp, Below.refl _ _⟩
  case round =>
    obtain ⟨k, rfl, hk, ht, hbw⟩ := hrel
    have HT := Lib.hid ht
    have HB := Lib.hid (Lk.At.mk hbw)
    clear ht hbw
    by_cases hc : k < n
    · have hcI : (k : Int) < (n : Int) := by omega
      have hkb : (k : Int) ≤ 1000000 := by omega
      have hk1 : k < l.length := by have := HN.out; omega
      have hk2 : k < l'.length := by have := HN'.out; omega
      obtain ⟨a, rfl, _, hca⟩ := wr_at (HR.out.below HB.out.bel) hk1
      obtain ⟨b, rfl, _, hcb⟩ := wr_at (HR'.out.below HB.out.bel) hk2
      obtain ⟨x, hx⟩ : ∃ x, x = l[k] := ⟨_, rfl⟩
      obtain ⟨y, hy⟩ : ∃ y, y = l'[k] := ⟨_, rfl⟩
      rw [← hx] at hca
      rw [← hy] at hcb
      have hyes : x = y → l.take (k + 1) = l'.take (k + 1) := fun h => by
        rw [List.take_succ_eq_append_getElem hk1, List.take_succ_eq_append_getElem hk2, HT.out, ← hx, ← hy, h]
      have hno : x ≠ y → r = false := fun h => by
        cases hrr : r with
        | false => rfl
        | true =>
          have e := HE.out.1 hrr
          subst e
          exact absurd (hx.trans hy.symm) h
      obtain ⟨xt, xe, ⟨x1, x2, x3⟩⟩ := x
      obtain ⟨yt, ye, ⟨y1, y2, y3⟩⟩ := y
      simp only [Wr.mk.injEq, Bx.mk.injEq, ne_eq] at hyes hno
      have HY := Lib.hid hyes
      have HNO := Lib.hid hno
      have q0 := Lib.hid (show World.cell? wr (a.add (k * 5)) = some (.int .i64 xt) from hca 0 _ rfl)
      have q1 := Lib.hid (show World.cell? wr ⟨(a.add (k * 5)).block, (a.add (k * 5)).off + 1, none⟩ = some (.int .i64 xe) from hca 1 _ rfl)
      have q2 := Lib.hid (show World.cell? wr ⟨(a.add (k * 5)).block, (a.add (k * 5)).off + 2, none⟩ = some (.string (S2.B x1)) from hca 2 _ rfl)
      have q3 := Lib.hid (show World.cell? wr ⟨(a.add (k * 5)).block, (a.add (k * 5)).off + 3, none⟩ = some (.string (S2.B x2)) from hca 3 _ rfl)
      have q4 := Lib.hid (show World.cell? wr ⟨(a.add (k * 5)).block, (a.add (k * 5)).off + 4, none⟩ = some (.string (S2.B x3)) from hca 4 _ rfl)
      have q5 := Lib.hid (show World.cell? wr (b.add (k * 5)) = some (.int .i64 yt) from hcb 0 _ rfl)
      have q6 := Lib.hid (show World.cell? wr ⟨(b.add (k * 5)).block, (b.add (k * 5)).off + 1, none⟩ = some (.int .i64 ye) from hcb 1 _ rfl)
      have q7 := Lib.hid (show World.cell? wr ⟨(b.add (k * 5)).block, (b.add (k * 5)).off + 2, none⟩ = some (.string (S2.B y1)) from hcb 2 _ rfl)
      have q8 := Lib.hid (show World.cell? wr ⟨(b.add (k * 5)).block, (b.add (k * 5)).off + 3, none⟩ = some (.string (S2.B y2)) from hcb 3 _ rfl)
      have q9 := Lib.hid (show World.cell? wr ⟨(b.add (k * 5)).block, (b.add (k * 5)).off + 4, none⟩ = some (.string (S2.B y3)) from hcb 4 _ rfl)
      clear hyes hno hx hy hca hcb hk
      by_cases he : xt = yt ∧ xe = ye ∧ x1 = y1 ∧ x2 = y2 ∧ x3 = y3
      · have HX := Lib.hid (HY.out he)
        obtain ⟨rfl, rfl, rfl, rfl, rfl⟩ := he
        clear HY HNO
        go_wp2_with fail
        replace HB := Lib.hid HB.out.drew
        refine wp_region_held_drew (S := (fun w' => w'.cell? (a.add (k * 5)) = some (.int .i64 xt) ∧ w'.cell? ⟨(a.add (k * 5)).block, (a.add (k * 5)).off + 1, none⟩ = some (.int .i64 xe) ∧ w'.cell? ⟨(a.add (k * 5)).block, (a.add (k * 5)).off + 2, none⟩ = some (.string (S2.B x1)) ∧ w'.cell? ⟨(a.add (k * 5)).block, (a.add (k * 5)).off + 3, none⟩ = some (.string (S2.B x2)) ∧ w'.cell? ⟨(a.add (k * 5)).block, (a.add (k * 5)).off + 4, none⟩ = some (.string (S2.B x3)) ∧ w'.cell? (b.add (k * 5)) = some (.int .i64 xt) ∧ w'.cell? ⟨(b.add (k * 5)).block, (b.add (k * 5)).off + 1, none⟩ = some (.int .i64 xe) ∧ w'.cell? ⟨(b.add (k * 5)).block, (b.add (k * 5)).off + 2, none⟩ = some (.string (S2.B x1)) ∧ w'.cell? ⟨(b.add (k * 5)).block, (b.add (k * 5)).off + 3, none⟩ = some (.string (S2.B x2)) ∧ w'.cell? ⟨(b.add (k * 5)).block, (b.add (k * 5)).off + 4, none⟩ = some (.string (S2.B x3)))) (by kernel_rfl) ⟨q0.out, q1.out, q2.out, q3.out, q4.out, q5.out, q6.out, q7.out, q8.out, q9.out⟩ (fun hHeld => ?_)
        refine wpAnyH_take (i := 0) (oi := ⟨_, _, _, _, _, _⟩) (v := ?_) rfl (by kernel_rfl) (by kernel_rfl) (by kernel_rfl) (fun _ _ _ h => h) (Or.inl ⟨by rfl, ?_⟩) (by assumption) ?_
        rotate_left
        · intro wz hSw
          try dsimp only at hSw
          go_simp
          try with_reducible rfl
        try simp only [Act.put, List.setIfInBounds_toArray, List.set_cons_zero, List.set_cons_succ]
        refine wpAnyH_take (i := 1) (oi := ⟨_, _, _, _, _, _⟩) (v := ?_) rfl (by kernel_rfl) (by kernel_rfl) (by kernel_rfl) (fun _ _ _ h => h) (Or.inl ⟨by rfl, ?_⟩) (by assumption) ?_
        rotate_left
        · intro wz hSw
          try dsimp only at hSw
          go_simp
          try with_reducible rfl
        try simp only [Act.put, List.setIfInBounds_toArray, List.set_cons_zero, List.set_cons_succ]
        refine wpAnyH_take (i := 2) (oi := ⟨_, _, _, _, _, _⟩) (v := ?_) rfl (by kernel_rfl) (by kernel_rfl) (by kernel_rfl) (fun _ _ _ h => h) (Or.inl ⟨by rfl, ?_⟩) (by assumption) ?_
        rotate_left
        · intro wz hSw
          try dsimp only at hSw
          go_simp
          try with_reducible rfl
        try simp only [Act.put, List.setIfInBounds_toArray, List.set_cons_zero, List.set_cons_succ]
        refine wpAnyH_take (i := 3) (oi := ⟨_, _, _, _, _, _⟩) (v := ?_) rfl (by kernel_rfl) (by kernel_rfl) (by kernel_rfl) (fun _ _ _ h => h) (Or.inl ⟨by rfl, ?_⟩) (by assumption) ?_
        rotate_left
        · intro wz hSw
          try dsimp only at hSw
          go_simp
          try with_reducible rfl
        try simp only [Act.put, List.setIfInBounds_toArray, List.set_cons_zero, List.set_cons_succ]
        refine wpAnyH_take (i := 4) (oi := ⟨_, _, _, _, _, _⟩) (v := ?_) rfl (by kernel_rfl) (by kernel_rfl) (by kernel_rfl) (fun _ _ _ h => h) (Or.inl ⟨by rfl, ?_⟩) (by assumption) ?_
        rotate_left
        · intro wz hSw
          try dsimp only at hSw
          go_simp
          try with_reducible rfl
        try simp only [Act.put, List.setIfInBounds_toArray, List.set_cons_zero, List.set_cons_succ]
        refine wpAnyH_take (i := 5) (oi := ⟨_, _, _, _, _, _⟩) (v := ?_) rfl (by kernel_rfl) (by kernel_rfl) (by kernel_rfl) (fun _ _ _ h => h) (Or.inl ⟨by rfl, ?_⟩) (by assumption) ?_
        rotate_left
        · intro wz hSw
          try dsimp only at hSw
          go_simp
          try with_reducible rfl
        try simp only [Act.put, List.setIfInBounds_toArray, List.set_cons_zero, List.set_cons_succ]
        refine wpAnyH_take (i := 6) (oi := ⟨_, _, _, _, _, _⟩) (v := ?_) rfl (by kernel_rfl) (by kernel_rfl) (by kernel_rfl) (fun _ _ _ h => h) (Or.inl ⟨by rfl, ?_⟩) (by assumption) ?_
        rotate_left
        · intro wz hSw
          try dsimp only at hSw
          go_simp
          try with_reducible rfl
        try simp only [Act.put, List.setIfInBounds_toArray, List.set_cons_zero, List.set_cons_succ]
        refine wpAnyH_take (i := 7) (oi := ⟨_, _, _, _, _, _⟩) (v := ?_) rfl (by kernel_rfl) (by kernel_rfl) (by kernel_rfl) (fun _ _ _ h => h) (Or.inl ⟨by rfl, ?_⟩) (by assumption) ?_
        rotate_left
        · intro wz hSw
          try dsimp only at hSw
          go_simp
          try with_reducible rfl
        try simp only [Act.put, List.setIfInBounds_toArray, List.set_cons_zero, List.set_cons_succ]
        refine wpAnyH_take (i := 8) (oi := ⟨_, _, _, _, _, _⟩) (v := .bool false) rfl (by kernel_rfl) (by kernel_rfl) (by kernel_rfl) (fun _ _ _ h => h) (Or.inl ⟨by rfl, ?_⟩) (by assumption) ?_
        · intro wz hSw
          try dsimp only at hSw
          go_simp
          try simp
        try simp only [Act.put, List.setIfInBounds_toArray, List.set_cons_zero, List.set_cons_succ]
        refine wpAnyH_done (by kernel_rfl) ?_ _
        clear hHeld q0 q1 q2 q3 q4 q5 q6 q7 q8 q9
        go_wp2
        go_roundw
        case rel => exact ⟨k + 1, by go_num, by omega, HX.out, HB.out.bel⟩
        case measure => simp [intOf]; omega
      · have HX := Lib.hid (HNO.out he)
        clear HY HNO
        go_wp2_with fail
        replace HB := Lib.hid HB.out.drew
        refine wp_region_held_drew (S := (fun w' => w'.cell? (a.add (k * 5)) = some (.int .i64 xt) ∧ w'.cell? ⟨(a.add (k * 5)).block, (a.add (k * 5)).off + 1, none⟩ = some (.int .i64 xe) ∧ w'.cell? ⟨(a.add (k * 5)).block, (a.add (k * 5)).off + 2, none⟩ = some (.string (S2.B x1)) ∧ w'.cell? ⟨(a.add (k * 5)).block, (a.add (k * 5)).off + 3, none⟩ = some (.string (S2.B x2)) ∧ w'.cell? ⟨(a.add (k * 5)).block, (a.add (k * 5)).off + 4, none⟩ = some (.string (S2.B x3)) ∧ w'.cell? (b.add (k * 5)) = some (.int .i64 yt) ∧ w'.cell? ⟨(b.add (k * 5)).block, (b.add (k * 5)).off + 1, none⟩ = some (.int .i64 ye) ∧ w'.cell? ⟨(b.add (k * 5)).block, (b.add (k * 5)).off + 2, none⟩ = some (.string (S2.B y1)) ∧ w'.cell? ⟨(b.add (k * 5)).block, (b.add (k * 5)).off + 3, none⟩ = some (.string (S2.B y2)) ∧ w'.cell? ⟨(b.add (k * 5)).block, (b.add (k * 5)).off + 4, none⟩ = some (.string (S2.B y3)))) (by kernel_rfl) ⟨q0.out, q1.out, q2.out, q3.out, q4.out, q5.out, q6.out, q7.out, q8.out, q9.out⟩ (fun hHeld => ?_)
        refine wpAnyH_take (i := 0) (oi := ⟨_, _, _, _, _, _⟩) (v := ?_) rfl (by kernel_rfl) (by kernel_rfl) (by kernel_rfl) (fun _ _ _ h => h) (Or.inl ⟨by rfl, ?_⟩) (by assumption) ?_
        rotate_left
        · intro wz hSw
          try dsimp only at hSw
          go_simp
          try with_reducible rfl
        try simp only [Act.put, List.setIfInBounds_toArray, List.set_cons_zero, List.set_cons_succ]
        refine wpAnyH_take (i := 1) (oi := ⟨_, _, _, _, _, _⟩) (v := ?_) rfl (by kernel_rfl) (by kernel_rfl) (by kernel_rfl) (fun _ _ _ h => h) (Or.inl ⟨by rfl, ?_⟩) (by assumption) ?_
        rotate_left
        · intro wz hSw
          try dsimp only at hSw
          go_simp
          try with_reducible rfl
        try simp only [Act.put, List.setIfInBounds_toArray, List.set_cons_zero, List.set_cons_succ]
        refine wpAnyH_take (i := 2) (oi := ⟨_, _, _, _, _, _⟩) (v := ?_) rfl (by kernel_rfl) (by kernel_rfl) (by kernel_rfl) (fun _ _ _ h => h) (Or.inl ⟨by rfl, ?_⟩) (by assumption) ?_
        rotate_left
        · intro wz hSw
          try dsimp only at hSw
          go_simp
          try with_reducible rfl
        try simp only [Act.put, List.setIfInBounds_toArray, List.set_cons_zero, List.set_cons_succ]
        refine wpAnyH_take (i := 3) (oi := ⟨_, _, _, _, _, _⟩) (v := ?_) rfl (by kernel_rfl) (by kernel_rfl) (by kernel_rfl) (fun _ _ _ h => h) (Or.inl ⟨by rfl, ?_⟩) (by assumption) ?_
        rotate_left
        · intro wz hSw
          try dsimp only at hSw
          go_simp
          try with_reducible rfl
        try simp only [Act.put, List.setIfInBounds_toArray, List.set_cons_zero, List.set_cons_succ]
        refine wpAnyH_take (i := 4) (oi := ⟨_, _, _, _, _, _⟩) (v := ?_) rfl (by kernel_rfl) (by kernel_rfl) (by kernel_rfl) (fun _ _ _ h => h) (Or.inl ⟨by rfl, ?_⟩) (by assumption) ?_
        rotate_left
        · intro wz hSw
          try dsimp only at hSw
          go_simp
          try with_reducible rfl
        try simp only [Act.put, List.setIfInBounds_toArray, List.set_cons_zero, List.set_cons_succ]
        refine wpAnyH_take (i := 5) (oi := ⟨_, _, _, _, _, _⟩) (v := ?_) rfl (by kernel_rfl) (by kernel_rfl) (by kernel_rfl) (fun _ _ _ h => h) (Or.inl ⟨by rfl, ?_⟩) (by assumption) ?_
        rotate_left
        · intro wz hSw
          try dsimp only at hSw
          go_simp
          try with_reducible rfl
        try simp only [Act.put, List.setIfInBounds_toArray, List.set_cons_zero, List.set_cons_succ]
        refine wpAnyH_take (i := 6) (oi := ⟨_, _, _, _, _, _⟩) (v := ?_) rfl (by kernel_rfl) (by kernel_rfl) (by kernel_rfl) (fun _ _ _ h => h) (Or.inl ⟨by rfl, ?_⟩) (by assumption) ?_
        rotate_left
        · intro wz hSw
          try dsimp only at hSw
          go_simp
          try with_reducible rfl
        try simp only [Act.put, List.setIfInBounds_toArray, List.set_cons_zero, List.set_cons_succ]
        refine wpAnyH_take (i := 7) (oi := ⟨_, _, _, _, _, _⟩) (v := ?_) rfl (by kernel_rfl) (by kernel_rfl) (by kernel_rfl) (fun _ _ _ h => h) (Or.inl ⟨by rfl, ?_⟩) (by assumption) ?_
        rotate_left
        · intro wz hSw
          try dsimp only at hSw
          go_simp
          try with_reducible rfl
        try simp only [Act.put, List.setIfInBounds_toArray, List.set_cons_zero, List.set_cons_succ]
        refine wpAnyH_take (i := 8) (oi := ⟨_, _, _, _, _, _⟩) (v := .bool true) rfl (by kernel_rfl) (by kernel_rfl) (by kernel_rfl) (fun _ _ _ h => h) (Or.inl ⟨by rfl, ?_⟩) (by assumption) ?_
        · intro wz hSw
          try dsimp only at hSw
          go_simp
          by_cases h1 : xt = yt <;> by_cases h2 : xe = ye <;> by_cases h3 : x1 = y1 <;> by_cases h4 : x2 = y2 <;> by_cases h5 : x3 = y3 <;> simp [h1, h2, h3, h4, h5] <;> exact absurd ⟨h1, h2, h3, h4, h5⟩ he
        try simp only [Act.put, List.setIfInBounds_toArray, List.set_cons_zero, List.set_cons_succ]
        refine wpAnyH_done (by kernel_rfl) ?_ _
        clear hHeld q0 q1 q2 q3 q4 q5 q6 q7 q8 q9
        go_wp2
        go_ret
        exact ⟨by rw [HX.out]; rfl, HB.out.bel⟩
    · have hcI : ¬ (k : Int) < (n : Int) := by omega
      have hrt : r = true := HE.out.2 (by have := HT.out; rwa [List.take_of_length_le (by have := HN.out; omega), List.take_of_length_le (by have := HN'.out; omega)] at this)
      subst hrt
      clear hk
      go_wp2
      go_ret
      exact ⟨rfl, HB.out.bel⟩
set_option maxHeartbeats 4000000 in
set_option maxRecDepth 100000 in
theorem cloneS_any (A : Option Addr) (l : List Str) (n c : Nat) (w : World) (hn : n = l.length) (hr : S2.Row w w.heap.size A (S2.Ss l)) (hb : n ≤ 90000) :
    Calls Tryz.prog 44 #[.slice A n c] w fun x w' => ∃ B m d, x = .returned (.slice B m d) ∧ S11.Idt.Own w' w.heap.size (.slice B m d) l ∧ Below w.heap.size w w' := by
  have hnil := fun (w : World) (a : Option Addr) => Lib.run_eql_slice_nil (P := Tryz.prog) w 22 9 a n c 0 0 Tryz.underlying22
  cases A with
  | none =>
    have h0 : l = [] := by
      rcases hr with e | ⟨b, e, _⟩
      · exact List.eq_nil_of_length_eq_zero (by rw [← S2.Ss_length, e]; rfl)
      · cases e
    subst h0
    obtain rfl : n = 0 := hn
    clear hr hb
    go_enter Tryz.func44, Tryz.ntmps44
    go_wp2
    go_ret
    exact ⟨none, 0, 0, rfl, ⟨⟨rfl, .inl ⟨rfl, rfl⟩⟩, Nat.le_refl _⟩, Below.refl _ _⟩
  | some a =>
    have OA := Lib.hid (show S11.Idt.Own (w.alloc (.cells #[] 9)) w.heap.size (.slice (some ⟨w.heap.size, 0, none⟩) 0 0) [] from ownLit w [] (by simp))
    have SR := Lib.hid (show S2.Row (w.alloc (.cells #[] 9)) (w.alloc (.cells #[] 9)).heap.size (some a) (S2.Ss l) from (hr.below ((Below.refl _ _).alloc (Nat.le_refl _) _)).more (by simp))
    have HN := Lib.hid hn
    have HL := Lib.hid (show ([] : List Str).length + l.length ≤ 100000 by simp; omega)
    clear hn hr hb
    go_enter Tryz.func44, Tryz.ntmps44
    go_wp2_with (first | (at_builtin; refine S11.Idt.wpList_app rfl _ _ rfl OA.out SR.out rfl rfl HN.out HL.out ?_; intro v' w4 ho hb) | fail)
    obtain ⟨B, m, d, rfl, _, _⟩ := ho.sl3
    have HO := Lib.hid ho
    have HB := Lib.hid (((Below.refl w.heap.size w).alloc (Nat.le_refl _) (.cells #[] 9)).trans hb)
    clear ho hb OA SR
    go_wp2
    go_ret
    exact ⟨B, m, d, rfl, HO.out, HB.out⟩
set_option maxHeartbeats 4000000 in
set_option maxRecDepth 100000 in
theorem cloneW_any (A : Option Addr) (l : List Wr) (n c : Nat) (w : World) (hn : n = l.length) (hr : S2.Row w w.heap.size A (Ws l)) (hb : n ≤ 90000) :
    Calls Tryz.prog 45 #[.slice A n c] w fun x w' => ∃ B m d, x = .returned (.slice B m d) ∧ OwnW w' w.heap.size (.slice B m d) l ∧ Below w.heap.size w w' := by
  have hnil := fun (w : World) (a : Option Addr) => Lib.run_eql_slice_nil (P := Tryz.prog) w 25 50 a n c 0 0 Tryz.underlying25
  cases A with
  | none =>
    have h0 : l = [] := by
      rcases hr with e | ⟨b, e, _⟩
      · exact List.eq_nil_of_length_eq_zero (by have := Ws_len l; rw [e] at this; simp at this; omega)
      · cases e
    subst h0
    obtain rfl : n = 0 := hn
    clear hr hb
    go_enter Tryz.func45, Tryz.ntmps45
    go_wp2
    go_ret
    exact ⟨none, 0, 0, rfl, OwnW.nil w, Below.refl _ _⟩
  | some a =>
    have OA := Lib.hid (show OwnW (w.alloc (.cells #[] 50)) w.heap.size (.slice (some ⟨w.heap.size, 0, none⟩) 0 0) [] from OwnW.lit w [] (by simp))
    have SR := Lib.hid (show S2.Row (w.alloc (.cells #[] 50)) (w.alloc (.cells #[] 50)).heap.size (some a) (Ws l) from (hr.below ((Below.refl _ _).alloc (Nat.le_refl _) _)).more (by simp))
    have HN := Lib.hid hn
    have HL := Lib.hid (show ([] : List Wr).length + l.length ≤ 100000 by simp; omega)
    clear hn hr hb
    go_enter Tryz.func45, Tryz.ntmps45
    go_wp2_with (first | (at_builtin; refine wpList_appW rfl _ _ rfl OA.out SR.out rfl rfl HN.out HL.out ?_; intro v' w4 ho hb) | fail)
    obtain ⟨B, m, d, rfl, _, _⟩ := ho.sl3
    have HO := Lib.hid ho
    have HB := Lib.hid (((Below.refl w.heap.size w).alloc (Nat.le_refl _) (.cells #[] 50)).trans hb)
    clear ho hb OA SR
    go_wp2
    go_ret
    exact ⟨B, m, d, rfl, HO.out, HB.out⟩
end Ld
end Go.Proofs.YtojbicpchjiplaaGreatDoor
