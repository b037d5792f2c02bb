/-
  Layer 12: the landed Right: the fields that are filled, the rule of the kind, the test.
-/
import Derived.Test.YtojbicpchjiplaaGreatDoorActLf
import Derived.Test.YtojbicpchjiplaaGreatDoorActLv
import Derived.Laws.BitsAllLaws
import Derived.Deep.RegionHeld3
import Derived.Shelf.Abstract
namespace Go.Proofs.YtojbicpchjiplaaGreatDoor
open Go.RowKit
namespace Ld
open Ax
open S11.Idt (Str isId isName ids)
attribute [local go_sem] S2.B_size S2.B_list S2.B_app S2.B_take litE
set_option maxHeartbeats 4000000 in
set_option maxRecDepth 100000 in
theorem when_any (k : Nat) (b : Bool) (w : World) : Calls Tryz.prog 113 #[.int .u16 (k : Int), .bool b] w fun x w' => x = .returned (.int .u16 ((wN k b : Nat) : Int)) ∧ Below w.heap.size w w' := by
  cases b with
  | false =>
    go_enter Tryz.func113, Tryz.ntmps113
    go_wp2
    go_ret
    exact ⟨rfl, Below.refl _ _⟩
  | true =>
    go_enter Tryz.func113, Tryz.ntmps113
    go_wp2
    go_ret
    exact ⟨rfl, Below.refl _ _⟩
theorem wN_lt (k : Nat) (b : Bool) (h : k < 65536) : wN k b < 65536 := by cases b <;> simp [wN, h]
theorem or_lt {a b : Nat} (ha : a < 65536) (hb : b < 65536) : a ||| b < 65536 := Nat.or_lt_two_pow (n := 16) ha hb
set_option maxHeartbeats 4000000 in
set_option maxRecDepth 100000 in
theorem filled_any {bd : Nat} {cs : List Value} {a : Ac} {e s : Int} (w : World) (hv0 : Av w bd cs a e s) : Calls Tryz.prog 52 #[.agg cs.toArray] w fun x w' => x = .returned (.int .u16 ((filledN a : Nat) : Int)) ∧ Below w.heap.size w w' ∧ filledN a < 65536 := by
  obtain ⟨A, nA, cA, h9, hn9, hc9, hr9⟩ := hv0.to
  obtain ⟨Q, nQ, cQ, h15, hn15, hc15, hr15⟩ := hv0.wraps
  have T := Lib.hid (Lk.At.start w)
  have V := Lib.hid hv0
  have H9 := Lib.hid h9
  have H15 := Lib.hid h15
  obtain ⟨q1, hq1⟩ : ∃ b : Bool, b = (a.object == []) := ⟨_, rfl⟩
  have t1 : (a.object == []) = q1 := hq1.symm
  obtain ⟨q2, hq2⟩ : ∃ b : Bool, b = (a.target == []) := ⟨_, rfl⟩
  have t2 : (a.target == []) = q2 := hq2.symm
  obtain ⟨q3, hq3⟩ : ∃ b : Bool, b = (a.scope == 0) := ⟨_, rfl⟩
  have t3 : (a.scope == 0) = q3 := hq3.symm
  have u3 : (a.scope != 0) = !q3 := by rw [bne, t3]
  have v3 : decide (a.scope = 0) = q3 := by rw [← t3]; exact e0 _
  obtain ⟨q4, hq4⟩ : ∃ b : Bool, b = (a.group == []) := ⟨_, rfl⟩
  have t4 : (a.group == []) = q4 := hq4.symm
  obtain ⟨q5, hq5⟩ : ∃ b : Bool, b = (!decide (0 < (nA : Int))) := ⟨_, rfl⟩
  have t5 : decide (0 < (nA : Int)) = !q5 := by rw [hq5, Bool.not_not]
  have u5 : decide (0 < nA) = !q5 := by rw [← t5]; exact decide_eq_decide.2 (by omega)
  obtain ⟨q6, hq6⟩ : ∃ b : Bool, b = (a.text == []) := ⟨_, rfl⟩
  have t6 : (a.text == []) = q6 := hq6.symm
  obtain ⟨q8, hq8⟩ : ∃ b : Bool, b = (a.epoch == 0) := ⟨_, rfl⟩
  have t8 : (a.epoch == 0) = q8 := hq8.symm
  have u8 : (a.epoch != 0) = !q8 := by rw [bne, t8]
  have v8 : decide (a.epoch = 0) = q8 := by rw [← t8]; exact e0 _
  obtain ⟨q9, hq9⟩ : ∃ b : Bool, b = (!decide (0 < (nQ : Int))) := ⟨_, rfl⟩
  have t9 : decide (0 < (nQ : Int)) = !q9 := by rw [hq9, Bool.not_not]
  have u9 : decide (0 < nQ) = !q9 := by rw [← t9]; exact decide_eq_decide.2 (by omega)
  obtain ⟨q10, hq10⟩ : ∃ b : Bool, b = (a.n == 0) := ⟨_, rfl⟩
  have t10 : (a.n == 0) = q10 := hq10.symm
  have u10 : (a.n != 0) = !q10 := by rw [bne, t10]
  have v10 : decide (a.n = 0) = q10 := by rw [← t10]; exact e0 _
  obtain ⟨q11, hq11⟩ : ∃ b : Bool, b = (a.m == 0) := ⟨_, rfl⟩
  have t11 : (a.m == 0) = q11 := hq11.symm
  have u11 : (a.m != 0) = !q11 := by rw [bne, t11]
  have v11 : decide (a.m = 0) = q11 := by rw [← t11]; exact e0 _
  obtain ⟨g1, hg1⟩ : ∃ n : Nat, n = wN 1 (!q1) := ⟨_, rfl⟩
  have W1 := fun w => when_any 1 (!q1) w
  rw [← hg1] at W1
  have lg1 : g1 < 65536 := hg1 ▸ wN_lt _ _ (by decide)
  replace W1 := Lib.hid (show ∀ w, Calls Tryz.prog 113 #[.int .u16 1, .bool (!q1)] w fun x w' => x = .returned (.int .u16 (g1 : Int)) ∧ Below w.heap.size w w' from W1)
  obtain ⟨g2, hg2⟩ : ∃ n : Nat, n = wN 2 (!q2) := ⟨_, rfl⟩
  have W2 := fun w => when_any 2 (!q2) w
  rw [← hg2] at W2
  have lg2 : g2 < 65536 := hg2 ▸ wN_lt _ _ (by decide)
  replace W2 := Lib.hid (show ∀ w, Calls Tryz.prog 113 #[.int .u16 2, .bool (!q2)] w fun x w' => x = .returned (.int .u16 (g2 : Int)) ∧ Below w.heap.size w w' from W2)
  obtain ⟨g3, hg3⟩ : ∃ n : Nat, n = wN 4 (!q3) := ⟨_, rfl⟩
  have W3 := fun w => when_any 4 (!q3) w
  rw [← hg3] at W3
  have lg3 : g3 < 65536 := hg3 ▸ wN_lt _ _ (by decide)
  replace W3 := Lib.hid (show ∀ w, Calls Tryz.prog 113 #[.int .u16 4, .bool (!q3)] w fun x w' => x = .returned (.int .u16 (g3 : Int)) ∧ Below w.heap.size w w' from W3)
  obtain ⟨g4, hg4⟩ : ∃ n : Nat, n = wN 8 (!q4) := ⟨_, rfl⟩
  have W4 := fun w => when_any 8 (!q4) w
  rw [← hg4] at W4
  have lg4 : g4 < 65536 := hg4 ▸ wN_lt _ _ (by decide)
  replace W4 := Lib.hid (show ∀ w, Calls Tryz.prog 113 #[.int .u16 8, .bool (!q4)] w fun x w' => x = .returned (.int .u16 (g4 : Int)) ∧ Below w.heap.size w w' from W4)
  obtain ⟨g5, hg5⟩ : ∃ n : Nat, n = wN 16 (!q5) := ⟨_, rfl⟩
  have W5 := fun w => when_any 16 (!q5) w
  rw [← hg5] at W5
  have lg5 : g5 < 65536 := hg5 ▸ wN_lt _ _ (by decide)
  replace W5 := Lib.hid (show ∀ w, Calls Tryz.prog 113 #[.int .u16 16, .bool (!q5)] w fun x w' => x = .returned (.int .u16 (g5 : Int)) ∧ Below w.heap.size w w' from W5)
  obtain ⟨g6, hg6⟩ : ∃ n : Nat, n = wN 32 (!q6) := ⟨_, rfl⟩
  have W6 := fun w => when_any 32 (!q6) w
  rw [← hg6] at W6
  have lg6 : g6 < 65536 := hg6 ▸ wN_lt _ _ (by decide)
  replace W6 := Lib.hid (show ∀ w, Calls Tryz.prog 113 #[.int .u16 32, .bool (!q6)] w fun x w' => x = .returned (.int .u16 (g6 : Int)) ∧ Below w.heap.size w w' from W6)
  obtain ⟨g7, hg7⟩ : ∃ n : Nat, n = wN 64 (!boxzL a.body) := ⟨_, rfl⟩
  have W7 := fun w => when_any 64 (!boxzL a.body) w
  rw [← hg7] at W7
  have lg7 : g7 < 65536 := hg7 ▸ wN_lt _ _ (by decide)
  replace W7 := Lib.hid (show ∀ w, Calls Tryz.prog 113 #[.int .u16 64, .bool (!boxzL a.body)] w fun x w' => x = .returned (.int .u16 (g7 : Int)) ∧ Below w.heap.size w w' from W7)
  obtain ⟨g8, hg8⟩ : ∃ n : Nat, n = wN 128 (!q8) := ⟨_, rfl⟩
  have W8 := fun w => when_any 128 (!q8) w
  rw [← hg8] at W8
  have lg8 : g8 < 65536 := hg8 ▸ wN_lt _ _ (by decide)
  replace W8 := Lib.hid (show ∀ w, Calls Tryz.prog 113 #[.int .u16 128, .bool (!q8)] w fun x w' => x = .returned (.int .u16 (g8 : Int)) ∧ Below w.heap.size w w' from W8)
  obtain ⟨g9, hg9⟩ : ∃ n : Nat, n = wN 256 (!q9) := ⟨_, rfl⟩
  have W9 := fun w => when_any 256 (!q9) w
  rw [← hg9] at W9
  have lg9 : g9 < 65536 := hg9 ▸ wN_lt _ _ (by decide)
  replace W9 := Lib.hid (show ∀ w, Calls Tryz.prog 113 #[.int .u16 256, .bool (!q9)] w fun x w' => x = .returned (.int .u16 (g9 : Int)) ∧ Below w.heap.size w w' from W9)
  obtain ⟨g10, hg10⟩ : ∃ n : Nat, n = wN 512 (!q10) := ⟨_, rfl⟩
  have W10 := fun w => when_any 512 (!q10) w
  rw [← hg10] at W10
  have lg10 : g10 < 65536 := hg10 ▸ wN_lt _ _ (by decide)
  replace W10 := Lib.hid (show ∀ w, Calls Tryz.prog 113 #[.int .u16 512, .bool (!q10)] w fun x w' => x = .returned (.int .u16 (g10 : Int)) ∧ Below w.heap.size w w' from W10)
  obtain ⟨g11, hg11⟩ : ∃ n : Nat, n = wN 1024 (!q11) := ⟨_, rfl⟩
  have W11 := fun w => when_any 1024 (!q11) w
  rw [← hg11] at W11
  have lg11 : g11 < 65536 := hg11 ▸ wN_lt _ _ (by decide)
  replace W11 := Lib.hid (show ∀ w, Calls Tryz.prog 113 #[.int .u16 1024, .bool (!q11)] w fun x w' => x = .returned (.int .u16 (g11 : Int)) ∧ Below w.heap.size w w' from W11)
  obtain ⟨f2, hf2⟩ : ∃ n : Nat, n = g1 ||| g2 := ⟨_, rfl⟩
  have l2 : f2 < 65536 := hf2 ▸ or_lt lg1 lg2
  have e2 : bits .or .u16 (g1 : Int) (g2 : Int) = (f2 : Int) := by rw [hf2]; exact u16_or_nat _ _ lg1 lg2
  obtain ⟨f3, hf3⟩ : ∃ n : Nat, n = f2 ||| g3 := ⟨_, rfl⟩
  have l3 : f3 < 65536 := hf3 ▸ or_lt l2 lg3
  have e3 : bits .or .u16 (f2 : Int) (g3 : Int) = (f3 : Int) := by rw [hf3]; exact u16_or_nat _ _ l2 lg3
  obtain ⟨f4, hf4⟩ : ∃ n : Nat, n = f3 ||| g4 := ⟨_, rfl⟩
  have l4 : f4 < 65536 := hf4 ▸ or_lt l3 lg4
  have e4 : bits .or .u16 (f3 : Int) (g4 : Int) = (f4 : Int) := by rw [hf4]; exact u16_or_nat _ _ l3 lg4
  obtain ⟨f5, hf5⟩ : ∃ n : Nat, n = f4 ||| g5 := ⟨_, rfl⟩
  have l5 : f5 < 65536 := hf5 ▸ or_lt l4 lg5
  have e5 : bits .or .u16 (f4 : Int) (g5 : Int) = (f5 : Int) := by rw [hf5]; exact u16_or_nat _ _ l4 lg5
  obtain ⟨f6, hf6⟩ : ∃ n : Nat, n = f5 ||| g6 := ⟨_, rfl⟩
  have l6 : f6 < 65536 := hf6 ▸ or_lt l5 lg6
  have e6 : bits .or .u16 (f5 : Int) (g6 : Int) = (f6 : Int) := by rw [hf6]; exact u16_or_nat _ _ l5 lg6
  obtain ⟨f7, hf7⟩ : ∃ n : Nat, n = f6 ||| g7 := ⟨_, rfl⟩
  have l7 : f7 < 65536 := hf7 ▸ or_lt l6 lg7
  have e7 : bits .or .u16 (f6 : Int) (g7 : Int) = (f7 : Int) := by rw [hf7]; exact u16_or_nat _ _ l6 lg7
  obtain ⟨f8, hf8⟩ : ∃ n : Nat, n = f7 ||| g8 := ⟨_, rfl⟩
  have l8 : f8 < 65536 := hf8 ▸ or_lt l7 lg8
  have e8 : bits .or .u16 (f7 : Int) (g8 : Int) = (f8 : Int) := by rw [hf8]; exact u16_or_nat _ _ l7 lg8
  obtain ⟨f9, hf9⟩ : ∃ n : Nat, n = f8 ||| g9 := ⟨_, rfl⟩
  have l9 : f9 < 65536 := hf9 ▸ or_lt l8 lg9
  have e9 : bits .or .u16 (f8 : Int) (g9 : Int) = (f9 : Int) := by rw [hf9]; exact u16_or_nat _ _ l8 lg9
  obtain ⟨f10, hf10⟩ : ∃ n : Nat, n = f9 ||| g10 := ⟨_, rfl⟩
  have l10 : f10 < 65536 := hf10 ▸ or_lt l9 lg10
  have e10 : bits .or .u16 (f9 : Int) (g10 : Int) = (f10 : Int) := by rw [hf10]; exact u16_or_nat _ _ l9 lg10
  obtain ⟨f11, hf11⟩ : ∃ n : Nat, n = f10 ||| g11 := ⟨_, rfl⟩
  have l11 : f11 < 65536 := hf11 ▸ or_lt l10 lg11
  have e11 : bits .or .u16 (f10 : Int) (g11 : Int) = (f11 : Int) := by rw [hf11]; exact u16_or_nat _ _ l10 lg11
  have hF : filledN a = f11 := by
    rw [hf11, hf10, hf9, hf8, hf7, hf6, hf5, hf4, hf3, hf2, hg1, hg2, hg3, hg4, hg5, hg6, hg7, hg8, hg9, hg10, hg11, hq1, hq2, hq3, hq4, hq5, hq6, hq8, hq9, hq10, hq11, hn9, hn15]
    rfl
  rw [hF]
  have HF := Lib.hid l11
  clear hv0 h9 hn9 hc9 hr9 h15 hn15 hc15 hr15 hF hq1 hg1 lg1 hq2 hg2 lg2 hq3 hg3 lg3 hq4 hg4 lg4 hq5 hg5 lg5 hq6 hg6 lg6 hg7 lg7 hq8 hg8 lg8 hq9 hg9 lg9 hq10 hg10 lg10 hq11 hg11 lg11 hf2 l2 hf3 l3 hf4 l4 hf5 l5 hf6 l6 hf7 l7 hf8 l8 hf9 l9 hf10 l10 hf11 l11
  go_enter Tryz.func52, Tryz.ntmps52
  go_wp2_with (first | fail)
  replace T := Lib.hid (T.out.alloc (.cells cs.toArray 29))
  replace V := Lib.hid (V.out.alloc (.cells cs.toArray 29))
  have B1 := Lib.hid (show Lk.Bl (w.alloc (.cells cs.toArray 29)) w.heap.size cs 29 from by have h := Lk.Bl.new w cs 29; simpa using h)
  generalize w.alloc (.cells cs.toArray 29) = w1 at *
  replace T := Lib.hid (T.out.drew)
  replace B1 := Lib.hid (B1.out.drew)
  replace V := Lib.hid (V.out.drew)
  refine wp_region_held_drew (S := (fun w' => w'.cell? ⟨w.heap.size, 5, none⟩ = some (.string (S2.B a.object)) ∧ w'.cell? ⟨w.heap.size, 6, none⟩ = some (.string (S2.B a.target)) ∧ w'.cell? ⟨w.heap.size, 7, none⟩ = some (.int .i64 a.scope) ∧ w'.cell? ⟨w.heap.size, 8, none⟩ = some (.string (S2.B a.group)) ∧ w'.cell? ⟨w.heap.size, 9, none⟩ = some (.slice A nA cA) ∧ w'.cell? ⟨w.heap.size, 10, none⟩ = some (.string (S2.B a.text)) ∧ w'.cell? ⟨w.heap.size, 11, none⟩ = some (.string (S2.B a.body.nonce)) ∧ w'.cell? ⟨w.heap.size, 12, none⟩ = some (.string (S2.B a.body.data)) ∧ w'.cell? ⟨w.heap.size, 13, none⟩ = some (.string (S2.B a.body.tag)) ∧ w'.cell? ⟨w.heap.size, 14, none⟩ = some (.int .i64 a.epoch) ∧ w'.cell? ⟨w.heap.size, 15, none⟩ = some (.slice Q nQ cQ) ∧ w'.cell? ⟨w.heap.size, 16, none⟩ = some (.int .i64 a.n) ∧ w'.cell? ⟨w.heap.size, 17, none⟩ = some (.int .i64 a.m))) (by kernel_rfl) ⟨(B1.out.c 5 _ V.out.object), (B1.out.c 6 _ V.out.target), (B1.out.c 7 _ V.out.scope), (B1.out.c 8 _ V.out.group), (B1.out.c 9 _ H9.out), (B1.out.c 10 _ V.out.text), (B1.out.c 11 _ V.out.nonce), (B1.out.c 12 _ V.out.data), (B1.out.c 13 _ V.out.tag), (B1.out.c 14 _ V.out.epoch), (B1.out.c 15 _ H15.out), (B1.out.c 16 _ V.out.n), (B1.out.c 17 _ V.out.m)⟩ (fun hHeld => ?_)
  refine wpAnyH_take (i := 0) (oi := ⟨_, _, _, _, _, _⟩) (v := ?_) rfl (by kernel_rfl) (by kernel_rfl) (by kernel_rfl) (fun _ _ _ h => h) (Or.inl ⟨by rfl, ?_⟩) (by assumption) ?_
  rotate_left
  · intro wz hSw
    try dsimp only at hSw
    go_simp
    try with_reducible rfl
  try simp only [Act.put, List.setIfInBounds_toArray, List.set_cons_zero, List.set_cons_succ]
  refine wpAnyH_take (i := 1) (oi := ⟨_, _, _, _, _, _⟩) (v := ?_) rfl (by kernel_rfl) (by kernel_rfl) (by kernel_rfl) (fun _ _ _ h => h) (Or.inl ⟨by rfl, ?_⟩) (by assumption) ?_
  rotate_left
  · intro wz hSw
    try dsimp only at hSw
    go_simp
    try with_reducible rfl
  try simp only [Act.put, List.setIfInBounds_toArray, List.set_cons_zero, List.set_cons_succ]
  refine wpAnyH_take (i := 2) (oi := ⟨_, _, _, _, _, _⟩) (v := ?_) rfl (by kernel_rfl) (by kernel_rfl) (by kernel_rfl) (fun _ _ _ h => h) (Or.inl ⟨by rfl, ?_⟩) (by assumption) ?_
  rotate_left
  · intro wz hSw
    try dsimp only at hSw
    go_simp
    try with_reducible rfl
  try simp only [Act.put, List.setIfInBounds_toArray, List.set_cons_zero, List.set_cons_succ]
  refine wpAnyH_take (i := 4) (oi := ⟨_, _, _, _, _, _⟩) (v := ?_) rfl (by kernel_rfl) (by kernel_rfl) (by kernel_rfl) (fun _ _ _ h => h) (Or.inl ⟨by rfl, ?_⟩) (by assumption) ?_
  rotate_left
  · intro wz hSw
    try dsimp only at hSw
    go_simp
    try with_reducible rfl
  try simp only [Act.put, List.setIfInBounds_toArray, List.set_cons_zero, List.set_cons_succ]
  refine wpAnyH_take (i := 5) (oi := ⟨_, _, _, _, _, _⟩) (v := ?_) rfl (by kernel_rfl) (by kernel_rfl) (by kernel_rfl) (fun _ _ _ h => h) (Or.inl ⟨by rfl, ?_⟩) (by assumption) ?_
  rotate_left
  · intro wz hSw
    try dsimp only at hSw
    go_simp
    try with_reducible rfl
  try simp only [Act.put, List.setIfInBounds_toArray, List.set_cons_zero, List.set_cons_succ]
  refine wpAnyH_take (i := 6) (oi := ⟨_, _, _, _, _, _⟩) (v := ?_) rfl (by kernel_rfl) (by kernel_rfl) (by kernel_rfl) (fun _ _ _ h => h) (Or.inl ⟨by rfl, ?_⟩) (by assumption) ?_
  rotate_left
  · intro wz hSw
    try dsimp only at hSw
    go_simp
    try with_reducible rfl
  try simp only [Act.put, List.setIfInBounds_toArray, List.set_cons_zero, List.set_cons_succ]
  refine wpAnyH_take (i := 9) (oi := ⟨_, _, _, _, _, _⟩) (v := ?_) rfl (by kernel_rfl) (by kernel_rfl) (by kernel_rfl) (fun _ _ _ h => h) (Or.inl ⟨by rfl, ?_⟩) (by assumption) ?_
  rotate_left
  · intro wz hSw
    try dsimp only at hSw
    go_simp
    try with_reducible rfl
  try simp only [Act.put, List.setIfInBounds_toArray, List.set_cons_zero, List.set_cons_succ]
  refine wpAnyH_take (i := 10) (oi := ⟨_, _, _, _, _, _⟩) (v := ?_) rfl (by kernel_rfl) (by kernel_rfl) (by kernel_rfl) (fun _ _ _ h => h) (Or.inl ⟨by rfl, ?_⟩) (by assumption) ?_
  rotate_left
  · intro wz hSw
    try dsimp only at hSw
    go_simp
    try with_reducible rfl
  try simp only [Act.put, List.setIfInBounds_toArray, List.set_cons_zero, List.set_cons_succ]
  refine wpAnyH_take (i := 11) (oi := ⟨_, _, _, _, _, _⟩) (v := ?_) rfl (by kernel_rfl) (by kernel_rfl) (by kernel_rfl) (fun _ _ _ h => h) (Or.inl ⟨by rfl, ?_⟩) (by assumption) ?_
  rotate_left
  · intro wz hSw
    try dsimp only at hSw
    go_simp
    try with_reducible rfl
  try simp only [Act.put, List.setIfInBounds_toArray, List.set_cons_zero, List.set_cons_succ]
  refine wpAnyH_take (i := 14) (oi := ⟨_, _, _, _, _, _⟩) (v := ?_) rfl (by kernel_rfl) (by kernel_rfl) (by kernel_rfl) (fun _ _ _ h => h) (Or.inl ⟨by rfl, ?_⟩) (by assumption) ?_
  rotate_left
  · intro wz hSw
    try dsimp only at hSw
    go_simp
    try with_reducible rfl
  try simp only [Act.put, List.setIfInBounds_toArray, List.set_cons_zero, List.set_cons_succ]
  refine wpAnyH_take (i := 15) (oi := ⟨_, _, _, _, _, _⟩) (v := ?_) rfl (by kernel_rfl) (by kernel_rfl) (by kernel_rfl) (fun _ _ _ h => h) (Or.inl ⟨by rfl, ?_⟩) (by assumption) ?_
  rotate_left
  · intro wz hSw
    try dsimp only at hSw
    go_simp
    try with_reducible rfl
  try simp only [Act.put, List.setIfInBounds_toArray, List.set_cons_zero, List.set_cons_succ]
  refine wpAnyH_take (i := 16) (oi := ⟨_, _, _, _, _, _⟩) (v := ?_) rfl (by kernel_rfl) (by kernel_rfl) (by kernel_rfl) (fun _ _ _ h => h) (Or.inl ⟨by rfl, ?_⟩) (by assumption) ?_
  rotate_left
  · intro wz hSw
    try dsimp only at hSw
    go_simp
    try with_reducible rfl
  try simp only [Act.put, List.setIfInBounds_toArray, List.set_cons_zero, List.set_cons_succ]
  refine wpAnyH_take (i := 19) (oi := ⟨_, _, _, _, _, _⟩) (v := ?_) rfl (by kernel_rfl) (by kernel_rfl) (by kernel_rfl) (fun _ _ _ h => h) (Or.inl ⟨by rfl, ?_⟩) (by assumption) ?_
  rotate_left
  · intro wz hSw
    try dsimp only at hSw
    go_simp
    try with_reducible rfl
  try simp only [Act.put, List.setIfInBounds_toArray, List.set_cons_zero, List.set_cons_succ]
  refine wpAnyH_take (i := 20) (oi := ⟨_, _, _, _, _, _⟩) (v := ?_) rfl (by kernel_rfl) (by kernel_rfl) (by kernel_rfl) (fun _ _ _ h => h) (Or.inl ⟨by rfl, ?_⟩) (by assumption) ?_
  rotate_left
  · intro wz hSw
    try dsimp only at hSw
    go_simp
    try with_reducible rfl
  try simp only [Act.put, List.setIfInBounds_toArray, List.set_cons_zero, List.set_cons_succ]
  refine wpAnyH_take (i := 21) (oi := ⟨_, _, _, _, _, _⟩) (v := ?_) rfl (by kernel_rfl) (by kernel_rfl) (by kernel_rfl) (fun _ _ _ h => h) (Or.inl ⟨by rfl, ?_⟩) (by assumption) ?_
  rotate_left
  · intro wz hSw
    try dsimp only at hSw
    go_simp
    try with_reducible rfl
  try simp only [Act.put, List.setIfInBounds_toArray, List.set_cons_zero, List.set_cons_succ]
  refine wpAnyH_take (i := 22) (oi := ⟨_, _, _, _, _, _⟩) (v := ?_) rfl (by kernel_rfl) (by kernel_rfl) (by kernel_rfl) (fun _ _ _ h => h) (Or.inl ⟨by rfl, ?_⟩) (by assumption) ?_
  rotate_left
  · intro wz hSw
    try dsimp only at hSw
    go_simp
    try with_reducible rfl
  try simp only [Act.put, List.setIfInBounds_toArray, List.set_cons_zero, List.set_cons_succ]
  refine wpAnyH_take (i := 25) (oi := ⟨_, _, _, _, _, _⟩) (v := ?_) rfl (by kernel_rfl) (by kernel_rfl) (by kernel_rfl) (fun _ _ _ h => h) (Or.inl ⟨by rfl, ?_⟩) (by assumption) ?_
  rotate_left
  · intro wz hSw
    try dsimp only at hSw
    go_simp
    try with_reducible rfl
  try simp only [Act.put, List.setIfInBounds_toArray, List.set_cons_zero, List.set_cons_succ]
  refine wpAnyH_take (i := 26) (oi := ⟨_, _, _, _, _, _⟩) (v := ?_) rfl (by kernel_rfl) (by kernel_rfl) (by kernel_rfl) (fun _ _ _ h => h) (Or.inl ⟨by rfl, ?_⟩) (by assumption) ?_
  rotate_left
  · intro wz hSw
    try dsimp only at hSw
    go_simp
    try with_reducible rfl
  try simp only [Act.put, List.setIfInBounds_toArray, List.set_cons_zero, List.set_cons_succ]
  refine wpAnyH_take (i := 27) (oi := ⟨_, _, _, _, _, _⟩) (v := ?_) rfl (by kernel_rfl) (by kernel_rfl) (by kernel_rfl) (fun _ _ _ h => h) (Or.inl ⟨by rfl, ?_⟩) (by assumption) ?_
  rotate_left
  · intro wz hSw
    try dsimp only at hSw
    go_simp
    try with_reducible rfl
  try simp only [Act.put, List.setIfInBounds_toArray, List.set_cons_zero, List.set_cons_succ]
  refine wpAnyH_take (i := 30) (oi := ⟨_, _, _, _, _, _⟩) (v := ?_) rfl (by kernel_rfl) (by kernel_rfl) (by kernel_rfl) (fun _ _ _ h => h) (Or.inl ⟨by rfl, ?_⟩) (by assumption) ?_
  rotate_left
  · intro wz hSw
    try dsimp only at hSw
    go_simp
    try with_reducible rfl
  try simp only [Act.put, List.setIfInBounds_toArray, List.set_cons_zero, List.set_cons_succ]
  refine wpAnyH_take (i := 31) (oi := ⟨_, _, _, _, _, _⟩) (v := ?_) rfl (by kernel_rfl) (by kernel_rfl) (by kernel_rfl) (fun _ _ _ h => h) (Or.inl ⟨by rfl, ?_⟩) (by assumption) ?_
  rotate_left
  · intro wz hSw
    try dsimp only at hSw
    go_simp
    try with_reducible rfl
  try simp only [Act.put, List.setIfInBounds_toArray, List.set_cons_zero, List.set_cons_succ]
  refine wpAnyH_take (i := 32) (oi := ⟨_, _, _, _, _, _⟩) (v := ?_) rfl (by kernel_rfl) (by kernel_rfl) (by kernel_rfl) (fun _ _ _ h => h) (Or.inl ⟨by rfl, ?_⟩) (by assumption) ?_
  rotate_left
  · intro wz hSw
    try dsimp only at hSw
    go_simp
    try with_reducible rfl
  try simp only [Act.put, List.setIfInBounds_toArray, List.set_cons_zero, List.set_cons_succ]
  refine wpAnyH_take (i := 33) (oi := ⟨_, _, _, _, _, _⟩) (v := .bool (!boxzL a.body)) rfl (by kernel_rfl) (by kernel_rfl) (by kernel_rfl) (fun _ _ _ h => h) (Or.inl ⟨by rfl, ?_⟩) (by assumption) ?_
  · intro wz hSw
    try dsimp only at hSw
    go_simp
    by_cases z1 : a.body.nonce = [] <;> by_cases z2 : a.body.data = [] <;> by_cases z3 : a.body.tag = [] <;> simp [boxzL, z1, z2, z3]
  try simp only [Act.put, List.setIfInBounds_toArray, List.set_cons_zero, List.set_cons_succ]
  refine wpAnyH_take (i := 36) (oi := ⟨_, _, _, _, _, _⟩) (v := ?_) rfl (by kernel_rfl) (by kernel_rfl) (by kernel_rfl) (fun _ _ _ h => h) (Or.inl ⟨by rfl, ?_⟩) (by assumption) ?_
  rotate_left
  · intro wz hSw
    try dsimp only at hSw
    go_simp
    try with_reducible rfl
  try simp only [Act.put, List.setIfInBounds_toArray, List.set_cons_zero, List.set_cons_succ]
  refine wpAnyH_take (i := 37) (oi := ⟨_, _, _, _, _, _⟩) (v := ?_) rfl (by kernel_rfl) (by kernel_rfl) (by kernel_rfl) (fun _ _ _ h => h) (Or.inl ⟨by rfl, ?_⟩) (by assumption) ?_
  rotate_left
  · intro wz hSw
    try dsimp only at hSw
    go_simp
    try with_reducible rfl
  try simp only [Act.put, List.setIfInBounds_toArray, List.set_cons_zero, List.set_cons_succ]
  refine wpAnyH_take (i := 38) (oi := ⟨_, _, _, _, _, _⟩) (v := ?_) rfl (by kernel_rfl) (by kernel_rfl) (by kernel_rfl) (fun _ _ _ h => h) (Or.inl ⟨by rfl, ?_⟩) (by assumption) ?_
  rotate_left
  · intro wz hSw
    try dsimp only at hSw
    go_simp
    try with_reducible rfl
  try simp only [Act.put, List.setIfInBounds_toArray, List.set_cons_zero, List.set_cons_succ]
  refine wpAnyH_take (i := 41) (oi := ⟨_, _, _, _, _, _⟩) (v := ?_) rfl (by kernel_rfl) (by kernel_rfl) (by kernel_rfl) (fun _ _ _ h => h) (Or.inl ⟨by rfl, ?_⟩) (by assumption) ?_
  rotate_left
  · intro wz hSw
    try dsimp only at hSw
    go_simp
    try with_reducible rfl
  try simp only [Act.put, List.setIfInBounds_toArray, List.set_cons_zero, List.set_cons_succ]
  refine wpAnyH_take (i := 42) (oi := ⟨_, _, _, _, _, _⟩) (v := ?_) rfl (by kernel_rfl) (by kernel_rfl) (by kernel_rfl) (fun _ _ _ h => h) (Or.inl ⟨by rfl, ?_⟩) (by assumption) ?_
  rotate_left
  · intro wz hSw
    try dsimp only at hSw
    go_simp
    try with_reducible rfl
  try simp only [Act.put, List.setIfInBounds_toArray, List.set_cons_zero, List.set_cons_succ]
  refine wpAnyH_take (i := 43) (oi := ⟨_, _, _, _, _, _⟩) (v := ?_) rfl (by kernel_rfl) (by kernel_rfl) (by kernel_rfl) (fun _ _ _ h => h) (Or.inl ⟨by rfl, ?_⟩) (by assumption) ?_
  rotate_left
  · intro wz hSw
    try dsimp only at hSw
    go_simp
    try with_reducible rfl
  try simp only [Act.put, List.setIfInBounds_toArray, List.set_cons_zero, List.set_cons_succ]
  refine wpAnyH_take (i := 44) (oi := ⟨_, _, _, _, _, _⟩) (v := ?_) rfl (by kernel_rfl) (by kernel_rfl) (by kernel_rfl) (fun _ _ _ h => h) (Or.inl ⟨by rfl, ?_⟩) (by assumption) ?_
  rotate_left
  · intro wz hSw
    try dsimp only at hSw
    go_simp
    try with_reducible rfl
  try simp only [Act.put, List.setIfInBounds_toArray, List.set_cons_zero, List.set_cons_succ]
  refine wpAnyH_take (i := 47) (oi := ⟨_, _, _, _, _, _⟩) (v := ?_) rfl (by kernel_rfl) (by kernel_rfl) (by kernel_rfl) (fun _ _ _ h => h) (Or.inl ⟨by rfl, ?_⟩) (by assumption) ?_
  rotate_left
  · intro wz hSw
    try dsimp only at hSw
    go_simp
    try with_reducible rfl
  try simp only [Act.put, List.setIfInBounds_toArray, List.set_cons_zero, List.set_cons_succ]
  refine wpAnyH_take (i := 48) (oi := ⟨_, _, _, _, _, _⟩) (v := ?_) rfl (by kernel_rfl) (by kernel_rfl) (by kernel_rfl) (fun _ _ _ h => h) (Or.inl ⟨by rfl, ?_⟩) (by assumption) ?_
  rotate_left
  · intro wz hSw
    try dsimp only at hSw
    go_simp
    try with_reducible rfl
  try simp only [Act.put, List.setIfInBounds_toArray, List.set_cons_zero, List.set_cons_succ]
  refine wpAnyH_take (i := 49) (oi := ⟨_, _, _, _, _, _⟩) (v := ?_) rfl (by kernel_rfl) (by kernel_rfl) (by kernel_rfl) (fun _ _ _ h => h) (Or.inl ⟨by rfl, ?_⟩) (by assumption) ?_
  rotate_left
  · intro wz hSw
    try dsimp only at hSw
    go_simp
    try with_reducible rfl
  try simp only [Act.put, List.setIfInBounds_toArray, List.set_cons_zero, List.set_cons_succ]
  refine wpAnyH_take (i := 52) (oi := ⟨_, _, _, _, _, _⟩) (v := ?_) rfl (by kernel_rfl) (by kernel_rfl) (by kernel_rfl) (fun _ _ _ h => h) (Or.inl ⟨by rfl, ?_⟩) (by assumption) ?_
  rotate_left
  · intro wz hSw
    try dsimp only at hSw
    go_simp
    try with_reducible rfl
  try simp only [Act.put, List.setIfInBounds_toArray, List.set_cons_zero, List.set_cons_succ]
  refine wpAnyH_take (i := 53) (oi := ⟨_, _, _, _, _, _⟩) (v := ?_) rfl (by kernel_rfl) (by kernel_rfl) (by kernel_rfl) (fun _ _ _ h => h) (Or.inl ⟨by rfl, ?_⟩) (by assumption) ?_
  rotate_left
  · intro wz hSw
    try dsimp only at hSw
    go_simp
    try with_reducible rfl
  try simp only [Act.put, List.setIfInBounds_toArray, List.set_cons_zero, List.set_cons_succ]
  refine wpAnyH_take (i := 54) (oi := ⟨_, _, _, _, _, _⟩) (v := ?_) rfl (by kernel_rfl) (by kernel_rfl) (by kernel_rfl) (fun _ _ _ h => h) (Or.inl ⟨by rfl, ?_⟩) (by assumption) ?_
  rotate_left
  · intro wz hSw
    try dsimp only at hSw
    go_simp
    try with_reducible rfl
  try simp only [Act.put, List.setIfInBounds_toArray, List.set_cons_zero, List.set_cons_succ]
  refine wpAnyH_ready (rs := [3]) (by kernel_rfl) (by simp) ?_
  refine AllReadyH.cons (o := ⟨_, _, _, _, _, _⟩) rfl (fun K hK => ?_) AllReadyH.nil
  go_simp
  refine (W1.out _).mono ?_
  rintro e w2 ⟨rfl, hb⟩
  replace T := Lib.hid (T.out.step hb)
  replace B1 := Lib.hid (B1.out.step hb)
  replace V := Lib.hid (V.out.step hb)
  clear hb hHeld
  refine hK.out _ _ ⟨(B1.out.c 5 _ V.out.object), (B1.out.c 6 _ V.out.target), (B1.out.c 7 _ V.out.scope), (B1.out.c 8 _ V.out.group), (B1.out.c 9 _ H9.out), (B1.out.c 10 _ V.out.text), (B1.out.c 11 _ V.out.nonce), (B1.out.c 12 _ V.out.data), (B1.out.c 13 _ V.out.tag), (B1.out.c 14 _ V.out.epoch), (B1.out.c 15 _ H15.out), (B1.out.c 16 _ V.out.n), (B1.out.c 17 _ V.out.m)⟩ (fun hHeld => ?_)
  clear hK K
  try simp only [Act.put, List.setIfInBounds_toArray, List.set_cons_zero, List.set_cons_succ]
  refine wpAnyH_ready (rs := [7]) (by kernel_rfl) (by simp) ?_
  refine AllReadyH.cons (o := ⟨_, _, _, _, _, _⟩) rfl (fun K hK => ?_) AllReadyH.nil
  go_simp
  refine (W2.out _).mono ?_
  rintro e w3 ⟨rfl, hb⟩
  replace T := Lib.hid (T.out.step hb)
  replace B1 := Lib.hid (B1.out.step hb)
  replace V := Lib.hid (V.out.step hb)
  clear hb hHeld
  refine hK.out _ _ ⟨(B1.out.c 5 _ V.out.object), (B1.out.c 6 _ V.out.target), (B1.out.c 7 _ V.out.scope), (B1.out.c 8 _ V.out.group), (B1.out.c 9 _ H9.out), (B1.out.c 10 _ V.out.text), (B1.out.c 11 _ V.out.nonce), (B1.out.c 12 _ V.out.data), (B1.out.c 13 _ V.out.tag), (B1.out.c 14 _ V.out.epoch), (B1.out.c 15 _ H15.out), (B1.out.c 16 _ V.out.n), (B1.out.c 17 _ V.out.m)⟩ (fun hHeld => ?_)
  clear hK K
  try simp only [Act.put, List.setIfInBounds_toArray, List.set_cons_zero, List.set_cons_succ]
  refine wpAnyH_take (i := 8) (oi := ⟨_, _, _, _, _, _⟩) (v := ?_) rfl (by kernel_rfl) (by kernel_rfl) (by kernel_rfl) (fun _ _ _ h => h) (Or.inl ⟨by rfl, ?_⟩) (by assumption) ?_
  rotate_left
  · intro wz hSw
    try dsimp only at hSw
    go_simp
    try with_reducible rfl
  try simp only [Act.put, List.setIfInBounds_toArray, List.set_cons_zero, List.set_cons_succ]
  refine wpAnyH_ready (rs := [12]) (by kernel_rfl) (by simp) ?_
  refine AllReadyH.cons (o := ⟨_, _, _, _, _, _⟩) rfl (fun K hK => ?_) AllReadyH.nil
  go_simp
  refine (W3.out _).mono ?_
  rintro e w4 ⟨rfl, hb⟩
  replace T := Lib.hid (T.out.step hb)
  replace B1 := Lib.hid (B1.out.step hb)
  replace V := Lib.hid (V.out.step hb)
  clear hb hHeld
  refine hK.out _ _ ⟨(B1.out.c 5 _ V.out.object), (B1.out.c 6 _ V.out.target), (B1.out.c 7 _ V.out.scope), (B1.out.c 8 _ V.out.group), (B1.out.c 9 _ H9.out), (B1.out.c 10 _ V.out.text), (B1.out.c 11 _ V.out.nonce), (B1.out.c 12 _ V.out.data), (B1.out.c 13 _ V.out.tag), (B1.out.c 14 _ V.out.epoch), (B1.out.c 15 _ H15.out), (B1.out.c 16 _ V.out.n), (B1.out.c 17 _ V.out.m)⟩ (fun hHeld => ?_)
  clear hK K
  try simp only [Act.put, List.setIfInBounds_toArray, List.set_cons_zero, List.set_cons_succ]
  refine wpAnyH_take (i := 13) (oi := ⟨_, _, _, _, _, _⟩) (v := ?_) rfl (by kernel_rfl) (by kernel_rfl) (by kernel_rfl) (fun _ _ _ h => h) (Or.inl ⟨by rfl, ?_⟩) (by assumption) ?_
  rotate_left
  · intro wz hSw
    try dsimp only at hSw
    go_simp
    try with_reducible rfl
  try simp only [Act.put, List.setIfInBounds_toArray, List.set_cons_zero, List.set_cons_succ]
  refine wpAnyH_ready (rs := [17]) (by kernel_rfl) (by simp) ?_
  refine AllReadyH.cons (o := ⟨_, _, _, _, _, _⟩) rfl (fun K hK => ?_) AllReadyH.nil
  go_simp
  refine (W4.out _).mono ?_
  rintro e w5 ⟨rfl, hb⟩
  replace T := Lib.hid (T.out.step hb)
  replace B1 := Lib.hid (B1.out.step hb)
  replace V := Lib.hid (V.out.step hb)
  clear hb hHeld
  refine hK.out _ _ ⟨(B1.out.c 5 _ V.out.object), (B1.out.c 6 _ V.out.target), (B1.out.c 7 _ V.out.scope), (B1.out.c 8 _ V.out.group), (B1.out.c 9 _ H9.out), (B1.out.c 10 _ V.out.text), (B1.out.c 11 _ V.out.nonce), (B1.out.c 12 _ V.out.data), (B1.out.c 13 _ V.out.tag), (B1.out.c 14 _ V.out.epoch), (B1.out.c 15 _ H15.out), (B1.out.c 16 _ V.out.n), (B1.out.c 17 _ V.out.m)⟩ (fun hHeld => ?_)
  clear hK K
  try simp only [Act.put, List.setIfInBounds_toArray, List.set_cons_zero, List.set_cons_succ]
  refine wpAnyH_take (i := 18) (oi := ⟨_, _, _, _, _, _⟩) (v := ?_) rfl (by kernel_rfl) (by kernel_rfl) (by kernel_rfl) (fun _ _ _ h => h) (Or.inl ⟨by rfl, ?_⟩) (by assumption) ?_
  rotate_left
  · intro wz hSw
    try dsimp only at hSw
    go_simp
    try with_reducible rfl
  try simp only [Act.put, List.setIfInBounds_toArray, List.set_cons_zero, List.set_cons_succ]
  refine wpAnyH_ready (rs := [23]) (by kernel_rfl) (by simp) ?_
  refine AllReadyH.cons (o := ⟨_, _, _, _, _, _⟩) rfl (fun K hK => ?_) AllReadyH.nil
  go_simp
  refine (W5.out _).mono ?_
  rintro e w6 ⟨rfl, hb⟩
  replace T := Lib.hid (T.out.step hb)
  replace B1 := Lib.hid (B1.out.step hb)
  replace V := Lib.hid (V.out.step hb)
  clear hb hHeld
  refine hK.out _ _ ⟨(B1.out.c 5 _ V.out.object), (B1.out.c 6 _ V.out.target), (B1.out.c 7 _ V.out.scope), (B1.out.c 8 _ V.out.group), (B1.out.c 9 _ H9.out), (B1.out.c 10 _ V.out.text), (B1.out.c 11 _ V.out.nonce), (B1.out.c 12 _ V.out.data), (B1.out.c 13 _ V.out.tag), (B1.out.c 14 _ V.out.epoch), (B1.out.c 15 _ H15.out), (B1.out.c 16 _ V.out.n), (B1.out.c 17 _ V.out.m)⟩ (fun hHeld => ?_)
  clear hK K
  try simp only [Act.put, List.setIfInBounds_toArray, List.set_cons_zero, List.set_cons_succ]
  refine wpAnyH_take (i := 24) (oi := ⟨_, _, _, _, _, _⟩) (v := ?_) rfl (by kernel_rfl) (by kernel_rfl) (by kernel_rfl) (fun _ _ _ h => h) (Or.inl ⟨by rfl, ?_⟩) (by assumption) ?_
  rotate_left
  · intro wz hSw
    try dsimp only at hSw
    go_simp
    try with_reducible rfl
  try simp only [Act.put, List.setIfInBounds_toArray, List.set_cons_zero, List.set_cons_succ]
  refine wpAnyH_ready (rs := [28]) (by kernel_rfl) (by simp) ?_
  refine AllReadyH.cons (o := ⟨_, _, _, _, _, _⟩) rfl (fun K hK => ?_) AllReadyH.nil
  go_simp
  refine (W6.out _).mono ?_
  rintro e w7 ⟨rfl, hb⟩
  replace T := Lib.hid (T.out.step hb)
  replace B1 := Lib.hid (B1.out.step hb)
  replace V := Lib.hid (V.out.step hb)
  clear hb hHeld
  refine hK.out _ _ ⟨(B1.out.c 5 _ V.out.object), (B1.out.c 6 _ V.out.target), (B1.out.c 7 _ V.out.scope), (B1.out.c 8 _ V.out.group), (B1.out.c 9 _ H9.out), (B1.out.c 10 _ V.out.text), (B1.out.c 11 _ V.out.nonce), (B1.out.c 12 _ V.out.data), (B1.out.c 13 _ V.out.tag), (B1.out.c 14 _ V.out.epoch), (B1.out.c 15 _ H15.out), (B1.out.c 16 _ V.out.n), (B1.out.c 17 _ V.out.m)⟩ (fun hHeld => ?_)
  clear hK K
  try simp only [Act.put, List.setIfInBounds_toArray, List.set_cons_zero, List.set_cons_succ]
  refine wpAnyH_take (i := 29) (oi := ⟨_, _, _, _, _, _⟩) (v := ?_) rfl (by kernel_rfl) (by kernel_rfl) (by kernel_rfl) (fun _ _ _ h => h) (Or.inl ⟨by rfl, ?_⟩) (by assumption) ?_
  rotate_left
  · intro wz hSw
    try dsimp only at hSw
    go_simp
    try with_reducible rfl
  try simp only [Act.put, List.setIfInBounds_toArray, List.set_cons_zero, List.set_cons_succ]
  refine wpAnyH_ready (rs := [34]) (by kernel_rfl) (by simp) ?_
  refine AllReadyH.cons (o := ⟨_, _, _, _, _, _⟩) rfl (fun K hK => ?_) AllReadyH.nil
  go_simp
  refine (W7.out _).mono ?_
  rintro e w8 ⟨rfl, hb⟩
  replace T := Lib.hid (T.out.step hb)
  replace B1 := Lib.hid (B1.out.step hb)
  replace V := Lib.hid (V.out.step hb)
  clear hb hHeld
  refine hK.out _ _ ⟨(B1.out.c 5 _ V.out.object), (B1.out.c 6 _ V.out.target), (B1.out.c 7 _ V.out.scope), (B1.out.c 8 _ V.out.group), (B1.out.c 9 _ H9.out), (B1.out.c 10 _ V.out.text), (B1.out.c 11 _ V.out.nonce), (B1.out.c 12 _ V.out.data), (B1.out.c 13 _ V.out.tag), (B1.out.c 14 _ V.out.epoch), (B1.out.c 15 _ H15.out), (B1.out.c 16 _ V.out.n), (B1.out.c 17 _ V.out.m)⟩ (fun hHeld => ?_)
  clear hK K
  try simp only [Act.put, List.setIfInBounds_toArray, List.set_cons_zero, List.set_cons_succ]
  refine wpAnyH_take (i := 35) (oi := ⟨_, _, _, _, _, _⟩) (v := ?_) rfl (by kernel_rfl) (by kernel_rfl) (by kernel_rfl) (fun _ _ _ h => h) (Or.inl ⟨by rfl, ?_⟩) (by assumption) ?_
  rotate_left
  · intro wz hSw
    try dsimp only at hSw
    go_simp
    try with_reducible rfl
  try simp only [Act.put, List.setIfInBounds_toArray, List.set_cons_zero, List.set_cons_succ]
  refine wpAnyH_ready (rs := [39]) (by kernel_rfl) (by simp) ?_
  refine AllReadyH.cons (o := ⟨_, _, _, _, _, _⟩) rfl (fun K hK => ?_) AllReadyH.nil
  go_simp
  refine (W8.out _).mono ?_
  rintro e w9 ⟨rfl, hb⟩
  replace T := Lib.hid (T.out.step hb)
  replace B1 := Lib.hid (B1.out.step hb)
  replace V := Lib.hid (V.out.step hb)
  clear hb hHeld
  refine hK.out _ _ ⟨(B1.out.c 5 _ V.out.object), (B1.out.c 6 _ V.out.target), (B1.out.c 7 _ V.out.scope), (B1.out.c 8 _ V.out.group), (B1.out.c 9 _ H9.out), (B1.out.c 10 _ V.out.text), (B1.out.c 11 _ V.out.nonce), (B1.out.c 12 _ V.out.data), (B1.out.c 13 _ V.out.tag), (B1.out.c 14 _ V.out.epoch), (B1.out.c 15 _ H15.out), (B1.out.c 16 _ V.out.n), (B1.out.c 17 _ V.out.m)⟩ (fun hHeld => ?_)
  clear hK K
  try simp only [Act.put, List.setIfInBounds_toArray, List.set_cons_zero, List.set_cons_succ]
  refine wpAnyH_take (i := 40) (oi := ⟨_, _, _, _, _, _⟩) (v := ?_) rfl (by kernel_rfl) (by kernel_rfl) (by kernel_rfl) (fun _ _ _ h => h) (Or.inl ⟨by rfl, ?_⟩) (by assumption) ?_
  rotate_left
  · intro wz hSw
    try dsimp only at hSw
    go_simp
    try with_reducible rfl
  try simp only [Act.put, List.setIfInBounds_toArray, List.set_cons_zero, List.set_cons_succ]
  refine wpAnyH_ready (rs := [45]) (by kernel_rfl) (by simp) ?_
  refine AllReadyH.cons (o := ⟨_, _, _, _, _, _⟩) rfl (fun K hK => ?_) AllReadyH.nil
  go_simp
  refine (W9.out _).mono ?_
  rintro e w10 ⟨rfl, hb⟩
  replace T := Lib.hid (T.out.step hb)
  replace B1 := Lib.hid (B1.out.step hb)
  replace V := Lib.hid (V.out.step hb)
  clear hb hHeld
  refine hK.out _ _ ⟨(B1.out.c 5 _ V.out.object), (B1.out.c 6 _ V.out.target), (B1.out.c 7 _ V.out.scope), (B1.out.c 8 _ V.out.group), (B1.out.c 9 _ H9.out), (B1.out.c 10 _ V.out.text), (B1.out.c 11 _ V.out.nonce), (B1.out.c 12 _ V.out.data), (B1.out.c 13 _ V.out.tag), (B1.out.c 14 _ V.out.epoch), (B1.out.c 15 _ H15.out), (B1.out.c 16 _ V.out.n), (B1.out.c 17 _ V.out.m)⟩ (fun hHeld => ?_)
  clear hK K
  try simp only [Act.put, List.setIfInBounds_toArray, List.set_cons_zero, List.set_cons_succ]
  refine wpAnyH_take (i := 46) (oi := ⟨_, _, _, _, _, _⟩) (v := ?_) rfl (by kernel_rfl) (by kernel_rfl) (by kernel_rfl) (fun _ _ _ h => h) (Or.inl ⟨by rfl, ?_⟩) (by assumption) ?_
  rotate_left
  · intro wz hSw
    try dsimp only at hSw
    go_simp
    try with_reducible rfl
  try simp only [Act.put, List.setIfInBounds_toArray, List.set_cons_zero, List.set_cons_succ]
  refine wpAnyH_ready (rs := [50]) (by kernel_rfl) (by simp) ?_
  refine AllReadyH.cons (o := ⟨_, _, _, _, _, _⟩) rfl (fun K hK => ?_) AllReadyH.nil
  go_simp
  refine (W10.out _).mono ?_
  rintro e w11 ⟨rfl, hb⟩
  replace T := Lib.hid (T.out.step hb)
  replace B1 := Lib.hid (B1.out.step hb)
  replace V := Lib.hid (V.out.step hb)
  clear hb hHeld
  refine hK.out _ _ ⟨(B1.out.c 5 _ V.out.object), (B1.out.c 6 _ V.out.target), (B1.out.c 7 _ V.out.scope), (B1.out.c 8 _ V.out.group), (B1.out.c 9 _ H9.out), (B1.out.c 10 _ V.out.text), (B1.out.c 11 _ V.out.nonce), (B1.out.c 12 _ V.out.data), (B1.out.c 13 _ V.out.tag), (B1.out.c 14 _ V.out.epoch), (B1.out.c 15 _ H15.out), (B1.out.c 16 _ V.out.n), (B1.out.c 17 _ V.out.m)⟩ (fun hHeld => ?_)
  clear hK K
  try simp only [Act.put, List.setIfInBounds_toArray, List.set_cons_zero, List.set_cons_succ]
  refine wpAnyH_take (i := 51) (oi := ⟨_, _, _, _, _, _⟩) (v := ?_) rfl (by kernel_rfl) (by kernel_rfl) (by kernel_rfl) (fun _ _ _ h => h) (Or.inl ⟨by rfl, ?_⟩) (by assumption) ?_
  rotate_left
  · intro wz hSw
    try dsimp only at hSw
    go_simp
    try with_reducible rfl
  try simp only [Act.put, List.setIfInBounds_toArray, List.set_cons_zero, List.set_cons_succ]
  refine wpAnyH_ready (rs := [55]) (by kernel_rfl) (by simp) ?_
  refine AllReadyH.cons (o := ⟨_, _, _, _, _, _⟩) rfl (fun K hK => ?_) AllReadyH.nil
  go_simp
  refine (W11.out _).mono ?_
  rintro e w12 ⟨rfl, hb⟩
  replace T := Lib.hid (T.out.step hb)
  replace B1 := Lib.hid (B1.out.step hb)
  replace V := Lib.hid (V.out.step hb)
  clear hb hHeld
  refine hK.out _ _ ⟨(B1.out.c 5 _ V.out.object), (B1.out.c 6 _ V.out.target), (B1.out.c 7 _ V.out.scope), (B1.out.c 8 _ V.out.group), (B1.out.c 9 _ H9.out), (B1.out.c 10 _ V.out.text), (B1.out.c 11 _ V.out.nonce), (B1.out.c 12 _ V.out.data), (B1.out.c 13 _ V.out.tag), (B1.out.c 14 _ V.out.epoch), (B1.out.c 15 _ H15.out), (B1.out.c 16 _ V.out.n), (B1.out.c 17 _ V.out.m)⟩ (fun hHeld => ?_)
  clear hK K
  try simp only [Act.put, List.setIfInBounds_toArray, List.set_cons_zero, List.set_cons_succ]
  refine wpAnyH_take (i := 56) (oi := ⟨_, _, _, _, _, _⟩) (v := ?_) rfl (by kernel_rfl) (by kernel_rfl) (by kernel_rfl) (fun _ _ _ h => h) (Or.inl ⟨by rfl, ?_⟩) (by assumption) ?_
  rotate_left
  · intro wz hSw
    try dsimp only at hSw
    go_simp
    try with_reducible rfl
  try simp only [Act.put, List.setIfInBounds_toArray, List.set_cons_zero, List.set_cons_succ]
  refine wpAnyH_take (i := 57) (oi := ⟨_, _, _, _, _, _⟩) (v := ?_) rfl (by kernel_rfl) (by kernel_rfl) (by kernel_rfl) (fun _ _ _ h => h) (Or.inl ⟨by rfl, ?_⟩) (by assumption) ?_
  rotate_left
  · intro wz hSw
    try dsimp only at hSw
    go_simp
    try with_reducible rfl
  try simp only [Act.put, List.setIfInBounds_toArray, List.set_cons_zero, List.set_cons_succ]
  refine wpAnyH_done (by kernel_rfl) ?_ _
  clear hHeld
  go_wp2
  go_ret
  exact ⟨rfl, T.out.bel, HF.out⟩
end Ld
end Go.Proofs.YtojbicpchjiplaaGreatDoor
