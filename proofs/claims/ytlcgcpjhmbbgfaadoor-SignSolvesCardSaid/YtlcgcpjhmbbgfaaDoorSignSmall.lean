/-
  Layer 5: the law's own small example.
-/
import Derived.Test.YtlcgcpjhmbbgfaaDoorSignLand
namespace Go.Proofs.YtlcgcpjhmbbgfaaDoor
open Go.RowKit
namespace Sg
attribute [local go_sem] S3.B_size S3.B_app

set_option maxHeartbeats 4000000 in
set_option maxRecDepth 100000 in
theorem small_walk (W w : World) (hW : S3.Laid W) (hb : Below W.heap.size W w) (xa ya ea sa xb yb : Int)
    (KA : Hid (∀ W : World, S3.Laid W → Ok W 11 #[.string (S3.B [97])] (.agg #[.int .i64 xa, .int .i64 ya])))
    (KS : Hid (∀ W : World, S3.Laid W → Ok W 17 #[.agg #[.int .i64 xa, .int .i64 ya], .string (S3.B [104, 101, 108, 108, 111])] (.agg #[.int .i64 ea, .int .i64 sa])))
    (KO : Hid (∀ W : World, S3.Laid W → Ok W 12 #[.int .i64 1] (.agg #[.int .i64 1, .int .i64 37])))
    (KZ : Hid (∀ W : World, S3.Laid W → Ok W 12 #[.int .i64 0] (.agg #[.int .i64 0, .int .i64 0])))
    (KR : Hid (∀ W : World, S3.Laid W → Ok W 15 #[.agg #[.int .i64 xa, .int .i64 ya]] (.bool true)))
    (KV : Hid (∀ W : World, S3.Laid W → Ok W 19 #[.int .i64 ya, .string (S3.B [104, 101, 108, 108, 111]), .agg #[.int .i64 ea, .int .i64 sa]] (.bool true)))
    (KW : Hid (∀ W : World, S3.Laid W → Ok W 19 #[.int .i64 ya, .string (S3.B [104, 97, 108, 108, 111]), .agg #[.int .i64 ea, .int .i64 sa]] (.bool false)))
    (KB : Hid (∀ W : World, S3.Laid W → Ok W 11 #[.string (S3.B [98])] (.agg #[.int .i64 xb, .int .i64 yb])))
    (KX : Hid (∀ W : World, S3.Laid W → Ok W 19 #[.int .i64 yb, .string (S3.B [104, 101, 108, 108, 111]), .agg #[.int .i64 ea, .int .i64 sa]] (.bool false))) :
    Calls Tryd.prog 10 #[] w fun e w' => e = .returned (.bool true) ∧ Below W.heap.size W w' := by
  have HLw := Lib.hid (laid_below hW hb)
  have g := Lib.hid hb
  have hfd : ∀ w : World, (Instr.field 23 (.agg #[.int .i64 xb, .int .i64 yb]) 1).run Tryd.prog w = .ok (.int .i64 yb) w := fun _ => by kernel_rfl
  clear hW hb
  go_enter Tryd.func10, Tryd.ntmps10
  go_wp2_with fail
  refine (KA.out w HLw.out _ (Below.refl _ _)).mono ?_
  rintro e w1 ⟨rfl, h1⟩
  have HL1 := Lib.hid (laid_below (laid_below HLw.out h1) ((Below.refl w1.heap.size w1).alloc (Nat.le_refl _) (.cells #[.int .i64 xa, .int .i64 ya] 23)))
  have g1 := Lib.hid ((g.out.trans (h1.mono g.out.size)).alloc (Nat.le_trans g.out.size h1.size) (.cells #[.int .i64 xa, .int .i64 ya] 23))
  have HC1 := Lib.hid (cells2 w1 (.int .i64 xa) (.int .i64 ya) 23)
  have HZ1 : Hid (w1.heap.size < (w1.alloc (.cells #[.int .i64 xa, .int .i64 ya] 23)).heap.size) := Lib.hid (by simp)
  clear h1 HLw g
  go_wp2_with fail
  generalize w1.alloc (.cells #[.int .i64 xa, .int .i64 ya] 23) = wA at *
  refine (KS.out wA HL1.out _ (Below.refl _ _)).mono ?_
  rintro e w2 ⟨rfl, h2⟩
  have HL2 := Lib.hid (laid_below (laid_below HL1.out h2) ((Below.refl w2.heap.size w2).alloc (Nat.le_refl _) (.cells #[.int .i64 ea, .int .i64 sa] 30)))
  have g2 := Lib.hid ((g1.out.trans (h2.mono g1.out.size)).alloc (Nat.le_trans g1.out.size h2.size) (.cells #[.int .i64 ea, .int .i64 sa] 30))
  have hz2 : w1.heap.size < w2.heap.size := Nat.lt_of_lt_of_le HZ1.out h2.size
  have hal := (Below.refl w2.heap.size w2).alloc (Nat.le_refl _) (.cells #[.int .i64 ea, .int .i64 sa] 30)
  have HC := Lib.hid (And.intro (((hal.cell (p := ⟨w1.heap.size, 0, none⟩) hz2).trans (h2.cell (p := ⟨w1.heap.size, 0, none⟩) HZ1.out)).trans HC1.out.1) (((hal.cell (p := ⟨w1.heap.size, 1, none⟩) hz2).trans (h2.cell (p := ⟨w1.heap.size, 1, none⟩) HZ1.out)).trans HC1.out.2))
  have HD := Lib.hid (cells2 w2 (.int .i64 ea) (.int .i64 sa) 30)
  have HZ : Hid (w1.heap.size < (w2.alloc (.cells #[.int .i64 ea, .int .i64 sa] 30)).heap.size) := Lib.hid (by simp; omega)
  have HY : Hid (w2.heap.size < (w2.alloc (.cells #[.int .i64 ea, .int .i64 sa] 30)).heap.size) := Lib.hid (by simp)
  have c0 := (h2.cell (p := ⟨w1.heap.size, 0, none⟩) HZ1.out).trans HC1.out.1
  have c1 := (h2.cell (p := ⟨w1.heap.size, 1, none⟩) HZ1.out).trans HC1.out.2
  clear h2 hz2 hal HL1 g1 HC1 HZ1 c0 c1
  go_wp2_with fail
  generalize w2.alloc (.cells #[.int .i64 ea, .int .i64 sa] 30) = w0 at *
  have HL := HL2
  clear HL2
  refine wp_region_held_drew (S := (fun w' => w'.cell? ⟨w1.heap.size, 0, none⟩ = some (.int .i64 xa) ∧ w'.cell? ⟨w1.heap.size, 1, none⟩ = some (.int .i64 ya) ∧ w'.cell? ⟨w2.heap.size, 0, none⟩ = some (.int .i64 ea) ∧ w'.cell? ⟨w2.heap.size, 1, none⟩ = some (.int .i64 sa))) (by kernel_rfl) ⟨HC.out.1, HC.out.2, HD.out.1, HD.out.2⟩ (fun hHeld => ?_)
  refine wpAnyH_take (i := 1) (oi := ⟨_, _, _, _, _, _⟩) (v := ?_) rfl (by kernel_rfl) (by kernel_rfl) (by kernel_rfl) (fun _ _ _ h => h) (Or.inl ⟨by rfl, ?_⟩) (by assumption) ?_
  rotate_left
  · intro wz hSw
    try dsimp only at hSw
    go_simp
    try with_reducible rfl
  try simp only [Act.put, List.setIfInBounds_toArray, List.set_cons_zero, List.set_cons_succ]
  refine wpAnyH_ready (rs := [0]) (by kernel_rfl) (by simp) ?_
  refine AllReadyH.cons (o := ⟨_, _, _, _, _, _⟩) rfl (fun K hK => ?_) AllReadyH.nil
  go_simp
  refine (KO.out w0 HL.out _ (Below.refl _ _).drew).mono ?_
  rintro e v1 ⟨rfl, hb⟩
  have Gv1 := Lib.hid hb
  have d0 := (hb.cell (p := ⟨w1.heap.size, 0, none⟩) HZ.out).trans HC.out.1
  have d1 := (hb.cell (p := ⟨w1.heap.size, 1, none⟩) HZ.out).trans HC.out.2
  have d2 := (hb.cell (p := ⟨w2.heap.size, 0, none⟩) HY.out).trans HD.out.1
  have d3 := (hb.cell (p := ⟨w2.heap.size, 1, none⟩) HY.out).trans HD.out.2
  clear hb
  refine hK.out _ _ ⟨d0, d1, d2, d3⟩ (fun hHeld => ?_)
  clear hK K d0 d1 d2 d3
  try simp only [Act.put, List.setIfInBounds_toArray, List.set_cons_zero, List.set_cons_succ]
  refine wpAnyH_take (i := 2) (oi := ⟨_, _, _, _, _, _⟩) (v := ?_) rfl (by kernel_rfl) (by kernel_rfl) (by kernel_rfl) (fun _ _ _ h => h) (Or.inl ⟨by rfl, ?_⟩) (by assumption) ?_
  rotate_left
  · intro wz hSw
    try dsimp only at hSw
    go_simp
    try with_reducible rfl
  try simp only [Act.put, List.setIfInBounds_toArray, List.set_cons_zero, List.set_cons_succ]
  refine wpAnyH_take (i := 3) (oi := ⟨_, _, _, _, _, _⟩) (v := ?_) rfl (by kernel_rfl) (by kernel_rfl) (by kernel_rfl) (fun _ _ _ h => h) (Or.inl ⟨by rfl, ?_⟩) (by assumption) ?_
  rotate_left
  · intro wz hSw
    try dsimp only at hSw
    go_simp
    try with_reducible rfl
  try simp only [Act.put, List.setIfInBounds_toArray, List.set_cons_zero, List.set_cons_succ]
  refine wpAnyH_take (i := 5) (oi := ⟨_, _, _, _, _, _⟩) (v := ?_) rfl (by kernel_rfl) (by kernel_rfl) (by kernel_rfl) (fun _ _ _ h => h) (Or.inl ⟨by rfl, ?_⟩) (by assumption) ?_
  rotate_left
  · intro wz hSw
    try dsimp only at hSw
    go_simp
    try with_reducible rfl
  try simp only [Act.put, List.setIfInBounds_toArray, List.set_cons_zero, List.set_cons_succ]
  refine wpAnyH_ready (rs := [4]) (by kernel_rfl) (by simp) ?_
  refine AllReadyH.cons (o := ⟨_, _, _, _, _, _⟩) rfl (fun K hK => ?_) AllReadyH.nil
  go_simp
  refine (KZ.out w0 HL.out _ Gv1.out).mono ?_
  rintro e v2 ⟨rfl, hb⟩
  have Gv2 := Lib.hid hb
  have d0 := (hb.cell (p := ⟨w1.heap.size, 0, none⟩) HZ.out).trans HC.out.1
  have d1 := (hb.cell (p := ⟨w1.heap.size, 1, none⟩) HZ.out).trans HC.out.2
  have d2 := (hb.cell (p := ⟨w2.heap.size, 0, none⟩) HY.out).trans HD.out.1
  have d3 := (hb.cell (p := ⟨w2.heap.size, 1, none⟩) HY.out).trans HD.out.2
  clear hb
  refine hK.out _ _ ⟨d0, d1, d2, d3⟩ (fun hHeld => ?_)
  clear hK K d0 d1 d2 d3
  try simp only [Act.put, List.setIfInBounds_toArray, List.set_cons_zero, List.set_cons_succ]
  refine wpAnyH_take (i := 6) (oi := ⟨_, _, _, _, _, _⟩) (v := ?_) rfl (by kernel_rfl) (by kernel_rfl) (by kernel_rfl) (fun _ _ _ h => h) (Or.inl ⟨by rfl, ?_⟩) (by assumption) ?_
  rotate_left
  · intro wz hSw
    try dsimp only at hSw
    go_simp
    try with_reducible rfl
  try simp only [Act.put, List.setIfInBounds_toArray, List.set_cons_zero, List.set_cons_succ]
  refine wpAnyH_take (i := 7) (oi := ⟨_, _, _, _, _, _⟩) (v := ?_) rfl (by kernel_rfl) (by kernel_rfl) (by kernel_rfl) (fun _ _ _ h => h) (Or.inl ⟨by rfl, ?_⟩) (by assumption) ?_
  rotate_left
  · intro wz hSw
    try dsimp only at hSw
    go_simp
    try with_reducible rfl
  try simp only [Act.put, List.setIfInBounds_toArray, List.set_cons_zero, List.set_cons_succ]
  refine wpAnyH_take (i := 8) (oi := ⟨_, _, _, _, _, _⟩) (v := ?_) rfl (by kernel_rfl) (by kernel_rfl) (by kernel_rfl) (fun _ _ _ h => h) (Or.inl ⟨by rfl, ?_⟩) (by assumption) ?_
  rotate_left
  · intro wz hSw
    try dsimp only at hSw
    go_simp
    try with_reducible rfl
  try simp only [Act.put, List.setIfInBounds_toArray, List.set_cons_zero, List.set_cons_succ]
  refine wpAnyH_take (i := 9) (oi := ⟨_, _, _, _, _, _⟩) (v := ?_) rfl (by kernel_rfl) (by kernel_rfl) (by kernel_rfl) (fun _ _ _ h => h) (Or.inl ⟨by rfl, ?_⟩) (by assumption) ?_
  rotate_left
  · intro wz hSw
    try dsimp only at hSw
    go_simp
    try with_reducible rfl
  try simp only [Act.put, List.setIfInBounds_toArray, List.set_cons_zero, List.set_cons_succ]
  refine wpAnyH_ready (rs := [10]) (by kernel_rfl) (by simp) ?_
  refine AllReadyH.cons (o := ⟨_, _, _, _, _, _⟩) rfl (fun K hK => ?_) AllReadyH.nil
  go_simp
  refine (KR.out w0 HL.out _ Gv2.out).mono ?_
  rintro e v3 ⟨rfl, hb⟩
  have Gv3 := Lib.hid hb
  have d0 := (hb.cell (p := ⟨w1.heap.size, 0, none⟩) HZ.out).trans HC.out.1
  have d1 := (hb.cell (p := ⟨w1.heap.size, 1, none⟩) HZ.out).trans HC.out.2
  have d2 := (hb.cell (p := ⟨w2.heap.size, 0, none⟩) HY.out).trans HD.out.1
  have d3 := (hb.cell (p := ⟨w2.heap.size, 1, none⟩) HY.out).trans HD.out.2
  clear hb
  refine hK.out _ _ ⟨d0, d1, d2, d3⟩ (fun hHeld => ?_)
  clear hK K d0 d1 d2 d3
  try simp only [Act.put, List.setIfInBounds_toArray, List.set_cons_zero, List.set_cons_succ]
  refine wpAnyH_take (i := 11) (oi := ⟨_, _, _, _, _, _⟩) (v := ?_) rfl (by kernel_rfl) (by kernel_rfl) (by kernel_rfl) (fun _ _ _ h => h) (Or.inl ⟨by rfl, ?_⟩) (by assumption) ?_
  rotate_left
  · intro wz hSw
    try dsimp only at hSw
    go_simp
    try with_reducible rfl
  try simp only [Act.put, List.setIfInBounds_toArray, List.set_cons_zero, List.set_cons_succ]
  refine wpAnyH_take (i := 12) (oi := ⟨_, _, _, _, _, _⟩) (v := ?_) rfl (by kernel_rfl) (by kernel_rfl) (by kernel_rfl) (fun _ _ _ h => h) (Or.inl ⟨by rfl, ?_⟩) (by assumption) ?_
  rotate_left
  · intro wz hSw
    try dsimp only at hSw
    go_simp
    try with_reducible rfl
  try simp only [Act.put, List.setIfInBounds_toArray, List.set_cons_zero, List.set_cons_succ]
  refine wpAnyH_take (i := 13) (oi := ⟨_, _, _, _, _, _⟩) (v := ?_) rfl (by kernel_rfl) (by kernel_rfl) (by kernel_rfl) (fun _ _ _ h => h) (Or.inl ⟨by rfl, ?_⟩) (by assumption) ?_
  rotate_left
  · intro wz hSw
    try dsimp only at hSw
    go_simp
    try with_reducible rfl
  try simp only [Act.put, List.setIfInBounds_toArray, List.set_cons_zero, List.set_cons_succ]
  refine wpAnyH_take (i := 14) (oi := ⟨_, _, _, _, _, _⟩) (v := ?_) rfl (by kernel_rfl) (by kernel_rfl) (by kernel_rfl) (fun _ _ _ h => h) (Or.inl ⟨by rfl, ?_⟩) (by assumption) ?_
  rotate_left
  · intro wz hSw
    try dsimp only at hSw
    go_simp
    try with_reducible rfl
  try simp only [Act.put, List.setIfInBounds_toArray, List.set_cons_zero, List.set_cons_succ]
  refine wpAnyH_take (i := 15) (oi := ⟨_, _, _, _, _, _⟩) (v := ?_) rfl (by kernel_rfl) (by kernel_rfl) (by kernel_rfl) (fun _ _ _ h => h) (Or.inl ⟨by rfl, ?_⟩) (by assumption) ?_
  rotate_left
  · intro wz hSw
    try dsimp only at hSw
    go_simp
    try with_reducible rfl
  try simp only [Act.put, List.setIfInBounds_toArray, List.set_cons_zero, List.set_cons_succ]
  refine wpAnyH_ready (rs := [16]) (by kernel_rfl) (by simp) ?_
  refine AllReadyH.cons (o := ⟨_, _, _, _, _, _⟩) rfl (fun K hK => ?_) AllReadyH.nil
  go_simp
  refine (KV.out w0 HL.out _ Gv3.out).mono ?_
  rintro e v4 ⟨rfl, hb⟩
  have Gv4 := Lib.hid hb
  have d0 := (hb.cell (p := ⟨w1.heap.size, 0, none⟩) HZ.out).trans HC.out.1
  have d1 := (hb.cell (p := ⟨w1.heap.size, 1, none⟩) HZ.out).trans HC.out.2
  have d2 := (hb.cell (p := ⟨w2.heap.size, 0, none⟩) HY.out).trans HD.out.1
  have d3 := (hb.cell (p := ⟨w2.heap.size, 1, none⟩) HY.out).trans HD.out.2
  clear hb
  refine hK.out _ _ ⟨d0, d1, d2, d3⟩ (fun hHeld => ?_)
  clear hK K d0 d1 d2 d3
  try simp only [Act.put, List.setIfInBounds_toArray, List.set_cons_zero, List.set_cons_succ]
  refine wpAnyH_take (i := 17) (oi := ⟨_, _, _, _, _, _⟩) (v := ?_) rfl (by kernel_rfl) (by kernel_rfl) (by kernel_rfl) (fun _ _ _ h => h) (Or.inl ⟨by rfl, ?_⟩) (by assumption) ?_
  rotate_left
  · intro wz hSw
    try dsimp only at hSw
    go_simp
    try with_reducible rfl
  try simp only [Act.put, List.setIfInBounds_toArray, List.set_cons_zero, List.set_cons_succ]
  refine wpAnyH_take (i := 18) (oi := ⟨_, _, _, _, _, _⟩) (v := ?_) rfl (by kernel_rfl) (by kernel_rfl) (by kernel_rfl) (fun _ _ _ h => h) (Or.inl ⟨by rfl, ?_⟩) (by assumption) ?_
  rotate_left
  · intro wz hSw
    try dsimp only at hSw
    go_simp
    try with_reducible rfl
  try simp only [Act.put, List.setIfInBounds_toArray, List.set_cons_zero, List.set_cons_succ]
  refine wpAnyH_take (i := 19) (oi := ⟨_, _, _, _, _, _⟩) (v := ?_) rfl (by kernel_rfl) (by kernel_rfl) (by kernel_rfl) (fun _ _ _ h => h) (Or.inl ⟨by rfl, ?_⟩) (by assumption) ?_
  rotate_left
  · intro wz hSw
    try dsimp only at hSw
    go_simp
    try with_reducible rfl
  try simp only [Act.put, List.setIfInBounds_toArray, List.set_cons_zero, List.set_cons_succ]
  refine wpAnyH_take (i := 20) (oi := ⟨_, _, _, _, _, _⟩) (v := ?_) rfl (by kernel_rfl) (by kernel_rfl) (by kernel_rfl) (fun _ _ _ h => h) (Or.inl ⟨by rfl, ?_⟩) (by assumption) ?_
  rotate_left
  · intro wz hSw
    try dsimp only at hSw
    go_simp
    try with_reducible rfl
  try simp only [Act.put, List.setIfInBounds_toArray, List.set_cons_zero, List.set_cons_succ]
  refine wpAnyH_take (i := 21) (oi := ⟨_, _, _, _, _, _⟩) (v := ?_) rfl (by kernel_rfl) (by kernel_rfl) (by kernel_rfl) (fun _ _ _ h => h) (Or.inl ⟨by rfl, ?_⟩) (by assumption) ?_
  rotate_left
  · intro wz hSw
    try dsimp only at hSw
    go_simp
    try with_reducible rfl
  try simp only [Act.put, List.setIfInBounds_toArray, List.set_cons_zero, List.set_cons_succ]
  refine wpAnyH_ready (rs := [22]) (by kernel_rfl) (by simp) ?_
  refine AllReadyH.cons (o := ⟨_, _, _, _, _, _⟩) rfl (fun K hK => ?_) AllReadyH.nil
  go_simp
  refine (KW.out w0 HL.out _ Gv4.out).mono ?_
  rintro e v5 ⟨rfl, hb⟩
  have Gv5 := Lib.hid hb
  have d0 := (hb.cell (p := ⟨w1.heap.size, 0, none⟩) HZ.out).trans HC.out.1
  have d1 := (hb.cell (p := ⟨w1.heap.size, 1, none⟩) HZ.out).trans HC.out.2
  have d2 := (hb.cell (p := ⟨w2.heap.size, 0, none⟩) HY.out).trans HD.out.1
  have d3 := (hb.cell (p := ⟨w2.heap.size, 1, none⟩) HY.out).trans HD.out.2
  clear hb
  refine hK.out _ _ ⟨d0, d1, d2, d3⟩ (fun hHeld => ?_)
  clear hK K d0 d1 d2 d3
  try simp only [Act.put, List.setIfInBounds_toArray, List.set_cons_zero, List.set_cons_succ]
  refine wpAnyH_take (i := 23) (oi := ⟨_, _, _, _, _, _⟩) (v := ?_) rfl (by kernel_rfl) (by kernel_rfl) (by kernel_rfl) (fun _ _ _ h => h) (Or.inl ⟨by rfl, ?_⟩) (by assumption) ?_
  rotate_left
  · intro wz hSw
    try dsimp only at hSw
    go_simp
    try with_reducible rfl
  try simp only [Act.put, List.setIfInBounds_toArray, List.set_cons_zero, List.set_cons_succ]
  refine wpAnyH_take (i := 24) (oi := ⟨_, _, _, _, _, _⟩) (v := ?_) rfl (by kernel_rfl) (by kernel_rfl) (by kernel_rfl) (fun _ _ _ h => h) (Or.inl ⟨by rfl, ?_⟩) (by assumption) ?_
  rotate_left
  · intro wz hSw
    try dsimp only at hSw
    go_simp
    try with_reducible rfl
  try simp only [Act.put, List.setIfInBounds_toArray, List.set_cons_zero, List.set_cons_succ]
  refine wpAnyH_take (i := 25) (oi := ⟨_, _, _, _, _, _⟩) (v := ?_) rfl (by kernel_rfl) (by kernel_rfl) (by kernel_rfl) (fun _ _ _ h => h) (Or.inl ⟨by rfl, ?_⟩) (by assumption) ?_
  rotate_left
  · intro wz hSw
    try dsimp only at hSw
    go_simp
    try with_reducible rfl
  try simp only [Act.put, List.setIfInBounds_toArray, List.set_cons_zero, List.set_cons_succ]
  refine wpAnyH_take (i := 28) (oi := ⟨_, _, _, _, _, _⟩) (v := ?_) rfl (by kernel_rfl) (by kernel_rfl) (by kernel_rfl) (fun _ _ _ h => h) (Or.inl ⟨by rfl, ?_⟩) (by assumption) ?_
  rotate_left
  · intro wz hSw
    try dsimp only at hSw
    go_simp
    try with_reducible rfl
  try simp only [Act.put, List.setIfInBounds_toArray, List.set_cons_zero, List.set_cons_succ]
  refine wpAnyH_ready (rs := [26]) (by kernel_rfl) (by simp) ?_
  refine AllReadyH.cons (o := ⟨_, _, _, _, _, _⟩) rfl (fun K hK => ?_) AllReadyH.nil
  go_simp
  refine (KB.out w0 HL.out _ Gv5.out).mono ?_
  rintro e v6 ⟨rfl, hb⟩
  have Gv6 := Lib.hid hb
  have d0 := (hb.cell (p := ⟨w1.heap.size, 0, none⟩) HZ.out).trans HC.out.1
  have d1 := (hb.cell (p := ⟨w1.heap.size, 1, none⟩) HZ.out).trans HC.out.2
  have d2 := (hb.cell (p := ⟨w2.heap.size, 0, none⟩) HY.out).trans HD.out.1
  have d3 := (hb.cell (p := ⟨w2.heap.size, 1, none⟩) HY.out).trans HD.out.2
  clear hb
  refine hK.out _ _ ⟨d0, d1, d2, d3⟩ (fun hHeld => ?_)
  clear hK K d0 d1 d2 d3
  try simp only [Act.put, List.setIfInBounds_toArray, List.set_cons_zero, List.set_cons_succ]
  refine wpAnyH_take (i := 27) (oi := ⟨_, _, _, _, _, _⟩) (v := ?_) rfl (by kernel_rfl) (by kernel_rfl) (by kernel_rfl) (fun _ _ _ h => h) (Or.inl ⟨by rfl, ?_⟩) (by assumption) ?_
  rotate_left
  · intro wz hSw
    try dsimp only at hSw
    go_simp
    try with_reducible rfl
  try simp only [Act.put, List.setIfInBounds_toArray, List.set_cons_zero, List.set_cons_succ]
  refine wpAnyH_ready (rs := [29]) (by kernel_rfl) (by simp) ?_
  refine AllReadyH.cons (o := ⟨_, _, _, _, _, _⟩) rfl (fun K hK => ?_) AllReadyH.nil
  go_simp
  refine (KX.out w0 HL.out _ Gv6.out).mono ?_
  rintro e v7 ⟨rfl, hb⟩
  have Gv7 := Lib.hid hb
  have d0 := (hb.cell (p := ⟨w1.heap.size, 0, none⟩) HZ.out).trans HC.out.1
  have d1 := (hb.cell (p := ⟨w1.heap.size, 1, none⟩) HZ.out).trans HC.out.2
  have d2 := (hb.cell (p := ⟨w2.heap.size, 0, none⟩) HY.out).trans HD.out.1
  have d3 := (hb.cell (p := ⟨w2.heap.size, 1, none⟩) HY.out).trans HD.out.2
  clear hb
  refine hK.out _ _ ⟨d0, d1, d2, d3⟩ (fun hHeld => ?_)
  clear hK K d0 d1 d2 d3
  try simp only [Act.put, List.setIfInBounds_toArray, List.set_cons_zero, List.set_cons_succ]
  refine wpAnyH_take (i := 30) (oi := ⟨_, _, _, _, _, _⟩) (v := ?_) rfl (by kernel_rfl) (by kernel_rfl) (by kernel_rfl) (fun _ _ _ h => h) (Or.inl ⟨by rfl, ?_⟩) (by assumption) ?_
  rotate_left
  · intro wz hSw
    try dsimp only at hSw
    go_simp
    try with_reducible rfl
  try simp only [Act.put, List.setIfInBounds_toArray, List.set_cons_zero, List.set_cons_succ]
  refine wpAnyH_take (i := 31) (oi := ⟨_, _, _, _, _, _⟩) (v := ?_) rfl (by kernel_rfl) (by kernel_rfl) (by kernel_rfl) (fun _ _ _ h => h) (Or.inl ⟨by rfl, ?_⟩) (by assumption) ?_
  rotate_left
  · intro wz hSw
    try dsimp only at hSw
    go_simp
    try with_reducible rfl
  try simp only [Act.put, List.setIfInBounds_toArray, List.set_cons_zero, List.set_cons_succ]
  refine wpAnyH_take (i := 32) (oi := ⟨_, _, _, _, _, _⟩) (v := ?_) rfl (by kernel_rfl) (by kernel_rfl) (by kernel_rfl) (fun _ _ _ h => h) (Or.inl ⟨by rfl, ?_⟩) (by assumption) ?_
  rotate_left
  · intro wz hSw
    try dsimp only at hSw
    go_simp
    try with_reducible rfl
  try simp only [Act.put, List.setIfInBounds_toArray, List.set_cons_zero]
  refine wpAnyH_done (by kernel_rfl) ?_ _
  go_wp2
  go_ret
  exact ⟨rfl, g2.out.trans (Gv7.out.mono (by have := g2.out.size; omega))⟩
theorem of_one : ofV 1 = (1, 37) := by
  unfold ofV
  rw [if_pos (by decide)]
  show ((1 : Int), ((S4.powP 37 1 : Nat) : Int)) = (1, 37)
  rw [S4.pow_1]; rfl
theorem small_ok (L : Landed) (W : World) (hW : S3.Laid W) : Ok W 10 #[] (.bool true) := by
  intro w hb
  have big : ∀ n : Int, 0 ≤ n → n < 2305843009213693952 → isI n := fun n h1 h2 => by unfold isI S4.isI64; omega
  have ixa := big 361080046605472372 (by decide) (by decide)
  have iya := big 2287805972299522828 (by decide) (by decide)
  have iea := big 1639541138904410090 (by decide) (by decide)
  have isa := big 82534835673623458 (by decide) (by decide)
  have iyb := big 1434973371253446507 (by decide) (by decide)
  have i1 := big 1 (by decide) (by decide)
  have i0 := big 0 (by decide) (by decide)
  refine small_walk W w hW hb 361080046605472372 2287805972299522828 1639541138904410090 82534835673623458 1665904801392939367 1434973371253446507 (Lib.hid fun W hW => ?_) (Lib.hid fun W hW => ?_) (Lib.hid fun W hW => ?_) (Lib.hid fun W hW => ?_) (Lib.hid fun W hW => ?_) (Lib.hid fun W hW => ?_) (Lib.hid fun W hW => ?_) (Lib.hid fun W hW => ?_) (Lib.hid fun W hW => ?_)
  · have h := (L W hW).key [97] (by decide)
    rw [exKey] at h
    exact h
  · have h := (L W hW).sign _ _ [104, 101, 108, 108, 111] ixa iya (by decide)
    rw [exSig] at h
    exact h
  · have h := (L W hW).of 1 i1
    rw [of_one] at h
    exact h
  · exact (L W hW).of 0 i0
  · have h := (L W hW).right _ _ ixa iya
    rw [decide_eq_true exRt] at h
    exact h
  · have h := (L W hW).ver _ [104, 101, 108, 108, 111] _ _ iya iea isa (by decide)
    rw [exV1] at h
    exact h
  · have h := (L W hW).ver _ [104, 97, 108, 108, 111] _ _ iya iea isa (by decide)
    rw [exV2] at h
    exact h
  · have h := (L W hW).key [98] (by decide)
    rw [exKeyB] at h
    exact h
  · have h := (L W hW).ver _ [104, 101, 108, 108, 111] _ _ iyb iea isa (by decide)
    rw [exV3] at h
    exact h
end Sg
end Go.Proofs.YtlcgcpjhmbbgfaaDoor
