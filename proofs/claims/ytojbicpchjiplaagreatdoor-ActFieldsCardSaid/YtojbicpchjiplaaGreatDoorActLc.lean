/-
  Layer 12: the landed Core and Bytes.
-/
import Derived.Test.YtojbicpchjiplaaGreatDoorActLs
import Derived.Test.YtojbicpchjiplaaGreatDoorIdentApp
import Derived.Test.YtojbicpchjiplaaGreatDoorSignFun
import Derived.Test.YtojbicpchjiplaaGreatDoorCodePut
namespace Go.Proofs.YtojbicpchjiplaaGreatDoor
open Go.RowKit
theorem S11.Idt.Own.alloc {w : World} {base : Nat} {v : Value} {l : List S11.Idt.Str} (h : S11.Idt.Own w base v l) (o : Obj) : S11.Idt.Own (w.alloc o) base v l := h.step (S11.Idt.alloc_under _ o)
namespace Ld
open Ax
open S11.Idt (Str isId isName ids)
open S2.Cd (encN encT encL encM)
attribute [local go_sem] S2.B_size S2.B_list S2.B_app S2.B_take litE
theorem litAct : (⟨#[97, 99, 116]⟩ : ByteArray) = S2.B [97, 99, 116] := rfl
attribute [local go_sem] litAct
theorem cnum (n : Int) (w : World) (h : 0 ≤ n ∧ n < 9223372036854775808) : Calls Tryz.prog 56 #[.int .i64 n] w fun x w' => x = .returned (.string (S2.B (numB n))) ∧ Below w.heap.size w w' := by
  obtain ⟨k, rfl⟩ := Int.eq_ofNat_of_zero_le h.1
  rw [show numB (k : Int) = encN k by unfold numB; rw [if_neg (by omega), Int.toNat_natCast]]
  exact S2.cNum_any k w (by omega)
theorem ctext (s : Str) (w : World) (h : s.length ≤ 1000000) : Calls Tryz.prog 55 #[.string (S2.B s)] w fun x w' => x = .returned (.string (S2.B (encT s))) ∧ Below w.heap.size w w' := S2.cText_any s w (by omega)
theorem clist (A : Option Addr) (l : List Str) (n c : Nat) (w : World) (hn : n = l.length) (hr : S2.Row w w.heap.size A (S2.Ss l)) (h1 : l.length ≤ 100) (h2 : ∀ s ∈ l, s.length ≤ 1000) : Calls Tryz.prog 57 #[.slice A n c] w fun x w' => x = .returned (.string (S2.B (encL encT l))) ∧ Below w.heap.size w w' := by
  subst hn
  have h3 := S2.Cd.encM_le (enc := encT) 1009 l (fun s hs => by have := encT_le s; have := h2 s hs; omega)
  have h4 : l.length * 1009 ≤ 100 * 1009 := Nat.mul_le_mul_right _ h1
  exact S2.cList_any A l c w hr (by omega) (by omega)
theorem ownLit (w : World) (l : List Str) (hl : l.length ≤ 100000) : S11.Idt.Own (w.alloc (.cells (S2.Ss l).toArray 9)) w.heap.size (.slice (some ⟨w.heap.size, 0, none⟩) l.length l.length) l :=
  ⟨⟨by rw [S2.Ss_length, Nat.mul_one], .inr ⟨_, _, _, rfl, Nat.le_refl _, heap_alloc_new w _, Nat.le_refl _, by unfold maxLen; omega, by rw [List.size_toArray, S2.Ss_length, Nat.mul_one], by rw [List.take_of_length_le (by simp only; rw [S2.Ss_length]; omega)]⟩⟩, by simp⟩
theorem rowLit (w : World) (l : List Str) : S2.Row (w.alloc (.cells (S2.Ss l).toArray 9)) (w.alloc (.cells (S2.Ss l).toArray 9)).heap.size (some ⟨w.heap.size, 0, none⟩) (S2.Ss l) := by
  refine .inr ⟨_, rfl, by simp, fun j u hu => ?_⟩
  have h := heap_alloc_new w (.cells (S2.Ss l).toArray 9)
  rw [Addr.add_lit, Nat.zero_add, cell_of_row _ _ _ _ _ _ h, List.getElem?_toArray]
  exact hu
/-- Nothing below base has turned since w0. -/
structure Bb (base : Nat) (w0 w : World) : Prop where
  bel : Below base w0 w
  le : base ≤ w.heap.size
theorem Bb.step {base : Nat} {w0 w w' : World} (h : Bb base w0 w) (hb : Below w.heap.size w w') : Bb base w0 w' := ⟨h.bel.trans (hb.mono h.le), Nat.le_trans h.le hb.size⟩
theorem Bb.under {base : Nat} {w0 w w' : World} (h : Bb base w0 w) (hb : Below base w w') : Bb base w0 w' := ⟨h.bel.trans hb, Nat.le_trans h.le hb.size⟩
theorem Bb.alloc {base : Nat} {w0 w : World} (h : Bb base w0 w) (o : Obj) : Bb base w0 (w.alloc o) := h.step ((Below.refl _ _).alloc (Nat.le_refl _) o)
theorem Bb.drew {base : Nat} {w0 w : World} (h : Bb base w0 w) : Bb base w0 w.drew := h.step (Below.refl _ _).drew
def wp (w : Wr) : List Str := [numB w.to, numB w.eph, bxB w.box]
theorem flat_wp : ∀ l : List Wr, (l.flatMap wp).flatten = encM wrB l
  | [] => rfl
  | w :: l => by
    rw [List.flatMap_cons, List.flatten_append, flat_wp l, encM]
    simp [wp, wrB]
theorem flat_core (a : Ac) : (([actT, encT a.author, numB a.seq, encT a.prev, numB a.kind, numB a.time, encT a.object, encT a.target, numB a.scope, encT a.group, encL encT a.to, encT a.text, bxB a.body, numB a.epoch, numB a.wraps.length] ++ a.wraps.flatMap wp) ++ [numB a.n, numB a.m]).flatten = coreB a := by
  rw [List.flatten_append, List.flatten_append, flat_wp]
  have : numB (a.wraps.length : Int) = encN a.wraps.length := by unfold numB; rw [if_neg (by omega), Int.toNat_natCast]
  simp [coreB, encL, this]
theorem Bl_grown {w w' : World} {g : Nat} {cs : List Value} {t : TypeId} {row : Option Nat} (h : Lk.Bl w g cs t) (hg : w.grownBy w' row) (hne : some g ≠ row) : Lk.Bl w' g cs t := ⟨(hg.block g h.lt hne).trans h.row⟩
theorem wp_len (l : List Wr) : (l.flatMap wp).length = 3 * l.length := by
  induction l with
  | nil => rfl
  | cons w l ih => rw [List.flatMap_cons, List.length_append, ih, List.length_cons]; simp [wp]; omega
set_option maxHeartbeats 4000000 in
set_option maxRecDepth 100000 in
theorem boxBytes_any (b : Bx) (w : World) (h : b.nonce.length ≤ 1000 ∧ b.data.length ≤ 1000 ∧ b.tag.length ≤ 1000) :
    Calls Tryz.prog 58 #[.agg #[.string (S2.B b.nonce), .string (S2.B b.data), .string (S2.B b.tag)]] w fun x w' => x = .returned (.string (S2.B (bxB b))) ∧ Below w.heap.size w w' := by
  obtain ⟨y1, y2, y3⟩ := b
  have T := Lib.hid (Lk.At.start w)
  obtain ⟨x1, hx1⟩ : ∃ x, x = encT y1 := ⟨_, rfl⟩
  obtain ⟨x2, hx2⟩ : ∃ x, x = encT y2 := ⟨_, rfl⟩
  obtain ⟨x3, hx3⟩ : ∃ x, x = encT y3 := ⟨_, rfl⟩
  have hl1 : (x1.length : Int) ≤ 1009 := by rw [hx1]; have := encT_le y1; have := h.1; simp only at this; omega
  have hl2 : (x2.length : Int) ≤ 1009 := by rw [hx2]; have := encT_le y2; have := h.2.1; simp only at this; omega
  have hl3 : (x3.length : Int) ≤ 1009 := by rw [hx3]; have := encT_le y3; have := h.2.2; simp only at this; omega
  have K1 := fun w => ctext y1 w (by have := h.1; simp only at this; omega)
  have K2 := fun w => ctext y2 w (by have := h.2.1; simp only at this; omega)
  have K3 := fun w => ctext y3 w (by have := h.2.2; simp only at this; omega)
  rw [← hx1] at K1
  rw [← hx2] at K2
  rw [← hx3] at K3
  have HR := Lib.hid (show bxB ⟨y1, y2, y3⟩ = x1 ++ (x2 ++ x3) by rw [hx1, hx2, hx3]; rfl)
  replace K1 := Lib.hid K1
  replace K2 := Lib.hid K2
  replace K3 := Lib.hid K3
  clear h hx1 hx2 hx3
  go_enter Tryz.func58, Tryz.ntmps58
  go_wp2_with (first | fail)
  replace T := Lib.hid (T.out.alloc (.cells #[.string (S2.B y1), .string (S2.B y2), .string (S2.B y3)] 24))
  have B1 := Lib.hid (show Lk.Bl (w.alloc (.cells #[.string (S2.B y1), .string (S2.B y2), .string (S2.B y3)] 24)) w.heap.size [.string (S2.B y1), .string (S2.B y2), .string (S2.B y3)] 24 from by have h := Lk.Bl.new w [.string (S2.B y1), .string (S2.B y2), .string (S2.B y3)] 24; simpa using h)
  generalize w.alloc (.cells #[.string (S2.B y1), .string (S2.B y2), .string (S2.B y3)] 24) = w1 at *
  replace T := Lib.hid (T.out.drew)
  replace B1 := Lib.hid (B1.out.drew)
  refine wp_region_held_drew (S := (fun w' => w'.cell? ⟨w.heap.size, 0, none⟩ = some (.string (S2.B y1)) ∧ w'.cell? ⟨w.heap.size, 1, none⟩ = some (.string (S2.B y2)) ∧ w'.cell? ⟨w.heap.size, 2, none⟩ = some (.string (S2.B y3)))) (by kernel_rfl) ⟨(B1.out.c 0 _ rfl), (B1.out.c 1 _ rfl), (B1.out.c 2 _ rfl)⟩ (fun hHeld => ?_)
  refine wpAnyH_take (i := 0) (oi := ⟨_, _, _, _, _, _⟩) (v := ?_) rfl (by kernel_rfl) (by kernel_rfl) (by kernel_rfl) (fun _ _ _ h => h) (Or.inl ⟨by rfl, ?_⟩) (by assumption) ?_
  rotate_left
  · intro wz hSw
    try dsimp only at hSw
    go_simp
    try with_reducible rfl
  try simp only [Act.put, List.setIfInBounds_toArray, List.set_cons_zero, List.set_cons_succ]
  refine wpAnyH_take (i := 1) (oi := ⟨_, _, _, _, _, _⟩) (v := ?_) rfl (by kernel_rfl) (by kernel_rfl) (by kernel_rfl) (fun _ _ _ h => h) (Or.inl ⟨by rfl, ?_⟩) (by assumption) ?_
  rotate_left
  · intro wz hSw
    try dsimp only at hSw
    go_simp
    try with_reducible rfl
  try simp only [Act.put, List.setIfInBounds_toArray, List.set_cons_zero, List.set_cons_succ]
  refine wpAnyH_take (i := 3) (oi := ⟨_, _, _, _, _, _⟩) (v := ?_) rfl (by kernel_rfl) (by kernel_rfl) (by kernel_rfl) (fun _ _ _ h => h) (Or.inl ⟨by rfl, ?_⟩) (by assumption) ?_
  rotate_left
  · intro wz hSw
    try dsimp only at hSw
    go_simp
    try with_reducible rfl
  try simp only [Act.put, List.setIfInBounds_toArray, List.set_cons_zero, List.set_cons_succ]
  refine wpAnyH_take (i := 4) (oi := ⟨_, _, _, _, _, _⟩) (v := ?_) rfl (by kernel_rfl) (by kernel_rfl) (by kernel_rfl) (fun _ _ _ h => h) (Or.inl ⟨by rfl, ?_⟩) (by assumption) ?_
  rotate_left
  · intro wz hSw
    try dsimp only at hSw
    go_simp
    try with_reducible rfl
  try simp only [Act.put, List.setIfInBounds_toArray, List.set_cons_zero, List.set_cons_succ]
  refine wpAnyH_take (i := 7) (oi := ⟨_, _, _, _, _, _⟩) (v := ?_) rfl (by kernel_rfl) (by kernel_rfl) (by kernel_rfl) (fun _ _ _ h => h) (Or.inl ⟨by rfl, ?_⟩) (by assumption) ?_
  rotate_left
  · intro wz hSw
    try dsimp only at hSw
    go_simp
    try with_reducible rfl
  try simp only [Act.put, List.setIfInBounds_toArray, List.set_cons_zero, List.set_cons_succ]
  refine wpAnyH_take (i := 8) (oi := ⟨_, _, _, _, _, _⟩) (v := ?_) rfl (by kernel_rfl) (by kernel_rfl) (by kernel_rfl) (fun _ _ _ h => h) (Or.inl ⟨by rfl, ?_⟩) (by assumption) ?_
  rotate_left
  · intro wz hSw
    try dsimp only at hSw
    go_simp
    try with_reducible rfl
  try simp only [Act.put, List.setIfInBounds_toArray, List.set_cons_zero, List.set_cons_succ]
  refine wpAnyH_ready (rs := [2]) (by kernel_rfl) (by simp) ?_
  refine AllReadyH.cons (o := ⟨_, _, _, _, _, _⟩) rfl (fun K hK => ?_) AllReadyH.nil
  go_simp
  refine (K1.out _).mono ?_
  rintro e w2 ⟨rfl, hb⟩
  replace T := Lib.hid (T.out.step hb)
  replace B1 := Lib.hid (B1.out.step hb)
  clear hb hHeld
  refine hK.out _ _ ⟨(B1.out.c 0 _ rfl), (B1.out.c 1 _ rfl), (B1.out.c 2 _ rfl)⟩ (fun hHeld => ?_)
  clear hK K
  try simp only [Act.put, List.setIfInBounds_toArray, List.set_cons_zero, List.set_cons_succ]
  refine wpAnyH_ready (rs := [5]) (by kernel_rfl) (by simp) ?_
  refine AllReadyH.cons (o := ⟨_, _, _, _, _, _⟩) rfl (fun K hK => ?_) AllReadyH.nil
  go_simp
  refine (K2.out _).mono ?_
  rintro e w3 ⟨rfl, hb⟩
  replace T := Lib.hid (T.out.step hb)
  replace B1 := Lib.hid (B1.out.step hb)
  clear hb hHeld
  refine hK.out _ _ ⟨(B1.out.c 0 _ rfl), (B1.out.c 1 _ rfl), (B1.out.c 2 _ rfl)⟩ (fun hHeld => ?_)
  clear hK K
  try simp only [Act.put, List.setIfInBounds_toArray, List.set_cons_zero, List.set_cons_succ]
  refine wpAnyH_take (i := 6) (oi := ⟨_, _, _, _, _, _⟩) (v := .string (S2.B (x1 ++ x2))) rfl (by kernel_rfl) (by kernel_rfl) (by kernel_rfl) (fun _ _ _ h => h) (Or.inl ⟨by rfl, ?_⟩) (by assumption) ?_
  · intro wz hSw
    try dsimp only at hSw
    go_simp
    omega
  try simp only [Act.put, List.setIfInBounds_toArray, List.set_cons_zero, List.set_cons_succ]
  refine wpAnyH_ready (rs := [9]) (by kernel_rfl) (by simp) ?_
  refine AllReadyH.cons (o := ⟨_, _, _, _, _, _⟩) rfl (fun K hK => ?_) AllReadyH.nil
  go_simp
  refine (K3.out _).mono ?_
  rintro e w4 ⟨rfl, hb⟩
  replace T := Lib.hid (T.out.step hb)
  replace B1 := Lib.hid (B1.out.step hb)
  clear hb hHeld
  refine hK.out _ _ ⟨(B1.out.c 0 _ rfl), (B1.out.c 1 _ rfl), (B1.out.c 2 _ rfl)⟩ (fun hHeld => ?_)
  clear hK K
  try simp only [Act.put, List.setIfInBounds_toArray, List.set_cons_zero, List.set_cons_succ]
  refine wpAnyH_take (i := 10) (oi := ⟨_, _, _, _, _, _⟩) (v := .string (S2.B (x1 ++ x2 ++ x3))) rfl (by kernel_rfl) (by kernel_rfl) (by kernel_rfl) (fun _ _ _ h => h) (Or.inl ⟨by rfl, ?_⟩) (by assumption) ?_
  · intro wz hSw
    try dsimp only at hSw
    go_simp
    omega
  try simp only [Act.put, List.setIfInBounds_toArray, List.set_cons_zero, List.set_cons_succ]
  refine wpAnyH_take (i := 11) (oi := ⟨_, _, _, _, _, _⟩) (v := ?_) rfl (by kernel_rfl) (by kernel_rfl) (by kernel_rfl) (fun _ _ _ h => h) (Or.inl ⟨by rfl, ?_⟩) (by assumption) ?_
  rotate_left
  · intro wz hSw
    try dsimp only at hSw
    go_simp
    try with_reducible rfl
  try simp only [Act.put, List.setIfInBounds_toArray, List.set_cons_zero, List.set_cons_succ]
  refine wpAnyH_done (by kernel_rfl) ?_ _
  clear hHeld
  go_wp2
  go_ret
  exact ⟨by rw [HR.out]; simp, T.out.bel⟩
set_option maxHeartbeats 4000000 in
set_option maxRecDepth 100000 in
theorem core_no {bd : Nat} {cs : List Value} {a : Ac} {e s : Int} (w : World) (hv0 : Av w bd cs a e s) (hz : Sz 1000000 1000000 a) (hv : valid a e s = false) :
    Calls Tryz.prog 22 #[.agg cs.toArray] w fun x w' => x = .returned (.string (S2.B (core a e s))) ∧ Below w.heap.size w w' := by
  have T := Lib.hid (Lk.At.start w)
  have V := Lib.hid hv0
  have KR := fun (w : World) (bd : Nat) (h : Av w bd cs a e s) => right_any w h hz
  rw [hv] at KR
  replace KR := Lib.hid KR
  have HR := Lib.hid (show core a e s = [] from if_neg (by rw [hv]; decide))
  clear hv0 hz hv
  go_enter Tryz.func22, Tryz.ntmps22
  replace T := Lib.hid (T.out.alloc (.cells cs.toArray 29))
  replace V := Lib.hid (V.out.alloc (.cells cs.toArray 29))
  have B1 := Lib.hid (show Lk.Bl (w.alloc (.cells cs.toArray 29)) w.heap.size cs 29 from by have h := Lk.Bl.new w cs 29; simpa using h)
  go_wp2_with (first | ((with_reducible refine Lk.ld (d := 6) w.heap.size B1.out V.out.len ?_ ?_ ?_); exact rfl; exact rfl) | fail)
  generalize w.alloc (.cells cs.toArray 29) = w1 at *
  refine (KR.out _ _ V.out).mono ?_
  rintro e w2 ⟨rfl, hb⟩
  replace T := Lib.hid (T.out.step hb)
  replace B1 := Lib.hid (B1.out.step hb)
  replace V := Lib.hid (V.out.step hb)
  clear hb
  go_wp2
  go_ret
  exact ⟨by rw [HR.out]; rfl, T.out.bel⟩
set_option maxHeartbeats 4000000 in
set_option maxRecDepth 100000 in
theorem core_yes {bd : Nat} {cs : List Value} {a : Ac} {e s : Int} (w : World) (hv0 : Av w bd cs a e s) (hv : valid a e s = true) :
    Calls Tryz.prog 22 #[.agg cs.toArray] w fun x w' => x = .returned (.string (S2.B (core a e s))) ∧ Below w.heap.size w w' := by
  have T := Lib.hid (Lk.At.start w)
  have V := Lib.hid hv0
  have L := lim_of (valid_good hv)
  have hz := valid_sz hv
  obtain ⟨A, nA, cA, h9, hn9, hc9, hr9⟩ := hv0.to
  obtain ⟨Q, nQ, cQ, h15, hn15, hc15, hr15⟩ := hv0.wraps
  have H9 := Lib.hid h9
  have H15 := Lib.hid h15
  have HN15 := Lib.hid hn15
  have hqb : (nQ : Int) ≤ 64 := by have := L.wraps.2; omega
  have hqb2 := Lib.hid (show nQ ≤ 64 by omega)
  have KR := fun (w : World) (bd : Nat) (h : Av w bd cs a e s) => right_any w h hz
  rw [hv] at KR
  replace KR := Lib.hid KR
  have hflat := flat_core a
  have hcl := core_le L
  have hbox : ∀ b : Bx, bxOk b = true ∨ b = bx0 → b.nonce.length ≤ 1000 ∧ b.data.length ≤ 1000 ∧ b.tag.length ≤ 1000 := fun b h => by have := bxOk_of h; omega
  have hids := S11.Idt.ids_iff.1 L.to
  have hep : 0 ≤ a.epoch ∧ a.epoch ≤ 1073741824 := by have := L.epoch; simpa only [epOk, Bool.and_eq_true, decide_eq_true_eq] using this
  obtain ⟨p0, hp0⟩ : ∃ x : Str, x = actT := ⟨_, rfl⟩
  obtain ⟨p1, hp1⟩ : ∃ x : Str, x = encT a.author := ⟨_, rfl⟩
  obtain ⟨p2, hp2⟩ : ∃ x : Str, x = numB a.seq := ⟨_, rfl⟩
  obtain ⟨p3, hp3⟩ : ∃ x : Str, x = encT a.prev := ⟨_, rfl⟩
  obtain ⟨p4, hp4⟩ : ∃ x : Str, x = numB a.kind := ⟨_, rfl⟩
  obtain ⟨p5, hp5⟩ : ∃ x : Str, x = numB a.time := ⟨_, rfl⟩
  obtain ⟨p6, hp6⟩ : ∃ x : Str, x = encT a.object := ⟨_, rfl⟩
  obtain ⟨p7, hp7⟩ : ∃ x : Str, x = encT a.target := ⟨_, rfl⟩
  obtain ⟨p8, hp8⟩ : ∃ x : Str, x = numB a.scope := ⟨_, rfl⟩
  obtain ⟨p9, hp9⟩ : ∃ x : Str, x = encT a.group := ⟨_, rfl⟩
  obtain ⟨p10, hp10⟩ : ∃ x : Str, x = encL encT a.to := ⟨_, rfl⟩
  obtain ⟨p11, hp11⟩ : ∃ x : Str, x = encT a.text := ⟨_, rfl⟩
  obtain ⟨p12, hp12⟩ : ∃ x : Str, x = bxB a.body := ⟨_, rfl⟩
  obtain ⟨p13, hp13⟩ : ∃ x : Str, x = numB a.epoch := ⟨_, rfl⟩
  obtain ⟨p14, hp14⟩ : ∃ x : Str, x = numB a.wraps.length := ⟨_, rfl⟩
  obtain ⟨pn, hpn⟩ : ∃ x : Str, x = numB a.n := ⟨_, rfl⟩
  obtain ⟨pm, hpm⟩ : ∃ x : Str, x = numB a.m := ⟨_, rfl⟩
  have Kp0 := fun w => ctext [97, 99, 116] w (by decide)
  rw [show encT [97, 99, 116] = p0 from hp0.symm] at Kp0
  replace Kp0 := Lib.hid Kp0
  have Kp1 := fun w => ctext a.author w hz.author
  rw [← hp1] at Kp1
  replace Kp1 := Lib.hid Kp1
  have Kp2 := fun w => cnum a.seq w (by have := L.seq; omega)
  rw [← hp2] at Kp2
  replace Kp2 := Lib.hid Kp2
  have Kp3 := fun w => ctext a.prev w hz.prev
  rw [← hp3] at Kp3
  replace Kp3 := Lib.hid Kp3
  have Kp4 := fun w => cnum a.kind w (by have := L.kind; omega)
  rw [← hp4] at Kp4
  replace Kp4 := Lib.hid Kp4
  have Kp5 := fun w => cnum a.time w (by have := L.time; omega)
  rw [← hp5] at Kp5
  replace Kp5 := Lib.hid Kp5
  have Kp6 := fun w => ctext a.object w hz.object
  rw [← hp6] at Kp6
  replace Kp6 := Lib.hid Kp6
  have Kp7 := fun w => ctext a.target w hz.target
  rw [← hp7] at Kp7
  replace Kp7 := Lib.hid Kp7
  have Kp8 := fun w => cnum a.scope w (by have := L.scope; omega)
  rw [← hp8] at Kp8
  replace Kp8 := Lib.hid Kp8
  have Kp9 := fun w => ctext a.group w hz.group
  rw [← hp9] at Kp9
  replace Kp9 := Lib.hid Kp9
  have Kp10 := fun (w : World) (bd : Nat) (h : Av w bd cs a e s) => clist A a.to nA cA w hn9 ((h.toAt h9).2.2.more h.le) (by have := hids.len; omega) (fun s hs => by have := id_len (hids.each s hs); omega)
  rw [← hp10] at Kp10
  replace Kp10 := Lib.hid Kp10
  have Kp11 := fun w => ctext a.text w hz.text
  rw [← hp11] at Kp11
  replace Kp11 := Lib.hid Kp11
  have Kp12 := fun w => boxBytes_any a.body w (hbox _ L.body)
  rw [← hp12] at Kp12
  replace Kp12 := Lib.hid Kp12
  have Kp13 := fun w => cnum a.epoch w (by have := hep; omega)
  rw [← hp13] at Kp13
  replace Kp13 := Lib.hid Kp13
  have Kp14 := fun w => cnum (nQ : Int) w (by omega)
  rw [show numB (nQ : Int) = p14 by rw [hp14, hn15]] at Kp14
  replace Kp14 := Lib.hid Kp14
  have Kpn := fun w => cnum a.n w (by have := L.n; omega)
  rw [← hpn] at Kpn
  replace Kpn := Lib.hid Kpn
  have Kpm := fun w => cnum a.m w (by have := L.m; omega)
  rw [← hpm] at Kpm
  replace Kpm := Lib.hid Kpm
  rw [← hp0, ← hp1, ← hp2, ← hp3, ← hp4, ← hp5, ← hp6, ← hp7, ← hp8, ← hp9, ← hp10, ← hp11, ← hp12, ← hp13, ← hp14, ← hpn, ← hpm] at hflat
  have HC := Lib.hid (show core a e s = coreB a from if_pos hv)
  have HF := Lib.hid hflat
  have HL := Lib.hid hcl
  have HW := Lib.hid (show ∀ x ∈ a.wraps, wrOk x = true from fun x hx => List.all_eq_true.1 L.wraps.1 x hx)
  have HB := Lib.hid hbox
  clear hv0 hv L hz h9 hn9 hc9 hr9 h15 hn15 hc15 hr15 hflat hcl hbox hids hep hp0 hp1 hp2 hp3 hp4 hp5 hp6 hp7 hp8 hp9 hp10 hp11 hp12 hp13 hp14 hpn hpm
  go_enter Tryz.func22, Tryz.ntmps22
  replace T := Lib.hid (T.out.alloc (.cells cs.toArray 29))
  replace V := Lib.hid (V.out.alloc (.cells cs.toArray 29))
  have B1 := Lib.hid (show Lk.Bl (w.alloc (.cells cs.toArray 29)) w.heap.size cs 29 from by have h := Lk.Bl.new w cs 29; simpa using h)
  go_wp2_with (first | ((with_reducible refine Lk.ld (d := 6) w.heap.size B1.out V.out.len ?_ ?_ ?_); exact rfl; exact rfl) | fail)
  generalize w.alloc (.cells cs.toArray 29) = w1 at *
  refine (KR.out _ _ V.out).mono ?_
  rintro e w2 ⟨rfl, hb⟩
  replace T := Lib.hid (T.out.step hb)
  replace B1 := Lib.hid (B1.out.step hb)
  replace V := Lib.hid (V.out.step hb)
  clear hb
  go_wp2_with (first | fail)
  replace T := Lib.hid (T.out.drew)
  replace B1 := Lib.hid (B1.out.drew)
  replace V := Lib.hid (V.out.drew)
  refine wp_region_held_drew (S := (fun w' => w'.cell? ⟨w.heap.size, 0, none⟩ = some (.string (S2.B a.author)) ∧ w'.cell? ⟨w.heap.size, 1, none⟩ = some (.int .i64 a.seq) ∧ w'.cell? ⟨w.heap.size, 2, none⟩ = some (.string (S2.B a.prev)) ∧ w'.cell? ⟨w.heap.size, 3, none⟩ = some (.int .i64 a.kind) ∧ w'.cell? ⟨w.heap.size, 4, none⟩ = some (.int .i64 a.time) ∧ w'.cell? ⟨w.heap.size, 5, none⟩ = some (.string (S2.B a.object)) ∧ w'.cell? ⟨w.heap.size, 6, none⟩ = some (.string (S2.B a.target)) ∧ w'.cell? ⟨w.heap.size, 7, none⟩ = some (.int .i64 a.scope) ∧ w'.cell? ⟨w.heap.size, 8, none⟩ = some (.string (S2.B a.group)) ∧ w'.cell? ⟨w.heap.size, 9, none⟩ = some (.slice A nA cA) ∧ w'.cell? ⟨w.heap.size, 10, none⟩ = some (.string (S2.B a.text)) ∧ w'.cell? ⟨w.heap.size, 11, none⟩ = some (.string (S2.B a.body.nonce)) ∧ w'.cell? ⟨w.heap.size, 12, none⟩ = some (.string (S2.B a.body.data)) ∧ w'.cell? ⟨w.heap.size, 13, none⟩ = some (.string (S2.B a.body.tag)) ∧ w'.cell? ⟨w.heap.size, 14, none⟩ = some (.int .i64 a.epoch) ∧ w'.cell? ⟨w.heap.size, 15, none⟩ = some (.slice Q nQ cQ))) (by kernel_rfl) ⟨(B1.out.c 0 _ V.out.author), (B1.out.c 1 _ V.out.seq), (B1.out.c 2 _ V.out.prev), (B1.out.c 3 _ V.out.kind), (B1.out.c 4 _ V.out.time), (B1.out.c 5 _ V.out.object), (B1.out.c 6 _ V.out.target), (B1.out.c 7 _ V.out.scope), (B1.out.c 8 _ V.out.group), (B1.out.c 9 _ H9.out), (B1.out.c 10 _ V.out.text), (B1.out.c 11 _ V.out.nonce), (B1.out.c 12 _ V.out.data), (B1.out.c 13 _ V.out.tag), (B1.out.c 14 _ V.out.epoch), (B1.out.c 15 _ H15.out)⟩ (fun hHeld => ?_)
  refine wpAnyH_take (i := 1) (oi := ⟨_, _, _, _, _, _⟩) (v := ?_) rfl (by kernel_rfl) (by kernel_rfl) (by kernel_rfl) (fun _ _ _ h => h) (Or.inl ⟨by rfl, ?_⟩) (by assumption) ?_
  rotate_left
  · intro wz hSw
    try dsimp only at hSw
    go_simp
    try with_reducible rfl
  try simp only [Act.put, List.setIfInBounds_toArray, List.set_cons_zero, List.set_cons_succ]
  refine wpAnyH_take (i := 2) (oi := ⟨_, _, _, _, _, _⟩) (v := ?_) rfl (by kernel_rfl) (by kernel_rfl) (by kernel_rfl) (fun _ _ _ h => h) (Or.inl ⟨by rfl, ?_⟩) (by assumption) ?_
  rotate_left
  · intro wz hSw
    try dsimp only at hSw
    go_simp
    try with_reducible rfl
  try simp only [Act.put, List.setIfInBounds_toArray, List.set_cons_zero, List.set_cons_succ]
  refine wpAnyH_take (i := 4) (oi := ⟨_, _, _, _, _, _⟩) (v := ?_) rfl (by kernel_rfl) (by kernel_rfl) (by kernel_rfl) (fun _ _ _ h => h) (Or.inl ⟨by rfl, ?_⟩) (by assumption) ?_
  rotate_left
  · intro wz hSw
    try dsimp only at hSw
    go_simp
    try with_reducible rfl
  try simp only [Act.put, List.setIfInBounds_toArray, List.set_cons_zero, List.set_cons_succ]
  refine wpAnyH_take (i := 5) (oi := ⟨_, _, _, _, _, _⟩) (v := ?_) rfl (by kernel_rfl) (by kernel_rfl) (by kernel_rfl) (fun _ _ _ h => h) (Or.inl ⟨by rfl, ?_⟩) (by assumption) ?_
  rotate_left
  · intro wz hSw
    try dsimp only at hSw
    go_simp
    try with_reducible rfl
  try simp only [Act.put, List.setIfInBounds_toArray, List.set_cons_zero, List.set_cons_succ]
  refine wpAnyH_take (i := 7) (oi := ⟨_, _, _, _, _, _⟩) (v := ?_) rfl (by kernel_rfl) (by kernel_rfl) (by kernel_rfl) (fun _ _ _ h => h) (Or.inl ⟨by rfl, ?_⟩) (by assumption) ?_
  rotate_left
  · intro wz hSw
    try dsimp only at hSw
    go_simp
    try with_reducible rfl
  try simp only [Act.put, List.setIfInBounds_toArray, List.set_cons_zero, List.set_cons_succ]
  refine wpAnyH_take (i := 8) (oi := ⟨_, _, _, _, _, _⟩) (v := ?_) rfl (by kernel_rfl) (by kernel_rfl) (by kernel_rfl) (fun _ _ _ h => h) (Or.inl ⟨by rfl, ?_⟩) (by assumption) ?_
  rotate_left
  · intro wz hSw
    try dsimp only at hSw
    go_simp
    try with_reducible rfl
  try simp only [Act.put, List.setIfInBounds_toArray, List.set_cons_zero, List.set_cons_succ]
  refine wpAnyH_take (i := 10) (oi := ⟨_, _, _, _, _, _⟩) (v := ?_) rfl (by kernel_rfl) (by kernel_rfl) (by kernel_rfl) (fun _ _ _ h => h) (Or.inl ⟨by rfl, ?_⟩) (by assumption) ?_
  rotate_left
  · intro wz hSw
    try dsimp only at hSw
    go_simp
    try with_reducible rfl
  try simp only [Act.put, List.setIfInBounds_toArray, List.set_cons_zero, List.set_cons_succ]
  refine wpAnyH_take (i := 11) (oi := ⟨_, _, _, _, _, _⟩) (v := ?_) rfl (by kernel_rfl) (by kernel_rfl) (by kernel_rfl) (fun _ _ _ h => h) (Or.inl ⟨by rfl, ?_⟩) (by assumption) ?_
  rotate_left
  · intro wz hSw
    try dsimp only at hSw
    go_simp
    try with_reducible rfl
  try simp only [Act.put, List.setIfInBounds_toArray, List.set_cons_zero, List.set_cons_succ]
  refine wpAnyH_take (i := 13) (oi := ⟨_, _, _, _, _, _⟩) (v := ?_) rfl (by kernel_rfl) (by kernel_rfl) (by kernel_rfl) (fun _ _ _ h => h) (Or.inl ⟨by rfl, ?_⟩) (by assumption) ?_
  rotate_left
  · intro wz hSw
    try dsimp only at hSw
    go_simp
    try with_reducible rfl
  try simp only [Act.put, List.setIfInBounds_toArray, List.set_cons_zero, List.set_cons_succ]
  refine wpAnyH_take (i := 14) (oi := ⟨_, _, _, _, _, _⟩) (v := ?_) rfl (by kernel_rfl) (by kernel_rfl) (by kernel_rfl) (fun _ _ _ h => h) (Or.inl ⟨by rfl, ?_⟩) (by assumption) ?_
  rotate_left
  · intro wz hSw
    try dsimp only at hSw
    go_simp
    try with_reducible rfl
  try simp only [Act.put, List.setIfInBounds_toArray, List.set_cons_zero, List.set_cons_succ]
  refine wpAnyH_take (i := 16) (oi := ⟨_, _, _, _, _, _⟩) (v := ?_) rfl (by kernel_rfl) (by kernel_rfl) (by kernel_rfl) (fun _ _ _ h => h) (Or.inl ⟨by rfl, ?_⟩) (by assumption) ?_
  rotate_left
  · intro wz hSw
    try dsimp only at hSw
    go_simp
    try with_reducible rfl
  try simp only [Act.put, List.setIfInBounds_toArray, List.set_cons_zero, List.set_cons_succ]
  refine wpAnyH_take (i := 17) (oi := ⟨_, _, _, _, _, _⟩) (v := ?_) rfl (by kernel_rfl) (by kernel_rfl) (by kernel_rfl) (fun _ _ _ h => h) (Or.inl ⟨by rfl, ?_⟩) (by assumption) ?_
  rotate_left
  · intro wz hSw
    try dsimp only at hSw
    go_simp
    try with_reducible rfl
  try simp only [Act.put, List.setIfInBounds_toArray, List.set_cons_zero, List.set_cons_succ]
  refine wpAnyH_take (i := 19) (oi := ⟨_, _, _, _, _, _⟩) (v := ?_) rfl (by kernel_rfl) (by kernel_rfl) (by kernel_rfl) (fun _ _ _ h => h) (Or.inl ⟨by rfl, ?_⟩) (by assumption) ?_
  rotate_left
  · intro wz hSw
    try dsimp only at hSw
    go_simp
    try with_reducible rfl
  try simp only [Act.put, List.setIfInBounds_toArray, List.set_cons_zero, List.set_cons_succ]
  refine wpAnyH_take (i := 20) (oi := ⟨_, _, _, _, _, _⟩) (v := ?_) rfl (by kernel_rfl) (by kernel_rfl) (by kernel_rfl) (fun _ _ _ h => h) (Or.inl ⟨by rfl, ?_⟩) (by assumption) ?_
  rotate_left
  · intro wz hSw
    try dsimp only at hSw
    go_simp
    try with_reducible rfl
  try simp only [Act.put, List.setIfInBounds_toArray, List.set_cons_zero, List.set_cons_succ]
  refine wpAnyH_take (i := 22) (oi := ⟨_, _, _, _, _, _⟩) (v := ?_) rfl (by kernel_rfl) (by kernel_rfl) (by kernel_rfl) (fun _ _ _ h => h) (Or.inl ⟨by rfl, ?_⟩) (by assumption) ?_
  rotate_left
  · intro wz hSw
    try dsimp only at hSw
    go_simp
    try with_reducible rfl
  try simp only [Act.put, List.setIfInBounds_toArray, List.set_cons_zero, List.set_cons_succ]
  refine wpAnyH_take (i := 23) (oi := ⟨_, _, _, _, _, _⟩) (v := ?_) rfl (by kernel_rfl) (by kernel_rfl) (by kernel_rfl) (fun _ _ _ h => h) (Or.inl ⟨by rfl, ?_⟩) (by assumption) ?_
  rotate_left
  · intro wz hSw
    try dsimp only at hSw
    go_simp
    try with_reducible rfl
  try simp only [Act.put, List.setIfInBounds_toArray, List.set_cons_zero, List.set_cons_succ]
  refine wpAnyH_take (i := 25) (oi := ⟨_, _, _, _, _, _⟩) (v := ?_) rfl (by kernel_rfl) (by kernel_rfl) (by kernel_rfl) (fun _ _ _ h => h) (Or.inl ⟨by rfl, ?_⟩) (by assumption) ?_
  rotate_left
  · intro wz hSw
    try dsimp only at hSw
    go_simp
    try with_reducible rfl
  try simp only [Act.put, List.setIfInBounds_toArray, List.set_cons_zero, List.set_cons_succ]
  refine wpAnyH_take (i := 26) (oi := ⟨_, _, _, _, _, _⟩) (v := ?_) rfl (by kernel_rfl) (by kernel_rfl) (by kernel_rfl) (fun _ _ _ h => h) (Or.inl ⟨by rfl, ?_⟩) (by assumption) ?_
  rotate_left
  · intro wz hSw
    try dsimp only at hSw
    go_simp
    try with_reducible rfl
  try simp only [Act.put, List.setIfInBounds_toArray, List.set_cons_zero, List.set_cons_succ]
  refine wpAnyH_take (i := 28) (oi := ⟨_, _, _, _, _, _⟩) (v := ?_) rfl (by kernel_rfl) (by kernel_rfl) (by kernel_rfl) (fun _ _ _ h => h) (Or.inl ⟨by rfl, ?_⟩) (by assumption) ?_
  rotate_left
  · intro wz hSw
    try dsimp only at hSw
    go_simp
    try with_reducible rfl
  try simp only [Act.put, List.setIfInBounds_toArray, List.set_cons_zero, List.set_cons_succ]
  refine wpAnyH_take (i := 29) (oi := ⟨_, _, _, _, _, _⟩) (v := ?_) rfl (by kernel_rfl) (by kernel_rfl) (by kernel_rfl) (fun _ _ _ h => h) (Or.inl ⟨by rfl, ?_⟩) (by assumption) ?_
  rotate_left
  · intro wz hSw
    try dsimp only at hSw
    go_simp
    try with_reducible rfl
  try simp only [Act.put, List.setIfInBounds_toArray, List.set_cons_zero, List.set_cons_succ]
  refine wpAnyH_take (i := 31) (oi := ⟨_, _, _, _, _, _⟩) (v := ?_) rfl (by kernel_rfl) (by kernel_rfl) (by kernel_rfl) (fun _ _ _ h => h) (Or.inl ⟨by rfl, ?_⟩) (by assumption) ?_
  rotate_left
  · intro wz hSw
    try dsimp only at hSw
    go_simp
    try with_reducible rfl
  try simp only [Act.put, List.setIfInBounds_toArray, List.set_cons_zero, List.set_cons_succ]
  refine wpAnyH_take (i := 32) (oi := ⟨_, _, _, _, _, _⟩) (v := ?_) rfl (by kernel_rfl) (by kernel_rfl) (by kernel_rfl) (fun _ _ _ h => h) (Or.inl ⟨by rfl, ?_⟩) (by assumption) ?_
  rotate_left
  · intro wz hSw
    try dsimp only at hSw
    go_simp
    try with_reducible rfl
  try simp only [Act.put, List.setIfInBounds_toArray, List.set_cons_zero, List.set_cons_succ]
  refine wpAnyH_take (i := 34) (oi := ⟨_, _, _, _, _, _⟩) (v := ?_) rfl (by kernel_rfl) (by kernel_rfl) (by kernel_rfl) (fun _ _ _ h => h) (Or.inl ⟨by rfl, ?_⟩) (by assumption) ?_
  rotate_left
  · intro wz hSw
    try dsimp only at hSw
    go_simp
    try with_reducible rfl
  try simp only [Act.put, List.setIfInBounds_toArray, List.set_cons_zero, List.set_cons_succ]
  refine wpAnyH_take (i := 35) (oi := ⟨_, _, _, _, _, _⟩) (v := ?_) rfl (by kernel_rfl) (by kernel_rfl) (by kernel_rfl) (fun _ _ _ h => h) (Or.inl ⟨by rfl, ?_⟩) (by assumption) ?_
  rotate_left
  · intro wz hSw
    try dsimp only at hSw
    go_simp
    try with_reducible rfl
  try simp only [Act.put, List.setIfInBounds_toArray, List.set_cons_zero, List.set_cons_succ]
  refine wpAnyH_take (i := 37) (oi := ⟨_, _, _, _, _, _⟩) (v := ?_) rfl (by kernel_rfl) (by kernel_rfl) (by kernel_rfl) (fun _ _ _ h => h) (Or.inl ⟨by rfl, ?_⟩) (by assumption) ?_
  rotate_left
  · intro wz hSw
    try dsimp only at hSw
    go_simp
    try with_reducible rfl
  try simp only [Act.put, List.setIfInBounds_toArray, List.set_cons_zero, List.set_cons_succ]
  refine wpAnyH_take (i := 38) (oi := ⟨_, _, _, _, _, _⟩) (v := ?_) rfl (by kernel_rfl) (by kernel_rfl) (by kernel_rfl) (fun _ _ _ h => h) (Or.inl ⟨by rfl, ?_⟩) (by assumption) ?_
  rotate_left
  · intro wz hSw
    try dsimp only at hSw
    go_simp
    try with_reducible rfl
  try simp only [Act.put, List.setIfInBounds_toArray, List.set_cons_zero, List.set_cons_succ]
  refine wpAnyH_take (i := 40) (oi := ⟨_, _, _, _, _, _⟩) (v := ?_) rfl (by kernel_rfl) (by kernel_rfl) (by kernel_rfl) (fun _ _ _ h => h) (Or.inl ⟨by rfl, ?_⟩) (by assumption) ?_
  rotate_left
  · intro wz hSw
    try dsimp only at hSw
    go_simp
    try with_reducible rfl
  try simp only [Act.put, List.setIfInBounds_toArray, List.set_cons_zero, List.set_cons_succ]
  refine wpAnyH_take (i := 41) (oi := ⟨_, _, _, _, _, _⟩) (v := ?_) rfl (by kernel_rfl) (by kernel_rfl) (by kernel_rfl) (fun _ _ _ h => h) (Or.inl ⟨by rfl, ?_⟩) (by assumption) ?_
  rotate_left
  · intro wz hSw
    try dsimp only at hSw
    go_simp
    try with_reducible rfl
  try simp only [Act.put, List.setIfInBounds_toArray, List.set_cons_zero, List.set_cons_succ]
  refine wpAnyH_take (i := 42) (oi := ⟨_, _, _, _, _, _⟩) (v := ?_) rfl (by kernel_rfl) (by kernel_rfl) (by kernel_rfl) (fun _ _ _ h => h) (Or.inl ⟨by rfl, ?_⟩) (by assumption) ?_
  rotate_left
  · intro wz hSw
    try dsimp only at hSw
    go_simp
    try with_reducible rfl
  try simp only [Act.put, List.setIfInBounds_toArray, List.set_cons_zero, List.set_cons_succ]
  refine wpAnyH_ready (rs := [0]) (by kernel_rfl) (by simp) ?_
  refine AllReadyH.cons (o := ⟨_, _, _, _, _, _⟩) rfl (fun K hK => ?_) AllReadyH.nil
  go_simp
  refine (Kp0.out _).mono ?_
  rintro e w3 ⟨rfl, hb⟩
  replace T := Lib.hid (T.out.step hb)
  replace B1 := Lib.hid (B1.out.step hb)
  replace V := Lib.hid (V.out.step hb)
  clear hb hHeld
  refine hK.out _ _ ⟨(B1.out.c 0 _ V.out.author), (B1.out.c 1 _ V.out.seq), (B1.out.c 2 _ V.out.prev), (B1.out.c 3 _ V.out.kind), (B1.out.c 4 _ V.out.time), (B1.out.c 5 _ V.out.object), (B1.out.c 6 _ V.out.target), (B1.out.c 7 _ V.out.scope), (B1.out.c 8 _ V.out.group), (B1.out.c 9 _ H9.out), (B1.out.c 10 _ V.out.text), (B1.out.c 11 _ V.out.nonce), (B1.out.c 12 _ V.out.data), (B1.out.c 13 _ V.out.tag), (B1.out.c 14 _ V.out.epoch), (B1.out.c 15 _ H15.out)⟩ (fun hHeld => ?_)
  clear hK K
  try simp only [Act.put, List.setIfInBounds_toArray, List.set_cons_zero, List.set_cons_succ]
  refine wpAnyH_ready (rs := [3]) (by kernel_rfl) (by simp) ?_
  refine AllReadyH.cons (o := ⟨_, _, _, _, _, _⟩) rfl (fun K hK => ?_) AllReadyH.nil
  go_simp
  refine (Kp1.out _).mono ?_
  rintro e w4 ⟨rfl, hb⟩
  replace T := Lib.hid (T.out.step hb)
  replace B1 := Lib.hid (B1.out.step hb)
  replace V := Lib.hid (V.out.step hb)
  clear hb hHeld
  refine hK.out _ _ ⟨(B1.out.c 0 _ V.out.author), (B1.out.c 1 _ V.out.seq), (B1.out.c 2 _ V.out.prev), (B1.out.c 3 _ V.out.kind), (B1.out.c 4 _ V.out.time), (B1.out.c 5 _ V.out.object), (B1.out.c 6 _ V.out.target), (B1.out.c 7 _ V.out.scope), (B1.out.c 8 _ V.out.group), (B1.out.c 9 _ H9.out), (B1.out.c 10 _ V.out.text), (B1.out.c 11 _ V.out.nonce), (B1.out.c 12 _ V.out.data), (B1.out.c 13 _ V.out.tag), (B1.out.c 14 _ V.out.epoch), (B1.out.c 15 _ H15.out)⟩ (fun hHeld => ?_)
  clear hK K
  try simp only [Act.put, List.setIfInBounds_toArray, List.set_cons_zero, List.set_cons_succ]
  refine wpAnyH_ready (rs := [6]) (by kernel_rfl) (by simp) ?_
  refine AllReadyH.cons (o := ⟨_, _, _, _, _, _⟩) rfl (fun K hK => ?_) AllReadyH.nil
  go_simp
  refine (Kp2.out _).mono ?_
  rintro e w5 ⟨rfl, hb⟩
  replace T := Lib.hid (T.out.step hb)
  replace B1 := Lib.hid (B1.out.step hb)
  replace V := Lib.hid (V.out.step hb)
  clear hb hHeld
  refine hK.out _ _ ⟨(B1.out.c 0 _ V.out.author), (B1.out.c 1 _ V.out.seq), (B1.out.c 2 _ V.out.prev), (B1.out.c 3 _ V.out.kind), (B1.out.c 4 _ V.out.time), (B1.out.c 5 _ V.out.object), (B1.out.c 6 _ V.out.target), (B1.out.c 7 _ V.out.scope), (B1.out.c 8 _ V.out.group), (B1.out.c 9 _ H9.out), (B1.out.c 10 _ V.out.text), (B1.out.c 11 _ V.out.nonce), (B1.out.c 12 _ V.out.data), (B1.out.c 13 _ V.out.tag), (B1.out.c 14 _ V.out.epoch), (B1.out.c 15 _ H15.out)⟩ (fun hHeld => ?_)
  clear hK K
  try simp only [Act.put, List.setIfInBounds_toArray, List.set_cons_zero, List.set_cons_succ]
  refine wpAnyH_ready (rs := [9]) (by kernel_rfl) (by simp) ?_
  refine AllReadyH.cons (o := ⟨_, _, _, _, _, _⟩) rfl (fun K hK => ?_) AllReadyH.nil
  go_simp
  refine (Kp3.out _).mono ?_
  rintro e w6 ⟨rfl, hb⟩
  replace T := Lib.hid (T.out.step hb)
  replace B1 := Lib.hid (B1.out.step hb)
  replace V := Lib.hid (V.out.step hb)
  clear hb hHeld
  refine hK.out _ _ ⟨(B1.out.c 0 _ V.out.author), (B1.out.c 1 _ V.out.seq), (B1.out.c 2 _ V.out.prev), (B1.out.c 3 _ V.out.kind), (B1.out.c 4 _ V.out.time), (B1.out.c 5 _ V.out.object), (B1.out.c 6 _ V.out.target), (B1.out.c 7 _ V.out.scope), (B1.out.c 8 _ V.out.group), (B1.out.c 9 _ H9.out), (B1.out.c 10 _ V.out.text), (B1.out.c 11 _ V.out.nonce), (B1.out.c 12 _ V.out.data), (B1.out.c 13 _ V.out.tag), (B1.out.c 14 _ V.out.epoch), (B1.out.c 15 _ H15.out)⟩ (fun hHeld => ?_)
  clear hK K
  try simp only [Act.put, List.setIfInBounds_toArray, List.set_cons_zero, List.set_cons_succ]
  refine wpAnyH_ready (rs := [12]) (by kernel_rfl) (by simp) ?_
  refine AllReadyH.cons (o := ⟨_, _, _, _, _, _⟩) rfl (fun K hK => ?_) AllReadyH.nil
  go_simp
  refine (Kp4.out _).mono ?_
  rintro e w7 ⟨rfl, hb⟩
  replace T := Lib.hid (T.out.step hb)
  replace B1 := Lib.hid (B1.out.step hb)
  replace V := Lib.hid (V.out.step hb)
  clear hb hHeld
  refine hK.out _ _ ⟨(B1.out.c 0 _ V.out.author), (B1.out.c 1 _ V.out.seq), (B1.out.c 2 _ V.out.prev), (B1.out.c 3 _ V.out.kind), (B1.out.c 4 _ V.out.time), (B1.out.c 5 _ V.out.object), (B1.out.c 6 _ V.out.target), (B1.out.c 7 _ V.out.scope), (B1.out.c 8 _ V.out.group), (B1.out.c 9 _ H9.out), (B1.out.c 10 _ V.out.text), (B1.out.c 11 _ V.out.nonce), (B1.out.c 12 _ V.out.data), (B1.out.c 13 _ V.out.tag), (B1.out.c 14 _ V.out.epoch), (B1.out.c 15 _ H15.out)⟩ (fun hHeld => ?_)
  clear hK K
  try simp only [Act.put, List.setIfInBounds_toArray, List.set_cons_zero, List.set_cons_succ]
  refine wpAnyH_ready (rs := [15]) (by kernel_rfl) (by simp) ?_
  refine AllReadyH.cons (o := ⟨_, _, _, _, _, _⟩) rfl (fun K hK => ?_) AllReadyH.nil
  go_simp
  refine (Kp5.out _).mono ?_
  rintro e w8 ⟨rfl, hb⟩
  replace T := Lib.hid (T.out.step hb)
  replace B1 := Lib.hid (B1.out.step hb)
  replace V := Lib.hid (V.out.step hb)
  clear hb hHeld
  refine hK.out _ _ ⟨(B1.out.c 0 _ V.out.author), (B1.out.c 1 _ V.out.seq), (B1.out.c 2 _ V.out.prev), (B1.out.c 3 _ V.out.kind), (B1.out.c 4 _ V.out.time), (B1.out.c 5 _ V.out.object), (B1.out.c 6 _ V.out.target), (B1.out.c 7 _ V.out.scope), (B1.out.c 8 _ V.out.group), (B1.out.c 9 _ H9.out), (B1.out.c 10 _ V.out.text), (B1.out.c 11 _ V.out.nonce), (B1.out.c 12 _ V.out.data), (B1.out.c 13 _ V.out.tag), (B1.out.c 14 _ V.out.epoch), (B1.out.c 15 _ H15.out)⟩ (fun hHeld => ?_)
  clear hK K
  try simp only [Act.put, List.setIfInBounds_toArray, List.set_cons_zero, List.set_cons_succ]
  refine wpAnyH_ready (rs := [18]) (by kernel_rfl) (by simp) ?_
  refine AllReadyH.cons (o := ⟨_, _, _, _, _, _⟩) rfl (fun K hK => ?_) AllReadyH.nil
  go_simp
  refine (Kp6.out _).mono ?_
  rintro e w9 ⟨rfl, hb⟩
  replace T := Lib.hid (T.out.step hb)
  replace B1 := Lib.hid (B1.out.step hb)
  replace V := Lib.hid (V.out.step hb)
  clear hb hHeld
  refine hK.out _ _ ⟨(B1.out.c 0 _ V.out.author), (B1.out.c 1 _ V.out.seq), (B1.out.c 2 _ V.out.prev), (B1.out.c 3 _ V.out.kind), (B1.out.c 4 _ V.out.time), (B1.out.c 5 _ V.out.object), (B1.out.c 6 _ V.out.target), (B1.out.c 7 _ V.out.scope), (B1.out.c 8 _ V.out.group), (B1.out.c 9 _ H9.out), (B1.out.c 10 _ V.out.text), (B1.out.c 11 _ V.out.nonce), (B1.out.c 12 _ V.out.data), (B1.out.c 13 _ V.out.tag), (B1.out.c 14 _ V.out.epoch), (B1.out.c 15 _ H15.out)⟩ (fun hHeld => ?_)
  clear hK K
  try simp only [Act.put, List.setIfInBounds_toArray, List.set_cons_zero, List.set_cons_succ]
  refine wpAnyH_ready (rs := [21]) (by kernel_rfl) (by simp) ?_
  refine AllReadyH.cons (o := ⟨_, _, _, _, _, _⟩) rfl (fun K hK => ?_) AllReadyH.nil
  go_simp
  refine (Kp7.out _).mono ?_
  rintro e w10 ⟨rfl, hb⟩
  replace T := Lib.hid (T.out.step hb)
  replace B1 := Lib.hid (B1.out.step hb)
  replace V := Lib.hid (V.out.step hb)
  clear hb hHeld
  refine hK.out _ _ ⟨(B1.out.c 0 _ V.out.author), (B1.out.c 1 _ V.out.seq), (B1.out.c 2 _ V.out.prev), (B1.out.c 3 _ V.out.kind), (B1.out.c 4 _ V.out.time), (B1.out.c 5 _ V.out.object), (B1.out.c 6 _ V.out.target), (B1.out.c 7 _ V.out.scope), (B1.out.c 8 _ V.out.group), (B1.out.c 9 _ H9.out), (B1.out.c 10 _ V.out.text), (B1.out.c 11 _ V.out.nonce), (B1.out.c 12 _ V.out.data), (B1.out.c 13 _ V.out.tag), (B1.out.c 14 _ V.out.epoch), (B1.out.c 15 _ H15.out)⟩ (fun hHeld => ?_)
  clear hK K
  try simp only [Act.put, List.setIfInBounds_toArray, List.set_cons_zero, List.set_cons_succ]
  refine wpAnyH_ready (rs := [24]) (by kernel_rfl) (by simp) ?_
  refine AllReadyH.cons (o := ⟨_, _, _, _, _, _⟩) rfl (fun K hK => ?_) AllReadyH.nil
  go_simp
  refine (Kp8.out _).mono ?_
  rintro e w11 ⟨rfl, hb⟩
  replace T := Lib.hid (T.out.step hb)
  replace B1 := Lib.hid (B1.out.step hb)
  replace V := Lib.hid (V.out.step hb)
  clear hb hHeld
  refine hK.out _ _ ⟨(B1.out.c 0 _ V.out.author), (B1.out.c 1 _ V.out.seq), (B1.out.c 2 _ V.out.prev), (B1.out.c 3 _ V.out.kind), (B1.out.c 4 _ V.out.time), (B1.out.c 5 _ V.out.object), (B1.out.c 6 _ V.out.target), (B1.out.c 7 _ V.out.scope), (B1.out.c 8 _ V.out.group), (B1.out.c 9 _ H9.out), (B1.out.c 10 _ V.out.text), (B1.out.c 11 _ V.out.nonce), (B1.out.c 12 _ V.out.data), (B1.out.c 13 _ V.out.tag), (B1.out.c 14 _ V.out.epoch), (B1.out.c 15 _ H15.out)⟩ (fun hHeld => ?_)
  clear hK K
  try simp only [Act.put, List.setIfInBounds_toArray, List.set_cons_zero, List.set_cons_succ]
  refine wpAnyH_ready (rs := [27]) (by kernel_rfl) (by simp) ?_
  refine AllReadyH.cons (o := ⟨_, _, _, _, _, _⟩) rfl (fun K hK => ?_) AllReadyH.nil
  go_simp
  refine (Kp9.out _).mono ?_
  rintro e w12 ⟨rfl, hb⟩
  replace T := Lib.hid (T.out.step hb)
  replace B1 := Lib.hid (B1.out.step hb)
  replace V := Lib.hid (V.out.step hb)
  clear hb hHeld
  refine hK.out _ _ ⟨(B1.out.c 0 _ V.out.author), (B1.out.c 1 _ V.out.seq), (B1.out.c 2 _ V.out.prev), (B1.out.c 3 _ V.out.kind), (B1.out.c 4 _ V.out.time), (B1.out.c 5 _ V.out.object), (B1.out.c 6 _ V.out.target), (B1.out.c 7 _ V.out.scope), (B1.out.c 8 _ V.out.group), (B1.out.c 9 _ H9.out), (B1.out.c 10 _ V.out.text), (B1.out.c 11 _ V.out.nonce), (B1.out.c 12 _ V.out.data), (B1.out.c 13 _ V.out.tag), (B1.out.c 14 _ V.out.epoch), (B1.out.c 15 _ H15.out)⟩ (fun hHeld => ?_)
  clear hK K
  try simp only [Act.put, List.setIfInBounds_toArray, List.set_cons_zero, List.set_cons_succ]
  refine wpAnyH_ready (rs := [30]) (by kernel_rfl) (by simp) ?_
  refine AllReadyH.cons (o := ⟨_, _, _, _, _, _⟩) rfl (fun K hK => ?_) AllReadyH.nil
  go_simp
  refine (Kp10.out _ _ V.out).mono ?_
  rintro e w13 ⟨rfl, hb⟩
  replace T := Lib.hid (T.out.step hb)
  replace B1 := Lib.hid (B1.out.step hb)
  replace V := Lib.hid (V.out.step hb)
  clear hb hHeld
  refine hK.out _ _ ⟨(B1.out.c 0 _ V.out.author), (B1.out.c 1 _ V.out.seq), (B1.out.c 2 _ V.out.prev), (B1.out.c 3 _ V.out.kind), (B1.out.c 4 _ V.out.time), (B1.out.c 5 _ V.out.object), (B1.out.c 6 _ V.out.target), (B1.out.c 7 _ V.out.scope), (B1.out.c 8 _ V.out.group), (B1.out.c 9 _ H9.out), (B1.out.c 10 _ V.out.text), (B1.out.c 11 _ V.out.nonce), (B1.out.c 12 _ V.out.data), (B1.out.c 13 _ V.out.tag), (B1.out.c 14 _ V.out.epoch), (B1.out.c 15 _ H15.out)⟩ (fun hHeld => ?_)
  clear hK K
  try simp only [Act.put, List.setIfInBounds_toArray, List.set_cons_zero, List.set_cons_succ]
  refine wpAnyH_ready (rs := [33]) (by kernel_rfl) (by simp) ?_
  refine AllReadyH.cons (o := ⟨_, _, _, _, _, _⟩) rfl (fun K hK => ?_) AllReadyH.nil
  go_simp
  refine (Kp11.out _).mono ?_
  rintro e w14 ⟨rfl, hb⟩
  replace T := Lib.hid (T.out.step hb)
  replace B1 := Lib.hid (B1.out.step hb)
  replace V := Lib.hid (V.out.step hb)
  clear hb hHeld
  refine hK.out _ _ ⟨(B1.out.c 0 _ V.out.author), (B1.out.c 1 _ V.out.seq), (B1.out.c 2 _ V.out.prev), (B1.out.c 3 _ V.out.kind), (B1.out.c 4 _ V.out.time), (B1.out.c 5 _ V.out.object), (B1.out.c 6 _ V.out.target), (B1.out.c 7 _ V.out.scope), (B1.out.c 8 _ V.out.group), (B1.out.c 9 _ H9.out), (B1.out.c 10 _ V.out.text), (B1.out.c 11 _ V.out.nonce), (B1.out.c 12 _ V.out.data), (B1.out.c 13 _ V.out.tag), (B1.out.c 14 _ V.out.epoch), (B1.out.c 15 _ H15.out)⟩ (fun hHeld => ?_)
  clear hK K
  try simp only [Act.put, List.setIfInBounds_toArray, List.set_cons_zero, List.set_cons_succ]
  refine wpAnyH_ready (rs := [36]) (by kernel_rfl) (by simp) ?_
  refine AllReadyH.cons (o := ⟨_, _, _, _, _, _⟩) rfl (fun K hK => ?_) AllReadyH.nil
  go_simp
  refine (Kp12.out _).mono ?_
  rintro e w15 ⟨rfl, hb⟩
  replace T := Lib.hid (T.out.step hb)
  replace B1 := Lib.hid (B1.out.step hb)
  replace V := Lib.hid (V.out.step hb)
  clear hb hHeld
  refine hK.out _ _ ⟨(B1.out.c 0 _ V.out.author), (B1.out.c 1 _ V.out.seq), (B1.out.c 2 _ V.out.prev), (B1.out.c 3 _ V.out.kind), (B1.out.c 4 _ V.out.time), (B1.out.c 5 _ V.out.object), (B1.out.c 6 _ V.out.target), (B1.out.c 7 _ V.out.scope), (B1.out.c 8 _ V.out.group), (B1.out.c 9 _ H9.out), (B1.out.c 10 _ V.out.text), (B1.out.c 11 _ V.out.nonce), (B1.out.c 12 _ V.out.data), (B1.out.c 13 _ V.out.tag), (B1.out.c 14 _ V.out.epoch), (B1.out.c 15 _ H15.out)⟩ (fun hHeld => ?_)
  clear hK K
  try simp only [Act.put, List.setIfInBounds_toArray, List.set_cons_zero, List.set_cons_succ]
  refine wpAnyH_ready (rs := [39]) (by kernel_rfl) (by simp) ?_
  refine AllReadyH.cons (o := ⟨_, _, _, _, _, _⟩) rfl (fun K hK => ?_) AllReadyH.nil
  go_simp
  refine (Kp13.out _).mono ?_
  rintro e w16 ⟨rfl, hb⟩
  replace T := Lib.hid (T.out.step hb)
  replace B1 := Lib.hid (B1.out.step hb)
  replace V := Lib.hid (V.out.step hb)
  clear hb hHeld
  refine hK.out _ _ ⟨(B1.out.c 0 _ V.out.author), (B1.out.c 1 _ V.out.seq), (B1.out.c 2 _ V.out.prev), (B1.out.c 3 _ V.out.kind), (B1.out.c 4 _ V.out.time), (B1.out.c 5 _ V.out.object), (B1.out.c 6 _ V.out.target), (B1.out.c 7 _ V.out.scope), (B1.out.c 8 _ V.out.group), (B1.out.c 9 _ H9.out), (B1.out.c 10 _ V.out.text), (B1.out.c 11 _ V.out.nonce), (B1.out.c 12 _ V.out.data), (B1.out.c 13 _ V.out.tag), (B1.out.c 14 _ V.out.epoch), (B1.out.c 15 _ H15.out)⟩ (fun hHeld => ?_)
  clear hK K
  try simp only [Act.put, List.setIfInBounds_toArray, List.set_cons_zero, List.set_cons_succ]
  refine wpAnyH_ready (rs := [43]) (by kernel_rfl) (by simp) ?_
  refine AllReadyH.cons (o := ⟨_, _, _, _, _, _⟩) rfl (fun K hK => ?_) AllReadyH.nil
  go_simp
  refine (Kp14.out _).mono ?_
  rintro e w17 ⟨rfl, hb⟩
  replace T := Lib.hid (T.out.step hb)
  replace B1 := Lib.hid (B1.out.step hb)
  replace V := Lib.hid (V.out.step hb)
  clear hb hHeld
  refine hK.out _ _ ⟨(B1.out.c 0 _ V.out.author), (B1.out.c 1 _ V.out.seq), (B1.out.c 2 _ V.out.prev), (B1.out.c 3 _ V.out.kind), (B1.out.c 4 _ V.out.time), (B1.out.c 5 _ V.out.object), (B1.out.c 6 _ V.out.target), (B1.out.c 7 _ V.out.scope), (B1.out.c 8 _ V.out.group), (B1.out.c 9 _ H9.out), (B1.out.c 10 _ V.out.text), (B1.out.c 11 _ V.out.nonce), (B1.out.c 12 _ V.out.data), (B1.out.c 13 _ V.out.tag), (B1.out.c 14 _ V.out.epoch), (B1.out.c 15 _ H15.out)⟩ (fun hHeld => ?_)
  clear hK K
  try simp only [Act.put, List.setIfInBounds_toArray, List.set_cons_zero, List.set_cons_succ]
  refine wpAnyH_ready (rs := [44]) (by kernel_rfl) (by simp) ?_
  refine AllReadyH.cons (o := ⟨_, _, _, _, _, _⟩) rfl (fun K hK => ?_) AllReadyH.nil
  go_simp
  have LB1 := Lib.hid (show w.heap.size < w17.heap.size from B1.out.lt)
  have LV := Lib.hid (show bd ≤ w17.heap.size from V.out.le)
  have LT := Lib.hid (show w.heap.size ≤ w17.heap.size from T.out.bel.size)
  replace T := Lib.hid (T.out.alloc (.cells #[.string (S2.B p0), .string (S2.B p1), .string (S2.B p2), .string (S2.B p3), .string (S2.B p4), .string (S2.B p5), .string (S2.B p6), .string (S2.B p7), .string (S2.B p8), .string (S2.B p9), .string (S2.B p10), .string (S2.B p11), .string (S2.B p12), .string (S2.B p13), .string (S2.B p14)] 9))
  replace B1 := Lib.hid (B1.out.alloc (.cells #[.string (S2.B p0), .string (S2.B p1), .string (S2.B p2), .string (S2.B p3), .string (S2.B p4), .string (S2.B p5), .string (S2.B p6), .string (S2.B p7), .string (S2.B p8), .string (S2.B p9), .string (S2.B p10), .string (S2.B p11), .string (S2.B p12), .string (S2.B p13), .string (S2.B p14)] 9))
  replace V := Lib.hid (V.out.alloc (.cells #[.string (S2.B p0), .string (S2.B p1), .string (S2.B p2), .string (S2.B p3), .string (S2.B p4), .string (S2.B p5), .string (S2.B p6), .string (S2.B p7), .string (S2.B p8), .string (S2.B p9), .string (S2.B p10), .string (S2.B p11), .string (S2.B p12), .string (S2.B p13), .string (S2.B p14)] 9))
  have O := Lib.hid (show S11.Idt.Own (w17.alloc (.cells #[.string (S2.B p0), .string (S2.B p1), .string (S2.B p2), .string (S2.B p3), .string (S2.B p4), .string (S2.B p5), .string (S2.B p6), .string (S2.B p7), .string (S2.B p8), .string (S2.B p9), .string (S2.B p10), .string (S2.B p11), .string (S2.B p12), .string (S2.B p13), .string (S2.B p14)] 9)) w17.heap.size (.slice (some ⟨w17.heap.size, 0, none⟩) 15 15) [p0, p1, p2, p3, p4, p5, p6, p7, p8, p9, p10, p11, p12, p13, p14] from ownLit w17 [p0, p1, p2, p3, p4, p5, p6, p7, p8, p9, p10, p11, p12, p13, p14] (Nat.le_of_ble_eq_true rfl))
  clear hHeld
  refine hK.out _ _ ⟨(B1.out.c 0 _ V.out.author), (B1.out.c 1 _ V.out.seq), (B1.out.c 2 _ V.out.prev), (B1.out.c 3 _ V.out.kind), (B1.out.c 4 _ V.out.time), (B1.out.c 5 _ V.out.object), (B1.out.c 6 _ V.out.target), (B1.out.c 7 _ V.out.scope), (B1.out.c 8 _ V.out.group), (B1.out.c 9 _ H9.out), (B1.out.c 10 _ V.out.text), (B1.out.c 11 _ V.out.nonce), (B1.out.c 12 _ V.out.data), (B1.out.c 13 _ V.out.tag), (B1.out.c 14 _ V.out.epoch), (B1.out.c 15 _ H15.out)⟩ (fun hHeld => ?_)
  clear hK K
  try simp only [Act.put, List.setIfInBounds_toArray, List.set_cons_zero, List.set_cons_succ]
  generalize w17.alloc (.cells #[.string (S2.B p0), .string (S2.B p1), .string (S2.B p2), .string (S2.B p3), .string (S2.B p4), .string (S2.B p5), .string (S2.B p6), .string (S2.B p7), .string (S2.B p8), .string (S2.B p9), .string (S2.B p10), .string (S2.B p11), .string (S2.B p12), .string (S2.B p13), .string (S2.B p14)] 9) = w18 at *
  refine wpAnyH_take (i := 45) (oi := ⟨_, _, _, _, _, _⟩) (v := ?_) rfl (by kernel_rfl) (by kernel_rfl) (by kernel_rfl) (fun _ _ _ h => h) (Or.inl ⟨by rfl, ?_⟩) (by assumption) ?_
  rotate_left
  · intro wz hSw
    try dsimp only at hSw
    go_simp
    try with_reducible rfl
  try simp only [Act.put, List.setIfInBounds_toArray, List.set_cons_zero, List.set_cons_succ]
  refine wpAnyH_done (by kernel_rfl) ?_ _
  clear hHeld
  have cB1_15 := B1.out.c 15 _ H15.out
  go_wp2_with (first | fail)
  clear cB1_15
  go_loopw [3, 57] (fun sl i wr => ∃ k : Nat, i = .int .i64 (k : Int) ∧ k ≤ nQ ∧ S11.Idt.Own wr w17.heap.size sl ([p0, p1, p2, p3, p4, p5, p6, p7, p8, p9, p10, p11, p12, p13, p14] ++ (a.wraps.take k).flatMap wp) ∧ Below w17.heap.size w18 wr) (fun _ i _ => nQ - (intOf i).toNat)
  case atStart => exact ⟨0, rfl, Nat.zero_le _, by simpa using O.out, Below.refl _ _⟩
  case round =>
    have hle := O.out.le
    clear O
    obtain ⟨k, rfl, hk, ho, hbw⟩ := hrel
    replace T := Lib.hid (T.out.under hbw LT.out)
    replace B1 := Lib.hid (B1.out.under hbw LB1.out)
    replace V := Lib.hid (V.out.under hbw LV.out)
    have BW := Lib.hid (show Bb w17.heap.size w18 wr from ⟨hbw, Nat.le_trans hle hbw.size⟩)
    obtain ⟨acc, hacc⟩ : ∃ l : List Str, l = [p0, p1, p2, p3, p4, p5, p6, p7, p8, p9, p10, p11, p12, p13, p14] ++ (a.wraps.take k).flatMap wp := ⟨_, rfl⟩
    rw [← hacc] at ho
    have HA := Lib.hid hacc
    have hal : acc.length ≤ 500 := by
      rw [hacc, List.length_append, wp_len, List.length_take]
      have := hqb2.out
      simp only [List.length_cons, List.length_nil]
      omega
    have HAL := Lib.hid hal
    obtain ⟨A3, n3, c3, rfl, hn3, hc3⟩ := ho.sl3
    have OW := Lib.hid ho
    have HNE := Lib.hid ho.own.lt
    clear ho hbw hle hacc hal hn3 hc3
    by_cases hc : k < nQ
    · have hcI : (k : Int) < (nQ : Int) := by omega
      have hkl : k < a.wraps.length := by have := HN15.out; omega
      obtain ⟨ad, rfl, _, hcell⟩ := wr_at (V.out.wrAt H15.out).2.2 hkl
      obtain ⟨x, hx⟩ : ∃ x, x = a.wraps[k] := ⟨_, rfl⟩
      have hxo := HW.out _ (List.getElem_mem hkl)
      rw [← hx] at hcell hxo
      have hnx : (a.wraps.take (k + 1)).flatMap wp = (a.wraps.take k).flatMap wp ++ wp x := by
        rw [List.take_succ_eq_append_getElem hkl, List.flatMap_append, ← hx]
        simp
      obtain ⟨xt, xe, ⟨x1, x2, x3⟩⟩ := x
      simp only [wrOk, Bool.and_eq_true] at hxo
      have hx1 := pub_of hxo.1
      have hx2 := pub_of hxo.2.1
      have hx3 := HB.out _ (.inl hxo.2.2)
      have k0 : World.cell? _ (ad.add (k * 5)) = some (.int .i64 xt) := hcell 0 _ rfl
      have k1 : World.cell? _ ⟨(ad.add (k * 5)).block, (ad.add (k * 5)).off + 1, none⟩ = some (.int .i64 xe) := hcell 1 _ rfl
      have k2 : World.cell? _ ⟨(ad.add (k * 5)).block, (ad.add (k * 5)).off + 2, none⟩ = some (.string (S2.B x1)) := hcell 2 _ rfl
      have k3 : World.cell? _ ⟨(ad.add (k * 5)).block, (ad.add (k * 5)).off + 3, none⟩ = some (.string (S2.B x2)) := hcell 3 _ rfl
      have k4 : World.cell? _ ⟨(ad.add (k * 5)).block, (ad.add (k * 5)).off + 4, none⟩ = some (.string (S2.B x3)) := hcell 4 _ rfl
      obtain ⟨y1, hy1⟩ : ∃ y : Str, y = numB xt := ⟨_, rfl⟩
      obtain ⟨y2, hy2⟩ : ∃ y : Str, y = numB xe := ⟨_, rfl⟩
      obtain ⟨y3, hy3⟩ : ∃ y : Str, y = bxB ⟨x1, x2, x3⟩ := ⟨_, rfl⟩
      have KX1 := fun w => cnum xt w (by omega)
      rw [← hy1] at KX1
      have KX2 := fun w => cnum xe w (by omega)
      rw [← hy2] at KX2
      have KX3 := fun w => boxBytes_any ⟨x1, x2, x3⟩ w hx3
      rw [← hy3] at KX3
      replace KX1 := Lib.hid KX1
      replace KX2 := Lib.hid KX2
      replace KX3 := Lib.hid KX3
      have HX := Lib.hid (show acc ++ [y1, y2, y3] = [p0, p1, p2, p3, p4, p5, p6, p7, p8, p9, p10, p11, p12, p13, p14] ++ (a.wraps.take (k + 1)).flatMap wp by rw [hnx, HA.out, hy1, hy2, hy3]; simp [wp])
      clear hx hxo hnx hx1 hx2 hx3 hcell hy1 hy2 hy3 hk
      go_wp2_with (first | fail)
      replace T := Lib.hid (T.out.alloc (.cells #[.int .i64 xt, .int .i64 xe, .string (S2.B x1), .string (S2.B x2), .string (S2.B x3)] 50))
      replace B1 := Lib.hid (B1.out.alloc (.cells #[.int .i64 xt, .int .i64 xe, .string (S2.B x1), .string (S2.B x2), .string (S2.B x3)] 50))
      replace V := Lib.hid (V.out.alloc (.cells #[.int .i64 xt, .int .i64 xe, .string (S2.B x1), .string (S2.B x2), .string (S2.B x3)] 50))
      replace BW := Lib.hid (BW.out.alloc (.cells #[.int .i64 xt, .int .i64 xe, .string (S2.B x1), .string (S2.B x2), .string (S2.B x3)] 50))
      replace OW := Lib.hid (OW.out.alloc (.cells #[.int .i64 xt, .int .i64 xe, .string (S2.B x1), .string (S2.B x2), .string (S2.B x3)] 50))
      have B2 := Lib.hid (show Lk.Bl (wr.alloc (.cells #[.int .i64 xt, .int .i64 xe, .string (S2.B x1), .string (S2.B x2), .string (S2.B x3)] 50)) wr.heap.size [.int .i64 xt, .int .i64 xe, .string (S2.B x1), .string (S2.B x2), .string (S2.B x3)] 50 from by have h := Lk.Bl.new wr [.int .i64 xt, .int .i64 xe, .string (S2.B x1), .string (S2.B x2), .string (S2.B x3)] 50; simpa using h)
      generalize wr.alloc (.cells #[.int .i64 xt, .int .i64 xe, .string (S2.B x1), .string (S2.B x2), .string (S2.B x3)] 50) = w19 at *
      replace T := Lib.hid (T.out.drew)
      replace B1 := Lib.hid (B1.out.drew)
      replace B2 := Lib.hid (B2.out.drew)
      replace V := Lib.hid (V.out.drew)
      replace BW := Lib.hid (BW.out.drew)
      replace OW := Lib.hid (OW.out.drew)
      refine wp_region_held_drew (S := (fun w' => w'.cell? ⟨wr.heap.size, 0, none⟩ = some (.int .i64 xt) ∧ w'.cell? ⟨wr.heap.size, 1, none⟩ = some (.int .i64 xe) ∧ w'.cell? ⟨wr.heap.size, 2, none⟩ = some (.string (S2.B x1)) ∧ w'.cell? ⟨wr.heap.size, 3, none⟩ = some (.string (S2.B x2)) ∧ w'.cell? ⟨wr.heap.size, 4, none⟩ = some (.string (S2.B x3)))) (by kernel_rfl) ⟨(B2.out.c 0 _ rfl), (B2.out.c 1 _ rfl), (B2.out.c 2 _ rfl), (B2.out.c 3 _ rfl), (B2.out.c 4 _ rfl)⟩ (fun hHeld => ?_)
      refine wpAnyH_take (i := 0) (oi := ⟨_, _, _, _, _, _⟩) (v := ?_) rfl (by kernel_rfl) (by kernel_rfl) (by kernel_rfl) (fun _ _ _ h => h) (Or.inl ⟨by rfl, ?_⟩) (by assumption) ?_
      rotate_left
      · intro wz hSw
        try dsimp only at hSw
        go_simp
        try with_reducible rfl
      try simp only [Act.put, List.setIfInBounds_toArray, List.set_cons_zero, List.set_cons_succ]
      refine wpAnyH_take (i := 1) (oi := ⟨_, _, _, _, _, _⟩) (v := ?_) rfl (by kernel_rfl) (by kernel_rfl) (by kernel_rfl) (fun _ _ _ h => h) (Or.inl ⟨by rfl, ?_⟩) (by assumption) ?_
      rotate_left
      · intro wz hSw
        try dsimp only at hSw
        go_simp
        try with_reducible rfl
      try simp only [Act.put, List.setIfInBounds_toArray, List.set_cons_zero, List.set_cons_succ]
      refine wpAnyH_take (i := 2) (oi := ⟨_, _, _, _, _, _⟩) (v := ?_) rfl (by kernel_rfl) (by kernel_rfl) (by kernel_rfl) (fun _ _ _ h => h) (Or.inl ⟨by rfl, ?_⟩) (by assumption) ?_
      rotate_left
      · intro wz hSw
        try dsimp only at hSw
        go_simp
        try with_reducible rfl
      try simp only [Act.put, List.setIfInBounds_toArray, List.set_cons_zero, List.set_cons_succ]
      refine wpAnyH_take (i := 4) (oi := ⟨_, _, _, _, _, _⟩) (v := ?_) rfl (by kernel_rfl) (by kernel_rfl) (by kernel_rfl) (fun _ _ _ h => h) (Or.inl ⟨by rfl, ?_⟩) (by assumption) ?_
      rotate_left
      · intro wz hSw
        try dsimp only at hSw
        go_simp
        try with_reducible rfl
      try simp only [Act.put, List.setIfInBounds_toArray, List.set_cons_zero, List.set_cons_succ]
      refine wpAnyH_take (i := 5) (oi := ⟨_, _, _, _, _, _⟩) (v := ?_) rfl (by kernel_rfl) (by kernel_rfl) (by kernel_rfl) (fun _ _ _ h => h) (Or.inl ⟨by rfl, ?_⟩) (by assumption) ?_
      rotate_left
      · intro wz hSw
        try dsimp only at hSw
        go_simp
        try with_reducible rfl
      try simp only [Act.put, List.setIfInBounds_toArray, List.set_cons_zero, List.set_cons_succ]
      refine wpAnyH_take (i := 7) (oi := ⟨_, _, _, _, _, _⟩) (v := ?_) rfl (by kernel_rfl) (by kernel_rfl) (by kernel_rfl) (fun _ _ _ h => h) (Or.inl ⟨by rfl, ?_⟩) (by assumption) ?_
      rotate_left
      · intro wz hSw
        try dsimp only at hSw
        go_simp
        try with_reducible rfl
      try simp only [Act.put, List.setIfInBounds_toArray, List.set_cons_zero, List.set_cons_succ]
      refine wpAnyH_take (i := 8) (oi := ⟨_, _, _, _, _, _⟩) (v := ?_) rfl (by kernel_rfl) (by kernel_rfl) (by kernel_rfl) (fun _ _ _ h => h) (Or.inl ⟨by rfl, ?_⟩) (by assumption) ?_
      rotate_left
      · intro wz hSw
        try dsimp only at hSw
        go_simp
        try with_reducible rfl
      try simp only [Act.put, List.setIfInBounds_toArray, List.set_cons_zero, List.set_cons_succ]
      refine wpAnyH_ready (rs := [3]) (by kernel_rfl) (by simp) ?_
      refine AllReadyH.cons (o := ⟨_, _, _, _, _, _⟩) rfl (fun K hK => ?_) AllReadyH.nil
      go_simp
      refine (KX1.out _).mono ?_
      rintro e w20 ⟨rfl, hb⟩
      replace T := Lib.hid (T.out.step hb)
      replace B1 := Lib.hid (B1.out.step hb)
      replace B2 := Lib.hid (B2.out.step hb)
      replace V := Lib.hid (V.out.step hb)
      replace BW := Lib.hid (BW.out.step hb)
      replace OW := Lib.hid (OW.out.step hb)
      clear hb hHeld
      refine hK.out _ _ ⟨(B2.out.c 0 _ rfl), (B2.out.c 1 _ rfl), (B2.out.c 2 _ rfl), (B2.out.c 3 _ rfl), (B2.out.c 4 _ rfl)⟩ (fun hHeld => ?_)
      clear hK K
      try simp only [Act.put, List.setIfInBounds_toArray, List.set_cons_zero, List.set_cons_succ]
      refine wpAnyH_ready (rs := [6]) (by kernel_rfl) (by simp) ?_
      refine AllReadyH.cons (o := ⟨_, _, _, _, _, _⟩) rfl (fun K hK => ?_) AllReadyH.nil
      go_simp
      refine (KX2.out _).mono ?_
      rintro e w21 ⟨rfl, hb⟩
      replace T := Lib.hid (T.out.step hb)
      replace B1 := Lib.hid (B1.out.step hb)
      replace B2 := Lib.hid (B2.out.step hb)
      replace V := Lib.hid (V.out.step hb)
      replace BW := Lib.hid (BW.out.step hb)
      replace OW := Lib.hid (OW.out.step hb)
      clear hb hHeld
      refine hK.out _ _ ⟨(B2.out.c 0 _ rfl), (B2.out.c 1 _ rfl), (B2.out.c 2 _ rfl), (B2.out.c 3 _ rfl), (B2.out.c 4 _ rfl)⟩ (fun hHeld => ?_)
      clear hK K
      try simp only [Act.put, List.setIfInBounds_toArray, List.set_cons_zero, List.set_cons_succ]
      refine wpAnyH_ready (rs := [9]) (by kernel_rfl) (by simp) ?_
      refine AllReadyH.cons (o := ⟨_, _, _, _, _, _⟩) rfl (fun K hK => ?_) AllReadyH.nil
      go_simp
      refine (KX3.out _).mono ?_
      rintro e w22 ⟨rfl, hb⟩
      replace T := Lib.hid (T.out.step hb)
      replace B1 := Lib.hid (B1.out.step hb)
      replace B2 := Lib.hid (B2.out.step hb)
      replace V := Lib.hid (V.out.step hb)
      replace BW := Lib.hid (BW.out.step hb)
      replace OW := Lib.hid (OW.out.step hb)
      clear hb hHeld
      refine hK.out _ _ ⟨(B2.out.c 0 _ rfl), (B2.out.c 1 _ rfl), (B2.out.c 2 _ rfl), (B2.out.c 3 _ rfl), (B2.out.c 4 _ rfl)⟩ (fun hHeld => ?_)
      clear hK K
      try simp only [Act.put, List.setIfInBounds_toArray, List.set_cons_zero, List.set_cons_succ]
      refine wpAnyH_ready (rs := [10]) (by kernel_rfl) (by simp) ?_
      refine AllReadyH.cons (o := ⟨_, _, _, _, _, _⟩) rfl (fun K hK => ?_) AllReadyH.nil
      go_simp
      replace T := Lib.hid (T.out.alloc (.cells #[.string (S2.B y1), .string (S2.B y2), .string (S2.B y3)] 9))
      replace B1 := Lib.hid (B1.out.alloc (.cells #[.string (S2.B y1), .string (S2.B y2), .string (S2.B y3)] 9))
      replace B2 := Lib.hid (B2.out.alloc (.cells #[.string (S2.B y1), .string (S2.B y2), .string (S2.B y3)] 9))
      replace V := Lib.hid (V.out.alloc (.cells #[.string (S2.B y1), .string (S2.B y2), .string (S2.B y3)] 9))
      replace BW := Lib.hid (BW.out.alloc (.cells #[.string (S2.B y1), .string (S2.B y2), .string (S2.B y3)] 9))
      replace OW := Lib.hid (OW.out.alloc (.cells #[.string (S2.B y1), .string (S2.B y2), .string (S2.B y3)] 9))
      have SR := Lib.hid (show S2.Row (w22.alloc (.cells #[.string (S2.B y1), .string (S2.B y2), .string (S2.B y3)] 9)) (w22.alloc (.cells #[.string (S2.B y1), .string (S2.B y2), .string (S2.B y3)] 9)).heap.size (some ⟨w22.heap.size, 0, none⟩) (S2.Ss [y1, y2, y3]) from rowLit w22 [y1, y2, y3])
      clear hHeld
      refine hK.out _ _ ⟨(B2.out.c 0 _ rfl), (B2.out.c 1 _ rfl), (B2.out.c 2 _ rfl), (B2.out.c 3 _ rfl), (B2.out.c 4 _ rfl)⟩ (fun hHeld => ?_)
      clear hK K
      try simp only [Act.put, List.setIfInBounds_toArray, List.set_cons_zero, List.set_cons_succ]
      generalize w22.alloc (.cells #[.string (S2.B y1), .string (S2.B y2), .string (S2.B y3)] 9) = w23 at *
      refine wpAnyH_ready (rs := [11]) (by kernel_rfl) (by simp) ?_
      refine AllReadyH.cons (o := ⟨_, _, _, _, _, _⟩) rfl (fun K hK => ?_) AllReadyH.nil
      refine S11.Idt.step_app rfl _ _ rfl OW.out SR.out rfl rfl rfl (by have := HAL.out; simp; omega) ?_
      intro v' w24 ho hb hg
      replace T := Lib.hid (T.out.under hb LT.out)
      replace B1 := Lib.hid (B1.out.under hb LB1.out)
      replace V := Lib.hid (V.out.under hb LV.out)
      replace BW := Lib.hid (BW.out.under hb)
      replace B2 := Lib.hid (Bl_grown B2.out hg (fun h => absurd (HNE.out _ h.symm).2 (Nat.lt_irrefl _)))
      obtain ⟨A4, n4, c4, rfl, hn4, hc4⟩ := ho.sl3
      replace OW := Lib.hid ho
      have HN4 := Lib.hid hn4
      have HC4 := Lib.hid hc4
      clear ho hb hg hn4 hc4 SR hHeld
      refine hK.out _ _ ⟨(B2.out.c 0 _ rfl), (B2.out.c 1 _ rfl), (B2.out.c 2 _ rfl), (B2.out.c 3 _ rfl), (B2.out.c 4 _ rfl)⟩ (fun hHeld => ?_)
      clear hK K
      try simp only [Act.put, List.setIfInBounds_toArray, List.set_cons_zero, List.set_cons_succ]
      refine wpAnyH_take (i := 12) (oi := ⟨_, _, _, _, _, _⟩) (v := ?_) rfl (by kernel_rfl) (by kernel_rfl) (by kernel_rfl) (fun _ _ _ h => h) (Or.inl ⟨by rfl, ?_⟩) (by assumption) ?_
      rotate_left
      · intro wz hSw
        try dsimp only at hSw
        go_simp
        try with_reducible rfl
      try simp only [Act.put, List.setIfInBounds_toArray, List.set_cons_zero, List.set_cons_succ]
      refine wpAnyH_done (by kernel_rfl) ?_ _
      clear hHeld
      go_wp2_with (first | fail)
      go_roundw
      case rel => exact ⟨k + 1, by go_num, by omega, by rw [← HX.out]; exact OW.out, BW.out.bel⟩
      case measure => simp [intOf]; omega
    · have hcI : ¬ (k : Int) < (nQ : Int) := by omega
      have hacc : acc = [p0, p1, p2, p3, p4, p5, p6, p7, p8, p9, p10, p11, p12, p13, p14] ++ a.wraps.flatMap wp := by rw [HA.out, List.take_of_length_le (by have := HN15.out; omega)]
      clear hk HA
      go_wp2_with (first | fail)
      replace T := Lib.hid (T.out.drew)
      replace B1 := Lib.hid (B1.out.drew)
      replace V := Lib.hid (V.out.drew)
      replace BW := Lib.hid (BW.out.drew)
      replace OW := Lib.hid (OW.out.drew)
      refine wp_region_held_drew (S := (fun w' => w'.cell? ⟨w.heap.size, 16, none⟩ = some (.int .i64 a.n) ∧ w'.cell? ⟨w.heap.size, 17, none⟩ = some (.int .i64 a.m))) (by kernel_rfl) ⟨(B1.out.c 16 _ V.out.n), (B1.out.c 17 _ V.out.m)⟩ (fun hHeld => ?_)
      refine wpAnyH_take (i := 0) (oi := ⟨_, _, _, _, _, _⟩) (v := ?_) rfl (by kernel_rfl) (by kernel_rfl) (by kernel_rfl) (fun _ _ _ h => h) (Or.inl ⟨by rfl, ?_⟩) (by assumption) ?_
      rotate_left
      · intro wz hSw
        try dsimp only at hSw
        go_simp
        try with_reducible rfl
      try simp only [Act.put, List.setIfInBounds_toArray, List.set_cons_zero, List.set_cons_succ]
      refine wpAnyH_take (i := 1) (oi := ⟨_, _, _, _, _, _⟩) (v := ?_) rfl (by kernel_rfl) (by kernel_rfl) (by kernel_rfl) (fun _ _ _ h => h) (Or.inl ⟨by rfl, ?_⟩) (by assumption) ?_
      rotate_left
      · intro wz hSw
        try dsimp only at hSw
        go_simp
        try with_reducible rfl
      try simp only [Act.put, List.setIfInBounds_toArray, List.set_cons_zero, List.set_cons_succ]
      refine wpAnyH_take (i := 2) (oi := ⟨_, _, _, _, _, _⟩) (v := ?_) rfl (by kernel_rfl) (by kernel_rfl) (by kernel_rfl) (fun _ _ _ h => h) (Or.inl ⟨by rfl, ?_⟩) (by assumption) ?_
      rotate_left
      · intro wz hSw
        try dsimp only at hSw
        go_simp
        try with_reducible rfl
      try simp only [Act.put, List.setIfInBounds_toArray, List.set_cons_zero, List.set_cons_succ]
      refine wpAnyH_take (i := 4) (oi := ⟨_, _, _, _, _, _⟩) (v := ?_) rfl (by kernel_rfl) (by kernel_rfl) (by kernel_rfl) (fun _ _ _ h => h) (Or.inl ⟨by rfl, ?_⟩) (by assumption) ?_
      rotate_left
      · intro wz hSw
        try dsimp only at hSw
        go_simp
        try with_reducible rfl
      try simp only [Act.put, List.setIfInBounds_toArray, List.set_cons_zero, List.set_cons_succ]
      refine wpAnyH_take (i := 5) (oi := ⟨_, _, _, _, _, _⟩) (v := ?_) rfl (by kernel_rfl) (by kernel_rfl) (by kernel_rfl) (fun _ _ _ h => h) (Or.inl ⟨by rfl, ?_⟩) (by assumption) ?_
      rotate_left
      · intro wz hSw
        try dsimp only at hSw
        go_simp
        try with_reducible rfl
      try simp only [Act.put, List.setIfInBounds_toArray, List.set_cons_zero, List.set_cons_succ]
      refine wpAnyH_ready (rs := [3]) (by kernel_rfl) (by simp) ?_
      refine AllReadyH.cons (o := ⟨_, _, _, _, _, _⟩) rfl (fun K hK => ?_) AllReadyH.nil
      go_simp
      refine (Kpn.out _).mono ?_
      rintro e w19 ⟨rfl, hb⟩
      replace T := Lib.hid (T.out.step hb)
      replace B1 := Lib.hid (B1.out.step hb)
      replace V := Lib.hid (V.out.step hb)
      replace BW := Lib.hid (BW.out.step hb)
      replace OW := Lib.hid (OW.out.step hb)
      clear hb hHeld
      refine hK.out _ _ ⟨(B1.out.c 16 _ V.out.n), (B1.out.c 17 _ V.out.m)⟩ (fun hHeld => ?_)
      clear hK K
      try simp only [Act.put, List.setIfInBounds_toArray, List.set_cons_zero, List.set_cons_succ]
      refine wpAnyH_ready (rs := [6]) (by kernel_rfl) (by simp) ?_
      refine AllReadyH.cons (o := ⟨_, _, _, _, _, _⟩) rfl (fun K hK => ?_) AllReadyH.nil
      go_simp
      refine (Kpm.out _).mono ?_
      rintro e w20 ⟨rfl, hb⟩
      replace T := Lib.hid (T.out.step hb)
      replace B1 := Lib.hid (B1.out.step hb)
      replace V := Lib.hid (V.out.step hb)
      replace BW := Lib.hid (BW.out.step hb)
      replace OW := Lib.hid (OW.out.step hb)
      clear hb hHeld
      refine hK.out _ _ ⟨(B1.out.c 16 _ V.out.n), (B1.out.c 17 _ V.out.m)⟩ (fun hHeld => ?_)
      clear hK K
      try simp only [Act.put, List.setIfInBounds_toArray, List.set_cons_zero, List.set_cons_succ]
      refine wpAnyH_ready (rs := [7]) (by kernel_rfl) (by simp) ?_
      refine AllReadyH.cons (o := ⟨_, _, _, _, _, _⟩) rfl (fun K hK => ?_) AllReadyH.nil
      go_simp
      replace T := Lib.hid (T.out.alloc (.cells #[.string (S2.B pn), .string (S2.B pm)] 9))
      replace B1 := Lib.hid (B1.out.alloc (.cells #[.string (S2.B pn), .string (S2.B pm)] 9))
      replace V := Lib.hid (V.out.alloc (.cells #[.string (S2.B pn), .string (S2.B pm)] 9))
      replace BW := Lib.hid (BW.out.alloc (.cells #[.string (S2.B pn), .string (S2.B pm)] 9))
      replace OW := Lib.hid (OW.out.alloc (.cells #[.string (S2.B pn), .string (S2.B pm)] 9))
      have SR := Lib.hid (show S2.Row (w20.alloc (.cells #[.string (S2.B pn), .string (S2.B pm)] 9)) (w20.alloc (.cells #[.string (S2.B pn), .string (S2.B pm)] 9)).heap.size (some ⟨w20.heap.size, 0, none⟩) (S2.Ss [pn, pm]) from rowLit w20 [pn, pm])
      clear hHeld
      refine hK.out _ _ ⟨(B1.out.c 16 _ V.out.n), (B1.out.c 17 _ V.out.m)⟩ (fun hHeld => ?_)
      clear hK K
      try simp only [Act.put, List.setIfInBounds_toArray, List.set_cons_zero, List.set_cons_succ]
      generalize w20.alloc (.cells #[.string (S2.B pn), .string (S2.B pm)] 9) = w21 at *
      refine wpAnyH_ready (rs := [8]) (by kernel_rfl) (by simp) ?_
      refine AllReadyH.cons (o := ⟨_, _, _, _, _, _⟩) rfl (fun K hK => ?_) AllReadyH.nil
      refine S11.Idt.step_app rfl _ _ rfl OW.out SR.out rfl rfl rfl (by have := HAL.out; simp; omega) ?_
      intro v' w22 ho hb hg
      replace T := Lib.hid (T.out.under hb LT.out)
      replace B1 := Lib.hid (B1.out.under hb LB1.out)
      replace V := Lib.hid (V.out.under hb LV.out)
      replace BW := Lib.hid (BW.out.under hb)
      obtain ⟨A4, n4, c4, rfl, hn4, hc4⟩ := ho.sl3
      replace OW := Lib.hid ho
      have HN4 := Lib.hid hn4
      have HC4 := Lib.hid hc4
      clear ho hb hg hn4 hc4 SR hHeld
      refine hK.out _ _ ⟨(B1.out.c 16 _ V.out.n), (B1.out.c 17 _ V.out.m)⟩ (fun hHeld => ?_)
      clear hK K
      try simp only [Act.put, List.setIfInBounds_toArray, List.set_cons_zero, List.set_cons_succ]
      refine wpAnyH_take (i := 9) (oi := ⟨_, _, _, _, _, _⟩) (v := ?_) rfl (by kernel_rfl) (by kernel_rfl) (by kernel_rfl) (fun _ _ _ h => h) (Or.inl ⟨by rfl, ?_⟩) (by assumption) ?_
      rotate_left
      · intro wz hSw
        try dsimp only at hSw
        go_simp
        try with_reducible rfl
      try simp only [Act.put, List.setIfInBounds_toArray, List.set_cons_zero, List.set_cons_succ]
      refine wpAnyH_done (by kernel_rfl) ?_ _
      clear hHeld
      obtain ⟨g0, hg0⟩ := OW.out.blk (by simp)
      subst hg0
      have hfl : (acc ++ [pn, pm]).flatten = coreB a := by rw [hacc]; exact HF.out
      have hjr : ∀ (j : Nat) x, (acc ++ [pn, pm])[j]? = some x → World.cell? _ ⟨g0, j, none⟩ = some (.string (S3.B x)) := fun j x hx => by
        obtain ⟨hj, rfl⟩ := List.getElem?_eq_some_iff.1 hx
        exact (OW.out.cell HN4.out hj).1
      have hjb := OW.out.own.lt g0 (by rw [HN4.out]; rfl)
      have KJ := S5.Sg.join_ok g0 c4 (acc ++ [pn, pm]) _ hjr hjb.2 (by rw [← HN4.out]; exact HC4.out) (by have := HAL.out; simp; omega) (by rw [hfl]; have := HL.out; omega)
      rw [hfl, ← HN4.out] at KJ
      replace KJ := Lib.hid KJ
      clear hjr hjb hfl hacc
      go_wp2_with (first | fail)
      refine (KJ.out).mono ?_
      rintro e w23 ⟨rfl, hb⟩
      replace T := Lib.hid (T.out.step hb)
      replace B1 := Lib.hid (B1.out.step hb)
      replace V := Lib.hid (V.out.step hb)
      replace BW := Lib.hid (BW.out.step hb)
      replace OW := Lib.hid (OW.out.step hb)
      clear hb
      go_wp2
      go_ret
      exact ⟨by rw [HC.out]; rfl, T.out.bel⟩
theorem core_any {bd : Nat} {cs : List Value} {a : Ac} {e s : Int} (w : World) (hv0 : Av w bd cs a e s) (hz : Sz 1000000 1000000 a) :
    Calls Tryz.prog 22 #[.agg cs.toArray] w fun x w' => x = .returned (.string (S2.B (core a e s))) ∧ Below w.heap.size w w' := by
  cases hv : valid a e s with
  | false => exact core_no w hv0 hz hv
  | true => exact core_yes w hv0 hv
set_option maxHeartbeats 4000000 in
set_option maxRecDepth 100000 in
theorem bytes_no {bd : Nat} {cs : List Value} {a : Ac} {e s : Int} (w : World) (hv0 : Av w bd cs a e s) (hz : Sz 1000000 1000000 a) (hv : valid a e s = false) :
    Calls Tryz.prog 24 #[.agg cs.toArray] w fun x w' => x = .returned (.string (S2.B (Ax.bytes a e s))) ∧ Below w.heap.size w w' := by
  have T := Lib.hid (Lk.At.start w)
  have V := Lib.hid hv0
  have KC := fun (w : World) (bd : Nat) (h : Av w bd cs a e s) => core_any w h hz
  rw [show core a e s = [] from if_neg (by rw [hv]; decide)] at KC
  replace KC := Lib.hid KC
  have HR := Lib.hid (show Ax.bytes a e s = [] from if_neg (by rw [hv]; decide))
  clear hv0 hz hv
  go_enter Tryz.func24, Tryz.ntmps24
  replace T := Lib.hid (T.out.alloc (.cells cs.toArray 29))
  replace V := Lib.hid (V.out.alloc (.cells cs.toArray 29))
  have B1 := Lib.hid (show Lk.Bl (w.alloc (.cells cs.toArray 29)) w.heap.size cs 29 from by have h := Lk.Bl.new w cs 29; simpa using h)
  go_wp2_with (first | ((with_reducible refine Lk.ld (d := 4) w.heap.size B1.out V.out.len ?_ ?_ ?_); exact rfl; exact rfl) | fail)
  generalize w.alloc (.cells cs.toArray 29) = w1 at *
  refine (KC.out _ _ V.out).mono ?_
  rintro e w2 ⟨rfl, hb⟩
  replace T := Lib.hid (T.out.step hb)
  replace B1 := Lib.hid (B1.out.step hb)
  replace V := Lib.hid (V.out.step hb)
  clear hb
  go_wp2
  go_ret
  exact ⟨by rw [HR.out]; rfl, T.out.bel⟩
set_option maxHeartbeats 4000000 in
set_option maxRecDepth 100000 in
theorem bytes_yes {bd : Nat} {cs : List Value} {a : Ac} {e s : Int} (w : World) (hv0 : Av w bd cs a e s) (hv : valid a e s = true) :
    Calls Tryz.prog 24 #[.agg cs.toArray] w fun x w' => x = .returned (.string (S2.B (Ax.bytes a e s))) ∧ Below w.heap.size w w' := by
  have T := Lib.hid (Lk.At.start w)
  have V := Lib.hid hv0
  have hcl := core_le (lim_of (valid_good hv))
  have hcp := core_pos a
  have hsg := valid_sig hv
  obtain ⟨c, hc⟩ : ∃ x : Str, x = coreB a := ⟨_, rfl⟩
  obtain ⟨x1, hx1⟩ : ∃ x : Str, x = numB e := ⟨_, rfl⟩
  obtain ⟨x2, hx2⟩ : ∃ x : Str, x = numB s := ⟨_, rfl⟩
  have KC := fun (w : World) (bd : Nat) (h : Av w bd cs a e s) => core_yes w h hv
  rw [show core a e s = coreB a from if_pos hv, ← hc] at KC
  have K1 := fun w => cnum e w (by omega)
  rw [← hx1] at K1
  have K2 := fun w => cnum s w (by omega)
  rw [← hx2] at K2
  replace KC := Lib.hid KC
  replace K1 := Lib.hid K1
  replace K2 := Lib.hid K2
  have HR := Lib.hid (show Ax.bytes a e s = c ++ (x1 ++ x2) by rw [hc, hx1, hx2]; exact if_pos hv)
  rw [← hc] at hcl hcp
  have hl1 : x1.length ≤ 9 := by rw [hx1]; exact numB_le e
  have hl2 : x2.length ≤ 9 := by rw [hx2]; exact numB_le s
  have hne : (c == []) = false := by
    cases c with
    | nil => simp at hcp
    | cons => rfl
  clear hv0 hv hsg hc hx1 hx2 hcp
  go_enter Tryz.func24, Tryz.ntmps24
  replace T := Lib.hid (T.out.alloc (.cells cs.toArray 29))
  replace V := Lib.hid (V.out.alloc (.cells cs.toArray 29))
  have B1 := Lib.hid (show Lk.Bl (w.alloc (.cells cs.toArray 29)) w.heap.size cs 29 from by have h := Lk.Bl.new w cs 29; simpa using h)
  go_wp2_with (first | ((with_reducible refine Lk.ld (d := 4) w.heap.size B1.out V.out.len ?_ ?_ ?_); exact rfl; exact rfl) | fail)
  generalize w.alloc (.cells cs.toArray 29) = w1 at *
  refine (KC.out _ _ V.out).mono ?_
  rintro e w2 ⟨rfl, hb⟩
  replace T := Lib.hid (T.out.step hb)
  replace B1 := Lib.hid (B1.out.step hb)
  replace V := Lib.hid (V.out.step hb)
  clear hb
  go_wp2_with (first | fail)
  replace T := Lib.hid (T.out.drew)
  replace B1 := Lib.hid (B1.out.drew)
  replace V := Lib.hid (V.out.drew)
  refine wp_region_held_drew (S := (fun w' => w'.cell? ⟨w.heap.size, 18, none⟩ = some (.int .i64 e) ∧ w'.cell? ⟨w.heap.size, 19, none⟩ = some (.int .i64 s))) (by kernel_rfl) ⟨(B1.out.c 18 _ V.out.sigE), (B1.out.c 19 _ V.out.sigS)⟩ (fun hHeld => ?_)
  refine wpAnyH_take (i := 0) (oi := ⟨_, _, _, _, _, _⟩) (v := ?_) rfl (by kernel_rfl) (by kernel_rfl) (by kernel_rfl) (fun _ _ _ h => h) (Or.inl ⟨by rfl, ?_⟩) (by assumption) ?_
  rotate_left
  · intro wz hSw
    try dsimp only at hSw
    go_simp
    try with_reducible rfl
  try simp only [Act.put, List.setIfInBounds_toArray, List.set_cons_zero, List.set_cons_succ]
  refine wpAnyH_take (i := 1) (oi := ⟨_, _, _, _, _, _⟩) (v := ?_) rfl (by kernel_rfl) (by kernel_rfl) (by kernel_rfl) (fun _ _ _ h => h) (Or.inl ⟨by rfl, ?_⟩) (by assumption) ?_
  rotate_left
  · intro wz hSw
    try dsimp only at hSw
    go_simp
    try with_reducible rfl
  try simp only [Act.put, List.setIfInBounds_toArray, List.set_cons_zero, List.set_cons_succ]
  refine wpAnyH_take (i := 2) (oi := ⟨_, _, _, _, _, _⟩) (v := ?_) rfl (by kernel_rfl) (by kernel_rfl) (by kernel_rfl) (fun _ _ _ h => h) (Or.inl ⟨by rfl, ?_⟩) (by assumption) ?_
  rotate_left
  · intro wz hSw
    try dsimp only at hSw
    go_simp
    try with_reducible rfl
  try simp only [Act.put, List.setIfInBounds_toArray, List.set_cons_zero, List.set_cons_succ]
  refine wpAnyH_take (i := 3) (oi := ⟨_, _, _, _, _, _⟩) (v := ?_) rfl (by kernel_rfl) (by kernel_rfl) (by kernel_rfl) (fun _ _ _ h => h) (Or.inl ⟨by rfl, ?_⟩) (by assumption) ?_
  rotate_left
  · intro wz hSw
    try dsimp only at hSw
    go_simp
    try with_reducible rfl
  try simp only [Act.put, List.setIfInBounds_toArray, List.set_cons_zero, List.set_cons_succ]
  refine wpAnyH_take (i := 6) (oi := ⟨_, _, _, _, _, _⟩) (v := ?_) rfl (by kernel_rfl) (by kernel_rfl) (by kernel_rfl) (fun _ _ _ h => h) (Or.inl ⟨by rfl, ?_⟩) (by assumption) ?_
  rotate_left
  · intro wz hSw
    try dsimp only at hSw
    go_simp
    try with_reducible rfl
  try simp only [Act.put, List.setIfInBounds_toArray, List.set_cons_zero, List.set_cons_succ]
  refine wpAnyH_take (i := 7) (oi := ⟨_, _, _, _, _, _⟩) (v := ?_) rfl (by kernel_rfl) (by kernel_rfl) (by kernel_rfl) (fun _ _ _ h => h) (Or.inl ⟨by rfl, ?_⟩) (by assumption) ?_
  rotate_left
  · intro wz hSw
    try dsimp only at hSw
    go_simp
    try with_reducible rfl
  try simp only [Act.put, List.setIfInBounds_toArray, List.set_cons_zero, List.set_cons_succ]
  refine wpAnyH_take (i := 8) (oi := ⟨_, _, _, _, _, _⟩) (v := ?_) rfl (by kernel_rfl) (by kernel_rfl) (by kernel_rfl) (fun _ _ _ h => h) (Or.inl ⟨by rfl, ?_⟩) (by assumption) ?_
  rotate_left
  · intro wz hSw
    try dsimp only at hSw
    go_simp
    try with_reducible rfl
  try simp only [Act.put, List.setIfInBounds_toArray, List.set_cons_zero, List.set_cons_succ]
  refine wpAnyH_ready (rs := [4]) (by kernel_rfl) (by simp) ?_
  refine AllReadyH.cons (o := ⟨_, _, _, _, _, _⟩) rfl (fun K hK => ?_) AllReadyH.nil
  go_simp
  refine (K1.out _).mono ?_
  rintro e w3 ⟨rfl, hb⟩
  replace T := Lib.hid (T.out.step hb)
  replace B1 := Lib.hid (B1.out.step hb)
  replace V := Lib.hid (V.out.step hb)
  clear hb hHeld
  refine hK.out _ _ ⟨(B1.out.c 18 _ V.out.sigE), (B1.out.c 19 _ V.out.sigS)⟩ (fun hHeld => ?_)
  clear hK K
  try simp only [Act.put, List.setIfInBounds_toArray, List.set_cons_zero, List.set_cons_succ]
  refine wpAnyH_take (i := 5) (oi := ⟨_, _, _, _, _, _⟩) (v := .string (S2.B (c ++ x1))) rfl (by kernel_rfl) (by kernel_rfl) (by kernel_rfl) (fun _ _ _ h => h) (Or.inl ⟨by rfl, ?_⟩) (by assumption) ?_
  · intro wz hSw
    try dsimp only at hSw
    go_simp
    omega
  try simp only [Act.put, List.setIfInBounds_toArray, List.set_cons_zero, List.set_cons_succ]
  refine wpAnyH_ready (rs := [9]) (by kernel_rfl) (by simp) ?_
  refine AllReadyH.cons (o := ⟨_, _, _, _, _, _⟩) rfl (fun K hK => ?_) AllReadyH.nil
  go_simp
  refine (K2.out _).mono ?_
  rintro e w4 ⟨rfl, hb⟩
  replace T := Lib.hid (T.out.step hb)
  replace B1 := Lib.hid (B1.out.step hb)
  replace V := Lib.hid (V.out.step hb)
  clear hb hHeld
  refine hK.out _ _ ⟨(B1.out.c 18 _ V.out.sigE), (B1.out.c 19 _ V.out.sigS)⟩ (fun hHeld => ?_)
  clear hK K
  try simp only [Act.put, List.setIfInBounds_toArray, List.set_cons_zero, List.set_cons_succ]
  refine wpAnyH_take (i := 10) (oi := ⟨_, _, _, _, _, _⟩) (v := .string (S2.B (c ++ x1 ++ x2))) rfl (by kernel_rfl) (by kernel_rfl) (by kernel_rfl) (fun _ _ _ h => h) (Or.inl ⟨by rfl, ?_⟩) (by assumption) ?_
  · intro wz hSw
    try dsimp only at hSw
    go_simp
    omega
  try simp only [Act.put, List.setIfInBounds_toArray, List.set_cons_zero, List.set_cons_succ]
  refine wpAnyH_take (i := 11) (oi := ⟨_, _, _, _, _, _⟩) (v := ?_) rfl (by kernel_rfl) (by kernel_rfl) (by kernel_rfl) (fun _ _ _ h => h) (Or.inl ⟨by rfl, ?_⟩) (by assumption) ?_
  rotate_left
  · intro wz hSw
    try dsimp only at hSw
    go_simp
    try with_reducible rfl
  try simp only [Act.put, List.setIfInBounds_toArray, List.set_cons_zero, List.set_cons_succ]
  refine wpAnyH_done (by kernel_rfl) ?_ _
  clear hHeld
  go_wp2
  go_ret
  exact ⟨by rw [HR.out]; rfl, T.out.bel⟩
theorem bytes_any {bd : Nat} {cs : List Value} {a : Ac} {e s : Int} (w : World) (hv0 : Av w bd cs a e s) (hz : Sz 1000000 1000000 a) :
    Calls Tryz.prog 24 #[.agg cs.toArray] w fun x w' => x = .returned (.string (S2.B (Ax.bytes a e s))) ∧ Below w.heap.size w w' := by
  cases hv : valid a e s with
  | false => exact bytes_no w hv0 hz hv
  | true => exact bytes_yes w hv0 hv
end Ld
end Go.Proofs.YtojbicpchjiplaaGreatDoor
