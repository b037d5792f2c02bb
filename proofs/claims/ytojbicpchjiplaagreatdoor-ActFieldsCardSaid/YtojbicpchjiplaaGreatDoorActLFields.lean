/-
  Layer 12: ActFields' walk, against the package's contracts.
-/
import Derived.Test.YtojbicpchjiplaaGreatDoorActApp
namespace Go.Proofs.YtojbicpchjiplaaGreatDoor
open Go.RowKit
namespace Ax
open S11.Idt (Str isId isName ids)
attribute [local go_sem] S2.B_size S2.B_list S2.B_app S2.B_take litE lit120
set_option maxHeartbeats 4000000 in
set_option maxRecDepth 100000 in
theorem fields_e1 {keyOk : Int → Int → Bool} {sgn : Int → Int → Str → Int × Int} {ver : Int → Str → Int → Int → Bool} {W : World} (_P : Pk keyOk sgn ver W) (hsm : Ok W 9 #[] (.bool true))
    (a : Ac) (e s : Int) (cs : List Value) (A : Option Addr) (nA cA : Nat) (Q : Option Addr) (nQ cQ : Nat) (hv0 : Av W W.heap.size cs a e s) (h9 : cs[9]? = some (.slice A nA cA)) (h15 : cs[15]? = some (.slice Q nQ cQ)) (hz : Sz 281474976710656 140737488355328 a)
    (h : fewB a = false) :
    Calls Tryz.prog 7 #[.agg cs.toArray] W fun x w' => x = .returned (.bool true) ∧ Below W.heap.size W w' := by
  have KS := Lib.hid hsm
  have T := Lib.hid (Lk.At.start W)
  have V := Lib.hid hv0
  have H9 := Lib.hid h9
  have H15 := Lib.hid h15
  have KFa := fun (w : World) (b0 : Nat) (c0 : List Value) (hb : Below W.heap.size W w) (h0 : Av w b0 c0 a e s) => fewC h0 hz
  rw [h] at KFa
  replace KFa := Lib.hid KFa
  clear hsm hv0 h9 h15 hz h
  go_enter Tryz.func7, Tryz.ntmps7
  go_wp2_with (first | fail)
  replace T := Lib.hid (T.out.alloc (.cells cs.toArray 29))
  replace V := Lib.hid (V.out.alloc (.cells cs.toArray 29))
  have B1 := Lib.hid (show Lk.Bl (W.alloc (.cells cs.toArray 29)) W.heap.size cs 29 from by have h := Lk.Bl.new W cs 29; simpa using h)
  generalize W.alloc (.cells cs.toArray 29) = w1 at *
  refine (KS.out _ T.out.bel).mono ?_
  rintro e w2 ⟨rfl, hb⟩
  replace T := Lib.hid (T.out.step hb)
  replace B1 := Lib.hid (B1.out.step hb)
  replace V := Lib.hid (V.out.step hb)
  clear hb
  go_wp2_with (first | ((with_reducible refine Lk.ld (d := 14) W.heap.size B1.out V.out.len ?_ ?_ ?_); exact rfl; exact rfl) | fail)
  refine (KFa.out _ _ _ T.out.bel V.out).mono ?_
  rintro e w3 ⟨rfl, hb⟩
  replace T := Lib.hid (T.out.step hb)
  replace B1 := Lib.hid (B1.out.step hb)
  replace V := Lib.hid (V.out.step hb)
  clear hb
  go_wp2
  go_ret
  exact ⟨rfl, T.out.bel⟩
set_option maxHeartbeats 4000000 in
set_option maxRecDepth 100000 in
theorem fields_e2 {keyOk : Int → Int → Bool} {sgn : Int → Int → Str → Int × Int} {ver : Int → Str → Int → Int → Bool} {W : World} (P : Pk keyOk sgn ver W) (hsm : Ok W 9 #[] (.bool true))
    (a : Ac) (e s : Int) (cs : List Value) (A : Option Addr) (nA cA : Nat) (Q : Option Addr) (nQ cQ : Nat) (hv0 : Av W W.heap.size cs a e s) (h9 : cs[9]? = some (.slice A nA cA)) (h15 : cs[15]? = some (.slice Q nQ cQ)) (hz : Sz 281474976710656 140737488355328 a)
    (h : fewB a = true) (hv : valid a e s = false) :
    Calls Tryz.prog 7 #[.agg cs.toArray] W fun x w' => x = .returned (.bool true) ∧ Below W.heap.size W w' := by
  have KS := Lib.hid hsm
  have T := Lib.hid (Lk.At.start W)
  have V := Lib.hid hv0
  have H9 := Lib.hid h9
  have H15 := Lib.hid h15
  have KFa := fun (w : World) (b0 : Nat) (c0 : List Value) (hb : Below W.heap.size W w) (h0 : Av w b0 c0 a e s) => fewC h0 hz
  rw [h] at KFa
  replace KFa := Lib.hid KFa
  have KRa := fun (w : World) (b0 : Nat) (c0 : List Value) (hb : Below W.heap.size W w) (h0 : Av w b0 c0 a e s) => P.rightC hb h0 (few_sz6 h)
  rw [hv] at KRa
  replace KRa := Lib.hid KRa
  clear P hsm hv0 h9 h15 hz h hv
  go_enter Tryz.func7, Tryz.ntmps7
  go_wp2_with (first | fail)
  replace T := Lib.hid (T.out.alloc (.cells cs.toArray 29))
  replace V := Lib.hid (V.out.alloc (.cells cs.toArray 29))
  have B1 := Lib.hid (show Lk.Bl (W.alloc (.cells cs.toArray 29)) W.heap.size cs 29 from by have h := Lk.Bl.new W cs 29; simpa using h)
  generalize W.alloc (.cells cs.toArray 29) = w1 at *
  refine (KS.out _ T.out.bel).mono ?_
  rintro e w2 ⟨rfl, hb⟩
  replace T := Lib.hid (T.out.step hb)
  replace B1 := Lib.hid (B1.out.step hb)
  replace V := Lib.hid (V.out.step hb)
  clear hb
  go_wp2_with (first | ((with_reducible refine Lk.ld (d := 14) W.heap.size B1.out V.out.len ?_ ?_ ?_); exact rfl; exact rfl) | fail)
  refine (KFa.out _ _ _ T.out.bel V.out).mono ?_
  rintro e w3 ⟨rfl, hb⟩
  replace T := Lib.hid (T.out.step hb)
  replace B1 := Lib.hid (B1.out.step hb)
  replace V := Lib.hid (V.out.step hb)
  clear hb
  go_wp2_with (first | ((with_reducible refine Lk.ld (d := 18) W.heap.size B1.out V.out.len ?_ ?_ ?_); exact rfl; exact rfl) | fail)
  refine (KRa.out _ _ _ T.out.bel V.out).mono ?_
  rintro e w4 ⟨rfl, hb⟩
  replace T := Lib.hid (T.out.step hb)
  replace B1 := Lib.hid (B1.out.step hb)
  replace V := Lib.hid (V.out.step hb)
  clear hb
  go_wp2
  go_ret
  exact ⟨rfl, T.out.bel⟩
set_option maxHeartbeats 4000000 in
set_option maxRecDepth 100000 in
theorem fields_A {keyOk : Int → Int → Bool} {sgn : Int → Int → Str → Int × Int} {ver : Int → Str → Int → Int → Bool} {W : World} (P : Pk keyOk sgn ver W) (hsm : Ok W 9 #[] (.bool true))
    (a : Ac) (e s : Int) (cs : List Value) (A : Option Addr) (nA cA : Nat) (Q : Option Addr) (nQ cQ : Nat) (hv0 : Av W W.heap.size cs a e s) (h9 : cs[9]? = some (.slice A nA cA)) (h15 : cs[15]? = some (.slice Q nQ cQ)) (hz : Sz 281474976710656 140737488355328 a)
    (h : fewB a = true) (hv : valid a e s = true) (hpa : isId a.author = true) (hpt : ids a.to = true) (q1 : (a.seq == 0) = true) (q2 : (a.kind == 0) = true) (q3 : (a.prev == []) = true) (q4 : ¬ 0 < a.seq) (q6 : ¬ 7 ≤ a.kind) (q8 : posting a.kind = false) (q9 : (a.scope == 0) = true) (q16 : (a.kind == 16) = false) (q17 : (a.kind == 19) = false) (q19 : a.wraps = []) (nb : good { a with epoch := a.epoch + 1 } = false) :
    Calls Tryz.prog 7 #[.agg cs.toArray] W fun x w' => x = .returned (.bool true) ∧ Below W.heap.size W w' := by
  have KS := Lib.hid hsm
  have T := Lib.hid (Lk.At.start W)
  have V := Lib.hid hv0
  have H9 := Lib.hid h9
  have H15 := Lib.hid h15
  have KFa := fun (w : World) (b0 : Nat) (c0 : List Value) (hb : Below W.heap.size W w) (h0 : Av w b0 c0 a e s) => fewC h0 hz
  rw [h] at KFa
  replace KFa := Lib.hid KFa
  have h6 := few_sz6 h
  have KRa := fun (w : World) (b0 : Nat) (c0 : List Value) (hb : Below W.heap.size W w) (h0 : Av w b0 c0 a e s) => P.rightC hb h0 h6
  rw [hv] at KRa
  replace KRa := Lib.hid KRa
  have hl := lim_of (valid_good hv)
  have hE0 : 0 ≤ a.epoch := by have := hl.epoch; simp only [epOk, Bool.and_eq_true, decide_eq_true_eq] at this; exact this.1
  have hE1 : a.epoch ≤ 1073741824 := by have := hl.epoch; simp only [epOk, Bool.and_eq_true, decide_eq_true_eq] at this; exact this.2
  have hM0 : 0 ≤ a.m := hl.m.1
  have hM1 : a.m < 2305843009213693951 := hl.m.2
  have hO1 : (a.object.length : Int) ≤ 32 := by have := hl.object; omega
  have hG1 : (a.target.length : Int) ≤ 32 := by have := hl.target; omega
  have KI := P.idR a.author h6.author
  rw [hpa] at KI
  replace KI := Lib.hid KI
  have KT := fun (w : World) (bd : Nat) (hb : Below W.heap.size W w) (h0 : Av w bd cs a e s) => P.idsR A a.to nA cA w hb (h0.toAt h9).1 ((h0.toAt h9).2.2.more h0.le) (by rw [(h0.toAt h9).1]; exact h6.to) h6.tos
  rw [hpt] at KT
  replace KT := Lib.hid KT
  have KP := P.posting a.kind
  rw [q8] at KP
  replace KP := Lib.hid KP
  have ND := more_object (valid_good hv) 120
  have NE := more_target (valid_good hv) 120
  have NF : good { a with wraps := ⟨1, 1, bx0⟩ :: a.wraps } = false := more_wraps
  have szD : Sz 1000000 1000000 { a with object := a.object ++ [120] } := ⟨h6.author, h6.prev, by show (a.object ++ [120]).length ≤ 1000000; simp; omega, h6.target, h6.group, h6.text, h6.nonce, h6.data, h6.tag, h6.to, h6.tos, h6.wraps, h6.boxes⟩
  have szE : Sz 1000000 1000000 { a with target := a.target ++ [120] } := ⟨h6.author, h6.prev, h6.object, by show (a.target ++ [120]).length ≤ 1000000; simp; omega, h6.group, h6.text, h6.nonce, h6.data, h6.tag, h6.to, h6.tos, h6.wraps, h6.boxes⟩
  have szF : Sz 1000000 1000000 { a with wraps := ⟨1, 1, bx0⟩ :: a.wraps } := ⟨h6.author, h6.prev, h6.object, h6.target, h6.group, h6.text, h6.nonce, h6.data, h6.tag, h6.to, h6.tos, by show a.wraps.length + 1 ≤ 1000000; have := hl.wraps.2; omega, fun w hw => by
    rcases List.mem_cons.1 hw with rfl | hw
    · simp [bx0]
    · exact h6.boxes w hw⟩
  have KD := fun (w : World) (b0 : Nat) (c0 : List Value) (hb : Below W.heap.size W w) (h0 : Av w b0 c0 { a with object := a.object ++ [120] } e s) => P.rightC hb h0 szD
  rw [show valid { a with object := a.object ++ [120] } e s = false by unfold valid; rw [ND, Bool.and_false]] at KD
  replace KD := Lib.hid KD
  have KE := fun (w : World) (b0 : Nat) (c0 : List Value) (hb : Below W.heap.size W w) (h0 : Av w b0 c0 { a with target := a.target ++ [120] } e s) => P.rightC hb h0 szE
  rw [show valid { a with target := a.target ++ [120] } e s = false by unfold valid; rw [NE, Bool.and_false]] at KE
  replace KE := Lib.hid KE
  have KH := fun (w : World) (b0 : Nat) (c0 : List Value) (hb : Below W.heap.size W w) (h0 : Av w b0 c0 { a with wraps := ⟨1, 1, bx0⟩ :: a.wraps } e s) => P.rightC hb h0 szF
  rw [show valid { a with wraps := ⟨1, 1, bx0⟩ :: a.wraps } e s = false by unfold valid; rw [NF, Bool.and_false]] at KH
  replace KH := Lib.hid KH
  have KB := fun (w : World) (b0 : Nat) (c0 : List Value) (hb : Below W.heap.size W w) (h0 : Av w b0 c0 { a with epoch := a.epoch + 1 } e s) => P.rightC hb h0 ⟨h6.author, h6.prev, h6.object, h6.target, h6.group, h6.text, h6.nonce, h6.data, h6.tag, h6.to, h6.tos, h6.wraps, h6.boxes⟩
  rw [show valid { a with epoch := a.epoch + 1 } e s = false by unfold valid; rw [nb, Bool.and_false]] at KB
  replace KB := Lib.hid KB
  have hnQ := (V.out.wrAt h15).1
  have hnA := (V.out.toAt h9).1
  have HLQ := Lib.hid (show ([⟨1, 1, bx0⟩] : List Wr).length + a.wraps.length ≤ 100000 by have := hl.wraps.2; simp; omega)
  obtain rfl : nQ = 0 := by rw [hnQ, q19]; rfl
  have HMQ := Lib.hid hnQ
  clear P hsm hv0 h9 h15 hz h hv hpa hpt h6 hl ND NE NF szD szE szF hnQ hnA q8 q19 nb
  have q9a : (a.scope != 0) = false := by rw [bne, q9]; rfl
  have q9b : decide (a.scope = 0) = true := by rw [← q9]; rfl
  go_enter Tryz.func7, Tryz.ntmps7
  go_wp2_with (first | fail)
  replace T := Lib.hid (T.out.alloc (.cells cs.toArray 29))
  replace V := Lib.hid (V.out.alloc (.cells cs.toArray 29))
  have B1 := Lib.hid (show Lk.Bl (W.alloc (.cells cs.toArray 29)) W.heap.size cs 29 from by have h := Lk.Bl.new W cs 29; simpa using h)
  generalize W.alloc (.cells cs.toArray 29) = w1 at *
  refine (KS.out _ T.out.bel).mono ?_
  rintro e w2 ⟨rfl, hb⟩
  replace T := Lib.hid (T.out.step hb)
  replace B1 := Lib.hid (B1.out.step hb)
  replace V := Lib.hid (V.out.step hb)
  clear hb
  go_wp2_with (first | ((with_reducible refine Lk.ld (d := 14) W.heap.size B1.out V.out.len ?_ ?_ ?_); exact rfl; exact rfl) | fail)
  refine (KFa.out _ _ _ T.out.bel V.out).mono ?_
  rintro e w3 ⟨rfl, hb⟩
  replace T := Lib.hid (T.out.step hb)
  replace B1 := Lib.hid (B1.out.step hb)
  replace V := Lib.hid (V.out.step hb)
  clear hb
  go_wp2_with (first | ((with_reducible refine Lk.ld (d := 18) W.heap.size B1.out V.out.len ?_ ?_ ?_); exact rfl; exact rfl) | fail)
  refine (KRa.out _ _ _ T.out.bel V.out).mono ?_
  rintro e w4 ⟨rfl, hb⟩
  replace T := Lib.hid (T.out.step hb)
  replace B1 := Lib.hid (B1.out.step hb)
  replace V := Lib.hid (V.out.step hb)
  clear hb
  have cB1_0 := B1.out.c 0 _ V.out.author
  go_wp2_with (first | fail)
  clear cB1_0
  refine (KI.out _ T.out.bel).mono ?_
  rintro e w5 ⟨rfl, hb⟩
  replace T := Lib.hid (T.out.step hb)
  replace B1 := Lib.hid (B1.out.step hb)
  replace V := Lib.hid (V.out.step hb)
  clear hb
  have cB1_9 := B1.out.c 9 _ H9.out
  go_wp2_with (first | fail)
  clear cB1_9
  refine (KT.out _ _ T.out.bel V.out).mono ?_
  rintro e w6 ⟨rfl, hb⟩
  replace T := Lib.hid (T.out.step hb)
  replace B1 := Lib.hid (B1.out.step hb)
  replace V := Lib.hid (V.out.step hb)
  clear hb
  have cB1_1 := B1.out.c 1 _ V.out.seq
  have cB1_3 := B1.out.c 3 _ V.out.kind
  have cB1_2 := B1.out.c 2 _ V.out.prev
  go_wp2_with (first | fail)
  clear cB1_1 cB1_3 cB1_2
  refine (KP.out _ T.out.bel).mono ?_
  rintro e w7 ⟨rfl, hb⟩
  replace T := Lib.hid (T.out.step hb)
  replace B1 := Lib.hid (B1.out.step hb)
  replace V := Lib.hid (V.out.step hb)
  clear hb
  have cB1_3 := B1.out.c 3 _ V.out.kind
  have cB1_15 := B1.out.c 15 _ H15.out
  go_wp2_with (first | ((with_reducible refine Lk.nw cs V.out.len V.out.one ?_ ?_ ?_ ?_); exact rfl; exact rfl; exact rfl) | ((with_reducible refine Lk.ld (d := 143) W.heap.size B1.out V.out.len ?_ ?_ ?_); exact rfl; exact rfl) | fail)
  clear cB1_3 cB1_15
  intro w8 bN hb
  have LB1_B2 := Lib.hid (show W.heap.size < w7.heap.size from B1.out.lt)
  have GV_B2 := Lib.hid (show W.heap.size ≤ w7.heap.size from V.out.le)
  have GB2 := Lib.hid (show W.heap.size ≤ w7.heap.size from T.out.bel.size)
  replace T := Lib.hid (T.out.step hb)
  replace B1 := Lib.hid (B1.out.step hb)
  replace V := Lib.hid (V.out.step hb)
  have B2 := Lib.hid (show Lk.Bl w8 w7.heap.size cs 29 from bN)
  clear bN hb
  have cB1_14 := B1.out.c 14 _ V.out.epoch
  go_wp2_with (first | ((with_reducible refine Lk.st w7.heap.size 14 [.int .i64 (a.epoch + 1)] (.int .i64 (a.epoch + 1)) B2.out ?_ ?_ ?_ ?_ ?_ ?_ ?_); exact Lk.infoI; exact rfl; (rw [V.out.len]; exact Nat.le_of_ble_eq_true rfl); (simp [Value.oneCell']); exact rfl; exact rfl) | fail)
  clear cB1_14
  intro w9 bN hb
  replace B1 := Lib.hid (B1.out.under hb LB1_B2.out)
  replace T := Lib.hid (T.out.under hb GB2.out)
  replace V := Lib.hid (V.out.under hb GV_B2.out)
  obtain ⟨cs9, hcs9⟩ : ∃ x : List Value, x = cs.take 14 ++ [.int .i64 (a.epoch + 1)] ++ cs.drop (14 + ([.int .i64 (a.epoch + 1)] : List Value).length) := ⟨_, rfl⟩
  have V9 := Lib.hid (show Av w9 W.heap.size cs9 { a with epoch := a.epoch + 1 } e s from by rw [hcs9]; exact V.out.put 14 [.int .i64 (a.epoch + 1)] rfl rfl (fun _ _ _ _ _ _ => rfl))
  replace B2 := Lib.hid (show Lk.Bl w9 w7.heap.size cs9 29 from by rw [hcs9]; exact bN)
  clear bN hb hcs9
  have GV9_B2 := GV_B2
  go_wp2_with (first | ((with_reducible refine Lk.nw cs V.out.len V.out.one ?_ ?_ ?_ ?_); exact rfl; exact rfl; exact rfl) | ((with_reducible refine Lk.ld (d := 148) W.heap.size B1.out V.out.len ?_ ?_ ?_); exact rfl; exact rfl) | fail)
  intro w10 bN hb
  have LB1_B3 := Lib.hid (show W.heap.size < w9.heap.size from B1.out.lt)
  have LB2_B3 := Lib.hid (show w7.heap.size < w9.heap.size from B2.out.lt)
  have GV_B3 := Lib.hid (show W.heap.size ≤ w9.heap.size from V.out.le)
  have GV9_B3 := Lib.hid (show W.heap.size ≤ w9.heap.size from V9.out.le)
  have GB3 := Lib.hid (show W.heap.size ≤ w9.heap.size from T.out.bel.size)
  replace T := Lib.hid (T.out.step hb)
  replace B1 := Lib.hid (B1.out.step hb)
  replace B2 := Lib.hid (B2.out.step hb)
  replace V := Lib.hid (V.out.step hb)
  replace V9 := Lib.hid (V9.out.step hb)
  have B3 := Lib.hid (show Lk.Bl w10 w9.heap.size cs 29 from bN)
  clear bN hb
  have cB1_17 := B1.out.c 17 _ V.out.m
  go_wp2_with (first | ((with_reducible refine Lk.st w9.heap.size 17 [.int .i64 (a.m - 1)] (.int .i64 (a.m - 1)) B3.out ?_ ?_ ?_ ?_ ?_ ?_ ?_); exact Lk.infoI; exact rfl; (rw [V.out.len]; exact Nat.le_of_ble_eq_true rfl); (simp [Value.oneCell']); exact rfl; exact rfl) | fail)
  clear cB1_17
  intro w11 bN hb
  replace B1 := Lib.hid (B1.out.under hb LB1_B3.out)
  replace B2 := Lib.hid (B2.out.under hb LB2_B3.out)
  replace T := Lib.hid (T.out.under hb GB3.out)
  replace V := Lib.hid (V.out.under hb GV_B3.out)
  replace V9 := Lib.hid (V9.out.under hb GV9_B3.out)
  obtain ⟨cs11, hcs11⟩ : ∃ x : List Value, x = cs.take 17 ++ [.int .i64 (a.m - 1)] ++ cs.drop (17 + ([.int .i64 (a.m - 1)] : List Value).length) := ⟨_, rfl⟩
  have V11 := Lib.hid (show Av w11 W.heap.size cs11 { a with m := a.m - 1 } e s from by rw [hcs11]; exact V.out.put 17 [.int .i64 (a.m - 1)] rfl rfl (fun _ _ _ _ _ _ => rfl))
  replace B3 := Lib.hid (show Lk.Bl w11 w9.heap.size cs11 29 from by rw [hcs11]; exact bN)
  clear bN hb hcs11
  have GV11_B2 := GV_B2
  have GV11_B3 := GV_B3
  go_wp2_with (first | ((with_reducible refine Lk.nw cs V.out.len V.out.one ?_ ?_ ?_ ?_); exact rfl; exact rfl; exact rfl) | ((with_reducible refine Lk.ld (d := 153) W.heap.size B1.out V.out.len ?_ ?_ ?_); exact rfl; exact rfl) | fail)
  intro w12 bN hb
  have LB1_B4 := Lib.hid (show W.heap.size < w11.heap.size from B1.out.lt)
  have LB2_B4 := Lib.hid (show w7.heap.size < w11.heap.size from B2.out.lt)
  have LB3_B4 := Lib.hid (show w9.heap.size < w11.heap.size from B3.out.lt)
  have GV_B4 := Lib.hid (show W.heap.size ≤ w11.heap.size from V.out.le)
  have GV9_B4 := Lib.hid (show W.heap.size ≤ w11.heap.size from V9.out.le)
  have GV11_B4 := Lib.hid (show W.heap.size ≤ w11.heap.size from V11.out.le)
  have GB4 := Lib.hid (show W.heap.size ≤ w11.heap.size from T.out.bel.size)
  replace T := Lib.hid (T.out.step hb)
  replace B1 := Lib.hid (B1.out.step hb)
  replace B2 := Lib.hid (B2.out.step hb)
  replace B3 := Lib.hid (B3.out.step hb)
  replace V := Lib.hid (V.out.step hb)
  replace V9 := Lib.hid (V9.out.step hb)
  replace V11 := Lib.hid (V11.out.step hb)
  have B4 := Lib.hid (show Lk.Bl w12 w11.heap.size cs 29 from bN)
  clear bN hb
  have cB1_5 := B1.out.c 5 _ V.out.object
  go_wp2_with (first | ((with_reducible refine Lk.st w11.heap.size 5 [.string (S2.B (a.object ++ [120]))] (.string (S2.B (a.object ++ [120]))) B4.out ?_ ?_ ?_ ?_ ?_ ?_ ?_); exact Lk.infoS; exact rfl; (rw [V.out.len]; exact Nat.le_of_ble_eq_true rfl); (simp [Value.oneCell']); exact rfl; exact rfl) | fail)
  clear cB1_5
  intro w13 bN hb
  replace B1 := Lib.hid (B1.out.under hb LB1_B4.out)
  replace B2 := Lib.hid (B2.out.under hb LB2_B4.out)
  replace B3 := Lib.hid (B3.out.under hb LB3_B4.out)
  replace T := Lib.hid (T.out.under hb GB4.out)
  replace V := Lib.hid (V.out.under hb GV_B4.out)
  replace V9 := Lib.hid (V9.out.under hb GV9_B4.out)
  replace V11 := Lib.hid (V11.out.under hb GV11_B4.out)
  obtain ⟨cs13, hcs13⟩ : ∃ x : List Value, x = cs.take 5 ++ [.string (S2.B (a.object ++ [120]))] ++ cs.drop (5 + ([.string (S2.B (a.object ++ [120]))] : List Value).length) := ⟨_, rfl⟩
  have V13 := Lib.hid (show Av w13 W.heap.size cs13 { a with object := a.object ++ [120] } e s from by rw [hcs13]; exact V.out.put 5 [.string (S2.B (a.object ++ [120]))] rfl rfl (fun _ _ _ _ _ _ => rfl))
  replace B4 := Lib.hid (show Lk.Bl w13 w11.heap.size cs13 29 from by rw [hcs13]; exact bN)
  clear bN hb hcs13
  have GV13_B2 := GV_B2
  have GV13_B3 := GV_B3
  have GV13_B4 := GV_B4
  go_wp2_with (first | ((with_reducible refine Lk.nw cs V.out.len V.out.one ?_ ?_ ?_ ?_); exact rfl; exact rfl; exact rfl) | ((with_reducible refine Lk.ld (d := 158) W.heap.size B1.out V.out.len ?_ ?_ ?_); exact rfl; exact rfl) | fail)
  intro w14 bN hb
  have LB1_B5 := Lib.hid (show W.heap.size < w13.heap.size from B1.out.lt)
  have LB2_B5 := Lib.hid (show w7.heap.size < w13.heap.size from B2.out.lt)
  have LB3_B5 := Lib.hid (show w9.heap.size < w13.heap.size from B3.out.lt)
  have LB4_B5 := Lib.hid (show w11.heap.size < w13.heap.size from B4.out.lt)
  have GV_B5 := Lib.hid (show W.heap.size ≤ w13.heap.size from V.out.le)
  have GV9_B5 := Lib.hid (show W.heap.size ≤ w13.heap.size from V9.out.le)
  have GV11_B5 := Lib.hid (show W.heap.size ≤ w13.heap.size from V11.out.le)
  have GV13_B5 := Lib.hid (show W.heap.size ≤ w13.heap.size from V13.out.le)
  have GB5 := Lib.hid (show W.heap.size ≤ w13.heap.size from T.out.bel.size)
  replace T := Lib.hid (T.out.step hb)
  replace B1 := Lib.hid (B1.out.step hb)
  replace B2 := Lib.hid (B2.out.step hb)
  replace B3 := Lib.hid (B3.out.step hb)
  replace B4 := Lib.hid (B4.out.step hb)
  replace V := Lib.hid (V.out.step hb)
  replace V9 := Lib.hid (V9.out.step hb)
  replace V11 := Lib.hid (V11.out.step hb)
  replace V13 := Lib.hid (V13.out.step hb)
  have B5 := Lib.hid (show Lk.Bl w14 w13.heap.size cs 29 from bN)
  clear bN hb
  have cB1_6 := B1.out.c 6 _ V.out.target
  go_wp2_with (first | ((with_reducible refine Lk.st w13.heap.size 6 [.string (S2.B (a.target ++ [120]))] (.string (S2.B (a.target ++ [120]))) B5.out ?_ ?_ ?_ ?_ ?_ ?_ ?_); exact Lk.infoS; exact rfl; (rw [V.out.len]; exact Nat.le_of_ble_eq_true rfl); (simp [Value.oneCell']); exact rfl; exact rfl) | fail)
  clear cB1_6
  intro w15 bN hb
  replace B1 := Lib.hid (B1.out.under hb LB1_B5.out)
  replace B2 := Lib.hid (B2.out.under hb LB2_B5.out)
  replace B3 := Lib.hid (B3.out.under hb LB3_B5.out)
  replace B4 := Lib.hid (B4.out.under hb LB4_B5.out)
  replace T := Lib.hid (T.out.under hb GB5.out)
  replace V := Lib.hid (V.out.under hb GV_B5.out)
  replace V9 := Lib.hid (V9.out.under hb GV9_B5.out)
  replace V11 := Lib.hid (V11.out.under hb GV11_B5.out)
  replace V13 := Lib.hid (V13.out.under hb GV13_B5.out)
  obtain ⟨cs15, hcs15⟩ : ∃ x : List Value, x = cs.take 6 ++ [.string (S2.B (a.target ++ [120]))] ++ cs.drop (6 + ([.string (S2.B (a.target ++ [120]))] : List Value).length) := ⟨_, rfl⟩
  have V15 := Lib.hid (show Av w15 W.heap.size cs15 { a with target := a.target ++ [120] } e s from by rw [hcs15]; exact V.out.put 6 [.string (S2.B (a.target ++ [120]))] rfl rfl (fun _ _ _ _ _ _ => rfl))
  replace B5 := Lib.hid (show Lk.Bl w15 w13.heap.size cs15 29 from by rw [hcs15]; exact bN)
  clear bN hb hcs15
  have GV15_B2 := GV_B2
  have GV15_B3 := GV_B3
  have GV15_B4 := GV_B4
  have GV15_B5 := GV_B5
  go_wp2_with (first | ((with_reducible refine Lk.nw cs V.out.len V.out.one ?_ ?_ ?_ ?_); exact rfl; exact rfl; exact rfl) | ((with_reducible refine Lk.ld (d := 163) W.heap.size B1.out V.out.len ?_ ?_ ?_); exact rfl; exact rfl) | fail)
  intro w16 bN hb
  have LB1_B6 := Lib.hid (show W.heap.size < w15.heap.size from B1.out.lt)
  have LB2_B6 := Lib.hid (show w7.heap.size < w15.heap.size from B2.out.lt)
  have LB3_B6 := Lib.hid (show w9.heap.size < w15.heap.size from B3.out.lt)
  have LB4_B6 := Lib.hid (show w11.heap.size < w15.heap.size from B4.out.lt)
  have LB5_B6 := Lib.hid (show w13.heap.size < w15.heap.size from B5.out.lt)
  have GV_B6 := Lib.hid (show W.heap.size ≤ w15.heap.size from V.out.le)
  have GV9_B6 := Lib.hid (show W.heap.size ≤ w15.heap.size from V9.out.le)
  have GV11_B6 := Lib.hid (show W.heap.size ≤ w15.heap.size from V11.out.le)
  have GV13_B6 := Lib.hid (show W.heap.size ≤ w15.heap.size from V13.out.le)
  have GV15_B6 := Lib.hid (show W.heap.size ≤ w15.heap.size from V15.out.le)
  have GB6 := Lib.hid (show W.heap.size ≤ w15.heap.size from T.out.bel.size)
  replace T := Lib.hid (T.out.step hb)
  replace B1 := Lib.hid (B1.out.step hb)
  replace B2 := Lib.hid (B2.out.step hb)
  replace B3 := Lib.hid (B3.out.step hb)
  replace B4 := Lib.hid (B4.out.step hb)
  replace B5 := Lib.hid (B5.out.step hb)
  replace V := Lib.hid (V.out.step hb)
  replace V9 := Lib.hid (V9.out.step hb)
  replace V11 := Lib.hid (V11.out.step hb)
  replace V13 := Lib.hid (V13.out.step hb)
  replace V15 := Lib.hid (V15.out.step hb)
  have B6 := Lib.hid (show Lk.Bl w16 w15.heap.size cs 29 from bN)
  clear bN hb
  have T0 := Lib.hid (show W.heap.size ≤ w16.heap.size from T.out.bel.size)
  have OW := Lib.hid (show OwnW (w16.alloc (.cells #[.int .i64 1, .int .i64 1, .string (S2.B []), .string (S2.B []), .string (S2.B [])] 50)) w16.heap.size (.slice (some ⟨w16.heap.size, 0, none⟩) 1 1) [⟨1, 1, bx0⟩] from OwnW.lit w16 [⟨1, 1, bx0⟩] (by decide))
  have SR := Lib.hid (show S2.Row (w16.alloc (.cells #[.int .i64 1, .int .i64 1, .string (S2.B []), .string (S2.B []), .string (S2.B [])] 50)) (w16.alloc (.cells #[.int .i64 1, .int .i64 1, .string (S2.B []), .string (S2.B []), .string (S2.B [])] 50)).heap.size Q (Ws a.wraps) from ((V.out.alloc (.cells #[.int .i64 1, .int .i64 1, .string (S2.B []), .string (S2.B []), .string (S2.B [])] 50)).wrAt H15.out).2.2.more (V.out.alloc (.cells #[.int .i64 1, .int .i64 1, .string (S2.B []), .string (S2.B []), .string (S2.B [])] 50)).le)
  have cB1_15 := (B1.out.alloc (.cells #[.int .i64 1, .int .i64 1, .string (S2.B []), .string (S2.B []), .string (S2.B [])] 50)).c 15 _ H15.out
  go_wp2_with (first | (at_builtin; refine wpList_appW rfl _ _ rfl OW.out SR.out rfl rfl HMQ.out HLQ.out ?_) | fail)
  clear cB1_15
  intro v1 w17 own1 hb1
  have hb : Below w16.heap.size w16 w17 := ((Below.refl _ _).alloc (Nat.le_refl _) (.cells #[.int .i64 1, .int .i64 1, .string (S2.B []), .string (S2.B []), .string (S2.B [])] 50)).trans hb1
  have LBQ := Lib.hid (show w15.heap.size < w16.heap.size from B6.out.lt)
  replace T := Lib.hid (T.out.step hb)
  replace B1 := Lib.hid (B1.out.step hb)
  replace B2 := Lib.hid (B2.out.step hb)
  replace B3 := Lib.hid (B3.out.step hb)
  replace B4 := Lib.hid (B4.out.step hb)
  replace B5 := Lib.hid (B5.out.step hb)
  replace B6 := Lib.hid (B6.out.step hb)
  replace V := Lib.hid (V.out.step hb)
  replace V9 := Lib.hid (V9.out.step hb)
  replace V11 := Lib.hid (V11.out.step hb)
  replace V13 := Lib.hid (V13.out.step hb)
  replace V15 := Lib.hid (V15.out.step hb)
  clear OW SR hb1 hb
  obtain ⟨AQ, nq, cq, rfl, hnq, hcq⟩ := own1.sl3
  have OQ := Lib.hid own1
  have HNQ := Lib.hid hnq
  have HCQ := Lib.hid hcq
  clear own1 hnq hcq
  go_wp2_with (first | ((with_reducible refine Lk.stX w15.heap.size 15 [.slice AQ nq cq] (.slice AQ nq cq) B6.out ?_ ?_ ?_ ?_ ?_ ?_ ?_); exact (show (Tryz.prog.info? 25).map (·.size) = some 1 by kernel_rfl); exact rfl; (rw [V.out.len]; exact Nat.le_of_ble_eq_true rfl); (simp [Value.oneCell']); exact rfl; exact rfl) | fail)
  intro w18 bN hb ho
  replace B1 := Lib.hid (B1.out.under hb LB1_B6.out)
  replace B2 := Lib.hid (B2.out.under hb LB2_B6.out)
  replace B3 := Lib.hid (B3.out.under hb LB3_B6.out)
  replace B4 := Lib.hid (B4.out.under hb LB4_B6.out)
  replace B5 := Lib.hid (B5.out.under hb LB5_B6.out)
  replace T := Lib.hid (T.out.under hb GB6.out)
  have RQ := row_only OQ.out.row ho OQ.out.addr LBQ.out
  have hbd : w17.heap.size ≤ w18.heap.size := hb.size
  replace V := Lib.hid (V.out.under hb GV_B6.out)
  replace V9 := Lib.hid (V9.out.under hb GV9_B6.out)
  replace V11 := Lib.hid (V11.out.under hb GV11_B6.out)
  replace V13 := Lib.hid (V13.out.under hb GV13_B6.out)
  replace V15 := Lib.hid (V15.out.under hb GV15_B6.out)
  have VF := Lib.hid (show Av w18 w17.heap.size (cs.take 15 ++ [.slice AQ nq cq] ++ cs.drop (15 + ([.slice AQ nq cq] : List Value).length)) { a with wraps := ⟨1, 1, bx0⟩ :: a.wraps } e s from V.out.putW RQ HNQ.out HCQ.out (Nat.le_trans T0.out OQ.out.le) hbd)
  obtain ⟨csF, hcsF⟩ : ∃ x : List Value, x = cs.take 15 ++ [.slice AQ nq cq] ++ cs.drop (15 + ([.slice AQ nq cq] : List Value).length) := ⟨_, rfl⟩
  rw [← hcsF] at VF bN
  replace B6 := Lib.hid bN
  clear bN hb ho hcsF RQ hbd OQ HNQ HCQ LBQ
  have cB1_7 := B1.out.c 7 _ V.out.scope
  have cB1_3 := B1.out.c 3 _ V.out.kind
  go_wp2_with (first | ((with_reducible refine Lk.ld (d := 198) w7.heap.size B2.out V9.out.len ?_ ?_ ?_); exact rfl; exact rfl) | fail)
  clear cB1_7 cB1_3
  refine (KB.out _ _ _ T.out.bel V9.out).mono ?_
  rintro e w19 ⟨rfl, hb⟩
  replace T := Lib.hid (T.out.step hb)
  replace B1 := Lib.hid (B1.out.step hb)
  replace B2 := Lib.hid (B2.out.step hb)
  replace B3 := Lib.hid (B3.out.step hb)
  replace B4 := Lib.hid (B4.out.step hb)
  replace B5 := Lib.hid (B5.out.step hb)
  replace B6 := Lib.hid (B6.out.step hb)
  replace V := Lib.hid (V.out.step hb)
  replace V9 := Lib.hid (V9.out.step hb)
  replace V11 := Lib.hid (V11.out.step hb)
  replace V13 := Lib.hid (V13.out.step hb)
  replace V15 := Lib.hid (V15.out.step hb)
  replace VF := Lib.hid (VF.out.step hb)
  clear hb
  go_wp2_with (first | ((with_reducible refine Lk.ld (d := 212) w11.heap.size B4.out V13.out.len ?_ ?_ ?_); exact rfl; exact rfl) | fail)
  refine (KD.out _ _ _ T.out.bel V13.out).mono ?_
  rintro e w20 ⟨rfl, hb⟩
  replace T := Lib.hid (T.out.step hb)
  replace B1 := Lib.hid (B1.out.step hb)
  replace B2 := Lib.hid (B2.out.step hb)
  replace B3 := Lib.hid (B3.out.step hb)
  replace B4 := Lib.hid (B4.out.step hb)
  replace B5 := Lib.hid (B5.out.step hb)
  replace B6 := Lib.hid (B6.out.step hb)
  replace V := Lib.hid (V.out.step hb)
  replace V9 := Lib.hid (V9.out.step hb)
  replace V11 := Lib.hid (V11.out.step hb)
  replace V13 := Lib.hid (V13.out.step hb)
  replace V15 := Lib.hid (V15.out.step hb)
  replace VF := Lib.hid (VF.out.step hb)
  clear hb
  go_wp2_with (first | ((with_reducible refine Lk.ld (d := 217) w13.heap.size B5.out V15.out.len ?_ ?_ ?_); exact rfl; exact rfl) | fail)
  refine (KE.out _ _ _ T.out.bel V15.out).mono ?_
  rintro e w21 ⟨rfl, hb⟩
  replace T := Lib.hid (T.out.step hb)
  replace B1 := Lib.hid (B1.out.step hb)
  replace B2 := Lib.hid (B2.out.step hb)
  replace B3 := Lib.hid (B3.out.step hb)
  replace B4 := Lib.hid (B4.out.step hb)
  replace B5 := Lib.hid (B5.out.step hb)
  replace B6 := Lib.hid (B6.out.step hb)
  replace V := Lib.hid (V.out.step hb)
  replace V9 := Lib.hid (V9.out.step hb)
  replace V11 := Lib.hid (V11.out.step hb)
  replace V13 := Lib.hid (V13.out.step hb)
  replace V15 := Lib.hid (V15.out.step hb)
  replace VF := Lib.hid (VF.out.step hb)
  clear hb
  go_wp2_with (first | ((with_reducible refine Lk.ld (d := 222) w15.heap.size B6.out VF.out.len ?_ ?_ ?_); exact rfl; exact rfl) | fail)
  refine (KH.out _ _ _ T.out.bel VF.out).mono ?_
  rintro e w22 ⟨rfl, hb⟩
  replace T := Lib.hid (T.out.step hb)
  replace B1 := Lib.hid (B1.out.step hb)
  replace B2 := Lib.hid (B2.out.step hb)
  replace B3 := Lib.hid (B3.out.step hb)
  replace B4 := Lib.hid (B4.out.step hb)
  replace B5 := Lib.hid (B5.out.step hb)
  replace B6 := Lib.hid (B6.out.step hb)
  replace V := Lib.hid (V.out.step hb)
  replace V9 := Lib.hid (V9.out.step hb)
  replace V11 := Lib.hid (V11.out.step hb)
  replace V13 := Lib.hid (V13.out.step hb)
  replace V15 := Lib.hid (V15.out.step hb)
  replace VF := Lib.hid (VF.out.step hb)
  clear hb
  go_wp2
  go_ret
  exact ⟨rfl, T.out.bel⟩
set_option maxHeartbeats 4000000 in
set_option maxRecDepth 100000 in
theorem fields_B {keyOk : Int → Int → Bool} {sgn : Int → Int → Str → Int × Int} {ver : Int → Str → Int → Int → Bool} {W : World} (P : Pk keyOk sgn ver W) (hsm : Ok W 9 #[] (.bool true))
    (a : Ac) (e s : Int) (cs : List Value) (A : Option Addr) (nA cA : Nat) (Q : Option Addr) (nQ cQ : Nat) (hv0 : Av W W.heap.size cs a e s) (h9 : cs[9]? = some (.slice A nA cA)) (h15 : cs[15]? = some (.slice Q nQ cQ)) (hz : Sz 281474976710656 140737488355328 a)
    (h : fewB a = true) (hv : valid a e s = true) (hpa : isId a.author = true) (hpt : ids a.to = true) (q1 : (a.seq == 0) = false) (q2 : (a.kind == 0) = false) (q3 : (a.prev == []) = false) (q4 : 0 < a.seq) (q5 : (a.prev.length : Int) = 32) (q6 : ¬ 7 ≤ a.kind) (q8 : posting a.kind = true) (q9 : (a.scope == 0) = true) (q16 : (a.kind == 16) = false) (q17 : (a.kind == 19) = false) (q18 : (a.kind == 18) = false) (q19 : a.wraps = []) (nb : good { a with epoch := a.epoch + 1 } = false) (nc : good { a with m := a.m - 1 } = false) :
    Calls Tryz.prog 7 #[.agg cs.toArray] W fun x w' => x = .returned (.bool true) ∧ Below W.heap.size W w' := by
  have KS := Lib.hid hsm
  have T := Lib.hid (Lk.At.start W)
  have V := Lib.hid hv0
  have H9 := Lib.hid h9
  have H15 := Lib.hid h15
  have KFa := fun (w : World) (b0 : Nat) (c0 : List Value) (hb : Below W.heap.size W w) (h0 : Av w b0 c0 a e s) => fewC h0 hz
  rw [h] at KFa
  replace KFa := Lib.hid KFa
  have h6 := few_sz6 h
  have KRa := fun (w : World) (b0 : Nat) (c0 : List Value) (hb : Below W.heap.size W w) (h0 : Av w b0 c0 a e s) => P.rightC hb h0 h6
  rw [hv] at KRa
  replace KRa := Lib.hid KRa
  have hl := lim_of (valid_good hv)
  have hE0 : 0 ≤ a.epoch := by have := hl.epoch; simp only [epOk, Bool.and_eq_true, decide_eq_true_eq] at this; exact this.1
  have hE1 : a.epoch ≤ 1073741824 := by have := hl.epoch; simp only [epOk, Bool.and_eq_true, decide_eq_true_eq] at this; exact this.2
  have hM0 : 0 ≤ a.m := hl.m.1
  have hM1 : a.m < 2305843009213693951 := hl.m.2
  have hO1 : (a.object.length : Int) ≤ 32 := by have := hl.object; omega
  have hG1 : (a.target.length : Int) ≤ 32 := by have := hl.target; omega
  have KI := P.idR a.author h6.author
  rw [hpa] at KI
  replace KI := Lib.hid KI
  have KT := fun (w : World) (bd : Nat) (hb : Below W.heap.size W w) (h0 : Av w bd cs a e s) => P.idsR A a.to nA cA w hb (h0.toAt h9).1 ((h0.toAt h9).2.2.more h0.le) (by rw [(h0.toAt h9).1]; exact h6.to) h6.tos
  rw [hpt] at KT
  replace KT := Lib.hid KT
  have KP := P.posting a.kind
  rw [q8] at KP
  replace KP := Lib.hid KP
  have ND := more_object (valid_good hv) 120
  have NE := more_target (valid_good hv) 120
  have NF : good { a with wraps := ⟨1, 1, bx0⟩ :: a.wraps } = false := more_wraps
  have szD : Sz 1000000 1000000 { a with object := a.object ++ [120] } := ⟨h6.author, h6.prev, by show (a.object ++ [120]).length ≤ 1000000; simp; omega, h6.target, h6.group, h6.text, h6.nonce, h6.data, h6.tag, h6.to, h6.tos, h6.wraps, h6.boxes⟩
  have szE : Sz 1000000 1000000 { a with target := a.target ++ [120] } := ⟨h6.author, h6.prev, h6.object, by show (a.target ++ [120]).length ≤ 1000000; simp; omega, h6.group, h6.text, h6.nonce, h6.data, h6.tag, h6.to, h6.tos, h6.wraps, h6.boxes⟩
  have szF : Sz 1000000 1000000 { a with wraps := ⟨1, 1, bx0⟩ :: a.wraps } := ⟨h6.author, h6.prev, h6.object, h6.target, h6.group, h6.text, h6.nonce, h6.data, h6.tag, h6.to, h6.tos, by show a.wraps.length + 1 ≤ 1000000; have := hl.wraps.2; omega, fun w hw => by
    rcases List.mem_cons.1 hw with rfl | hw
    · simp [bx0]
    · exact h6.boxes w hw⟩
  have KD := fun (w : World) (b0 : Nat) (c0 : List Value) (hb : Below W.heap.size W w) (h0 : Av w b0 c0 { a with object := a.object ++ [120] } e s) => P.rightC hb h0 szD
  rw [show valid { a with object := a.object ++ [120] } e s = false by unfold valid; rw [ND, Bool.and_false]] at KD
  replace KD := Lib.hid KD
  have KE := fun (w : World) (b0 : Nat) (c0 : List Value) (hb : Below W.heap.size W w) (h0 : Av w b0 c0 { a with target := a.target ++ [120] } e s) => P.rightC hb h0 szE
  rw [show valid { a with target := a.target ++ [120] } e s = false by unfold valid; rw [NE, Bool.and_false]] at KE
  replace KE := Lib.hid KE
  have KH := fun (w : World) (b0 : Nat) (c0 : List Value) (hb : Below W.heap.size W w) (h0 : Av w b0 c0 { a with wraps := ⟨1, 1, bx0⟩ :: a.wraps } e s) => P.rightC hb h0 szF
  rw [show valid { a with wraps := ⟨1, 1, bx0⟩ :: a.wraps } e s = false by unfold valid; rw [NF, Bool.and_false]] at KH
  replace KH := Lib.hid KH
  have KB := fun (w : World) (b0 : Nat) (c0 : List Value) (hb : Below W.heap.size W w) (h0 : Av w b0 c0 { a with epoch := a.epoch + 1 } e s) => P.rightC hb h0 ⟨h6.author, h6.prev, h6.object, h6.target, h6.group, h6.text, h6.nonce, h6.data, h6.tag, h6.to, h6.tos, h6.wraps, h6.boxes⟩
  rw [show valid { a with epoch := a.epoch + 1 } e s = false by unfold valid; rw [nb, Bool.and_false]] at KB
  replace KB := Lib.hid KB
  have KC := fun (w : World) (b0 : Nat) (c0 : List Value) (hb : Below W.heap.size W w) (h0 : Av w b0 c0 { a with m := a.m - 1 } e s) => P.rightC hb h0 ⟨h6.author, h6.prev, h6.object, h6.target, h6.group, h6.text, h6.nonce, h6.data, h6.tag, h6.to, h6.tos, h6.wraps, h6.boxes⟩
  rw [show valid { a with m := a.m - 1 } e s = false by unfold valid; rw [nc, Bool.and_false]] at KC
  replace KC := Lib.hid KC
  have hnQ := (V.out.wrAt h15).1
  have hnA := (V.out.toAt h9).1
  have HLQ := Lib.hid (show ([⟨1, 1, bx0⟩] : List Wr).length + a.wraps.length ≤ 100000 by have := hl.wraps.2; simp; omega)
  obtain rfl : nQ = 0 := by rw [hnQ, q19]; rfl
  have HMQ := Lib.hid hnQ
  clear P hsm hv0 h9 h15 hz h hv hpa hpt h6 hl ND NE NF szD szE szF hnQ hnA q8 q19 nb nc
  have q9a : (a.scope != 0) = false := by rw [bne, q9]; rfl
  have q9b : decide (a.scope = 0) = true := by rw [← q9]; rfl
  go_enter Tryz.func7, Tryz.ntmps7
  go_wp2_with (first | fail)
  replace T := Lib.hid (T.out.alloc (.cells cs.toArray 29))
  replace V := Lib.hid (V.out.alloc (.cells cs.toArray 29))
  have B1 := Lib.hid (show Lk.Bl (W.alloc (.cells cs.toArray 29)) W.heap.size cs 29 from by have h := Lk.Bl.new W cs 29; simpa using h)
  generalize W.alloc (.cells cs.toArray 29) = w1 at *
  refine (KS.out _ T.out.bel).mono ?_
  rintro e w2 ⟨rfl, hb⟩
  replace T := Lib.hid (T.out.step hb)
  replace B1 := Lib.hid (B1.out.step hb)
  replace V := Lib.hid (V.out.step hb)
  clear hb
  go_wp2_with (first | ((with_reducible refine Lk.ld (d := 14) W.heap.size B1.out V.out.len ?_ ?_ ?_); exact rfl; exact rfl) | fail)
  refine (KFa.out _ _ _ T.out.bel V.out).mono ?_
  rintro e w3 ⟨rfl, hb⟩
  replace T := Lib.hid (T.out.step hb)
  replace B1 := Lib.hid (B1.out.step hb)
  replace V := Lib.hid (V.out.step hb)
  clear hb
  go_wp2_with (first | ((with_reducible refine Lk.ld (d := 18) W.heap.size B1.out V.out.len ?_ ?_ ?_); exact rfl; exact rfl) | fail)
  refine (KRa.out _ _ _ T.out.bel V.out).mono ?_
  rintro e w4 ⟨rfl, hb⟩
  replace T := Lib.hid (T.out.step hb)
  replace B1 := Lib.hid (B1.out.step hb)
  replace V := Lib.hid (V.out.step hb)
  clear hb
  have cB1_0 := B1.out.c 0 _ V.out.author
  go_wp2_with (first | fail)
  clear cB1_0
  refine (KI.out _ T.out.bel).mono ?_
  rintro e w5 ⟨rfl, hb⟩
  replace T := Lib.hid (T.out.step hb)
  replace B1 := Lib.hid (B1.out.step hb)
  replace V := Lib.hid (V.out.step hb)
  clear hb
  have cB1_9 := B1.out.c 9 _ H9.out
  go_wp2_with (first | fail)
  clear cB1_9
  refine (KT.out _ _ T.out.bel V.out).mono ?_
  rintro e w6 ⟨rfl, hb⟩
  replace T := Lib.hid (T.out.step hb)
  replace B1 := Lib.hid (B1.out.step hb)
  replace V := Lib.hid (V.out.step hb)
  clear hb
  have cB1_1 := B1.out.c 1 _ V.out.seq
  have cB1_3 := B1.out.c 3 _ V.out.kind
  have cB1_2 := B1.out.c 2 _ V.out.prev
  go_wp2_with (first | fail)
  clear cB1_1 cB1_3 cB1_2
  refine (KP.out _ T.out.bel).mono ?_
  rintro e w7 ⟨rfl, hb⟩
  replace T := Lib.hid (T.out.step hb)
  replace B1 := Lib.hid (B1.out.step hb)
  replace V := Lib.hid (V.out.step hb)
  clear hb
  have cB1_7 := B1.out.c 7 _ V.out.scope
  have cB1_3 := B1.out.c 3 _ V.out.kind
  have cB1_15 := B1.out.c 15 _ H15.out
  go_wp2_with (first | ((with_reducible refine Lk.nw cs V.out.len V.out.one ?_ ?_ ?_ ?_); exact rfl; exact rfl; exact rfl) | ((with_reducible refine Lk.ld (d := 143) W.heap.size B1.out V.out.len ?_ ?_ ?_); exact rfl; exact rfl) | fail)
  clear cB1_7 cB1_3 cB1_15
  intro w8 bN hb
  have LB1_B2 := Lib.hid (show W.heap.size < w7.heap.size from B1.out.lt)
  have GV_B2 := Lib.hid (show W.heap.size ≤ w7.heap.size from V.out.le)
  have GB2 := Lib.hid (show W.heap.size ≤ w7.heap.size from T.out.bel.size)
  replace T := Lib.hid (T.out.step hb)
  replace B1 := Lib.hid (B1.out.step hb)
  replace V := Lib.hid (V.out.step hb)
  have B2 := Lib.hid (show Lk.Bl w8 w7.heap.size cs 29 from bN)
  clear bN hb
  have cB1_14 := B1.out.c 14 _ V.out.epoch
  go_wp2_with (first | ((with_reducible refine Lk.st w7.heap.size 14 [.int .i64 (a.epoch + 1)] (.int .i64 (a.epoch + 1)) B2.out ?_ ?_ ?_ ?_ ?_ ?_ ?_); exact Lk.infoI; exact rfl; (rw [V.out.len]; exact Nat.le_of_ble_eq_true rfl); (simp [Value.oneCell']); exact rfl; exact rfl) | fail)
  clear cB1_14
  intro w9 bN hb
  replace B1 := Lib.hid (B1.out.under hb LB1_B2.out)
  replace T := Lib.hid (T.out.under hb GB2.out)
  replace V := Lib.hid (V.out.under hb GV_B2.out)
  obtain ⟨cs9, hcs9⟩ : ∃ x : List Value, x = cs.take 14 ++ [.int .i64 (a.epoch + 1)] ++ cs.drop (14 + ([.int .i64 (a.epoch + 1)] : List Value).length) := ⟨_, rfl⟩
  have V9 := Lib.hid (show Av w9 W.heap.size cs9 { a with epoch := a.epoch + 1 } e s from by rw [hcs9]; exact V.out.put 14 [.int .i64 (a.epoch + 1)] rfl rfl (fun _ _ _ _ _ _ => rfl))
  replace B2 := Lib.hid (show Lk.Bl w9 w7.heap.size cs9 29 from by rw [hcs9]; exact bN)
  clear bN hb hcs9
  have GV9_B2 := GV_B2
  go_wp2_with (first | ((with_reducible refine Lk.nw cs V.out.len V.out.one ?_ ?_ ?_ ?_); exact rfl; exact rfl; exact rfl) | ((with_reducible refine Lk.ld (d := 148) W.heap.size B1.out V.out.len ?_ ?_ ?_); exact rfl; exact rfl) | fail)
  intro w10 bN hb
  have LB1_B3 := Lib.hid (show W.heap.size < w9.heap.size from B1.out.lt)
  have LB2_B3 := Lib.hid (show w7.heap.size < w9.heap.size from B2.out.lt)
  have GV_B3 := Lib.hid (show W.heap.size ≤ w9.heap.size from V.out.le)
  have GV9_B3 := Lib.hid (show W.heap.size ≤ w9.heap.size from V9.out.le)
  have GB3 := Lib.hid (show W.heap.size ≤ w9.heap.size from T.out.bel.size)
  replace T := Lib.hid (T.out.step hb)
  replace B1 := Lib.hid (B1.out.step hb)
  replace B2 := Lib.hid (B2.out.step hb)
  replace V := Lib.hid (V.out.step hb)
  replace V9 := Lib.hid (V9.out.step hb)
  have B3 := Lib.hid (show Lk.Bl w10 w9.heap.size cs 29 from bN)
  clear bN hb
  have cB1_17 := B1.out.c 17 _ V.out.m
  go_wp2_with (first | ((with_reducible refine Lk.st w9.heap.size 17 [.int .i64 (a.m - 1)] (.int .i64 (a.m - 1)) B3.out ?_ ?_ ?_ ?_ ?_ ?_ ?_); exact Lk.infoI; exact rfl; (rw [V.out.len]; exact Nat.le_of_ble_eq_true rfl); (simp [Value.oneCell']); exact rfl; exact rfl) | fail)
  clear cB1_17
  intro w11 bN hb
  replace B1 := Lib.hid (B1.out.under hb LB1_B3.out)
  replace B2 := Lib.hid (B2.out.under hb LB2_B3.out)
  replace T := Lib.hid (T.out.under hb GB3.out)
  replace V := Lib.hid (V.out.under hb GV_B3.out)
  replace V9 := Lib.hid (V9.out.under hb GV9_B3.out)
  obtain ⟨cs11, hcs11⟩ : ∃ x : List Value, x = cs.take 17 ++ [.int .i64 (a.m - 1)] ++ cs.drop (17 + ([.int .i64 (a.m - 1)] : List Value).length) := ⟨_, rfl⟩
  have V11 := Lib.hid (show Av w11 W.heap.size cs11 { a with m := a.m - 1 } e s from by rw [hcs11]; exact V.out.put 17 [.int .i64 (a.m - 1)] rfl rfl (fun _ _ _ _ _ _ => rfl))
  replace B3 := Lib.hid (show Lk.Bl w11 w9.heap.size cs11 29 from by rw [hcs11]; exact bN)
  clear bN hb hcs11
  have GV11_B2 := GV_B2
  have GV11_B3 := GV_B3
  go_wp2_with (first | ((with_reducible refine Lk.nw cs V.out.len V.out.one ?_ ?_ ?_ ?_); exact rfl; exact rfl; exact rfl) | ((with_reducible refine Lk.ld (d := 153) W.heap.size B1.out V.out.len ?_ ?_ ?_); exact rfl; exact rfl) | fail)
  intro w12 bN hb
  have LB1_B4 := Lib.hid (show W.heap.size < w11.heap.size from B1.out.lt)
  have LB2_B4 := Lib.hid (show w7.heap.size < w11.heap.size from B2.out.lt)
  have LB3_B4 := Lib.hid (show w9.heap.size < w11.heap.size from B3.out.lt)
  have GV_B4 := Lib.hid (show W.heap.size ≤ w11.heap.size from V.out.le)
  have GV9_B4 := Lib.hid (show W.heap.size ≤ w11.heap.size from V9.out.le)
  have GV11_B4 := Lib.hid (show W.heap.size ≤ w11.heap.size from V11.out.le)
  have GB4 := Lib.hid (show W.heap.size ≤ w11.heap.size from T.out.bel.size)
  replace T := Lib.hid (T.out.step hb)
  replace B1 := Lib.hid (B1.out.step hb)
  replace B2 := Lib.hid (B2.out.step hb)
  replace B3 := Lib.hid (B3.out.step hb)
  replace V := Lib.hid (V.out.step hb)
  replace V9 := Lib.hid (V9.out.step hb)
  replace V11 := Lib.hid (V11.out.step hb)
  have B4 := Lib.hid (show Lk.Bl w12 w11.heap.size cs 29 from bN)
  clear bN hb
  have cB1_5 := B1.out.c 5 _ V.out.object
  go_wp2_with (first | ((with_reducible refine Lk.st w11.heap.size 5 [.string (S2.B (a.object ++ [120]))] (.string (S2.B (a.object ++ [120]))) B4.out ?_ ?_ ?_ ?_ ?_ ?_ ?_); exact Lk.infoS; exact rfl; (rw [V.out.len]; exact Nat.le_of_ble_eq_true rfl); (simp [Value.oneCell']); exact rfl; exact rfl) | fail)
  clear cB1_5
  intro w13 bN hb
  replace B1 := Lib.hid (B1.out.under hb LB1_B4.out)
  replace B2 := Lib.hid (B2.out.under hb LB2_B4.out)
  replace B3 := Lib.hid (B3.out.under hb LB3_B4.out)
  replace T := Lib.hid (T.out.under hb GB4.out)
  replace V := Lib.hid (V.out.under hb GV_B4.out)
  replace V9 := Lib.hid (V9.out.under hb GV9_B4.out)
  replace V11 := Lib.hid (V11.out.under hb GV11_B4.out)
  obtain ⟨cs13, hcs13⟩ : ∃ x : List Value, x = cs.take 5 ++ [.string (S2.B (a.object ++ [120]))] ++ cs.drop (5 + ([.string (S2.B (a.object ++ [120]))] : List Value).length) := ⟨_, rfl⟩
  have V13 := Lib.hid (show Av w13 W.heap.size cs13 { a with object := a.object ++ [120] } e s from by rw [hcs13]; exact V.out.put 5 [.string (S2.B (a.object ++ [120]))] rfl rfl (fun _ _ _ _ _ _ => rfl))
  replace B4 := Lib.hid (show Lk.Bl w13 w11.heap.size cs13 29 from by rw [hcs13]; exact bN)
  clear bN hb hcs13
  have GV13_B2 := GV_B2
  have GV13_B3 := GV_B3
  have GV13_B4 := GV_B4
  go_wp2_with (first | ((with_reducible refine Lk.nw cs V.out.len V.out.one ?_ ?_ ?_ ?_); exact rfl; exact rfl; exact rfl) | ((with_reducible refine Lk.ld (d := 158) W.heap.size B1.out V.out.len ?_ ?_ ?_); exact rfl; exact rfl) | fail)
  intro w14 bN hb
  have LB1_B5 := Lib.hid (show W.heap.size < w13.heap.size from B1.out.lt)
  have LB2_B5 := Lib.hid (show w7.heap.size < w13.heap.size from B2.out.lt)
  have LB3_B5 := Lib.hid (show w9.heap.size < w13.heap.size from B3.out.lt)
  have LB4_B5 := Lib.hid (show w11.heap.size < w13.heap.size from B4.out.lt)
  have GV_B5 := Lib.hid (show W.heap.size ≤ w13.heap.size from V.out.le)
  have GV9_B5 := Lib.hid (show W.heap.size ≤ w13.heap.size from V9.out.le)
  have GV11_B5 := Lib.hid (show W.heap.size ≤ w13.heap.size from V11.out.le)
  have GV13_B5 := Lib.hid (show W.heap.size ≤ w13.heap.size from V13.out.le)
  have GB5 := Lib.hid (show W.heap.size ≤ w13.heap.size from T.out.bel.size)
  replace T := Lib.hid (T.out.step hb)
  replace B1 := Lib.hid (B1.out.step hb)
  replace B2 := Lib.hid (B2.out.step hb)
  replace B3 := Lib.hid (B3.out.step hb)
  replace B4 := Lib.hid (B4.out.step hb)
  replace V := Lib.hid (V.out.step hb)
  replace V9 := Lib.hid (V9.out.step hb)
  replace V11 := Lib.hid (V11.out.step hb)
  replace V13 := Lib.hid (V13.out.step hb)
  have B5 := Lib.hid (show Lk.Bl w14 w13.heap.size cs 29 from bN)
  clear bN hb
  have cB1_6 := B1.out.c 6 _ V.out.target
  go_wp2_with (first | ((with_reducible refine Lk.st w13.heap.size 6 [.string (S2.B (a.target ++ [120]))] (.string (S2.B (a.target ++ [120]))) B5.out ?_ ?_ ?_ ?_ ?_ ?_ ?_); exact Lk.infoS; exact rfl; (rw [V.out.len]; exact Nat.le_of_ble_eq_true rfl); (simp [Value.oneCell']); exact rfl; exact rfl) | fail)
  clear cB1_6
  intro w15 bN hb
  replace B1 := Lib.hid (B1.out.under hb LB1_B5.out)
  replace B2 := Lib.hid (B2.out.under hb LB2_B5.out)
  replace B3 := Lib.hid (B3.out.under hb LB3_B5.out)
  replace B4 := Lib.hid (B4.out.under hb LB4_B5.out)
  replace T := Lib.hid (T.out.under hb GB5.out)
  replace V := Lib.hid (V.out.under hb GV_B5.out)
  replace V9 := Lib.hid (V9.out.under hb GV9_B5.out)
  replace V11 := Lib.hid (V11.out.under hb GV11_B5.out)
  replace V13 := Lib.hid (V13.out.under hb GV13_B5.out)
  obtain ⟨cs15, hcs15⟩ : ∃ x : List Value, x = cs.take 6 ++ [.string (S2.B (a.target ++ [120]))] ++ cs.drop (6 + ([.string (S2.B (a.target ++ [120]))] : List Value).length) := ⟨_, rfl⟩
  have V15 := Lib.hid (show Av w15 W.heap.size cs15 { a with target := a.target ++ [120] } e s from by rw [hcs15]; exact V.out.put 6 [.string (S2.B (a.target ++ [120]))] rfl rfl (fun _ _ _ _ _ _ => rfl))
  replace B5 := Lib.hid (show Lk.Bl w15 w13.heap.size cs15 29 from by rw [hcs15]; exact bN)
  clear bN hb hcs15
  have GV15_B2 := GV_B2
  have GV15_B3 := GV_B3
  have GV15_B4 := GV_B4
  have GV15_B5 := GV_B5
  go_wp2_with (first | ((with_reducible refine Lk.nw cs V.out.len V.out.one ?_ ?_ ?_ ?_); exact rfl; exact rfl; exact rfl) | ((with_reducible refine Lk.ld (d := 163) W.heap.size B1.out V.out.len ?_ ?_ ?_); exact rfl; exact rfl) | fail)
  intro w16 bN hb
  have LB1_B6 := Lib.hid (show W.heap.size < w15.heap.size from B1.out.lt)
  have LB2_B6 := Lib.hid (show w7.heap.size < w15.heap.size from B2.out.lt)
  have LB3_B6 := Lib.hid (show w9.heap.size < w15.heap.size from B3.out.lt)
  have LB4_B6 := Lib.hid (show w11.heap.size < w15.heap.size from B4.out.lt)
  have LB5_B6 := Lib.hid (show w13.heap.size < w15.heap.size from B5.out.lt)
  have GV_B6 := Lib.hid (show W.heap.size ≤ w15.heap.size from V.out.le)
  have GV9_B6 := Lib.hid (show W.heap.size ≤ w15.heap.size from V9.out.le)
  have GV11_B6 := Lib.hid (show W.heap.size ≤ w15.heap.size from V11.out.le)
  have GV13_B6 := Lib.hid (show W.heap.size ≤ w15.heap.size from V13.out.le)
  have GV15_B6 := Lib.hid (show W.heap.size ≤ w15.heap.size from V15.out.le)
  have GB6 := Lib.hid (show W.heap.size ≤ w15.heap.size from T.out.bel.size)
  replace T := Lib.hid (T.out.step hb)
  replace B1 := Lib.hid (B1.out.step hb)
  replace B2 := Lib.hid (B2.out.step hb)
  replace B3 := Lib.hid (B3.out.step hb)
  replace B4 := Lib.hid (B4.out.step hb)
  replace B5 := Lib.hid (B5.out.step hb)
  replace V := Lib.hid (V.out.step hb)
  replace V9 := Lib.hid (V9.out.step hb)
  replace V11 := Lib.hid (V11.out.step hb)
  replace V13 := Lib.hid (V13.out.step hb)
  replace V15 := Lib.hid (V15.out.step hb)
  have B6 := Lib.hid (show Lk.Bl w16 w15.heap.size cs 29 from bN)
  clear bN hb
  have T0 := Lib.hid (show W.heap.size ≤ w16.heap.size from T.out.bel.size)
  have OW := Lib.hid (show OwnW (w16.alloc (.cells #[.int .i64 1, .int .i64 1, .string (S2.B []), .string (S2.B []), .string (S2.B [])] 50)) w16.heap.size (.slice (some ⟨w16.heap.size, 0, none⟩) 1 1) [⟨1, 1, bx0⟩] from OwnW.lit w16 [⟨1, 1, bx0⟩] (by decide))
  have SR := Lib.hid (show S2.Row (w16.alloc (.cells #[.int .i64 1, .int .i64 1, .string (S2.B []), .string (S2.B []), .string (S2.B [])] 50)) (w16.alloc (.cells #[.int .i64 1, .int .i64 1, .string (S2.B []), .string (S2.B []), .string (S2.B [])] 50)).heap.size Q (Ws a.wraps) from ((V.out.alloc (.cells #[.int .i64 1, .int .i64 1, .string (S2.B []), .string (S2.B []), .string (S2.B [])] 50)).wrAt H15.out).2.2.more (V.out.alloc (.cells #[.int .i64 1, .int .i64 1, .string (S2.B []), .string (S2.B []), .string (S2.B [])] 50)).le)
  have cB1_15 := (B1.out.alloc (.cells #[.int .i64 1, .int .i64 1, .string (S2.B []), .string (S2.B []), .string (S2.B [])] 50)).c 15 _ H15.out
  go_wp2_with (first | (at_builtin; refine wpList_appW rfl _ _ rfl OW.out SR.out rfl rfl HMQ.out HLQ.out ?_) | fail)
  clear cB1_15
  intro v1 w17 own1 hb1
  have hb : Below w16.heap.size w16 w17 := ((Below.refl _ _).alloc (Nat.le_refl _) (.cells #[.int .i64 1, .int .i64 1, .string (S2.B []), .string (S2.B []), .string (S2.B [])] 50)).trans hb1
  have LBQ := Lib.hid (show w15.heap.size < w16.heap.size from B6.out.lt)
  replace T := Lib.hid (T.out.step hb)
  replace B1 := Lib.hid (B1.out.step hb)
  replace B2 := Lib.hid (B2.out.step hb)
  replace B3 := Lib.hid (B3.out.step hb)
  replace B4 := Lib.hid (B4.out.step hb)
  replace B5 := Lib.hid (B5.out.step hb)
  replace B6 := Lib.hid (B6.out.step hb)
  replace V := Lib.hid (V.out.step hb)
  replace V9 := Lib.hid (V9.out.step hb)
  replace V11 := Lib.hid (V11.out.step hb)
  replace V13 := Lib.hid (V13.out.step hb)
  replace V15 := Lib.hid (V15.out.step hb)
  clear OW SR hb1 hb
  obtain ⟨AQ, nq, cq, rfl, hnq, hcq⟩ := own1.sl3
  have OQ := Lib.hid own1
  have HNQ := Lib.hid hnq
  have HCQ := Lib.hid hcq
  clear own1 hnq hcq
  go_wp2_with (first | ((with_reducible refine Lk.stX w15.heap.size 15 [.slice AQ nq cq] (.slice AQ nq cq) B6.out ?_ ?_ ?_ ?_ ?_ ?_ ?_); exact (show (Tryz.prog.info? 25).map (·.size) = some 1 by kernel_rfl); exact rfl; (rw [V.out.len]; exact Nat.le_of_ble_eq_true rfl); (simp [Value.oneCell']); exact rfl; exact rfl) | fail)
  intro w18 bN hb ho
  replace B1 := Lib.hid (B1.out.under hb LB1_B6.out)
  replace B2 := Lib.hid (B2.out.under hb LB2_B6.out)
  replace B3 := Lib.hid (B3.out.under hb LB3_B6.out)
  replace B4 := Lib.hid (B4.out.under hb LB4_B6.out)
  replace B5 := Lib.hid (B5.out.under hb LB5_B6.out)
  replace T := Lib.hid (T.out.under hb GB6.out)
  have RQ := row_only OQ.out.row ho OQ.out.addr LBQ.out
  have hbd : w17.heap.size ≤ w18.heap.size := hb.size
  replace V := Lib.hid (V.out.under hb GV_B6.out)
  replace V9 := Lib.hid (V9.out.under hb GV9_B6.out)
  replace V11 := Lib.hid (V11.out.under hb GV11_B6.out)
  replace V13 := Lib.hid (V13.out.under hb GV13_B6.out)
  replace V15 := Lib.hid (V15.out.under hb GV15_B6.out)
  have VF := Lib.hid (show Av w18 w17.heap.size (cs.take 15 ++ [.slice AQ nq cq] ++ cs.drop (15 + ([.slice AQ nq cq] : List Value).length)) { a with wraps := ⟨1, 1, bx0⟩ :: a.wraps } e s from V.out.putW RQ HNQ.out HCQ.out (Nat.le_trans T0.out OQ.out.le) hbd)
  obtain ⟨csF, hcsF⟩ : ∃ x : List Value, x = cs.take 15 ++ [.slice AQ nq cq] ++ cs.drop (15 + ([.slice AQ nq cq] : List Value).length) := ⟨_, rfl⟩
  rw [← hcsF] at VF bN
  replace B6 := Lib.hid bN
  clear bN hb ho hcsF RQ hbd OQ HNQ HCQ LBQ
  have cB1_7 := B1.out.c 7 _ V.out.scope
  have cB1_3 := B1.out.c 3 _ V.out.kind
  go_wp2_with (first | ((with_reducible refine Lk.ld (d := 198) w7.heap.size B2.out V9.out.len ?_ ?_ ?_); exact rfl; exact rfl) | fail)
  clear cB1_7 cB1_3
  refine (KB.out _ _ _ T.out.bel V9.out).mono ?_
  rintro e w19 ⟨rfl, hb⟩
  replace T := Lib.hid (T.out.step hb)
  replace B1 := Lib.hid (B1.out.step hb)
  replace B2 := Lib.hid (B2.out.step hb)
  replace B3 := Lib.hid (B3.out.step hb)
  replace B4 := Lib.hid (B4.out.step hb)
  replace B5 := Lib.hid (B5.out.step hb)
  replace B6 := Lib.hid (B6.out.step hb)
  replace V := Lib.hid (V.out.step hb)
  replace V9 := Lib.hid (V9.out.step hb)
  replace V11 := Lib.hid (V11.out.step hb)
  replace V13 := Lib.hid (V13.out.step hb)
  replace V15 := Lib.hid (V15.out.step hb)
  replace VF := Lib.hid (VF.out.step hb)
  clear hb
  go_wp2_with (first | ((with_reducible refine Lk.ld (d := 206) w9.heap.size B3.out V11.out.len ?_ ?_ ?_); exact rfl; exact rfl) | fail)
  refine (KC.out _ _ _ T.out.bel V11.out).mono ?_
  rintro e w20 ⟨rfl, hb⟩
  replace T := Lib.hid (T.out.step hb)
  replace B1 := Lib.hid (B1.out.step hb)
  replace B2 := Lib.hid (B2.out.step hb)
  replace B3 := Lib.hid (B3.out.step hb)
  replace B4 := Lib.hid (B4.out.step hb)
  replace B5 := Lib.hid (B5.out.step hb)
  replace B6 := Lib.hid (B6.out.step hb)
  replace V := Lib.hid (V.out.step hb)
  replace V9 := Lib.hid (V9.out.step hb)
  replace V11 := Lib.hid (V11.out.step hb)
  replace V13 := Lib.hid (V13.out.step hb)
  replace V15 := Lib.hid (V15.out.step hb)
  replace VF := Lib.hid (VF.out.step hb)
  clear hb
  go_wp2_with (first | ((with_reducible refine Lk.ld (d := 212) w11.heap.size B4.out V13.out.len ?_ ?_ ?_); exact rfl; exact rfl) | fail)
  refine (KD.out _ _ _ T.out.bel V13.out).mono ?_
  rintro e w21 ⟨rfl, hb⟩
  replace T := Lib.hid (T.out.step hb)
  replace B1 := Lib.hid (B1.out.step hb)
  replace B2 := Lib.hid (B2.out.step hb)
  replace B3 := Lib.hid (B3.out.step hb)
  replace B4 := Lib.hid (B4.out.step hb)
  replace B5 := Lib.hid (B5.out.step hb)
  replace B6 := Lib.hid (B6.out.step hb)
  replace V := Lib.hid (V.out.step hb)
  replace V9 := Lib.hid (V9.out.step hb)
  replace V11 := Lib.hid (V11.out.step hb)
  replace V13 := Lib.hid (V13.out.step hb)
  replace V15 := Lib.hid (V15.out.step hb)
  replace VF := Lib.hid (VF.out.step hb)
  clear hb
  go_wp2_with (first | ((with_reducible refine Lk.ld (d := 217) w13.heap.size B5.out V15.out.len ?_ ?_ ?_); exact rfl; exact rfl) | fail)
  refine (KE.out _ _ _ T.out.bel V15.out).mono ?_
  rintro e w22 ⟨rfl, hb⟩
  replace T := Lib.hid (T.out.step hb)
  replace B1 := Lib.hid (B1.out.step hb)
  replace B2 := Lib.hid (B2.out.step hb)
  replace B3 := Lib.hid (B3.out.step hb)
  replace B4 := Lib.hid (B4.out.step hb)
  replace B5 := Lib.hid (B5.out.step hb)
  replace B6 := Lib.hid (B6.out.step hb)
  replace V := Lib.hid (V.out.step hb)
  replace V9 := Lib.hid (V9.out.step hb)
  replace V11 := Lib.hid (V11.out.step hb)
  replace V13 := Lib.hid (V13.out.step hb)
  replace V15 := Lib.hid (V15.out.step hb)
  replace VF := Lib.hid (VF.out.step hb)
  clear hb
  go_wp2_with (first | ((with_reducible refine Lk.ld (d := 222) w15.heap.size B6.out VF.out.len ?_ ?_ ?_); exact rfl; exact rfl) | fail)
  refine (KH.out _ _ _ T.out.bel VF.out).mono ?_
  rintro e w23 ⟨rfl, hb⟩
  replace T := Lib.hid (T.out.step hb)
  replace B1 := Lib.hid (B1.out.step hb)
  replace B2 := Lib.hid (B2.out.step hb)
  replace B3 := Lib.hid (B3.out.step hb)
  replace B4 := Lib.hid (B4.out.step hb)
  replace B5 := Lib.hid (B5.out.step hb)
  replace B6 := Lib.hid (B6.out.step hb)
  replace V := Lib.hid (V.out.step hb)
  replace V9 := Lib.hid (V9.out.step hb)
  replace V11 := Lib.hid (V11.out.step hb)
  replace V13 := Lib.hid (V13.out.step hb)
  replace V15 := Lib.hid (V15.out.step hb)
  replace VF := Lib.hid (VF.out.step hb)
  clear hb
  go_wp2
  go_ret
  exact ⟨rfl, T.out.bel⟩
set_option maxHeartbeats 4000000 in
set_option maxRecDepth 100000 in
theorem fields_C {keyOk : Int → Int → Bool} {sgn : Int → Int → Str → Int × Int} {ver : Int → Str → Int → Int → Bool} {W : World} (P : Pk keyOk sgn ver W) (hsm : Ok W 9 #[] (.bool true))
    (a : Ac) (e s : Int) (cs : List Value) (A : Option Addr) (nA cA : Nat) (Q : Option Addr) (nQ cQ : Nat) (hv0 : Av W W.heap.size cs a e s) (h9 : cs[9]? = some (.slice A nA cA)) (h15 : cs[15]? = some (.slice Q nQ cQ)) (hz : Sz 281474976710656 140737488355328 a)
    (h : fewB a = true) (hv : valid a e s = true) (hpa : isId a.author = true) (hpt : ids a.to = true) (q1 : (a.seq == 0) = false) (q2 : (a.kind == 0) = false) (q3 : (a.prev == []) = false) (q4 : 0 < a.seq) (q5 : (a.prev.length : Int) = 32) (q6 : ¬ 7 ≤ a.kind) (q8 : posting a.kind = true) (q9 : (a.scope == 0) = false) (q10 : (a.text == []) = true) (q11 : (a.body.nonce.length : Int) = 32) (q16 : (a.kind == 16) = false) (q17 : (a.kind == 19) = false) (q18 : (a.kind == 18) = false) (q19 : a.wraps = []) (nc : good { a with m := a.m - 1 } = false) :
    Calls Tryz.prog 7 #[.agg cs.toArray] W fun x w' => x = .returned (.bool true) ∧ Below W.heap.size W w' := by
  have KS := Lib.hid hsm
  have T := Lib.hid (Lk.At.start W)
  have V := Lib.hid hv0
  have H9 := Lib.hid h9
  have H15 := Lib.hid h15
  have KFa := fun (w : World) (b0 : Nat) (c0 : List Value) (hb : Below W.heap.size W w) (h0 : Av w b0 c0 a e s) => fewC h0 hz
  rw [h] at KFa
  replace KFa := Lib.hid KFa
  have h6 := few_sz6 h
  have KRa := fun (w : World) (b0 : Nat) (c0 : List Value) (hb : Below W.heap.size W w) (h0 : Av w b0 c0 a e s) => P.rightC hb h0 h6
  rw [hv] at KRa
  replace KRa := Lib.hid KRa
  have hl := lim_of (valid_good hv)
  have hE0 : 0 ≤ a.epoch := by have := hl.epoch; simp only [epOk, Bool.and_eq_true, decide_eq_true_eq] at this; exact this.1
  have hE1 : a.epoch ≤ 1073741824 := by have := hl.epoch; simp only [epOk, Bool.and_eq_true, decide_eq_true_eq] at this; exact this.2
  have hM0 : 0 ≤ a.m := hl.m.1
  have hM1 : a.m < 2305843009213693951 := hl.m.2
  have hO1 : (a.object.length : Int) ≤ 32 := by have := hl.object; omega
  have hG1 : (a.target.length : Int) ≤ 32 := by have := hl.target; omega
  have KI := P.idR a.author h6.author
  rw [hpa] at KI
  replace KI := Lib.hid KI
  have KT := fun (w : World) (bd : Nat) (hb : Below W.heap.size W w) (h0 : Av w bd cs a e s) => P.idsR A a.to nA cA w hb (h0.toAt h9).1 ((h0.toAt h9).2.2.more h0.le) (by rw [(h0.toAt h9).1]; exact h6.to) h6.tos
  rw [hpt] at KT
  replace KT := Lib.hid KT
  have KP := P.posting a.kind
  rw [q8] at KP
  replace KP := Lib.hid KP
  have ND := more_object (valid_good hv) 120
  have NE := more_target (valid_good hv) 120
  have NF : good { a with wraps := ⟨1, 1, bx0⟩ :: a.wraps } = false := more_wraps
  have szD : Sz 1000000 1000000 { a with object := a.object ++ [120] } := ⟨h6.author, h6.prev, by show (a.object ++ [120]).length ≤ 1000000; simp; omega, h6.target, h6.group, h6.text, h6.nonce, h6.data, h6.tag, h6.to, h6.tos, h6.wraps, h6.boxes⟩
  have szE : Sz 1000000 1000000 { a with target := a.target ++ [120] } := ⟨h6.author, h6.prev, h6.object, by show (a.target ++ [120]).length ≤ 1000000; simp; omega, h6.group, h6.text, h6.nonce, h6.data, h6.tag, h6.to, h6.tos, h6.wraps, h6.boxes⟩
  have szF : Sz 1000000 1000000 { a with wraps := ⟨1, 1, bx0⟩ :: a.wraps } := ⟨h6.author, h6.prev, h6.object, h6.target, h6.group, h6.text, h6.nonce, h6.data, h6.tag, h6.to, h6.tos, by show a.wraps.length + 1 ≤ 1000000; have := hl.wraps.2; omega, fun w hw => by
    rcases List.mem_cons.1 hw with rfl | hw
    · simp [bx0]
    · exact h6.boxes w hw⟩
  have KD := fun (w : World) (b0 : Nat) (c0 : List Value) (hb : Below W.heap.size W w) (h0 : Av w b0 c0 { a with object := a.object ++ [120] } e s) => P.rightC hb h0 szD
  rw [show valid { a with object := a.object ++ [120] } e s = false by unfold valid; rw [ND, Bool.and_false]] at KD
  replace KD := Lib.hid KD
  have KE := fun (w : World) (b0 : Nat) (c0 : List Value) (hb : Below W.heap.size W w) (h0 : Av w b0 c0 { a with target := a.target ++ [120] } e s) => P.rightC hb h0 szE
  rw [show valid { a with target := a.target ++ [120] } e s = false by unfold valid; rw [NE, Bool.and_false]] at KE
  replace KE := Lib.hid KE
  have KH := fun (w : World) (b0 : Nat) (c0 : List Value) (hb : Below W.heap.size W w) (h0 : Av w b0 c0 { a with wraps := ⟨1, 1, bx0⟩ :: a.wraps } e s) => P.rightC hb h0 szF
  rw [show valid { a with wraps := ⟨1, 1, bx0⟩ :: a.wraps } e s = false by unfold valid; rw [NF, Bool.and_false]] at KH
  replace KH := Lib.hid KH
  have KC := fun (w : World) (b0 : Nat) (c0 : List Value) (hb : Below W.heap.size W w) (h0 : Av w b0 c0 { a with m := a.m - 1 } e s) => P.rightC hb h0 ⟨h6.author, h6.prev, h6.object, h6.target, h6.group, h6.text, h6.nonce, h6.data, h6.tag, h6.to, h6.tos, h6.wraps, h6.boxes⟩
  rw [show valid { a with m := a.m - 1 } e s = false by unfold valid; rw [nc, Bool.and_false]] at KC
  replace KC := Lib.hid KC
  have hnQ := (V.out.wrAt h15).1
  have hnA := (V.out.toAt h9).1
  have HLQ := Lib.hid (show ([⟨1, 1, bx0⟩] : List Wr).length + a.wraps.length ≤ 100000 by have := hl.wraps.2; simp; omega)
  obtain rfl : nQ = 0 := by rw [hnQ, q19]; rfl
  have HMQ := Lib.hid hnQ
  clear P hsm hv0 h9 h15 hz h hv hpa hpt h6 hl ND NE NF szD szE szF hnQ hnA q8 q19 nc
  have q9a : (a.scope != 0) = true := by rw [bne, q9]; rfl
  have q9b : decide (a.scope = 0) = false := by rw [← q9]; rfl
  go_enter Tryz.func7, Tryz.ntmps7
  go_wp2_with (first | fail)
  replace T := Lib.hid (T.out.alloc (.cells cs.toArray 29))
  replace V := Lib.hid (V.out.alloc (.cells cs.toArray 29))
  have B1 := Lib.hid (show Lk.Bl (W.alloc (.cells cs.toArray 29)) W.heap.size cs 29 from by have h := Lk.Bl.new W cs 29; simpa using h)
  generalize W.alloc (.cells cs.toArray 29) = w1 at *
  refine (KS.out _ T.out.bel).mono ?_
  rintro e w2 ⟨rfl, hb⟩
  replace T := Lib.hid (T.out.step hb)
  replace B1 := Lib.hid (B1.out.step hb)
  replace V := Lib.hid (V.out.step hb)
  clear hb
  go_wp2_with (first | ((with_reducible refine Lk.ld (d := 14) W.heap.size B1.out V.out.len ?_ ?_ ?_); exact rfl; exact rfl) | fail)
  refine (KFa.out _ _ _ T.out.bel V.out).mono ?_
  rintro e w3 ⟨rfl, hb⟩
  replace T := Lib.hid (T.out.step hb)
  replace B1 := Lib.hid (B1.out.step hb)
  replace V := Lib.hid (V.out.step hb)
  clear hb
  go_wp2_with (first | ((with_reducible refine Lk.ld (d := 18) W.heap.size B1.out V.out.len ?_ ?_ ?_); exact rfl; exact rfl) | fail)
  refine (KRa.out _ _ _ T.out.bel V.out).mono ?_
  rintro e w4 ⟨rfl, hb⟩
  replace T := Lib.hid (T.out.step hb)
  replace B1 := Lib.hid (B1.out.step hb)
  replace V := Lib.hid (V.out.step hb)
  clear hb
  have cB1_0 := B1.out.c 0 _ V.out.author
  go_wp2_with (first | fail)
  clear cB1_0
  refine (KI.out _ T.out.bel).mono ?_
  rintro e w5 ⟨rfl, hb⟩
  replace T := Lib.hid (T.out.step hb)
  replace B1 := Lib.hid (B1.out.step hb)
  replace V := Lib.hid (V.out.step hb)
  clear hb
  have cB1_9 := B1.out.c 9 _ H9.out
  go_wp2_with (first | fail)
  clear cB1_9
  refine (KT.out _ _ T.out.bel V.out).mono ?_
  rintro e w6 ⟨rfl, hb⟩
  replace T := Lib.hid (T.out.step hb)
  replace B1 := Lib.hid (B1.out.step hb)
  replace V := Lib.hid (V.out.step hb)
  clear hb
  have cB1_1 := B1.out.c 1 _ V.out.seq
  have cB1_3 := B1.out.c 3 _ V.out.kind
  have cB1_2 := B1.out.c 2 _ V.out.prev
  go_wp2_with (first | fail)
  clear cB1_1 cB1_3 cB1_2
  refine (KP.out _ T.out.bel).mono ?_
  rintro e w7 ⟨rfl, hb⟩
  replace T := Lib.hid (T.out.step hb)
  replace B1 := Lib.hid (B1.out.step hb)
  replace V := Lib.hid (V.out.step hb)
  clear hb
  have cB1_7 := B1.out.c 7 _ V.out.scope
  have cB1_10 := B1.out.c 10 _ V.out.text
  have cB1_11 := B1.out.c 11 _ V.out.nonce
  have cB1_3 := B1.out.c 3 _ V.out.kind
  have cB1_15 := B1.out.c 15 _ H15.out
  go_wp2_with (first | ((with_reducible refine Lk.nw cs V.out.len V.out.one ?_ ?_ ?_ ?_); exact rfl; exact rfl; exact rfl) | ((with_reducible refine Lk.ld (d := 143) W.heap.size B1.out V.out.len ?_ ?_ ?_); exact rfl; exact rfl) | fail)
  clear cB1_7 cB1_10 cB1_11 cB1_3 cB1_15
  intro w8 bN hb
  have LB1_B2 := Lib.hid (show W.heap.size < w7.heap.size from B1.out.lt)
  have GV_B2 := Lib.hid (show W.heap.size ≤ w7.heap.size from V.out.le)
  have GB2 := Lib.hid (show W.heap.size ≤ w7.heap.size from T.out.bel.size)
  replace T := Lib.hid (T.out.step hb)
  replace B1 := Lib.hid (B1.out.step hb)
  replace V := Lib.hid (V.out.step hb)
  have B2 := Lib.hid (show Lk.Bl w8 w7.heap.size cs 29 from bN)
  clear bN hb
  have cB1_14 := B1.out.c 14 _ V.out.epoch
  go_wp2_with (first | ((with_reducible refine Lk.st w7.heap.size 14 [.int .i64 (a.epoch + 1)] (.int .i64 (a.epoch + 1)) B2.out ?_ ?_ ?_ ?_ ?_ ?_ ?_); exact Lk.infoI; exact rfl; (rw [V.out.len]; exact Nat.le_of_ble_eq_true rfl); (simp [Value.oneCell']); exact rfl; exact rfl) | fail)
  clear cB1_14
  intro w9 bN hb
  replace B1 := Lib.hid (B1.out.under hb LB1_B2.out)
  replace T := Lib.hid (T.out.under hb GB2.out)
  replace V := Lib.hid (V.out.under hb GV_B2.out)
  obtain ⟨cs9, hcs9⟩ : ∃ x : List Value, x = cs.take 14 ++ [.int .i64 (a.epoch + 1)] ++ cs.drop (14 + ([.int .i64 (a.epoch + 1)] : List Value).length) := ⟨_, rfl⟩
  have V9 := Lib.hid (show Av w9 W.heap.size cs9 { a with epoch := a.epoch + 1 } e s from by rw [hcs9]; exact V.out.put 14 [.int .i64 (a.epoch + 1)] rfl rfl (fun _ _ _ _ _ _ => rfl))
  replace B2 := Lib.hid (show Lk.Bl w9 w7.heap.size cs9 29 from by rw [hcs9]; exact bN)
  clear bN hb hcs9
  have GV9_B2 := GV_B2
  go_wp2_with (first | ((with_reducible refine Lk.nw cs V.out.len V.out.one ?_ ?_ ?_ ?_); exact rfl; exact rfl; exact rfl) | ((with_reducible refine Lk.ld (d := 148) W.heap.size B1.out V.out.len ?_ ?_ ?_); exact rfl; exact rfl) | fail)
  intro w10 bN hb
  have LB1_B3 := Lib.hid (show W.heap.size < w9.heap.size from B1.out.lt)
  have LB2_B3 := Lib.hid (show w7.heap.size < w9.heap.size from B2.out.lt)
  have GV_B3 := Lib.hid (show W.heap.size ≤ w9.heap.size from V.out.le)
  have GV9_B3 := Lib.hid (show W.heap.size ≤ w9.heap.size from V9.out.le)
  have GB3 := Lib.hid (show W.heap.size ≤ w9.heap.size from T.out.bel.size)
  replace T := Lib.hid (T.out.step hb)
  replace B1 := Lib.hid (B1.out.step hb)
  replace B2 := Lib.hid (B2.out.step hb)
  replace V := Lib.hid (V.out.step hb)
  replace V9 := Lib.hid (V9.out.step hb)
  have B3 := Lib.hid (show Lk.Bl w10 w9.heap.size cs 29 from bN)
  clear bN hb
  have cB1_17 := B1.out.c 17 _ V.out.m
  go_wp2_with (first | ((with_reducible refine Lk.st w9.heap.size 17 [.int .i64 (a.m - 1)] (.int .i64 (a.m - 1)) B3.out ?_ ?_ ?_ ?_ ?_ ?_ ?_); exact Lk.infoI; exact rfl; (rw [V.out.len]; exact Nat.le_of_ble_eq_true rfl); (simp [Value.oneCell']); exact rfl; exact rfl) | fail)
  clear cB1_17
  intro w11 bN hb
  replace B1 := Lib.hid (B1.out.under hb LB1_B3.out)
  replace B2 := Lib.hid (B2.out.under hb LB2_B3.out)
  replace T := Lib.hid (T.out.under hb GB3.out)
  replace V := Lib.hid (V.out.under hb GV_B3.out)
  replace V9 := Lib.hid (V9.out.under hb GV9_B3.out)
  obtain ⟨cs11, hcs11⟩ : ∃ x : List Value, x = cs.take 17 ++ [.int .i64 (a.m - 1)] ++ cs.drop (17 + ([.int .i64 (a.m - 1)] : List Value).length) := ⟨_, rfl⟩
  have V11 := Lib.hid (show Av w11 W.heap.size cs11 { a with m := a.m - 1 } e s from by rw [hcs11]; exact V.out.put 17 [.int .i64 (a.m - 1)] rfl rfl (fun _ _ _ _ _ _ => rfl))
  replace B3 := Lib.hid (show Lk.Bl w11 w9.heap.size cs11 29 from by rw [hcs11]; exact bN)
  clear bN hb hcs11
  have GV11_B2 := GV_B2
  have GV11_B3 := GV_B3
  go_wp2_with (first | ((with_reducible refine Lk.nw cs V.out.len V.out.one ?_ ?_ ?_ ?_); exact rfl; exact rfl; exact rfl) | ((with_reducible refine Lk.ld (d := 153) W.heap.size B1.out V.out.len ?_ ?_ ?_); exact rfl; exact rfl) | fail)
  intro w12 bN hb
  have LB1_B4 := Lib.hid (show W.heap.size < w11.heap.size from B1.out.lt)
  have LB2_B4 := Lib.hid (show w7.heap.size < w11.heap.size from B2.out.lt)
  have LB3_B4 := Lib.hid (show w9.heap.size < w11.heap.size from B3.out.lt)
  have GV_B4 := Lib.hid (show W.heap.size ≤ w11.heap.size from V.out.le)
  have GV9_B4 := Lib.hid (show W.heap.size ≤ w11.heap.size from V9.out.le)
  have GV11_B4 := Lib.hid (show W.heap.size ≤ w11.heap.size from V11.out.le)
  have GB4 := Lib.hid (show W.heap.size ≤ w11.heap.size from T.out.bel.size)
  replace T := Lib.hid (T.out.step hb)
  replace B1 := Lib.hid (B1.out.step hb)
  replace B2 := Lib.hid (B2.out.step hb)
  replace B3 := Lib.hid (B3.out.step hb)
  replace V := Lib.hid (V.out.step hb)
  replace V9 := Lib.hid (V9.out.step hb)
  replace V11 := Lib.hid (V11.out.step hb)
  have B4 := Lib.hid (show Lk.Bl w12 w11.heap.size cs 29 from bN)
  clear bN hb
  have cB1_5 := B1.out.c 5 _ V.out.object
  go_wp2_with (first | ((with_reducible refine Lk.st w11.heap.size 5 [.string (S2.B (a.object ++ [120]))] (.string (S2.B (a.object ++ [120]))) B4.out ?_ ?_ ?_ ?_ ?_ ?_ ?_); exact Lk.infoS; exact rfl; (rw [V.out.len]; exact Nat.le_of_ble_eq_true rfl); (simp [Value.oneCell']); exact rfl; exact rfl) | fail)
  clear cB1_5
  intro w13 bN hb
  replace B1 := Lib.hid (B1.out.under hb LB1_B4.out)
  replace B2 := Lib.hid (B2.out.under hb LB2_B4.out)
  replace B3 := Lib.hid (B3.out.under hb LB3_B4.out)
  replace T := Lib.hid (T.out.under hb GB4.out)
  replace V := Lib.hid (V.out.under hb GV_B4.out)
  replace V9 := Lib.hid (V9.out.under hb GV9_B4.out)
  replace V11 := Lib.hid (V11.out.under hb GV11_B4.out)
  obtain ⟨cs13, hcs13⟩ : ∃ x : List Value, x = cs.take 5 ++ [.string (S2.B (a.object ++ [120]))] ++ cs.drop (5 + ([.string (S2.B (a.object ++ [120]))] : List Value).length) := ⟨_, rfl⟩
  have V13 := Lib.hid (show Av w13 W.heap.size cs13 { a with object := a.object ++ [120] } e s from by rw [hcs13]; exact V.out.put 5 [.string (S2.B (a.object ++ [120]))] rfl rfl (fun _ _ _ _ _ _ => rfl))
  replace B4 := Lib.hid (show Lk.Bl w13 w11.heap.size cs13 29 from by rw [hcs13]; exact bN)
  clear bN hb hcs13
  have GV13_B2 := GV_B2
  have GV13_B3 := GV_B3
  have GV13_B4 := GV_B4
  go_wp2_with (first | ((with_reducible refine Lk.nw cs V.out.len V.out.one ?_ ?_ ?_ ?_); exact rfl; exact rfl; exact rfl) | ((with_reducible refine Lk.ld (d := 158) W.heap.size B1.out V.out.len ?_ ?_ ?_); exact rfl; exact rfl) | fail)
  intro w14 bN hb
  have LB1_B5 := Lib.hid (show W.heap.size < w13.heap.size from B1.out.lt)
  have LB2_B5 := Lib.hid (show w7.heap.size < w13.heap.size from B2.out.lt)
  have LB3_B5 := Lib.hid (show w9.heap.size < w13.heap.size from B3.out.lt)
  have LB4_B5 := Lib.hid (show w11.heap.size < w13.heap.size from B4.out.lt)
  have GV_B5 := Lib.hid (show W.heap.size ≤ w13.heap.size from V.out.le)
  have GV9_B5 := Lib.hid (show W.heap.size ≤ w13.heap.size from V9.out.le)
  have GV11_B5 := Lib.hid (show W.heap.size ≤ w13.heap.size from V11.out.le)
  have GV13_B5 := Lib.hid (show W.heap.size ≤ w13.heap.size from V13.out.le)
  have GB5 := Lib.hid (show W.heap.size ≤ w13.heap.size from T.out.bel.size)
  replace T := Lib.hid (T.out.step hb)
  replace B1 := Lib.hid (B1.out.step hb)
  replace B2 := Lib.hid (B2.out.step hb)
  replace B3 := Lib.hid (B3.out.step hb)
  replace B4 := Lib.hid (B4.out.step hb)
  replace V := Lib.hid (V.out.step hb)
  replace V9 := Lib.hid (V9.out.step hb)
  replace V11 := Lib.hid (V11.out.step hb)
  replace V13 := Lib.hid (V13.out.step hb)
  have B5 := Lib.hid (show Lk.Bl w14 w13.heap.size cs 29 from bN)
  clear bN hb
  have cB1_6 := B1.out.c 6 _ V.out.target
  go_wp2_with (first | ((with_reducible refine Lk.st w13.heap.size 6 [.string (S2.B (a.target ++ [120]))] (.string (S2.B (a.target ++ [120]))) B5.out ?_ ?_ ?_ ?_ ?_ ?_ ?_); exact Lk.infoS; exact rfl; (rw [V.out.len]; exact Nat.le_of_ble_eq_true rfl); (simp [Value.oneCell']); exact rfl; exact rfl) | fail)
  clear cB1_6
  intro w15 bN hb
  replace B1 := Lib.hid (B1.out.under hb LB1_B5.out)
  replace B2 := Lib.hid (B2.out.under hb LB2_B5.out)
  replace B3 := Lib.hid (B3.out.under hb LB3_B5.out)
  replace B4 := Lib.hid (B4.out.under hb LB4_B5.out)
  replace T := Lib.hid (T.out.under hb GB5.out)
  replace V := Lib.hid (V.out.under hb GV_B5.out)
  replace V9 := Lib.hid (V9.out.under hb GV9_B5.out)
  replace V11 := Lib.hid (V11.out.under hb GV11_B5.out)
  replace V13 := Lib.hid (V13.out.under hb GV13_B5.out)
  obtain ⟨cs15, hcs15⟩ : ∃ x : List Value, x = cs.take 6 ++ [.string (S2.B (a.target ++ [120]))] ++ cs.drop (6 + ([.string (S2.B (a.target ++ [120]))] : List Value).length) := ⟨_, rfl⟩
  have V15 := Lib.hid (show Av w15 W.heap.size cs15 { a with target := a.target ++ [120] } e s from by rw [hcs15]; exact V.out.put 6 [.string (S2.B (a.target ++ [120]))] rfl rfl (fun _ _ _ _ _ _ => rfl))
  replace B5 := Lib.hid (show Lk.Bl w15 w13.heap.size cs15 29 from by rw [hcs15]; exact bN)
  clear bN hb hcs15
  have GV15_B2 := GV_B2
  have GV15_B3 := GV_B3
  have GV15_B4 := GV_B4
  have GV15_B5 := GV_B5
  go_wp2_with (first | ((with_reducible refine Lk.nw cs V.out.len V.out.one ?_ ?_ ?_ ?_); exact rfl; exact rfl; exact rfl) | ((with_reducible refine Lk.ld (d := 163) W.heap.size B1.out V.out.len ?_ ?_ ?_); exact rfl; exact rfl) | fail)
  intro w16 bN hb
  have LB1_B6 := Lib.hid (show W.heap.size < w15.heap.size from B1.out.lt)
  have LB2_B6 := Lib.hid (show w7.heap.size < w15.heap.size from B2.out.lt)
  have LB3_B6 := Lib.hid (show w9.heap.size < w15.heap.size from B3.out.lt)
  have LB4_B6 := Lib.hid (show w11.heap.size < w15.heap.size from B4.out.lt)
  have LB5_B6 := Lib.hid (show w13.heap.size < w15.heap.size from B5.out.lt)
  have GV_B6 := Lib.hid (show W.heap.size ≤ w15.heap.size from V.out.le)
  have GV9_B6 := Lib.hid (show W.heap.size ≤ w15.heap.size from V9.out.le)
  have GV11_B6 := Lib.hid (show W.heap.size ≤ w15.heap.size from V11.out.le)
  have GV13_B6 := Lib.hid (show W.heap.size ≤ w15.heap.size from V13.out.le)
  have GV15_B6 := Lib.hid (show W.heap.size ≤ w15.heap.size from V15.out.le)
  have GB6 := Lib.hid (show W.heap.size ≤ w15.heap.size from T.out.bel.size)
  replace T := Lib.hid (T.out.step hb)
  replace B1 := Lib.hid (B1.out.step hb)
  replace B2 := Lib.hid (B2.out.step hb)
  replace B3 := Lib.hid (B3.out.step hb)
  replace B4 := Lib.hid (B4.out.step hb)
  replace B5 := Lib.hid (B5.out.step hb)
  replace V := Lib.hid (V.out.step hb)
  replace V9 := Lib.hid (V9.out.step hb)
  replace V11 := Lib.hid (V11.out.step hb)
  replace V13 := Lib.hid (V13.out.step hb)
  replace V15 := Lib.hid (V15.out.step hb)
  have B6 := Lib.hid (show Lk.Bl w16 w15.heap.size cs 29 from bN)
  clear bN hb
  have T0 := Lib.hid (show W.heap.size ≤ w16.heap.size from T.out.bel.size)
  have OW := Lib.hid (show OwnW (w16.alloc (.cells #[.int .i64 1, .int .i64 1, .string (S2.B []), .string (S2.B []), .string (S2.B [])] 50)) w16.heap.size (.slice (some ⟨w16.heap.size, 0, none⟩) 1 1) [⟨1, 1, bx0⟩] from OwnW.lit w16 [⟨1, 1, bx0⟩] (by decide))
  have SR := Lib.hid (show S2.Row (w16.alloc (.cells #[.int .i64 1, .int .i64 1, .string (S2.B []), .string (S2.B []), .string (S2.B [])] 50)) (w16.alloc (.cells #[.int .i64 1, .int .i64 1, .string (S2.B []), .string (S2.B []), .string (S2.B [])] 50)).heap.size Q (Ws a.wraps) from ((V.out.alloc (.cells #[.int .i64 1, .int .i64 1, .string (S2.B []), .string (S2.B []), .string (S2.B [])] 50)).wrAt H15.out).2.2.more (V.out.alloc (.cells #[.int .i64 1, .int .i64 1, .string (S2.B []), .string (S2.B []), .string (S2.B [])] 50)).le)
  have cB1_15 := (B1.out.alloc (.cells #[.int .i64 1, .int .i64 1, .string (S2.B []), .string (S2.B []), .string (S2.B [])] 50)).c 15 _ H15.out
  go_wp2_with (first | (at_builtin; refine wpList_appW rfl _ _ rfl OW.out SR.out rfl rfl HMQ.out HLQ.out ?_) | fail)
  clear cB1_15
  intro v1 w17 own1 hb1
  have hb : Below w16.heap.size w16 w17 := ((Below.refl _ _).alloc (Nat.le_refl _) (.cells #[.int .i64 1, .int .i64 1, .string (S2.B []), .string (S2.B []), .string (S2.B [])] 50)).trans hb1
  have LBQ := Lib.hid (show w15.heap.size < w16.heap.size from B6.out.lt)
  replace T := Lib.hid (T.out.step hb)
  replace B1 := Lib.hid (B1.out.step hb)
  replace B2 := Lib.hid (B2.out.step hb)
  replace B3 := Lib.hid (B3.out.step hb)
  replace B4 := Lib.hid (B4.out.step hb)
  replace B5 := Lib.hid (B5.out.step hb)
  replace B6 := Lib.hid (B6.out.step hb)
  replace V := Lib.hid (V.out.step hb)
  replace V9 := Lib.hid (V9.out.step hb)
  replace V11 := Lib.hid (V11.out.step hb)
  replace V13 := Lib.hid (V13.out.step hb)
  replace V15 := Lib.hid (V15.out.step hb)
  clear OW SR hb1 hb
  obtain ⟨AQ, nq, cq, rfl, hnq, hcq⟩ := own1.sl3
  have OQ := Lib.hid own1
  have HNQ := Lib.hid hnq
  have HCQ := Lib.hid hcq
  clear own1 hnq hcq
  go_wp2_with (first | ((with_reducible refine Lk.stX w15.heap.size 15 [.slice AQ nq cq] (.slice AQ nq cq) B6.out ?_ ?_ ?_ ?_ ?_ ?_ ?_); exact (show (Tryz.prog.info? 25).map (·.size) = some 1 by kernel_rfl); exact rfl; (rw [V.out.len]; exact Nat.le_of_ble_eq_true rfl); (simp [Value.oneCell']); exact rfl; exact rfl) | fail)
  intro w18 bN hb ho
  replace B1 := Lib.hid (B1.out.under hb LB1_B6.out)
  replace B2 := Lib.hid (B2.out.under hb LB2_B6.out)
  replace B3 := Lib.hid (B3.out.under hb LB3_B6.out)
  replace B4 := Lib.hid (B4.out.under hb LB4_B6.out)
  replace B5 := Lib.hid (B5.out.under hb LB5_B6.out)
  replace T := Lib.hid (T.out.under hb GB6.out)
  have RQ := row_only OQ.out.row ho OQ.out.addr LBQ.out
  have hbd : w17.heap.size ≤ w18.heap.size := hb.size
  replace V := Lib.hid (V.out.under hb GV_B6.out)
  replace V9 := Lib.hid (V9.out.under hb GV9_B6.out)
  replace V11 := Lib.hid (V11.out.under hb GV11_B6.out)
  replace V13 := Lib.hid (V13.out.under hb GV13_B6.out)
  replace V15 := Lib.hid (V15.out.under hb GV15_B6.out)
  have VF := Lib.hid (show Av w18 w17.heap.size (cs.take 15 ++ [.slice AQ nq cq] ++ cs.drop (15 + ([.slice AQ nq cq] : List Value).length)) { a with wraps := ⟨1, 1, bx0⟩ :: a.wraps } e s from V.out.putW RQ HNQ.out HCQ.out (Nat.le_trans T0.out OQ.out.le) hbd)
  obtain ⟨csF, hcsF⟩ : ∃ x : List Value, x = cs.take 15 ++ [.slice AQ nq cq] ++ cs.drop (15 + ([.slice AQ nq cq] : List Value).length) := ⟨_, rfl⟩
  rw [← hcsF] at VF bN
  replace B6 := Lib.hid bN
  clear bN hb ho hcsF RQ hbd OQ HNQ HCQ LBQ
  have cB1_7 := B1.out.c 7 _ V.out.scope
  have cB1_3 := B1.out.c 3 _ V.out.kind
  go_wp2_with (first | ((with_reducible refine Lk.ld (d := 206) w9.heap.size B3.out V11.out.len ?_ ?_ ?_); exact rfl; exact rfl) | fail)
  clear cB1_7 cB1_3
  refine (KC.out _ _ _ T.out.bel V11.out).mono ?_
  rintro e w19 ⟨rfl, hb⟩
  replace T := Lib.hid (T.out.step hb)
  replace B1 := Lib.hid (B1.out.step hb)
  replace B2 := Lib.hid (B2.out.step hb)
  replace B3 := Lib.hid (B3.out.step hb)
  replace B4 := Lib.hid (B4.out.step hb)
  replace B5 := Lib.hid (B5.out.step hb)
  replace B6 := Lib.hid (B6.out.step hb)
  replace V := Lib.hid (V.out.step hb)
  replace V9 := Lib.hid (V9.out.step hb)
  replace V11 := Lib.hid (V11.out.step hb)
  replace V13 := Lib.hid (V13.out.step hb)
  replace V15 := Lib.hid (V15.out.step hb)
  replace VF := Lib.hid (VF.out.step hb)
  clear hb
  go_wp2_with (first | ((with_reducible refine Lk.ld (d := 212) w11.heap.size B4.out V13.out.len ?_ ?_ ?_); exact rfl; exact rfl) | fail)
  refine (KD.out _ _ _ T.out.bel V13.out).mono ?_
  rintro e w20 ⟨rfl, hb⟩
  replace T := Lib.hid (T.out.step hb)
  replace B1 := Lib.hid (B1.out.step hb)
  replace B2 := Lib.hid (B2.out.step hb)
  replace B3 := Lib.hid (B3.out.step hb)
  replace B4 := Lib.hid (B4.out.step hb)
  replace B5 := Lib.hid (B5.out.step hb)
  replace B6 := Lib.hid (B6.out.step hb)
  replace V := Lib.hid (V.out.step hb)
  replace V9 := Lib.hid (V9.out.step hb)
  replace V11 := Lib.hid (V11.out.step hb)
  replace V13 := Lib.hid (V13.out.step hb)
  replace V15 := Lib.hid (V15.out.step hb)
  replace VF := Lib.hid (VF.out.step hb)
  clear hb
  go_wp2_with (first | ((with_reducible refine Lk.ld (d := 217) w13.heap.size B5.out V15.out.len ?_ ?_ ?_); exact rfl; exact rfl) | fail)
  refine (KE.out _ _ _ T.out.bel V15.out).mono ?_
  rintro e w21 ⟨rfl, hb⟩
  replace T := Lib.hid (T.out.step hb)
  replace B1 := Lib.hid (B1.out.step hb)
  replace B2 := Lib.hid (B2.out.step hb)
  replace B3 := Lib.hid (B3.out.step hb)
  replace B4 := Lib.hid (B4.out.step hb)
  replace B5 := Lib.hid (B5.out.step hb)
  replace B6 := Lib.hid (B6.out.step hb)
  replace V := Lib.hid (V.out.step hb)
  replace V9 := Lib.hid (V9.out.step hb)
  replace V11 := Lib.hid (V11.out.step hb)
  replace V13 := Lib.hid (V13.out.step hb)
  replace V15 := Lib.hid (V15.out.step hb)
  replace VF := Lib.hid (VF.out.step hb)
  clear hb
  go_wp2_with (first | ((with_reducible refine Lk.ld (d := 222) w15.heap.size B6.out VF.out.len ?_ ?_ ?_); exact rfl; exact rfl) | fail)
  refine (KH.out _ _ _ T.out.bel VF.out).mono ?_
  rintro e w22 ⟨rfl, hb⟩
  replace T := Lib.hid (T.out.step hb)
  replace B1 := Lib.hid (B1.out.step hb)
  replace B2 := Lib.hid (B2.out.step hb)
  replace B3 := Lib.hid (B3.out.step hb)
  replace B4 := Lib.hid (B4.out.step hb)
  replace B5 := Lib.hid (B5.out.step hb)
  replace B6 := Lib.hid (B6.out.step hb)
  replace V := Lib.hid (V.out.step hb)
  replace V9 := Lib.hid (V9.out.step hb)
  replace V11 := Lib.hid (V11.out.step hb)
  replace V13 := Lib.hid (V13.out.step hb)
  replace V15 := Lib.hid (V15.out.step hb)
  replace VF := Lib.hid (VF.out.step hb)
  clear hb
  go_wp2
  go_ret
  exact ⟨rfl, T.out.bel⟩
set_option maxHeartbeats 4000000 in
set_option maxRecDepth 100000 in
theorem fields_D {keyOk : Int → Int → Bool} {sgn : Int → Int → Str → Int × Int} {ver : Int → Str → Int → Int → Bool} {W : World} (P : Pk keyOk sgn ver W) (hsm : Ok W 9 #[] (.bool true))
    (a : Ac) (e s : Int) (cs : List Value) (A : Option Addr) (nA cA : Nat) (Q : Option Addr) (nQ cQ : Nat) (hv0 : Av W W.heap.size cs a e s) (h9 : cs[9]? = some (.slice A nA cA)) (h15 : cs[15]? = some (.slice Q nQ cQ)) (hz : Sz 281474976710656 140737488355328 a)
    (h : fewB a = true) (hv : valid a e s = true) (hpa : isId a.author = true) (hpt : ids a.to = true) (q1 : (a.seq == 0) = false) (q2 : (a.kind == 0) = false) (q3 : (a.prev == []) = false) (q4 : 0 < a.seq) (q5 : (a.prev.length : Int) = 32) (q6 : ¬ 7 ≤ a.kind) (q8 : posting a.kind = false) (q9 : (a.scope == 0) = true) (q16 : (a.kind == 16) = false) (q17 : (a.kind == 19) = false) (q18 : (a.kind == 18) = false) (q19 : a.wraps = []) (nb : good { a with epoch := a.epoch + 1 } = false) (nc : good { a with m := a.m - 1 } = false) :
    Calls Tryz.prog 7 #[.agg cs.toArray] W fun x w' => x = .returned (.bool true) ∧ Below W.heap.size W w' := by
  have KS := Lib.hid hsm
  have T := Lib.hid (Lk.At.start W)
  have V := Lib.hid hv0
  have H9 := Lib.hid h9
  have H15 := Lib.hid h15
  have KFa := fun (w : World) (b0 : Nat) (c0 : List Value) (hb : Below W.heap.size W w) (h0 : Av w b0 c0 a e s) => fewC h0 hz
  rw [h] at KFa
  replace KFa := Lib.hid KFa
  have h6 := few_sz6 h
  have KRa := fun (w : World) (b0 : Nat) (c0 : List Value) (hb : Below W.heap.size W w) (h0 : Av w b0 c0 a e s) => P.rightC hb h0 h6
  rw [hv] at KRa
  replace KRa := Lib.hid KRa
  have hl := lim_of (valid_good hv)
  have hE0 : 0 ≤ a.epoch := by have := hl.epoch; simp only [epOk, Bool.and_eq_true, decide_eq_true_eq] at this; exact this.1
  have hE1 : a.epoch ≤ 1073741824 := by have := hl.epoch; simp only [epOk, Bool.and_eq_true, decide_eq_true_eq] at this; exact this.2
  have hM0 : 0 ≤ a.m := hl.m.1
  have hM1 : a.m < 2305843009213693951 := hl.m.2
  have hO1 : (a.object.length : Int) ≤ 32 := by have := hl.object; omega
  have hG1 : (a.target.length : Int) ≤ 32 := by have := hl.target; omega
  have KI := P.idR a.author h6.author
  rw [hpa] at KI
  replace KI := Lib.hid KI
  have KT := fun (w : World) (bd : Nat) (hb : Below W.heap.size W w) (h0 : Av w bd cs a e s) => P.idsR A a.to nA cA w hb (h0.toAt h9).1 ((h0.toAt h9).2.2.more h0.le) (by rw [(h0.toAt h9).1]; exact h6.to) h6.tos
  rw [hpt] at KT
  replace KT := Lib.hid KT
  have KP := P.posting a.kind
  rw [q8] at KP
  replace KP := Lib.hid KP
  have ND := more_object (valid_good hv) 120
  have NE := more_target (valid_good hv) 120
  have NF : good { a with wraps := ⟨1, 1, bx0⟩ :: a.wraps } = false := more_wraps
  have szD : Sz 1000000 1000000 { a with object := a.object ++ [120] } := ⟨h6.author, h6.prev, by show (a.object ++ [120]).length ≤ 1000000; simp; omega, h6.target, h6.group, h6.text, h6.nonce, h6.data, h6.tag, h6.to, h6.tos, h6.wraps, h6.boxes⟩
  have szE : Sz 1000000 1000000 { a with target := a.target ++ [120] } := ⟨h6.author, h6.prev, h6.object, by show (a.target ++ [120]).length ≤ 1000000; simp; omega, h6.group, h6.text, h6.nonce, h6.data, h6.tag, h6.to, h6.tos, h6.wraps, h6.boxes⟩
  have szF : Sz 1000000 1000000 { a with wraps := ⟨1, 1, bx0⟩ :: a.wraps } := ⟨h6.author, h6.prev, h6.object, h6.target, h6.group, h6.text, h6.nonce, h6.data, h6.tag, h6.to, h6.tos, by show a.wraps.length + 1 ≤ 1000000; have := hl.wraps.2; omega, fun w hw => by
    rcases List.mem_cons.1 hw with rfl | hw
    · simp [bx0]
    · exact h6.boxes w hw⟩
  have KD := fun (w : World) (b0 : Nat) (c0 : List Value) (hb : Below W.heap.size W w) (h0 : Av w b0 c0 { a with object := a.object ++ [120] } e s) => P.rightC hb h0 szD
  rw [show valid { a with object := a.object ++ [120] } e s = false by unfold valid; rw [ND, Bool.and_false]] at KD
  replace KD := Lib.hid KD
  have KE := fun (w : World) (b0 : Nat) (c0 : List Value) (hb : Below W.heap.size W w) (h0 : Av w b0 c0 { a with target := a.target ++ [120] } e s) => P.rightC hb h0 szE
  rw [show valid { a with target := a.target ++ [120] } e s = false by unfold valid; rw [NE, Bool.and_false]] at KE
  replace KE := Lib.hid KE
  have KH := fun (w : World) (b0 : Nat) (c0 : List Value) (hb : Below W.heap.size W w) (h0 : Av w b0 c0 { a with wraps := ⟨1, 1, bx0⟩ :: a.wraps } e s) => P.rightC hb h0 szF
  rw [show valid { a with wraps := ⟨1, 1, bx0⟩ :: a.wraps } e s = false by unfold valid; rw [NF, Bool.and_false]] at KH
  replace KH := Lib.hid KH
  have KB := fun (w : World) (b0 : Nat) (c0 : List Value) (hb : Below W.heap.size W w) (h0 : Av w b0 c0 { a with epoch := a.epoch + 1 } e s) => P.rightC hb h0 ⟨h6.author, h6.prev, h6.object, h6.target, h6.group, h6.text, h6.nonce, h6.data, h6.tag, h6.to, h6.tos, h6.wraps, h6.boxes⟩
  rw [show valid { a with epoch := a.epoch + 1 } e s = false by unfold valid; rw [nb, Bool.and_false]] at KB
  replace KB := Lib.hid KB
  have KC := fun (w : World) (b0 : Nat) (c0 : List Value) (hb : Below W.heap.size W w) (h0 : Av w b0 c0 { a with m := a.m - 1 } e s) => P.rightC hb h0 ⟨h6.author, h6.prev, h6.object, h6.target, h6.group, h6.text, h6.nonce, h6.data, h6.tag, h6.to, h6.tos, h6.wraps, h6.boxes⟩
  rw [show valid { a with m := a.m - 1 } e s = false by unfold valid; rw [nc, Bool.and_false]] at KC
  replace KC := Lib.hid KC
  have hnQ := (V.out.wrAt h15).1
  have hnA := (V.out.toAt h9).1
  have HLQ := Lib.hid (show ([⟨1, 1, bx0⟩] : List Wr).length + a.wraps.length ≤ 100000 by have := hl.wraps.2; simp; omega)
  obtain rfl : nQ = 0 := by rw [hnQ, q19]; rfl
  have HMQ := Lib.hid hnQ
  clear P hsm hv0 h9 h15 hz h hv hpa hpt h6 hl ND NE NF szD szE szF hnQ hnA q8 q19 nb nc
  have q9a : (a.scope != 0) = false := by rw [bne, q9]; rfl
  have q9b : decide (a.scope = 0) = true := by rw [← q9]; rfl
  go_enter Tryz.func7, Tryz.ntmps7
  go_wp2_with (first | fail)
  replace T := Lib.hid (T.out.alloc (.cells cs.toArray 29))
  replace V := Lib.hid (V.out.alloc (.cells cs.toArray 29))
  have B1 := Lib.hid (show Lk.Bl (W.alloc (.cells cs.toArray 29)) W.heap.size cs 29 from by have h := Lk.Bl.new W cs 29; simpa using h)
  generalize W.alloc (.cells cs.toArray 29) = w1 at *
  refine (KS.out _ T.out.bel).mono ?_
  rintro e w2 ⟨rfl, hb⟩
  replace T := Lib.hid (T.out.step hb)
  replace B1 := Lib.hid (B1.out.step hb)
  replace V := Lib.hid (V.out.step hb)
  clear hb
  go_wp2_with (first | ((with_reducible refine Lk.ld (d := 14) W.heap.size B1.out V.out.len ?_ ?_ ?_); exact rfl; exact rfl) | fail)
  refine (KFa.out _ _ _ T.out.bel V.out).mono ?_
  rintro e w3 ⟨rfl, hb⟩
  replace T := Lib.hid (T.out.step hb)
  replace B1 := Lib.hid (B1.out.step hb)
  replace V := Lib.hid (V.out.step hb)
  clear hb
  go_wp2_with (first | ((with_reducible refine Lk.ld (d := 18) W.heap.size B1.out V.out.len ?_ ?_ ?_); exact rfl; exact rfl) | fail)
  refine (KRa.out _ _ _ T.out.bel V.out).mono ?_
  rintro e w4 ⟨rfl, hb⟩
  replace T := Lib.hid (T.out.step hb)
  replace B1 := Lib.hid (B1.out.step hb)
  replace V := Lib.hid (V.out.step hb)
  clear hb
  have cB1_0 := B1.out.c 0 _ V.out.author
  go_wp2_with (first | fail)
  clear cB1_0
  refine (KI.out _ T.out.bel).mono ?_
  rintro e w5 ⟨rfl, hb⟩
  replace T := Lib.hid (T.out.step hb)
  replace B1 := Lib.hid (B1.out.step hb)
  replace V := Lib.hid (V.out.step hb)
  clear hb
  have cB1_9 := B1.out.c 9 _ H9.out
  go_wp2_with (first | fail)
  clear cB1_9
  refine (KT.out _ _ T.out.bel V.out).mono ?_
  rintro e w6 ⟨rfl, hb⟩
  replace T := Lib.hid (T.out.step hb)
  replace B1 := Lib.hid (B1.out.step hb)
  replace V := Lib.hid (V.out.step hb)
  clear hb
  have cB1_1 := B1.out.c 1 _ V.out.seq
  have cB1_3 := B1.out.c 3 _ V.out.kind
  have cB1_2 := B1.out.c 2 _ V.out.prev
  go_wp2_with (first | fail)
  clear cB1_1 cB1_3 cB1_2
  refine (KP.out _ T.out.bel).mono ?_
  rintro e w7 ⟨rfl, hb⟩
  replace T := Lib.hid (T.out.step hb)
  replace B1 := Lib.hid (B1.out.step hb)
  replace V := Lib.hid (V.out.step hb)
  clear hb
  have cB1_3 := B1.out.c 3 _ V.out.kind
  have cB1_15 := B1.out.c 15 _ H15.out
  go_wp2_with (first | ((with_reducible refine Lk.nw cs V.out.len V.out.one ?_ ?_ ?_ ?_); exact rfl; exact rfl; exact rfl) | ((with_reducible refine Lk.ld (d := 143) W.heap.size B1.out V.out.len ?_ ?_ ?_); exact rfl; exact rfl) | fail)
  clear cB1_3 cB1_15
  intro w8 bN hb
  have LB1_B2 := Lib.hid (show W.heap.size < w7.heap.size from B1.out.lt)
  have GV_B2 := Lib.hid (show W.heap.size ≤ w7.heap.size from V.out.le)
  have GB2 := Lib.hid (show W.heap.size ≤ w7.heap.size from T.out.bel.size)
  replace T := Lib.hid (T.out.step hb)
  replace B1 := Lib.hid (B1.out.step hb)
  replace V := Lib.hid (V.out.step hb)
  have B2 := Lib.hid (show Lk.Bl w8 w7.heap.size cs 29 from bN)
  clear bN hb
  have cB1_14 := B1.out.c 14 _ V.out.epoch
  go_wp2_with (first | ((with_reducible refine Lk.st w7.heap.size 14 [.int .i64 (a.epoch + 1)] (.int .i64 (a.epoch + 1)) B2.out ?_ ?_ ?_ ?_ ?_ ?_ ?_); exact Lk.infoI; exact rfl; (rw [V.out.len]; exact Nat.le_of_ble_eq_true rfl); (simp [Value.oneCell']); exact rfl; exact rfl) | fail)
  clear cB1_14
  intro w9 bN hb
  replace B1 := Lib.hid (B1.out.under hb LB1_B2.out)
  replace T := Lib.hid (T.out.under hb GB2.out)
  replace V := Lib.hid (V.out.under hb GV_B2.out)
  obtain ⟨cs9, hcs9⟩ : ∃ x : List Value, x = cs.take 14 ++ [.int .i64 (a.epoch + 1)] ++ cs.drop (14 + ([.int .i64 (a.epoch + 1)] : List Value).length) := ⟨_, rfl⟩
  have V9 := Lib.hid (show Av w9 W.heap.size cs9 { a with epoch := a.epoch + 1 } e s from by rw [hcs9]; exact V.out.put 14 [.int .i64 (a.epoch + 1)] rfl rfl (fun _ _ _ _ _ _ => rfl))
  replace B2 := Lib.hid (show Lk.Bl w9 w7.heap.size cs9 29 from by rw [hcs9]; exact bN)
  clear bN hb hcs9
  have GV9_B2 := GV_B2
  go_wp2_with (first | ((with_reducible refine Lk.nw cs V.out.len V.out.one ?_ ?_ ?_ ?_); exact rfl; exact rfl; exact rfl) | ((with_reducible refine Lk.ld (d := 148) W.heap.size B1.out V.out.len ?_ ?_ ?_); exact rfl; exact rfl) | fail)
  intro w10 bN hb
  have LB1_B3 := Lib.hid (show W.heap.size < w9.heap.size from B1.out.lt)
  have LB2_B3 := Lib.hid (show w7.heap.size < w9.heap.size from B2.out.lt)
  have GV_B3 := Lib.hid (show W.heap.size ≤ w9.heap.size from V.out.le)
  have GV9_B3 := Lib.hid (show W.heap.size ≤ w9.heap.size from V9.out.le)
  have GB3 := Lib.hid (show W.heap.size ≤ w9.heap.size from T.out.bel.size)
  replace T := Lib.hid (T.out.step hb)
  replace B1 := Lib.hid (B1.out.step hb)
  replace B2 := Lib.hid (B2.out.step hb)
  replace V := Lib.hid (V.out.step hb)
  replace V9 := Lib.hid (V9.out.step hb)
  have B3 := Lib.hid (show Lk.Bl w10 w9.heap.size cs 29 from bN)
  clear bN hb
  have cB1_17 := B1.out.c 17 _ V.out.m
  go_wp2_with (first | ((with_reducible refine Lk.st w9.heap.size 17 [.int .i64 (a.m - 1)] (.int .i64 (a.m - 1)) B3.out ?_ ?_ ?_ ?_ ?_ ?_ ?_); exact Lk.infoI; exact rfl; (rw [V.out.len]; exact Nat.le_of_ble_eq_true rfl); (simp [Value.oneCell']); exact rfl; exact rfl) | fail)
  clear cB1_17
  intro w11 bN hb
  replace B1 := Lib.hid (B1.out.under hb LB1_B3.out)
  replace B2 := Lib.hid (B2.out.under hb LB2_B3.out)
  replace T := Lib.hid (T.out.under hb GB3.out)
  replace V := Lib.hid (V.out.under hb GV_B3.out)
  replace V9 := Lib.hid (V9.out.under hb GV9_B3.out)
  obtain ⟨cs11, hcs11⟩ : ∃ x : List Value, x = cs.take 17 ++ [.int .i64 (a.m - 1)] ++ cs.drop (17 + ([.int .i64 (a.m - 1)] : List Value).length) := ⟨_, rfl⟩
  have V11 := Lib.hid (show Av w11 W.heap.size cs11 { a with m := a.m - 1 } e s from by rw [hcs11]; exact V.out.put 17 [.int .i64 (a.m - 1)] rfl rfl (fun _ _ _ _ _ _ => rfl))
  replace B3 := Lib.hid (show Lk.Bl w11 w9.heap.size cs11 29 from by rw [hcs11]; exact bN)
  clear bN hb hcs11
  have GV11_B2 := GV_B2
  have GV11_B3 := GV_B3
  go_wp2_with (first | ((with_reducible refine Lk.nw cs V.out.len V.out.one ?_ ?_ ?_ ?_); exact rfl; exact rfl; exact rfl) | ((with_reducible refine Lk.ld (d := 153) W.heap.size B1.out V.out.len ?_ ?_ ?_); exact rfl; exact rfl) | fail)
  intro w12 bN hb
  have LB1_B4 := Lib.hid (show W.heap.size < w11.heap.size from B1.out.lt)
  have LB2_B4 := Lib.hid (show w7.heap.size < w11.heap.size from B2.out.lt)
  have LB3_B4 := Lib.hid (show w9.heap.size < w11.heap.size from B3.out.lt)
  have GV_B4 := Lib.hid (show W.heap.size ≤ w11.heap.size from V.out.le)
  have GV9_B4 := Lib.hid (show W.heap.size ≤ w11.heap.size from V9.out.le)
  have GV11_B4 := Lib.hid (show W.heap.size ≤ w11.heap.size from V11.out.le)
  have GB4 := Lib.hid (show W.heap.size ≤ w11.heap.size from T.out.bel.size)
  replace T := Lib.hid (T.out.step hb)
  replace B1 := Lib.hid (B1.out.step hb)
  replace B2 := Lib.hid (B2.out.step hb)
  replace B3 := Lib.hid (B3.out.step hb)
  replace V := Lib.hid (V.out.step hb)
  replace V9 := Lib.hid (V9.out.step hb)
  replace V11 := Lib.hid (V11.out.step hb)
  have B4 := Lib.hid (show Lk.Bl w12 w11.heap.size cs 29 from bN)
  clear bN hb
  have cB1_5 := B1.out.c 5 _ V.out.object
  go_wp2_with (first | ((with_reducible refine Lk.st w11.heap.size 5 [.string (S2.B (a.object ++ [120]))] (.string (S2.B (a.object ++ [120]))) B4.out ?_ ?_ ?_ ?_ ?_ ?_ ?_); exact Lk.infoS; exact rfl; (rw [V.out.len]; exact Nat.le_of_ble_eq_true rfl); (simp [Value.oneCell']); exact rfl; exact rfl) | fail)
  clear cB1_5
  intro w13 bN hb
  replace B1 := Lib.hid (B1.out.under hb LB1_B4.out)
  replace B2 := Lib.hid (B2.out.under hb LB2_B4.out)
  replace B3 := Lib.hid (B3.out.under hb LB3_B4.out)
  replace T := Lib.hid (T.out.under hb GB4.out)
  replace V := Lib.hid (V.out.under hb GV_B4.out)
  replace V9 := Lib.hid (V9.out.under hb GV9_B4.out)
  replace V11 := Lib.hid (V11.out.under hb GV11_B4.out)
  obtain ⟨cs13, hcs13⟩ : ∃ x : List Value, x = cs.take 5 ++ [.string (S2.B (a.object ++ [120]))] ++ cs.drop (5 + ([.string (S2.B (a.object ++ [120]))] : List Value).length) := ⟨_, rfl⟩
  have V13 := Lib.hid (show Av w13 W.heap.size cs13 { a with object := a.object ++ [120] } e s from by rw [hcs13]; exact V.out.put 5 [.string (S2.B (a.object ++ [120]))] rfl rfl (fun _ _ _ _ _ _ => rfl))
  replace B4 := Lib.hid (show Lk.Bl w13 w11.heap.size cs13 29 from by rw [hcs13]; exact bN)
  clear bN hb hcs13
  have GV13_B2 := GV_B2
  have GV13_B3 := GV_B3
  have GV13_B4 := GV_B4
  go_wp2_with (first | ((with_reducible refine Lk.nw cs V.out.len V.out.one ?_ ?_ ?_ ?_); exact rfl; exact rfl; exact rfl) | ((with_reducible refine Lk.ld (d := 158) W.heap.size B1.out V.out.len ?_ ?_ ?_); exact rfl; exact rfl) | fail)
  intro w14 bN hb
  have LB1_B5 := Lib.hid (show W.heap.size < w13.heap.size from B1.out.lt)
  have LB2_B5 := Lib.hid (show w7.heap.size < w13.heap.size from B2.out.lt)
  have LB3_B5 := Lib.hid (show w9.heap.size < w13.heap.size from B3.out.lt)
  have LB4_B5 := Lib.hid (show w11.heap.size < w13.heap.size from B4.out.lt)
  have GV_B5 := Lib.hid (show W.heap.size ≤ w13.heap.size from V.out.le)
  have GV9_B5 := Lib.hid (show W.heap.size ≤ w13.heap.size from V9.out.le)
  have GV11_B5 := Lib.hid (show W.heap.size ≤ w13.heap.size from V11.out.le)
  have GV13_B5 := Lib.hid (show W.heap.size ≤ w13.heap.size from V13.out.le)
  have GB5 := Lib.hid (show W.heap.size ≤ w13.heap.size from T.out.bel.size)
  replace T := Lib.hid (T.out.step hb)
  replace B1 := Lib.hid (B1.out.step hb)
  replace B2 := Lib.hid (B2.out.step hb)
  replace B3 := Lib.hid (B3.out.step hb)
  replace B4 := Lib.hid (B4.out.step hb)
  replace V := Lib.hid (V.out.step hb)
  replace V9 := Lib.hid (V9.out.step hb)
  replace V11 := Lib.hid (V11.out.step hb)
  replace V13 := Lib.hid (V13.out.step hb)
  have B5 := Lib.hid (show Lk.Bl w14 w13.heap.size cs 29 from bN)
  clear bN hb
  have cB1_6 := B1.out.c 6 _ V.out.target
  go_wp2_with (first | ((with_reducible refine Lk.st w13.heap.size 6 [.string (S2.B (a.target ++ [120]))] (.string (S2.B (a.target ++ [120]))) B5.out ?_ ?_ ?_ ?_ ?_ ?_ ?_); exact Lk.infoS; exact rfl; (rw [V.out.len]; exact Nat.le_of_ble_eq_true rfl); (simp [Value.oneCell']); exact rfl; exact rfl) | fail)
  clear cB1_6
  intro w15 bN hb
  replace B1 := Lib.hid (B1.out.under hb LB1_B5.out)
  replace B2 := Lib.hid (B2.out.under hb LB2_B5.out)
  replace B3 := Lib.hid (B3.out.under hb LB3_B5.out)
  replace B4 := Lib.hid (B4.out.under hb LB4_B5.out)
  replace T := Lib.hid (T.out.under hb GB5.out)
  replace V := Lib.hid (V.out.under hb GV_B5.out)
  replace V9 := Lib.hid (V9.out.under hb GV9_B5.out)
  replace V11 := Lib.hid (V11.out.under hb GV11_B5.out)
  replace V13 := Lib.hid (V13.out.under hb GV13_B5.out)
  obtain ⟨cs15, hcs15⟩ : ∃ x : List Value, x = cs.take 6 ++ [.string (S2.B (a.target ++ [120]))] ++ cs.drop (6 + ([.string (S2.B (a.target ++ [120]))] : List Value).length) := ⟨_, rfl⟩
  have V15 := Lib.hid (show Av w15 W.heap.size cs15 { a with target := a.target ++ [120] } e s from by rw [hcs15]; exact V.out.put 6 [.string (S2.B (a.target ++ [120]))] rfl rfl (fun _ _ _ _ _ _ => rfl))
  replace B5 := Lib.hid (show Lk.Bl w15 w13.heap.size cs15 29 from by rw [hcs15]; exact bN)
  clear bN hb hcs15
  have GV15_B2 := GV_B2
  have GV15_B3 := GV_B3
  have GV15_B4 := GV_B4
  have GV15_B5 := GV_B5
  go_wp2_with (first | ((with_reducible refine Lk.nw cs V.out.len V.out.one ?_ ?_ ?_ ?_); exact rfl; exact rfl; exact rfl) | ((with_reducible refine Lk.ld (d := 163) W.heap.size B1.out V.out.len ?_ ?_ ?_); exact rfl; exact rfl) | fail)
  intro w16 bN hb
  have LB1_B6 := Lib.hid (show W.heap.size < w15.heap.size from B1.out.lt)
  have LB2_B6 := Lib.hid (show w7.heap.size < w15.heap.size from B2.out.lt)
  have LB3_B6 := Lib.hid (show w9.heap.size < w15.heap.size from B3.out.lt)
  have LB4_B6 := Lib.hid (show w11.heap.size < w15.heap.size from B4.out.lt)
  have LB5_B6 := Lib.hid (show w13.heap.size < w15.heap.size from B5.out.lt)
  have GV_B6 := Lib.hid (show W.heap.size ≤ w15.heap.size from V.out.le)
  have GV9_B6 := Lib.hid (show W.heap.size ≤ w15.heap.size from V9.out.le)
  have GV11_B6 := Lib.hid (show W.heap.size ≤ w15.heap.size from V11.out.le)
  have GV13_B6 := Lib.hid (show W.heap.size ≤ w15.heap.size from V13.out.le)
  have GV15_B6 := Lib.hid (show W.heap.size ≤ w15.heap.size from V15.out.le)
  have GB6 := Lib.hid (show W.heap.size ≤ w15.heap.size from T.out.bel.size)
  replace T := Lib.hid (T.out.step hb)
  replace B1 := Lib.hid (B1.out.step hb)
  replace B2 := Lib.hid (B2.out.step hb)
  replace B3 := Lib.hid (B3.out.step hb)
  replace B4 := Lib.hid (B4.out.step hb)
  replace B5 := Lib.hid (B5.out.step hb)
  replace V := Lib.hid (V.out.step hb)
  replace V9 := Lib.hid (V9.out.step hb)
  replace V11 := Lib.hid (V11.out.step hb)
  replace V13 := Lib.hid (V13.out.step hb)
  replace V15 := Lib.hid (V15.out.step hb)
  have B6 := Lib.hid (show Lk.Bl w16 w15.heap.size cs 29 from bN)
  clear bN hb
  have T0 := Lib.hid (show W.heap.size ≤ w16.heap.size from T.out.bel.size)
  have OW := Lib.hid (show OwnW (w16.alloc (.cells #[.int .i64 1, .int .i64 1, .string (S2.B []), .string (S2.B []), .string (S2.B [])] 50)) w16.heap.size (.slice (some ⟨w16.heap.size, 0, none⟩) 1 1) [⟨1, 1, bx0⟩] from OwnW.lit w16 [⟨1, 1, bx0⟩] (by decide))
  have SR := Lib.hid (show S2.Row (w16.alloc (.cells #[.int .i64 1, .int .i64 1, .string (S2.B []), .string (S2.B []), .string (S2.B [])] 50)) (w16.alloc (.cells #[.int .i64 1, .int .i64 1, .string (S2.B []), .string (S2.B []), .string (S2.B [])] 50)).heap.size Q (Ws a.wraps) from ((V.out.alloc (.cells #[.int .i64 1, .int .i64 1, .string (S2.B []), .string (S2.B []), .string (S2.B [])] 50)).wrAt H15.out).2.2.more (V.out.alloc (.cells #[.int .i64 1, .int .i64 1, .string (S2.B []), .string (S2.B []), .string (S2.B [])] 50)).le)
  have cB1_15 := (B1.out.alloc (.cells #[.int .i64 1, .int .i64 1, .string (S2.B []), .string (S2.B []), .string (S2.B [])] 50)).c 15 _ H15.out
  go_wp2_with (first | (at_builtin; refine wpList_appW rfl _ _ rfl OW.out SR.out rfl rfl HMQ.out HLQ.out ?_) | fail)
  clear cB1_15
  intro v1 w17 own1 hb1
  have hb : Below w16.heap.size w16 w17 := ((Below.refl _ _).alloc (Nat.le_refl _) (.cells #[.int .i64 1, .int .i64 1, .string (S2.B []), .string (S2.B []), .string (S2.B [])] 50)).trans hb1
  have LBQ := Lib.hid (show w15.heap.size < w16.heap.size from B6.out.lt)
  replace T := Lib.hid (T.out.step hb)
  replace B1 := Lib.hid (B1.out.step hb)
  replace B2 := Lib.hid (B2.out.step hb)
  replace B3 := Lib.hid (B3.out.step hb)
  replace B4 := Lib.hid (B4.out.step hb)
  replace B5 := Lib.hid (B5.out.step hb)
  replace B6 := Lib.hid (B6.out.step hb)
  replace V := Lib.hid (V.out.step hb)
  replace V9 := Lib.hid (V9.out.step hb)
  replace V11 := Lib.hid (V11.out.step hb)
  replace V13 := Lib.hid (V13.out.step hb)
  replace V15 := Lib.hid (V15.out.step hb)
  clear OW SR hb1 hb
  obtain ⟨AQ, nq, cq, rfl, hnq, hcq⟩ := own1.sl3
  have OQ := Lib.hid own1
  have HNQ := Lib.hid hnq
  have HCQ := Lib.hid hcq
  clear own1 hnq hcq
  go_wp2_with (first | ((with_reducible refine Lk.stX w15.heap.size 15 [.slice AQ nq cq] (.slice AQ nq cq) B6.out ?_ ?_ ?_ ?_ ?_ ?_ ?_); exact (show (Tryz.prog.info? 25).map (·.size) = some 1 by kernel_rfl); exact rfl; (rw [V.out.len]; exact Nat.le_of_ble_eq_true rfl); (simp [Value.oneCell']); exact rfl; exact rfl) | fail)
  intro w18 bN hb ho
  replace B1 := Lib.hid (B1.out.under hb LB1_B6.out)
  replace B2 := Lib.hid (B2.out.under hb LB2_B6.out)
  replace B3 := Lib.hid (B3.out.under hb LB3_B6.out)
  replace B4 := Lib.hid (B4.out.under hb LB4_B6.out)
  replace B5 := Lib.hid (B5.out.under hb LB5_B6.out)
  replace T := Lib.hid (T.out.under hb GB6.out)
  have RQ := row_only OQ.out.row ho OQ.out.addr LBQ.out
  have hbd : w17.heap.size ≤ w18.heap.size := hb.size
  replace V := Lib.hid (V.out.under hb GV_B6.out)
  replace V9 := Lib.hid (V9.out.under hb GV9_B6.out)
  replace V11 := Lib.hid (V11.out.under hb GV11_B6.out)
  replace V13 := Lib.hid (V13.out.under hb GV13_B6.out)
  replace V15 := Lib.hid (V15.out.under hb GV15_B6.out)
  have VF := Lib.hid (show Av w18 w17.heap.size (cs.take 15 ++ [.slice AQ nq cq] ++ cs.drop (15 + ([.slice AQ nq cq] : List Value).length)) { a with wraps := ⟨1, 1, bx0⟩ :: a.wraps } e s from V.out.putW RQ HNQ.out HCQ.out (Nat.le_trans T0.out OQ.out.le) hbd)
  obtain ⟨csF, hcsF⟩ : ∃ x : List Value, x = cs.take 15 ++ [.slice AQ nq cq] ++ cs.drop (15 + ([.slice AQ nq cq] : List Value).length) := ⟨_, rfl⟩
  rw [← hcsF] at VF bN
  replace B6 := Lib.hid bN
  clear bN hb ho hcsF RQ hbd OQ HNQ HCQ LBQ
  have cB1_7 := B1.out.c 7 _ V.out.scope
  have cB1_3 := B1.out.c 3 _ V.out.kind
  go_wp2_with (first | ((with_reducible refine Lk.ld (d := 198) w7.heap.size B2.out V9.out.len ?_ ?_ ?_); exact rfl; exact rfl) | fail)
  clear cB1_7 cB1_3
  refine (KB.out _ _ _ T.out.bel V9.out).mono ?_
  rintro e w19 ⟨rfl, hb⟩
  replace T := Lib.hid (T.out.step hb)
  replace B1 := Lib.hid (B1.out.step hb)
  replace B2 := Lib.hid (B2.out.step hb)
  replace B3 := Lib.hid (B3.out.step hb)
  replace B4 := Lib.hid (B4.out.step hb)
  replace B5 := Lib.hid (B5.out.step hb)
  replace B6 := Lib.hid (B6.out.step hb)
  replace V := Lib.hid (V.out.step hb)
  replace V9 := Lib.hid (V9.out.step hb)
  replace V11 := Lib.hid (V11.out.step hb)
  replace V13 := Lib.hid (V13.out.step hb)
  replace V15 := Lib.hid (V15.out.step hb)
  replace VF := Lib.hid (VF.out.step hb)
  clear hb
  go_wp2_with (first | ((with_reducible refine Lk.ld (d := 206) w9.heap.size B3.out V11.out.len ?_ ?_ ?_); exact rfl; exact rfl) | fail)
  refine (KC.out _ _ _ T.out.bel V11.out).mono ?_
  rintro e w20 ⟨rfl, hb⟩
  replace T := Lib.hid (T.out.step hb)
  replace B1 := Lib.hid (B1.out.step hb)
  replace B2 := Lib.hid (B2.out.step hb)
  replace B3 := Lib.hid (B3.out.step hb)
  replace B4 := Lib.hid (B4.out.step hb)
  replace B5 := Lib.hid (B5.out.step hb)
  replace B6 := Lib.hid (B6.out.step hb)
  replace V := Lib.hid (V.out.step hb)
  replace V9 := Lib.hid (V9.out.step hb)
  replace V11 := Lib.hid (V11.out.step hb)
  replace V13 := Lib.hid (V13.out.step hb)
  replace V15 := Lib.hid (V15.out.step hb)
  replace VF := Lib.hid (VF.out.step hb)
  clear hb
  go_wp2_with (first | ((with_reducible refine Lk.ld (d := 212) w11.heap.size B4.out V13.out.len ?_ ?_ ?_); exact rfl; exact rfl) | fail)
  refine (KD.out _ _ _ T.out.bel V13.out).mono ?_
  rintro e w21 ⟨rfl, hb⟩
  replace T := Lib.hid (T.out.step hb)
  replace B1 := Lib.hid (B1.out.step hb)
  replace B2 := Lib.hid (B2.out.step hb)
  replace B3 := Lib.hid (B3.out.step hb)
  replace B4 := Lib.hid (B4.out.step hb)
  replace B5 := Lib.hid (B5.out.step hb)
  replace B6 := Lib.hid (B6.out.step hb)
  replace V := Lib.hid (V.out.step hb)
  replace V9 := Lib.hid (V9.out.step hb)
  replace V11 := Lib.hid (V11.out.step hb)
  replace V13 := Lib.hid (V13.out.step hb)
  replace V15 := Lib.hid (V15.out.step hb)
  replace VF := Lib.hid (VF.out.step hb)
  clear hb
  go_wp2_with (first | ((with_reducible refine Lk.ld (d := 217) w13.heap.size B5.out V15.out.len ?_ ?_ ?_); exact rfl; exact rfl) | fail)
  refine (KE.out _ _ _ T.out.bel V15.out).mono ?_
  rintro e w22 ⟨rfl, hb⟩
  replace T := Lib.hid (T.out.step hb)
  replace B1 := Lib.hid (B1.out.step hb)
  replace B2 := Lib.hid (B2.out.step hb)
  replace B3 := Lib.hid (B3.out.step hb)
  replace B4 := Lib.hid (B4.out.step hb)
  replace B5 := Lib.hid (B5.out.step hb)
  replace B6 := Lib.hid (B6.out.step hb)
  replace V := Lib.hid (V.out.step hb)
  replace V9 := Lib.hid (V9.out.step hb)
  replace V11 := Lib.hid (V11.out.step hb)
  replace V13 := Lib.hid (V13.out.step hb)
  replace V15 := Lib.hid (V15.out.step hb)
  replace VF := Lib.hid (VF.out.step hb)
  clear hb
  go_wp2_with (first | ((with_reducible refine Lk.ld (d := 222) w15.heap.size B6.out VF.out.len ?_ ?_ ?_); exact rfl; exact rfl) | fail)
  refine (KH.out _ _ _ T.out.bel VF.out).mono ?_
  rintro e w23 ⟨rfl, hb⟩
  replace T := Lib.hid (T.out.step hb)
  replace B1 := Lib.hid (B1.out.step hb)
  replace B2 := Lib.hid (B2.out.step hb)
  replace B3 := Lib.hid (B3.out.step hb)
  replace B4 := Lib.hid (B4.out.step hb)
  replace B5 := Lib.hid (B5.out.step hb)
  replace B6 := Lib.hid (B6.out.step hb)
  replace V := Lib.hid (V.out.step hb)
  replace V9 := Lib.hid (V9.out.step hb)
  replace V11 := Lib.hid (V11.out.step hb)
  replace V13 := Lib.hid (V13.out.step hb)
  replace V15 := Lib.hid (V15.out.step hb)
  replace VF := Lib.hid (VF.out.step hb)
  clear hb
  go_wp2
  go_ret
  exact ⟨rfl, T.out.bel⟩
set_option maxHeartbeats 4000000 in
set_option maxRecDepth 100000 in
theorem fields_E {keyOk : Int → Int → Bool} {sgn : Int → Int → Str → Int × Int} {ver : Int → Str → Int → Int → Bool} {W : World} (P : Pk keyOk sgn ver W) (hsm : Ok W 9 #[] (.bool true))
    (a : Ac) (e s : Int) (cs : List Value) (A : Option Addr) (nA cA : Nat) (Q : Option Addr) (nQ cQ : Nat) (hv0 : Av W W.heap.size cs a e s) (h9 : cs[9]? = some (.slice A nA cA)) (h15 : cs[15]? = some (.slice Q nQ cQ)) (hz : Sz 281474976710656 140737488355328 a)
    (h : fewB a = true) (hv : valid a e s = true) (hpa : isId a.author = true) (hpt : ids a.to = true) (q1 : (a.seq == 0) = false) (q2 : (a.kind == 0) = false) (q3 : (a.prev == []) = false) (q4 : 0 < a.seq) (q5 : (a.prev.length : Int) = 32) (q6 : 7 ≤ a.kind) (q7 : a.kind ≤ 11) (q8 : posting a.kind = false) (q9 : (a.scope == 0) = true) (q12 : isId a.target = true) (q13 : (a.object == []) = true) (q14 : (a.text == []) = true) (q15 : a.to = []) (q16 : (a.kind == 16) = false) (q17 : (a.kind == 19) = false) (q18 : (a.kind == 18) = false) (q19 : a.wraps = []) (nb : good { a with epoch := a.epoch + 1 } = false) (nc : good { a with m := a.m - 1 } = false) :
    Calls Tryz.prog 7 #[.agg cs.toArray] W fun x w' => x = .returned (.bool true) ∧ Below W.heap.size W w' := by
  have KS := Lib.hid hsm
  have T := Lib.hid (Lk.At.start W)
  have V := Lib.hid hv0
  have H9 := Lib.hid h9
  have H15 := Lib.hid h15
  have KFa := fun (w : World) (b0 : Nat) (c0 : List Value) (hb : Below W.heap.size W w) (h0 : Av w b0 c0 a e s) => fewC h0 hz
  rw [h] at KFa
  replace KFa := Lib.hid KFa
  have h6 := few_sz6 h
  have KRa := fun (w : World) (b0 : Nat) (c0 : List Value) (hb : Below W.heap.size W w) (h0 : Av w b0 c0 a e s) => P.rightC hb h0 h6
  rw [hv] at KRa
  replace KRa := Lib.hid KRa
  have hl := lim_of (valid_good hv)
  have hE0 : 0 ≤ a.epoch := by have := hl.epoch; simp only [epOk, Bool.and_eq_true, decide_eq_true_eq] at this; exact this.1
  have hE1 : a.epoch ≤ 1073741824 := by have := hl.epoch; simp only [epOk, Bool.and_eq_true, decide_eq_true_eq] at this; exact this.2
  have hM0 : 0 ≤ a.m := hl.m.1
  have hM1 : a.m < 2305843009213693951 := hl.m.2
  have hO1 : (a.object.length : Int) ≤ 32 := by have := hl.object; omega
  have hG1 : (a.target.length : Int) ≤ 32 := by have := hl.target; omega
  have KI := P.idR a.author h6.author
  rw [hpa] at KI
  replace KI := Lib.hid KI
  have KT := fun (w : World) (bd : Nat) (hb : Below W.heap.size W w) (h0 : Av w bd cs a e s) => P.idsR A a.to nA cA w hb (h0.toAt h9).1 ((h0.toAt h9).2.2.more h0.le) (by rw [(h0.toAt h9).1]; exact h6.to) h6.tos
  rw [hpt] at KT
  replace KT := Lib.hid KT
  have KP := P.posting a.kind
  rw [q8] at KP
  replace KP := Lib.hid KP
  have ND := more_object (valid_good hv) 120
  have NE := more_target (valid_good hv) 120
  have NF : good { a with wraps := ⟨1, 1, bx0⟩ :: a.wraps } = false := more_wraps
  have szD : Sz 1000000 1000000 { a with object := a.object ++ [120] } := ⟨h6.author, h6.prev, by show (a.object ++ [120]).length ≤ 1000000; simp; omega, h6.target, h6.group, h6.text, h6.nonce, h6.data, h6.tag, h6.to, h6.tos, h6.wraps, h6.boxes⟩
  have szE : Sz 1000000 1000000 { a with target := a.target ++ [120] } := ⟨h6.author, h6.prev, h6.object, by show (a.target ++ [120]).length ≤ 1000000; simp; omega, h6.group, h6.text, h6.nonce, h6.data, h6.tag, h6.to, h6.tos, h6.wraps, h6.boxes⟩
  have szF : Sz 1000000 1000000 { a with wraps := ⟨1, 1, bx0⟩ :: a.wraps } := ⟨h6.author, h6.prev, h6.object, h6.target, h6.group, h6.text, h6.nonce, h6.data, h6.tag, h6.to, h6.tos, by show a.wraps.length + 1 ≤ 1000000; have := hl.wraps.2; omega, fun w hw => by
    rcases List.mem_cons.1 hw with rfl | hw
    · simp [bx0]
    · exact h6.boxes w hw⟩
  have KD := fun (w : World) (b0 : Nat) (c0 : List Value) (hb : Below W.heap.size W w) (h0 : Av w b0 c0 { a with object := a.object ++ [120] } e s) => P.rightC hb h0 szD
  rw [show valid { a with object := a.object ++ [120] } e s = false by unfold valid; rw [ND, Bool.and_false]] at KD
  replace KD := Lib.hid KD
  have KE := fun (w : World) (b0 : Nat) (c0 : List Value) (hb : Below W.heap.size W w) (h0 : Av w b0 c0 { a with target := a.target ++ [120] } e s) => P.rightC hb h0 szE
  rw [show valid { a with target := a.target ++ [120] } e s = false by unfold valid; rw [NE, Bool.and_false]] at KE
  replace KE := Lib.hid KE
  have KH := fun (w : World) (b0 : Nat) (c0 : List Value) (hb : Below W.heap.size W w) (h0 : Av w b0 c0 { a with wraps := ⟨1, 1, bx0⟩ :: a.wraps } e s) => P.rightC hb h0 szF
  rw [show valid { a with wraps := ⟨1, 1, bx0⟩ :: a.wraps } e s = false by unfold valid; rw [NF, Bool.and_false]] at KH
  replace KH := Lib.hid KH
  have KB := fun (w : World) (b0 : Nat) (c0 : List Value) (hb : Below W.heap.size W w) (h0 : Av w b0 c0 { a with epoch := a.epoch + 1 } e s) => P.rightC hb h0 ⟨h6.author, h6.prev, h6.object, h6.target, h6.group, h6.text, h6.nonce, h6.data, h6.tag, h6.to, h6.tos, h6.wraps, h6.boxes⟩
  rw [show valid { a with epoch := a.epoch + 1 } e s = false by unfold valid; rw [nb, Bool.and_false]] at KB
  replace KB := Lib.hid KB
  have KC := fun (w : World) (b0 : Nat) (c0 : List Value) (hb : Below W.heap.size W w) (h0 : Av w b0 c0 { a with m := a.m - 1 } e s) => P.rightC hb h0 ⟨h6.author, h6.prev, h6.object, h6.target, h6.group, h6.text, h6.nonce, h6.data, h6.tag, h6.to, h6.tos, h6.wraps, h6.boxes⟩
  rw [show valid { a with m := a.m - 1 } e s = false by unfold valid; rw [nc, Bool.and_false]] at KC
  replace KC := Lib.hid KC
  have KG := P.idR a.target h6.target
  rw [q12] at KG
  replace KG := Lib.hid KG
  have hnQ := (V.out.wrAt h15).1
  have hnA := (V.out.toAt h9).1
  have HLQ := Lib.hid (show ([⟨1, 1, bx0⟩] : List Wr).length + a.wraps.length ≤ 100000 by have := hl.wraps.2; simp; omega)
  obtain rfl : nQ = 0 := by rw [hnQ, q19]; rfl
  have HMQ := Lib.hid hnQ
  obtain rfl : nA = 0 := by rw [hnA, q15]; rfl
  clear P hsm hv0 h9 h15 hz h hv hpa hpt h6 hl ND NE NF szD szE szF hnQ hnA q8 q19 q12 q15 nb nc
  have q9a : (a.scope != 0) = false := by rw [bne, q9]; rfl
  have q9b : decide (a.scope = 0) = true := by rw [← q9]; rfl
  go_enter Tryz.func7, Tryz.ntmps7
  go_wp2_with (first | fail)
  replace T := Lib.hid (T.out.alloc (.cells cs.toArray 29))
  replace V := Lib.hid (V.out.alloc (.cells cs.toArray 29))
  have B1 := Lib.hid (show Lk.Bl (W.alloc (.cells cs.toArray 29)) W.heap.size cs 29 from by have h := Lk.Bl.new W cs 29; simpa using h)
  generalize W.alloc (.cells cs.toArray 29) = w1 at *
  refine (KS.out _ T.out.bel).mono ?_
  rintro e w2 ⟨rfl, hb⟩
  replace T := Lib.hid (T.out.step hb)
  replace B1 := Lib.hid (B1.out.step hb)
  replace V := Lib.hid (V.out.step hb)
  clear hb
  go_wp2_with (first | ((with_reducible refine Lk.ld (d := 14) W.heap.size B1.out V.out.len ?_ ?_ ?_); exact rfl; exact rfl) | fail)
  refine (KFa.out _ _ _ T.out.bel V.out).mono ?_
  rintro e w3 ⟨rfl, hb⟩
  replace T := Lib.hid (T.out.step hb)
  replace B1 := Lib.hid (B1.out.step hb)
  replace V := Lib.hid (V.out.step hb)
  clear hb
  go_wp2_with (first | ((with_reducible refine Lk.ld (d := 18) W.heap.size B1.out V.out.len ?_ ?_ ?_); exact rfl; exact rfl) | fail)
  refine (KRa.out _ _ _ T.out.bel V.out).mono ?_
  rintro e w4 ⟨rfl, hb⟩
  replace T := Lib.hid (T.out.step hb)
  replace B1 := Lib.hid (B1.out.step hb)
  replace V := Lib.hid (V.out.step hb)
  clear hb
  have cB1_0 := B1.out.c 0 _ V.out.author
  go_wp2_with (first | fail)
  clear cB1_0
  refine (KI.out _ T.out.bel).mono ?_
  rintro e w5 ⟨rfl, hb⟩
  replace T := Lib.hid (T.out.step hb)
  replace B1 := Lib.hid (B1.out.step hb)
  replace V := Lib.hid (V.out.step hb)
  clear hb
  have cB1_9 := B1.out.c 9 _ H9.out
  go_wp2_with (first | fail)
  clear cB1_9
  refine (KT.out _ _ T.out.bel V.out).mono ?_
  rintro e w6 ⟨rfl, hb⟩
  replace T := Lib.hid (T.out.step hb)
  replace B1 := Lib.hid (B1.out.step hb)
  replace V := Lib.hid (V.out.step hb)
  clear hb
  have cB1_1 := B1.out.c 1 _ V.out.seq
  have cB1_3 := B1.out.c 3 _ V.out.kind
  have cB1_2 := B1.out.c 2 _ V.out.prev
  go_wp2_with (first | fail)
  clear cB1_1 cB1_3 cB1_2
  refine (KP.out _ T.out.bel).mono ?_
  rintro e w7 ⟨rfl, hb⟩
  replace T := Lib.hid (T.out.step hb)
  replace B1 := Lib.hid (B1.out.step hb)
  replace V := Lib.hid (V.out.step hb)
  clear hb
  have cB1_6 := B1.out.c 6 _ V.out.target
  go_wp2_with (first | fail)
  clear cB1_6
  refine (KG.out _ T.out.bel).mono ?_
  rintro e w8 ⟨rfl, hb⟩
  replace T := Lib.hid (T.out.step hb)
  replace B1 := Lib.hid (B1.out.step hb)
  replace V := Lib.hid (V.out.step hb)
  clear hb
  have cB1_5 := B1.out.c 5 _ V.out.object
  have cB1_10 := B1.out.c 10 _ V.out.text
  have cB1_9 := B1.out.c 9 _ H9.out
  have cB1_3 := B1.out.c 3 _ V.out.kind
  have cB1_15 := B1.out.c 15 _ H15.out
  go_wp2_with (first | ((with_reducible refine Lk.nw cs V.out.len V.out.one ?_ ?_ ?_ ?_); exact rfl; exact rfl; exact rfl) | ((with_reducible refine Lk.ld (d := 143) W.heap.size B1.out V.out.len ?_ ?_ ?_); exact rfl; exact rfl) | fail)
  clear cB1_5 cB1_10 cB1_9 cB1_3 cB1_15
  intro w9 bN hb
  have LB1_B2 := Lib.hid (show W.heap.size < w8.heap.size from B1.out.lt)
  have GV_B2 := Lib.hid (show W.heap.size ≤ w8.heap.size from V.out.le)
  have GB2 := Lib.hid (show W.heap.size ≤ w8.heap.size from T.out.bel.size)
  replace T := Lib.hid (T.out.step hb)
  replace B1 := Lib.hid (B1.out.step hb)
  replace V := Lib.hid (V.out.step hb)
  have B2 := Lib.hid (show Lk.Bl w9 w8.heap.size cs 29 from bN)
  clear bN hb
  have cB1_14 := B1.out.c 14 _ V.out.epoch
  go_wp2_with (first | ((with_reducible refine Lk.st w8.heap.size 14 [.int .i64 (a.epoch + 1)] (.int .i64 (a.epoch + 1)) B2.out ?_ ?_ ?_ ?_ ?_ ?_ ?_); exact Lk.infoI; exact rfl; (rw [V.out.len]; exact Nat.le_of_ble_eq_true rfl); (simp [Value.oneCell']); exact rfl; exact rfl) | fail)
  clear cB1_14
  intro w10 bN hb
  replace B1 := Lib.hid (B1.out.under hb LB1_B2.out)
  replace T := Lib.hid (T.out.under hb GB2.out)
  replace V := Lib.hid (V.out.under hb GV_B2.out)
  obtain ⟨cs10, hcs10⟩ : ∃ x : List Value, x = cs.take 14 ++ [.int .i64 (a.epoch + 1)] ++ cs.drop (14 + ([.int .i64 (a.epoch + 1)] : List Value).length) := ⟨_, rfl⟩
  have V10 := Lib.hid (show Av w10 W.heap.size cs10 { a with epoch := a.epoch + 1 } e s from by rw [hcs10]; exact V.out.put 14 [.int .i64 (a.epoch + 1)] rfl rfl (fun _ _ _ _ _ _ => rfl))
  replace B2 := Lib.hid (show Lk.Bl w10 w8.heap.size cs10 29 from by rw [hcs10]; exact bN)
  clear bN hb hcs10
  have GV10_B2 := GV_B2
  go_wp2_with (first | ((with_reducible refine Lk.nw cs V.out.len V.out.one ?_ ?_ ?_ ?_); exact rfl; exact rfl; exact rfl) | ((with_reducible refine Lk.ld (d := 148) W.heap.size B1.out V.out.len ?_ ?_ ?_); exact rfl; exact rfl) | fail)
  intro w11 bN hb
  have LB1_B3 := Lib.hid (show W.heap.size < w10.heap.size from B1.out.lt)
  have LB2_B3 := Lib.hid (show w8.heap.size < w10.heap.size from B2.out.lt)
  have GV_B3 := Lib.hid (show W.heap.size ≤ w10.heap.size from V.out.le)
  have GV10_B3 := Lib.hid (show W.heap.size ≤ w10.heap.size from V10.out.le)
  have GB3 := Lib.hid (show W.heap.size ≤ w10.heap.size from T.out.bel.size)
  replace T := Lib.hid (T.out.step hb)
  replace B1 := Lib.hid (B1.out.step hb)
  replace B2 := Lib.hid (B2.out.step hb)
  replace V := Lib.hid (V.out.step hb)
  replace V10 := Lib.hid (V10.out.step hb)
  have B3 := Lib.hid (show Lk.Bl w11 w10.heap.size cs 29 from bN)
  clear bN hb
  have cB1_17 := B1.out.c 17 _ V.out.m
  go_wp2_with (first | ((with_reducible refine Lk.st w10.heap.size 17 [.int .i64 (a.m - 1)] (.int .i64 (a.m - 1)) B3.out ?_ ?_ ?_ ?_ ?_ ?_ ?_); exact Lk.infoI; exact rfl; (rw [V.out.len]; exact Nat.le_of_ble_eq_true rfl); (simp [Value.oneCell']); exact rfl; exact rfl) | fail)
  clear cB1_17
  intro w12 bN hb
  replace B1 := Lib.hid (B1.out.under hb LB1_B3.out)
  replace B2 := Lib.hid (B2.out.under hb LB2_B3.out)
  replace T := Lib.hid (T.out.under hb GB3.out)
  replace V := Lib.hid (V.out.under hb GV_B3.out)
  replace V10 := Lib.hid (V10.out.under hb GV10_B3.out)
  obtain ⟨cs12, hcs12⟩ : ∃ x : List Value, x = cs.take 17 ++ [.int .i64 (a.m - 1)] ++ cs.drop (17 + ([.int .i64 (a.m - 1)] : List Value).length) := ⟨_, rfl⟩
  have V12 := Lib.hid (show Av w12 W.heap.size cs12 { a with m := a.m - 1 } e s from by rw [hcs12]; exact V.out.put 17 [.int .i64 (a.m - 1)] rfl rfl (fun _ _ _ _ _ _ => rfl))
  replace B3 := Lib.hid (show Lk.Bl w12 w10.heap.size cs12 29 from by rw [hcs12]; exact bN)
  clear bN hb hcs12
  have GV12_B2 := GV_B2
  have GV12_B3 := GV_B3
  go_wp2_with (first | ((with_reducible refine Lk.nw cs V.out.len V.out.one ?_ ?_ ?_ ?_); exact rfl; exact rfl; exact rfl) | ((with_reducible refine Lk.ld (d := 153) W.heap.size B1.out V.out.len ?_ ?_ ?_); exact rfl; exact rfl) | fail)
  intro w13 bN hb
  have LB1_B4 := Lib.hid (show W.heap.size < w12.heap.size from B1.out.lt)
  have LB2_B4 := Lib.hid (show w8.heap.size < w12.heap.size from B2.out.lt)
  have LB3_B4 := Lib.hid (show w10.heap.size < w12.heap.size from B3.out.lt)
  have GV_B4 := Lib.hid (show W.heap.size ≤ w12.heap.size from V.out.le)
  have GV10_B4 := Lib.hid (show W.heap.size ≤ w12.heap.size from V10.out.le)
  have GV12_B4 := Lib.hid (show W.heap.size ≤ w12.heap.size from V12.out.le)
  have GB4 := Lib.hid (show W.heap.size ≤ w12.heap.size from T.out.bel.size)
  replace T := Lib.hid (T.out.step hb)
  replace B1 := Lib.hid (B1.out.step hb)
  replace B2 := Lib.hid (B2.out.step hb)
  replace B3 := Lib.hid (B3.out.step hb)
  replace V := Lib.hid (V.out.step hb)
  replace V10 := Lib.hid (V10.out.step hb)
  replace V12 := Lib.hid (V12.out.step hb)
  have B4 := Lib.hid (show Lk.Bl w13 w12.heap.size cs 29 from bN)
  clear bN hb
  have cB1_5 := B1.out.c 5 _ V.out.object
  go_wp2_with (first | ((with_reducible refine Lk.st w12.heap.size 5 [.string (S2.B (a.object ++ [120]))] (.string (S2.B (a.object ++ [120]))) B4.out ?_ ?_ ?_ ?_ ?_ ?_ ?_); exact Lk.infoS; exact rfl; (rw [V.out.len]; exact Nat.le_of_ble_eq_true rfl); (simp [Value.oneCell']); exact rfl; exact rfl) | fail)
  clear cB1_5
  intro w14 bN hb
  replace B1 := Lib.hid (B1.out.under hb LB1_B4.out)
  replace B2 := Lib.hid (B2.out.under hb LB2_B4.out)
  replace B3 := Lib.hid (B3.out.under hb LB3_B4.out)
  replace T := Lib.hid (T.out.under hb GB4.out)
  replace V := Lib.hid (V.out.under hb GV_B4.out)
  replace V10 := Lib.hid (V10.out.under hb GV10_B4.out)
  replace V12 := Lib.hid (V12.out.under hb GV12_B4.out)
  obtain ⟨cs14, hcs14⟩ : ∃ x : List Value, x = cs.take 5 ++ [.string (S2.B (a.object ++ [120]))] ++ cs.drop (5 + ([.string (S2.B (a.object ++ [120]))] : List Value).length) := ⟨_, rfl⟩
  have V14 := Lib.hid (show Av w14 W.heap.size cs14 { a with object := a.object ++ [120] } e s from by rw [hcs14]; exact V.out.put 5 [.string (S2.B (a.object ++ [120]))] rfl rfl (fun _ _ _ _ _ _ => rfl))
  replace B4 := Lib.hid (show Lk.Bl w14 w12.heap.size cs14 29 from by rw [hcs14]; exact bN)
  clear bN hb hcs14
  have GV14_B2 := GV_B2
  have GV14_B3 := GV_B3
  have GV14_B4 := GV_B4
  go_wp2_with (first | ((with_reducible refine Lk.nw cs V.out.len V.out.one ?_ ?_ ?_ ?_); exact rfl; exact rfl; exact rfl) | ((with_reducible refine Lk.ld (d := 158) W.heap.size B1.out V.out.len ?_ ?_ ?_); exact rfl; exact rfl) | fail)
  intro w15 bN hb
  have LB1_B5 := Lib.hid (show W.heap.size < w14.heap.size from B1.out.lt)
  have LB2_B5 := Lib.hid (show w8.heap.size < w14.heap.size from B2.out.lt)
  have LB3_B5 := Lib.hid (show w10.heap.size < w14.heap.size from B3.out.lt)
  have LB4_B5 := Lib.hid (show w12.heap.size < w14.heap.size from B4.out.lt)
  have GV_B5 := Lib.hid (show W.heap.size ≤ w14.heap.size from V.out.le)
  have GV10_B5 := Lib.hid (show W.heap.size ≤ w14.heap.size from V10.out.le)
  have GV12_B5 := Lib.hid (show W.heap.size ≤ w14.heap.size from V12.out.le)
  have GV14_B5 := Lib.hid (show W.heap.size ≤ w14.heap.size from V14.out.le)
  have GB5 := Lib.hid (show W.heap.size ≤ w14.heap.size from T.out.bel.size)
  replace T := Lib.hid (T.out.step hb)
  replace B1 := Lib.hid (B1.out.step hb)
  replace B2 := Lib.hid (B2.out.step hb)
  replace B3 := Lib.hid (B3.out.step hb)
  replace B4 := Lib.hid (B4.out.step hb)
  replace V := Lib.hid (V.out.step hb)
  replace V10 := Lib.hid (V10.out.step hb)
  replace V12 := Lib.hid (V12.out.step hb)
  replace V14 := Lib.hid (V14.out.step hb)
  have B5 := Lib.hid (show Lk.Bl w15 w14.heap.size cs 29 from bN)
  clear bN hb
  have cB1_6 := B1.out.c 6 _ V.out.target
  go_wp2_with (first | ((with_reducible refine Lk.st w14.heap.size 6 [.string (S2.B (a.target ++ [120]))] (.string (S2.B (a.target ++ [120]))) B5.out ?_ ?_ ?_ ?_ ?_ ?_ ?_); exact Lk.infoS; exact rfl; (rw [V.out.len]; exact Nat.le_of_ble_eq_true rfl); (simp [Value.oneCell']); exact rfl; exact rfl) | fail)
  clear cB1_6
  intro w16 bN hb
  replace B1 := Lib.hid (B1.out.under hb LB1_B5.out)
  replace B2 := Lib.hid (B2.out.under hb LB2_B5.out)
  replace B3 := Lib.hid (B3.out.under hb LB3_B5.out)
  replace B4 := Lib.hid (B4.out.under hb LB4_B5.out)
  replace T := Lib.hid (T.out.under hb GB5.out)
  replace V := Lib.hid (V.out.under hb GV_B5.out)
  replace V10 := Lib.hid (V10.out.under hb GV10_B5.out)
  replace V12 := Lib.hid (V12.out.under hb GV12_B5.out)
  replace V14 := Lib.hid (V14.out.under hb GV14_B5.out)
  obtain ⟨cs16, hcs16⟩ : ∃ x : List Value, x = cs.take 6 ++ [.string (S2.B (a.target ++ [120]))] ++ cs.drop (6 + ([.string (S2.B (a.target ++ [120]))] : List Value).length) := ⟨_, rfl⟩
  have V16 := Lib.hid (show Av w16 W.heap.size cs16 { a with target := a.target ++ [120] } e s from by rw [hcs16]; exact V.out.put 6 [.string (S2.B (a.target ++ [120]))] rfl rfl (fun _ _ _ _ _ _ => rfl))
  replace B5 := Lib.hid (show Lk.Bl w16 w14.heap.size cs16 29 from by rw [hcs16]; exact bN)
  clear bN hb hcs16
  have GV16_B2 := GV_B2
  have GV16_B3 := GV_B3
  have GV16_B4 := GV_B4
  have GV16_B5 := GV_B5
  go_wp2_with (first | ((with_reducible refine Lk.nw cs V.out.len V.out.one ?_ ?_ ?_ ?_); exact rfl; exact rfl; exact rfl) | ((with_reducible refine Lk.ld (d := 163) W.heap.size B1.out V.out.len ?_ ?_ ?_); exact rfl; exact rfl) | fail)
  intro w17 bN hb
  have LB1_B6 := Lib.hid (show W.heap.size < w16.heap.size from B1.out.lt)
  have LB2_B6 := Lib.hid (show w8.heap.size < w16.heap.size from B2.out.lt)
  have LB3_B6 := Lib.hid (show w10.heap.size < w16.heap.size from B3.out.lt)
  have LB4_B6 := Lib.hid (show w12.heap.size < w16.heap.size from B4.out.lt)
  have LB5_B6 := Lib.hid (show w14.heap.size < w16.heap.size from B5.out.lt)
  have GV_B6 := Lib.hid (show W.heap.size ≤ w16.heap.size from V.out.le)
  have GV10_B6 := Lib.hid (show W.heap.size ≤ w16.heap.size from V10.out.le)
  have GV12_B6 := Lib.hid (show W.heap.size ≤ w16.heap.size from V12.out.le)
  have GV14_B6 := Lib.hid (show W.heap.size ≤ w16.heap.size from V14.out.le)
  have GV16_B6 := Lib.hid (show W.heap.size ≤ w16.heap.size from V16.out.le)
  have GB6 := Lib.hid (show W.heap.size ≤ w16.heap.size from T.out.bel.size)
  replace T := Lib.hid (T.out.step hb)
  replace B1 := Lib.hid (B1.out.step hb)
  replace B2 := Lib.hid (B2.out.step hb)
  replace B3 := Lib.hid (B3.out.step hb)
  replace B4 := Lib.hid (B4.out.step hb)
  replace B5 := Lib.hid (B5.out.step hb)
  replace V := Lib.hid (V.out.step hb)
  replace V10 := Lib.hid (V10.out.step hb)
  replace V12 := Lib.hid (V12.out.step hb)
  replace V14 := Lib.hid (V14.out.step hb)
  replace V16 := Lib.hid (V16.out.step hb)
  have B6 := Lib.hid (show Lk.Bl w17 w16.heap.size cs 29 from bN)
  clear bN hb
  have T0 := Lib.hid (show W.heap.size ≤ w17.heap.size from T.out.bel.size)
  have OW := Lib.hid (show OwnW (w17.alloc (.cells #[.int .i64 1, .int .i64 1, .string (S2.B []), .string (S2.B []), .string (S2.B [])] 50)) w17.heap.size (.slice (some ⟨w17.heap.size, 0, none⟩) 1 1) [⟨1, 1, bx0⟩] from OwnW.lit w17 [⟨1, 1, bx0⟩] (by decide))
  have SR := Lib.hid (show S2.Row (w17.alloc (.cells #[.int .i64 1, .int .i64 1, .string (S2.B []), .string (S2.B []), .string (S2.B [])] 50)) (w17.alloc (.cells #[.int .i64 1, .int .i64 1, .string (S2.B []), .string (S2.B []), .string (S2.B [])] 50)).heap.size Q (Ws a.wraps) from ((V.out.alloc (.cells #[.int .i64 1, .int .i64 1, .string (S2.B []), .string (S2.B []), .string (S2.B [])] 50)).wrAt H15.out).2.2.more (V.out.alloc (.cells #[.int .i64 1, .int .i64 1, .string (S2.B []), .string (S2.B []), .string (S2.B [])] 50)).le)
  have cB1_15 := (B1.out.alloc (.cells #[.int .i64 1, .int .i64 1, .string (S2.B []), .string (S2.B []), .string (S2.B [])] 50)).c 15 _ H15.out
  go_wp2_with (first | (at_builtin; refine wpList_appW rfl _ _ rfl OW.out SR.out rfl rfl HMQ.out HLQ.out ?_) | fail)
  clear cB1_15
  intro v1 w18 own1 hb1
  have hb : Below w17.heap.size w17 w18 := ((Below.refl _ _).alloc (Nat.le_refl _) (.cells #[.int .i64 1, .int .i64 1, .string (S2.B []), .string (S2.B []), .string (S2.B [])] 50)).trans hb1
  have LBQ := Lib.hid (show w16.heap.size < w17.heap.size from B6.out.lt)
  replace T := Lib.hid (T.out.step hb)
  replace B1 := Lib.hid (B1.out.step hb)
  replace B2 := Lib.hid (B2.out.step hb)
  replace B3 := Lib.hid (B3.out.step hb)
  replace B4 := Lib.hid (B4.out.step hb)
  replace B5 := Lib.hid (B5.out.step hb)
  replace B6 := Lib.hid (B6.out.step hb)
  replace V := Lib.hid (V.out.step hb)
  replace V10 := Lib.hid (V10.out.step hb)
  replace V12 := Lib.hid (V12.out.step hb)
  replace V14 := Lib.hid (V14.out.step hb)
  replace V16 := Lib.hid (V16.out.step hb)
  clear OW SR hb1 hb
  obtain ⟨AQ, nq, cq, rfl, hnq, hcq⟩ := own1.sl3
  have OQ := Lib.hid own1
  have HNQ := Lib.hid hnq
  have HCQ := Lib.hid hcq
  clear own1 hnq hcq
  go_wp2_with (first | ((with_reducible refine Lk.stX w16.heap.size 15 [.slice AQ nq cq] (.slice AQ nq cq) B6.out ?_ ?_ ?_ ?_ ?_ ?_ ?_); exact (show (Tryz.prog.info? 25).map (·.size) = some 1 by kernel_rfl); exact rfl; (rw [V.out.len]; exact Nat.le_of_ble_eq_true rfl); (simp [Value.oneCell']); exact rfl; exact rfl) | fail)
  intro w19 bN hb ho
  replace B1 := Lib.hid (B1.out.under hb LB1_B6.out)
  replace B2 := Lib.hid (B2.out.under hb LB2_B6.out)
  replace B3 := Lib.hid (B3.out.under hb LB3_B6.out)
  replace B4 := Lib.hid (B4.out.under hb LB4_B6.out)
  replace B5 := Lib.hid (B5.out.under hb LB5_B6.out)
  replace T := Lib.hid (T.out.under hb GB6.out)
  have RQ := row_only OQ.out.row ho OQ.out.addr LBQ.out
  have hbd : w18.heap.size ≤ w19.heap.size := hb.size
  replace V := Lib.hid (V.out.under hb GV_B6.out)
  replace V10 := Lib.hid (V10.out.under hb GV10_B6.out)
  replace V12 := Lib.hid (V12.out.under hb GV12_B6.out)
  replace V14 := Lib.hid (V14.out.under hb GV14_B6.out)
  replace V16 := Lib.hid (V16.out.under hb GV16_B6.out)
  have VF := Lib.hid (show Av w19 w18.heap.size (cs.take 15 ++ [.slice AQ nq cq] ++ cs.drop (15 + ([.slice AQ nq cq] : List Value).length)) { a with wraps := ⟨1, 1, bx0⟩ :: a.wraps } e s from V.out.putW RQ HNQ.out HCQ.out (Nat.le_trans T0.out OQ.out.le) hbd)
  obtain ⟨csF, hcsF⟩ : ∃ x : List Value, x = cs.take 15 ++ [.slice AQ nq cq] ++ cs.drop (15 + ([.slice AQ nq cq] : List Value).length) := ⟨_, rfl⟩
  rw [← hcsF] at VF bN
  replace B6 := Lib.hid bN
  clear bN hb ho hcsF RQ hbd OQ HNQ HCQ LBQ
  have cB1_7 := B1.out.c 7 _ V.out.scope
  have cB1_3 := B1.out.c 3 _ V.out.kind
  go_wp2_with (first | ((with_reducible refine Lk.ld (d := 198) w8.heap.size B2.out V10.out.len ?_ ?_ ?_); exact rfl; exact rfl) | fail)
  clear cB1_7 cB1_3
  refine (KB.out _ _ _ T.out.bel V10.out).mono ?_
  rintro e w20 ⟨rfl, hb⟩
  replace T := Lib.hid (T.out.step hb)
  replace B1 := Lib.hid (B1.out.step hb)
  replace B2 := Lib.hid (B2.out.step hb)
  replace B3 := Lib.hid (B3.out.step hb)
  replace B4 := Lib.hid (B4.out.step hb)
  replace B5 := Lib.hid (B5.out.step hb)
  replace B6 := Lib.hid (B6.out.step hb)
  replace V := Lib.hid (V.out.step hb)
  replace V10 := Lib.hid (V10.out.step hb)
  replace V12 := Lib.hid (V12.out.step hb)
  replace V14 := Lib.hid (V14.out.step hb)
  replace V16 := Lib.hid (V16.out.step hb)
  replace VF := Lib.hid (VF.out.step hb)
  clear hb
  go_wp2_with (first | ((with_reducible refine Lk.ld (d := 206) w10.heap.size B3.out V12.out.len ?_ ?_ ?_); exact rfl; exact rfl) | fail)
  refine (KC.out _ _ _ T.out.bel V12.out).mono ?_
  rintro e w21 ⟨rfl, hb⟩
  replace T := Lib.hid (T.out.step hb)
  replace B1 := Lib.hid (B1.out.step hb)
  replace B2 := Lib.hid (B2.out.step hb)
  replace B3 := Lib.hid (B3.out.step hb)
  replace B4 := Lib.hid (B4.out.step hb)
  replace B5 := Lib.hid (B5.out.step hb)
  replace B6 := Lib.hid (B6.out.step hb)
  replace V := Lib.hid (V.out.step hb)
  replace V10 := Lib.hid (V10.out.step hb)
  replace V12 := Lib.hid (V12.out.step hb)
  replace V14 := Lib.hid (V14.out.step hb)
  replace V16 := Lib.hid (V16.out.step hb)
  replace VF := Lib.hid (VF.out.step hb)
  clear hb
  go_wp2_with (first | ((with_reducible refine Lk.ld (d := 212) w12.heap.size B4.out V14.out.len ?_ ?_ ?_); exact rfl; exact rfl) | fail)
  refine (KD.out _ _ _ T.out.bel V14.out).mono ?_
  rintro e w22 ⟨rfl, hb⟩
  replace T := Lib.hid (T.out.step hb)
  replace B1 := Lib.hid (B1.out.step hb)
  replace B2 := Lib.hid (B2.out.step hb)
  replace B3 := Lib.hid (B3.out.step hb)
  replace B4 := Lib.hid (B4.out.step hb)
  replace B5 := Lib.hid (B5.out.step hb)
  replace B6 := Lib.hid (B6.out.step hb)
  replace V := Lib.hid (V.out.step hb)
  replace V10 := Lib.hid (V10.out.step hb)
  replace V12 := Lib.hid (V12.out.step hb)
  replace V14 := Lib.hid (V14.out.step hb)
  replace V16 := Lib.hid (V16.out.step hb)
  replace VF := Lib.hid (VF.out.step hb)
  clear hb
  go_wp2_with (first | ((with_reducible refine Lk.ld (d := 217) w14.heap.size B5.out V16.out.len ?_ ?_ ?_); exact rfl; exact rfl) | fail)
  refine (KE.out _ _ _ T.out.bel V16.out).mono ?_
  rintro e w23 ⟨rfl, hb⟩
  replace T := Lib.hid (T.out.step hb)
  replace B1 := Lib.hid (B1.out.step hb)
  replace B2 := Lib.hid (B2.out.step hb)
  replace B3 := Lib.hid (B3.out.step hb)
  replace B4 := Lib.hid (B4.out.step hb)
  replace B5 := Lib.hid (B5.out.step hb)
  replace B6 := Lib.hid (B6.out.step hb)
  replace V := Lib.hid (V.out.step hb)
  replace V10 := Lib.hid (V10.out.step hb)
  replace V12 := Lib.hid (V12.out.step hb)
  replace V14 := Lib.hid (V14.out.step hb)
  replace V16 := Lib.hid (V16.out.step hb)
  replace VF := Lib.hid (VF.out.step hb)
  clear hb
  go_wp2_with (first | ((with_reducible refine Lk.ld (d := 222) w16.heap.size B6.out VF.out.len ?_ ?_ ?_); exact rfl; exact rfl) | fail)
  refine (KH.out _ _ _ T.out.bel VF.out).mono ?_
  rintro e w24 ⟨rfl, hb⟩
  replace T := Lib.hid (T.out.step hb)
  replace B1 := Lib.hid (B1.out.step hb)
  replace B2 := Lib.hid (B2.out.step hb)
  replace B3 := Lib.hid (B3.out.step hb)
  replace B4 := Lib.hid (B4.out.step hb)
  replace B5 := Lib.hid (B5.out.step hb)
  replace B6 := Lib.hid (B6.out.step hb)
  replace V := Lib.hid (V.out.step hb)
  replace V10 := Lib.hid (V10.out.step hb)
  replace V12 := Lib.hid (V12.out.step hb)
  replace V14 := Lib.hid (V14.out.step hb)
  replace V16 := Lib.hid (V16.out.step hb)
  replace VF := Lib.hid (VF.out.step hb)
  clear hb
  go_wp2
  go_ret
  exact ⟨rfl, T.out.bel⟩
set_option maxHeartbeats 4000000 in
set_option maxRecDepth 100000 in
theorem fields_F {keyOk : Int → Int → Bool} {sgn : Int → Int → Str → Int × Int} {ver : Int → Str → Int → Int → Bool} {W : World} (P : Pk keyOk sgn ver W) (hsm : Ok W 9 #[] (.bool true))
    (a : Ac) (e s : Int) (cs : List Value) (A : Option Addr) (nA cA : Nat) (Q : Option Addr) (nQ cQ : Nat) (hv0 : Av W W.heap.size cs a e s) (h9 : cs[9]? = some (.slice A nA cA)) (h15 : cs[15]? = some (.slice Q nQ cQ)) (hz : Sz 281474976710656 140737488355328 a)
    (h : fewB a = true) (hv : valid a e s = true) (hpa : isId a.author = true) (hpt : ids a.to = true) (q1 : (a.seq == 0) = false) (q2 : (a.kind == 0) = false) (q3 : (a.prev == []) = false) (q4 : 0 < a.seq) (q5 : (a.prev.length : Int) = 32) (q6 : 7 ≤ a.kind) (q7 : ¬ a.kind ≤ 11) (q8 : posting a.kind = false) (q9 : (a.scope == 0) = true) (q16 : (a.kind == 16) = false) (q17 : (a.kind == 19) = false) (q18 : (a.kind == 18) = false) (q19 : a.wraps = []) (nb : good { a with epoch := a.epoch + 1 } = false) (nc : good { a with m := a.m - 1 } = false) :
    Calls Tryz.prog 7 #[.agg cs.toArray] W fun x w' => x = .returned (.bool true) ∧ Below W.heap.size W w' := by
  have KS := Lib.hid hsm
  have T := Lib.hid (Lk.At.start W)
  have V := Lib.hid hv0
  have H9 := Lib.hid h9
  have H15 := Lib.hid h15
  have KFa := fun (w : World) (b0 : Nat) (c0 : List Value) (hb : Below W.heap.size W w) (h0 : Av w b0 c0 a e s) => fewC h0 hz
  rw [h] at KFa
  replace KFa := Lib.hid KFa
  have h6 := few_sz6 h
  have KRa := fun (w : World) (b0 : Nat) (c0 : List Value) (hb : Below W.heap.size W w) (h0 : Av w b0 c0 a e s) => P.rightC hb h0 h6
  rw [hv] at KRa
  replace KRa := Lib.hid KRa
  have hl := lim_of (valid_good hv)
  have hE0 : 0 ≤ a.epoch := by have := hl.epoch; simp only [epOk, Bool.and_eq_true, decide_eq_true_eq] at this; exact this.1
  have hE1 : a.epoch ≤ 1073741824 := by have := hl.epoch; simp only [epOk, Bool.and_eq_true, decide_eq_true_eq] at this; exact this.2
  have hM0 : 0 ≤ a.m := hl.m.1
  have hM1 : a.m < 2305843009213693951 := hl.m.2
  have hO1 : (a.object.length : Int) ≤ 32 := by have := hl.object; omega
  have hG1 : (a.target.length : Int) ≤ 32 := by have := hl.target; omega
  have KI := P.idR a.author h6.author
  rw [hpa] at KI
  replace KI := Lib.hid KI
  have KT := fun (w : World) (bd : Nat) (hb : Below W.heap.size W w) (h0 : Av w bd cs a e s) => P.idsR A a.to nA cA w hb (h0.toAt h9).1 ((h0.toAt h9).2.2.more h0.le) (by rw [(h0.toAt h9).1]; exact h6.to) h6.tos
  rw [hpt] at KT
  replace KT := Lib.hid KT
  have KP := P.posting a.kind
  rw [q8] at KP
  replace KP := Lib.hid KP
  have ND := more_object (valid_good hv) 120
  have NE := more_target (valid_good hv) 120
  have NF : good { a with wraps := ⟨1, 1, bx0⟩ :: a.wraps } = false := more_wraps
  have szD : Sz 1000000 1000000 { a with object := a.object ++ [120] } := ⟨h6.author, h6.prev, by show (a.object ++ [120]).length ≤ 1000000; simp; omega, h6.target, h6.group, h6.text, h6.nonce, h6.data, h6.tag, h6.to, h6.tos, h6.wraps, h6.boxes⟩
  have szE : Sz 1000000 1000000 { a with target := a.target ++ [120] } := ⟨h6.author, h6.prev, h6.object, by show (a.target ++ [120]).length ≤ 1000000; simp; omega, h6.group, h6.text, h6.nonce, h6.data, h6.tag, h6.to, h6.tos, h6.wraps, h6.boxes⟩
  have szF : Sz 1000000 1000000 { a with wraps := ⟨1, 1, bx0⟩ :: a.wraps } := ⟨h6.author, h6.prev, h6.object, h6.target, h6.group, h6.text, h6.nonce, h6.data, h6.tag, h6.to, h6.tos, by show a.wraps.length + 1 ≤ 1000000; have := hl.wraps.2; omega, fun w hw => by
    rcases List.mem_cons.1 hw with rfl | hw
    · simp [bx0]
    · exact h6.boxes w hw⟩
  have KD := fun (w : World) (b0 : Nat) (c0 : List Value) (hb : Below W.heap.size W w) (h0 : Av w b0 c0 { a with object := a.object ++ [120] } e s) => P.rightC hb h0 szD
  rw [show valid { a with object := a.object ++ [120] } e s = false by unfold valid; rw [ND, Bool.and_false]] at KD
  replace KD := Lib.hid KD
  have KE := fun (w : World) (b0 : Nat) (c0 : List Value) (hb : Below W.heap.size W w) (h0 : Av w b0 c0 { a with target := a.target ++ [120] } e s) => P.rightC hb h0 szE
  rw [show valid { a with target := a.target ++ [120] } e s = false by unfold valid; rw [NE, Bool.and_false]] at KE
  replace KE := Lib.hid KE
  have KH := fun (w : World) (b0 : Nat) (c0 : List Value) (hb : Below W.heap.size W w) (h0 : Av w b0 c0 { a with wraps := ⟨1, 1, bx0⟩ :: a.wraps } e s) => P.rightC hb h0 szF
  rw [show valid { a with wraps := ⟨1, 1, bx0⟩ :: a.wraps } e s = false by unfold valid; rw [NF, Bool.and_false]] at KH
  replace KH := Lib.hid KH
  have KB := fun (w : World) (b0 : Nat) (c0 : List Value) (hb : Below W.heap.size W w) (h0 : Av w b0 c0 { a with epoch := a.epoch + 1 } e s) => P.rightC hb h0 ⟨h6.author, h6.prev, h6.object, h6.target, h6.group, h6.text, h6.nonce, h6.data, h6.tag, h6.to, h6.tos, h6.wraps, h6.boxes⟩
  rw [show valid { a with epoch := a.epoch + 1 } e s = false by unfold valid; rw [nb, Bool.and_false]] at KB
  replace KB := Lib.hid KB
  have KC := fun (w : World) (b0 : Nat) (c0 : List Value) (hb : Below W.heap.size W w) (h0 : Av w b0 c0 { a with m := a.m - 1 } e s) => P.rightC hb h0 ⟨h6.author, h6.prev, h6.object, h6.target, h6.group, h6.text, h6.nonce, h6.data, h6.tag, h6.to, h6.tos, h6.wraps, h6.boxes⟩
  rw [show valid { a with m := a.m - 1 } e s = false by unfold valid; rw [nc, Bool.and_false]] at KC
  replace KC := Lib.hid KC
  have hnQ := (V.out.wrAt h15).1
  have hnA := (V.out.toAt h9).1
  have HLQ := Lib.hid (show ([⟨1, 1, bx0⟩] : List Wr).length + a.wraps.length ≤ 100000 by have := hl.wraps.2; simp; omega)
  obtain rfl : nQ = 0 := by rw [hnQ, q19]; rfl
  have HMQ := Lib.hid hnQ
  clear P hsm hv0 h9 h15 hz h hv hpa hpt h6 hl ND NE NF szD szE szF hnQ hnA q8 q19 nb nc
  have q9a : (a.scope != 0) = false := by rw [bne, q9]; rfl
  have q9b : decide (a.scope = 0) = true := by rw [← q9]; rfl
  go_enter Tryz.func7, Tryz.ntmps7
  go_wp2_with (first | fail)
  replace T := Lib.hid (T.out.alloc (.cells cs.toArray 29))
  replace V := Lib.hid (V.out.alloc (.cells cs.toArray 29))
  have B1 := Lib.hid (show Lk.Bl (W.alloc (.cells cs.toArray 29)) W.heap.size cs 29 from by have h := Lk.Bl.new W cs 29; simpa using h)
  generalize W.alloc (.cells cs.toArray 29) = w1 at *
  refine (KS.out _ T.out.bel).mono ?_
  rintro e w2 ⟨rfl, hb⟩
  replace T := Lib.hid (T.out.step hb)
  replace B1 := Lib.hid (B1.out.step hb)
  replace V := Lib.hid (V.out.step hb)
  clear hb
  go_wp2_with (first | ((with_reducible refine Lk.ld (d := 14) W.heap.size B1.out V.out.len ?_ ?_ ?_); exact rfl; exact rfl) | fail)
  refine (KFa.out _ _ _ T.out.bel V.out).mono ?_
  rintro e w3 ⟨rfl, hb⟩
  replace T := Lib.hid (T.out.step hb)
  replace B1 := Lib.hid (B1.out.step hb)
  replace V := Lib.hid (V.out.step hb)
  clear hb
  go_wp2_with (first | ((with_reducible refine Lk.ld (d := 18) W.heap.size B1.out V.out.len ?_ ?_ ?_); exact rfl; exact rfl) | fail)
  refine (KRa.out _ _ _ T.out.bel V.out).mono ?_
  rintro e w4 ⟨rfl, hb⟩
  replace T := Lib.hid (T.out.step hb)
  replace B1 := Lib.hid (B1.out.step hb)
  replace V := Lib.hid (V.out.step hb)
  clear hb
  have cB1_0 := B1.out.c 0 _ V.out.author
  go_wp2_with (first | fail)
  clear cB1_0
  refine (KI.out _ T.out.bel).mono ?_
  rintro e w5 ⟨rfl, hb⟩
  replace T := Lib.hid (T.out.step hb)
  replace B1 := Lib.hid (B1.out.step hb)
  replace V := Lib.hid (V.out.step hb)
  clear hb
  have cB1_9 := B1.out.c 9 _ H9.out
  go_wp2_with (first | fail)
  clear cB1_9
  refine (KT.out _ _ T.out.bel V.out).mono ?_
  rintro e w6 ⟨rfl, hb⟩
  replace T := Lib.hid (T.out.step hb)
  replace B1 := Lib.hid (B1.out.step hb)
  replace V := Lib.hid (V.out.step hb)
  clear hb
  have cB1_1 := B1.out.c 1 _ V.out.seq
  have cB1_3 := B1.out.c 3 _ V.out.kind
  have cB1_2 := B1.out.c 2 _ V.out.prev
  go_wp2_with (first | fail)
  clear cB1_1 cB1_3 cB1_2
  refine (KP.out _ T.out.bel).mono ?_
  rintro e w7 ⟨rfl, hb⟩
  replace T := Lib.hid (T.out.step hb)
  replace B1 := Lib.hid (B1.out.step hb)
  replace V := Lib.hid (V.out.step hb)
  clear hb
  have cB1_3 := B1.out.c 3 _ V.out.kind
  have cB1_15 := B1.out.c 15 _ H15.out
  go_wp2_with (first | ((with_reducible refine Lk.nw cs V.out.len V.out.one ?_ ?_ ?_ ?_); exact rfl; exact rfl; exact rfl) | ((with_reducible refine Lk.ld (d := 143) W.heap.size B1.out V.out.len ?_ ?_ ?_); exact rfl; exact rfl) | fail)
  clear cB1_3 cB1_15
  intro w8 bN hb
  have LB1_B2 := Lib.hid (show W.heap.size < w7.heap.size from B1.out.lt)
  have GV_B2 := Lib.hid (show W.heap.size ≤ w7.heap.size from V.out.le)
  have GB2 := Lib.hid (show W.heap.size ≤ w7.heap.size from T.out.bel.size)
  replace T := Lib.hid (T.out.step hb)
  replace B1 := Lib.hid (B1.out.step hb)
  replace V := Lib.hid (V.out.step hb)
  have B2 := Lib.hid (show Lk.Bl w8 w7.heap.size cs 29 from bN)
  clear bN hb
  have cB1_14 := B1.out.c 14 _ V.out.epoch
  go_wp2_with (first | ((with_reducible refine Lk.st w7.heap.size 14 [.int .i64 (a.epoch + 1)] (.int .i64 (a.epoch + 1)) B2.out ?_ ?_ ?_ ?_ ?_ ?_ ?_); exact Lk.infoI; exact rfl; (rw [V.out.len]; exact Nat.le_of_ble_eq_true rfl); (simp [Value.oneCell']); exact rfl; exact rfl) | fail)
  clear cB1_14
  intro w9 bN hb
  replace B1 := Lib.hid (B1.out.under hb LB1_B2.out)
  replace T := Lib.hid (T.out.under hb GB2.out)
  replace V := Lib.hid (V.out.under hb GV_B2.out)
  obtain ⟨cs9, hcs9⟩ : ∃ x : List Value, x = cs.take 14 ++ [.int .i64 (a.epoch + 1)] ++ cs.drop (14 + ([.int .i64 (a.epoch + 1)] : List Value).length) := ⟨_, rfl⟩
  have V9 := Lib.hid (show Av w9 W.heap.size cs9 { a with epoch := a.epoch + 1 } e s from by rw [hcs9]; exact V.out.put 14 [.int .i64 (a.epoch + 1)] rfl rfl (fun _ _ _ _ _ _ => rfl))
  replace B2 := Lib.hid (show Lk.Bl w9 w7.heap.size cs9 29 from by rw [hcs9]; exact bN)
  clear bN hb hcs9
  have GV9_B2 := GV_B2
  go_wp2_with (first | ((with_reducible refine Lk.nw cs V.out.len V.out.one ?_ ?_ ?_ ?_); exact rfl; exact rfl; exact rfl) | ((with_reducible refine Lk.ld (d := 148) W.heap.size B1.out V.out.len ?_ ?_ ?_); exact rfl; exact rfl) | fail)
  intro w10 bN hb
  have LB1_B3 := Lib.hid (show W.heap.size < w9.heap.size from B1.out.lt)
  have LB2_B3 := Lib.hid (show w7.heap.size < w9.heap.size from B2.out.lt)
  have GV_B3 := Lib.hid (show W.heap.size ≤ w9.heap.size from V.out.le)
  have GV9_B3 := Lib.hid (show W.heap.size ≤ w9.heap.size from V9.out.le)
  have GB3 := Lib.hid (show W.heap.size ≤ w9.heap.size from T.out.bel.size)
  replace T := Lib.hid (T.out.step hb)
  replace B1 := Lib.hid (B1.out.step hb)
  replace B2 := Lib.hid (B2.out.step hb)
  replace V := Lib.hid (V.out.step hb)
  replace V9 := Lib.hid (V9.out.step hb)
  have B3 := Lib.hid (show Lk.Bl w10 w9.heap.size cs 29 from bN)
  clear bN hb
  have cB1_17 := B1.out.c 17 _ V.out.m
  go_wp2_with (first | ((with_reducible refine Lk.st w9.heap.size 17 [.int .i64 (a.m - 1)] (.int .i64 (a.m - 1)) B3.out ?_ ?_ ?_ ?_ ?_ ?_ ?_); exact Lk.infoI; exact rfl; (rw [V.out.len]; exact Nat.le_of_ble_eq_true rfl); (simp [Value.oneCell']); exact rfl; exact rfl) | fail)
  clear cB1_17
  intro w11 bN hb
  replace B1 := Lib.hid (B1.out.under hb LB1_B3.out)
  replace B2 := Lib.hid (B2.out.under hb LB2_B3.out)
  replace T := Lib.hid (T.out.under hb GB3.out)
  replace V := Lib.hid (V.out.under hb GV_B3.out)
  replace V9 := Lib.hid (V9.out.under hb GV9_B3.out)
  obtain ⟨cs11, hcs11⟩ : ∃ x : List Value, x = cs.take 17 ++ [.int .i64 (a.m - 1)] ++ cs.drop (17 + ([.int .i64 (a.m - 1)] : List Value).length) := ⟨_, rfl⟩
  have V11 := Lib.hid (show Av w11 W.heap.size cs11 { a with m := a.m - 1 } e s from by rw [hcs11]; exact V.out.put 17 [.int .i64 (a.m - 1)] rfl rfl (fun _ _ _ _ _ _ => rfl))
  replace B3 := Lib.hid (show Lk.Bl w11 w9.heap.size cs11 29 from by rw [hcs11]; exact bN)
  clear bN hb hcs11
  have GV11_B2 := GV_B2
  have GV11_B3 := GV_B3
  go_wp2_with (first | ((with_reducible refine Lk.nw cs V.out.len V.out.one ?_ ?_ ?_ ?_); exact rfl; exact rfl; exact rfl) | ((with_reducible refine Lk.ld (d := 153) W.heap.size B1.out V.out.len ?_ ?_ ?_); exact rfl; exact rfl) | fail)
  intro w12 bN hb
  have LB1_B4 := Lib.hid (show W.heap.size < w11.heap.size from B1.out.lt)
  have LB2_B4 := Lib.hid (show w7.heap.size < w11.heap.size from B2.out.lt)
  have LB3_B4 := Lib.hid (show w9.heap.size < w11.heap.size from B3.out.lt)
  have GV_B4 := Lib.hid (show W.heap.size ≤ w11.heap.size from V.out.le)
  have GV9_B4 := Lib.hid (show W.heap.size ≤ w11.heap.size from V9.out.le)
  have GV11_B4 := Lib.hid (show W.heap.size ≤ w11.heap.size from V11.out.le)
  have GB4 := Lib.hid (show W.heap.size ≤ w11.heap.size from T.out.bel.size)
  replace T := Lib.hid (T.out.step hb)
  replace B1 := Lib.hid (B1.out.step hb)
  replace B2 := Lib.hid (B2.out.step hb)
  replace B3 := Lib.hid (B3.out.step hb)
  replace V := Lib.hid (V.out.step hb)
  replace V9 := Lib.hid (V9.out.step hb)
  replace V11 := Lib.hid (V11.out.step hb)
  have B4 := Lib.hid (show Lk.Bl w12 w11.heap.size cs 29 from bN)
  clear bN hb
  have cB1_5 := B1.out.c 5 _ V.out.object
  go_wp2_with (first | ((with_reducible refine Lk.st w11.heap.size 5 [.string (S2.B (a.object ++ [120]))] (.string (S2.B (a.object ++ [120]))) B4.out ?_ ?_ ?_ ?_ ?_ ?_ ?_); exact Lk.infoS; exact rfl; (rw [V.out.len]; exact Nat.le_of_ble_eq_true rfl); (simp [Value.oneCell']); exact rfl; exact rfl) | fail)
  clear cB1_5
  intro w13 bN hb
  replace B1 := Lib.hid (B1.out.under hb LB1_B4.out)
  replace B2 := Lib.hid (B2.out.under hb LB2_B4.out)
  replace B3 := Lib.hid (B3.out.under hb LB3_B4.out)
  replace T := Lib.hid (T.out.under hb GB4.out)
  replace V := Lib.hid (V.out.under hb GV_B4.out)
  replace V9 := Lib.hid (V9.out.under hb GV9_B4.out)
  replace V11 := Lib.hid (V11.out.under hb GV11_B4.out)
  obtain ⟨cs13, hcs13⟩ : ∃ x : List Value, x = cs.take 5 ++ [.string (S2.B (a.object ++ [120]))] ++ cs.drop (5 + ([.string (S2.B (a.object ++ [120]))] : List Value).length) := ⟨_, rfl⟩
  have V13 := Lib.hid (show Av w13 W.heap.size cs13 { a with object := a.object ++ [120] } e s from by rw [hcs13]; exact V.out.put 5 [.string (S2.B (a.object ++ [120]))] rfl rfl (fun _ _ _ _ _ _ => rfl))
  replace B4 := Lib.hid (show Lk.Bl w13 w11.heap.size cs13 29 from by rw [hcs13]; exact bN)
  clear bN hb hcs13
  have GV13_B2 := GV_B2
  have GV13_B3 := GV_B3
  have GV13_B4 := GV_B4
  go_wp2_with (first | ((with_reducible refine Lk.nw cs V.out.len V.out.one ?_ ?_ ?_ ?_); exact rfl; exact rfl; exact rfl) | ((with_reducible refine Lk.ld (d := 158) W.heap.size B1.out V.out.len ?_ ?_ ?_); exact rfl; exact rfl) | fail)
  intro w14 bN hb
  have LB1_B5 := Lib.hid (show W.heap.size < w13.heap.size from B1.out.lt)
  have LB2_B5 := Lib.hid (show w7.heap.size < w13.heap.size from B2.out.lt)
  have LB3_B5 := Lib.hid (show w9.heap.size < w13.heap.size from B3.out.lt)
  have LB4_B5 := Lib.hid (show w11.heap.size < w13.heap.size from B4.out.lt)
  have GV_B5 := Lib.hid (show W.heap.size ≤ w13.heap.size from V.out.le)
  have GV9_B5 := Lib.hid (show W.heap.size ≤ w13.heap.size from V9.out.le)
  have GV11_B5 := Lib.hid (show W.heap.size ≤ w13.heap.size from V11.out.le)
  have GV13_B5 := Lib.hid (show W.heap.size ≤ w13.heap.size from V13.out.le)
  have GB5 := Lib.hid (show W.heap.size ≤ w13.heap.size from T.out.bel.size)
  replace T := Lib.hid (T.out.step hb)
  replace B1 := Lib.hid (B1.out.step hb)
  replace B2 := Lib.hid (B2.out.step hb)
  replace B3 := Lib.hid (B3.out.step hb)
  replace B4 := Lib.hid (B4.out.step hb)
  replace V := Lib.hid (V.out.step hb)
  replace V9 := Lib.hid (V9.out.step hb)
  replace V11 := Lib.hid (V11.out.step hb)
  replace V13 := Lib.hid (V13.out.step hb)
  have B5 := Lib.hid (show Lk.Bl w14 w13.heap.size cs 29 from bN)
  clear bN hb
  have cB1_6 := B1.out.c 6 _ V.out.target
  go_wp2_with (first | ((with_reducible refine Lk.st w13.heap.size 6 [.string (S2.B (a.target ++ [120]))] (.string (S2.B (a.target ++ [120]))) B5.out ?_ ?_ ?_ ?_ ?_ ?_ ?_); exact Lk.infoS; exact rfl; (rw [V.out.len]; exact Nat.le_of_ble_eq_true rfl); (simp [Value.oneCell']); exact rfl; exact rfl) | fail)
  clear cB1_6
  intro w15 bN hb
  replace B1 := Lib.hid (B1.out.under hb LB1_B5.out)
  replace B2 := Lib.hid (B2.out.under hb LB2_B5.out)
  replace B3 := Lib.hid (B3.out.under hb LB3_B5.out)
  replace B4 := Lib.hid (B4.out.under hb LB4_B5.out)
  replace T := Lib.hid (T.out.under hb GB5.out)
  replace V := Lib.hid (V.out.under hb GV_B5.out)
  replace V9 := Lib.hid (V9.out.under hb GV9_B5.out)
  replace V11 := Lib.hid (V11.out.under hb GV11_B5.out)
  replace V13 := Lib.hid (V13.out.under hb GV13_B5.out)
  obtain ⟨cs15, hcs15⟩ : ∃ x : List Value, x = cs.take 6 ++ [.string (S2.B (a.target ++ [120]))] ++ cs.drop (6 + ([.string (S2.B (a.target ++ [120]))] : List Value).length) := ⟨_, rfl⟩
  have V15 := Lib.hid (show Av w15 W.heap.size cs15 { a with target := a.target ++ [120] } e s from by rw [hcs15]; exact V.out.put 6 [.string (S2.B (a.target ++ [120]))] rfl rfl (fun _ _ _ _ _ _ => rfl))
  replace B5 := Lib.hid (show Lk.Bl w15 w13.heap.size cs15 29 from by rw [hcs15]; exact bN)
  clear bN hb hcs15
  have GV15_B2 := GV_B2
  have GV15_B3 := GV_B3
  have GV15_B4 := GV_B4
  have GV15_B5 := GV_B5
  go_wp2_with (first | ((with_reducible refine Lk.nw cs V.out.len V.out.one ?_ ?_ ?_ ?_); exact rfl; exact rfl; exact rfl) | ((with_reducible refine Lk.ld (d := 163) W.heap.size B1.out V.out.len ?_ ?_ ?_); exact rfl; exact rfl) | fail)
  intro w16 bN hb
  have LB1_B6 := Lib.hid (show W.heap.size < w15.heap.size from B1.out.lt)
  have LB2_B6 := Lib.hid (show w7.heap.size < w15.heap.size from B2.out.lt)
  have LB3_B6 := Lib.hid (show w9.heap.size < w15.heap.size from B3.out.lt)
  have LB4_B6 := Lib.hid (show w11.heap.size < w15.heap.size from B4.out.lt)
  have LB5_B6 := Lib.hid (show w13.heap.size < w15.heap.size from B5.out.lt)
  have GV_B6 := Lib.hid (show W.heap.size ≤ w15.heap.size from V.out.le)
  have GV9_B6 := Lib.hid (show W.heap.size ≤ w15.heap.size from V9.out.le)
  have GV11_B6 := Lib.hid (show W.heap.size ≤ w15.heap.size from V11.out.le)
  have GV13_B6 := Lib.hid (show W.heap.size ≤ w15.heap.size from V13.out.le)
  have GV15_B6 := Lib.hid (show W.heap.size ≤ w15.heap.size from V15.out.le)
  have GB6 := Lib.hid (show W.heap.size ≤ w15.heap.size from T.out.bel.size)
  replace T := Lib.hid (T.out.step hb)
  replace B1 := Lib.hid (B1.out.step hb)
  replace B2 := Lib.hid (B2.out.step hb)
  replace B3 := Lib.hid (B3.out.step hb)
  replace B4 := Lib.hid (B4.out.step hb)
  replace B5 := Lib.hid (B5.out.step hb)
  replace V := Lib.hid (V.out.step hb)
  replace V9 := Lib.hid (V9.out.step hb)
  replace V11 := Lib.hid (V11.out.step hb)
  replace V13 := Lib.hid (V13.out.step hb)
  replace V15 := Lib.hid (V15.out.step hb)
  have B6 := Lib.hid (show Lk.Bl w16 w15.heap.size cs 29 from bN)
  clear bN hb
  have T0 := Lib.hid (show W.heap.size ≤ w16.heap.size from T.out.bel.size)
  have OW := Lib.hid (show OwnW (w16.alloc (.cells #[.int .i64 1, .int .i64 1, .string (S2.B []), .string (S2.B []), .string (S2.B [])] 50)) w16.heap.size (.slice (some ⟨w16.heap.size, 0, none⟩) 1 1) [⟨1, 1, bx0⟩] from OwnW.lit w16 [⟨1, 1, bx0⟩] (by decide))
  have SR := Lib.hid (show S2.Row (w16.alloc (.cells #[.int .i64 1, .int .i64 1, .string (S2.B []), .string (S2.B []), .string (S2.B [])] 50)) (w16.alloc (.cells #[.int .i64 1, .int .i64 1, .string (S2.B []), .string (S2.B []), .string (S2.B [])] 50)).heap.size Q (Ws a.wraps) from ((V.out.alloc (.cells #[.int .i64 1, .int .i64 1, .string (S2.B []), .string (S2.B []), .string (S2.B [])] 50)).wrAt H15.out).2.2.more (V.out.alloc (.cells #[.int .i64 1, .int .i64 1, .string (S2.B []), .string (S2.B []), .string (S2.B [])] 50)).le)
  have cB1_15 := (B1.out.alloc (.cells #[.int .i64 1, .int .i64 1, .string (S2.B []), .string (S2.B []), .string (S2.B [])] 50)).c 15 _ H15.out
  go_wp2_with (first | (at_builtin; refine wpList_appW rfl _ _ rfl OW.out SR.out rfl rfl HMQ.out HLQ.out ?_) | fail)
  clear cB1_15
  intro v1 w17 own1 hb1
  have hb : Below w16.heap.size w16 w17 := ((Below.refl _ _).alloc (Nat.le_refl _) (.cells #[.int .i64 1, .int .i64 1, .string (S2.B []), .string (S2.B []), .string (S2.B [])] 50)).trans hb1
  have LBQ := Lib.hid (show w15.heap.size < w16.heap.size from B6.out.lt)
  replace T := Lib.hid (T.out.step hb)
  replace B1 := Lib.hid (B1.out.step hb)
  replace B2 := Lib.hid (B2.out.step hb)
  replace B3 := Lib.hid (B3.out.step hb)
  replace B4 := Lib.hid (B4.out.step hb)
  replace B5 := Lib.hid (B5.out.step hb)
  replace B6 := Lib.hid (B6.out.step hb)
  replace V := Lib.hid (V.out.step hb)
  replace V9 := Lib.hid (V9.out.step hb)
  replace V11 := Lib.hid (V11.out.step hb)
  replace V13 := Lib.hid (V13.out.step hb)
  replace V15 := Lib.hid (V15.out.step hb)
  clear OW SR hb1 hb
  obtain ⟨AQ, nq, cq, rfl, hnq, hcq⟩ := own1.sl3
  have OQ := Lib.hid own1
  have HNQ := Lib.hid hnq
  have HCQ := Lib.hid hcq
  clear own1 hnq hcq
  go_wp2_with (first | ((with_reducible refine Lk.stX w15.heap.size 15 [.slice AQ nq cq] (.slice AQ nq cq) B6.out ?_ ?_ ?_ ?_ ?_ ?_ ?_); exact (show (Tryz.prog.info? 25).map (·.size) = some 1 by kernel_rfl); exact rfl; (rw [V.out.len]; exact Nat.le_of_ble_eq_true rfl); (simp [Value.oneCell']); exact rfl; exact rfl) | fail)
  intro w18 bN hb ho
  replace B1 := Lib.hid (B1.out.under hb LB1_B6.out)
  replace B2 := Lib.hid (B2.out.under hb LB2_B6.out)
  replace B3 := Lib.hid (B3.out.under hb LB3_B6.out)
  replace B4 := Lib.hid (B4.out.under hb LB4_B6.out)
  replace B5 := Lib.hid (B5.out.under hb LB5_B6.out)
  replace T := Lib.hid (T.out.under hb GB6.out)
  have RQ := row_only OQ.out.row ho OQ.out.addr LBQ.out
  have hbd : w17.heap.size ≤ w18.heap.size := hb.size
  replace V := Lib.hid (V.out.under hb GV_B6.out)
  replace V9 := Lib.hid (V9.out.under hb GV9_B6.out)
  replace V11 := Lib.hid (V11.out.under hb GV11_B6.out)
  replace V13 := Lib.hid (V13.out.under hb GV13_B6.out)
  replace V15 := Lib.hid (V15.out.under hb GV15_B6.out)
  have VF := Lib.hid (show Av w18 w17.heap.size (cs.take 15 ++ [.slice AQ nq cq] ++ cs.drop (15 + ([.slice AQ nq cq] : List Value).length)) { a with wraps := ⟨1, 1, bx0⟩ :: a.wraps } e s from V.out.putW RQ HNQ.out HCQ.out (Nat.le_trans T0.out OQ.out.le) hbd)
  obtain ⟨csF, hcsF⟩ : ∃ x : List Value, x = cs.take 15 ++ [.slice AQ nq cq] ++ cs.drop (15 + ([.slice AQ nq cq] : List Value).length) := ⟨_, rfl⟩
  rw [← hcsF] at VF bN
  replace B6 := Lib.hid bN
  clear bN hb ho hcsF RQ hbd OQ HNQ HCQ LBQ
  have cB1_7 := B1.out.c 7 _ V.out.scope
  have cB1_3 := B1.out.c 3 _ V.out.kind
  go_wp2_with (first | ((with_reducible refine Lk.ld (d := 198) w7.heap.size B2.out V9.out.len ?_ ?_ ?_); exact rfl; exact rfl) | fail)
  clear cB1_7 cB1_3
  refine (KB.out _ _ _ T.out.bel V9.out).mono ?_
  rintro e w19 ⟨rfl, hb⟩
  replace T := Lib.hid (T.out.step hb)
  replace B1 := Lib.hid (B1.out.step hb)
  replace B2 := Lib.hid (B2.out.step hb)
  replace B3 := Lib.hid (B3.out.step hb)
  replace B4 := Lib.hid (B4.out.step hb)
  replace B5 := Lib.hid (B5.out.step hb)
  replace B6 := Lib.hid (B6.out.step hb)
  replace V := Lib.hid (V.out.step hb)
  replace V9 := Lib.hid (V9.out.step hb)
  replace V11 := Lib.hid (V11.out.step hb)
  replace V13 := Lib.hid (V13.out.step hb)
  replace V15 := Lib.hid (V15.out.step hb)
  replace VF := Lib.hid (VF.out.step hb)
  clear hb
  go_wp2_with (first | ((with_reducible refine Lk.ld (d := 206) w9.heap.size B3.out V11.out.len ?_ ?_ ?_); exact rfl; exact rfl) | fail)
  refine (KC.out _ _ _ T.out.bel V11.out).mono ?_
  rintro e w20 ⟨rfl, hb⟩
  replace T := Lib.hid (T.out.step hb)
  replace B1 := Lib.hid (B1.out.step hb)
  replace B2 := Lib.hid (B2.out.step hb)
  replace B3 := Lib.hid (B3.out.step hb)
  replace B4 := Lib.hid (B4.out.step hb)
  replace B5 := Lib.hid (B5.out.step hb)
  replace B6 := Lib.hid (B6.out.step hb)
  replace V := Lib.hid (V.out.step hb)
  replace V9 := Lib.hid (V9.out.step hb)
  replace V11 := Lib.hid (V11.out.step hb)
  replace V13 := Lib.hid (V13.out.step hb)
  replace V15 := Lib.hid (V15.out.step hb)
  replace VF := Lib.hid (VF.out.step hb)
  clear hb
  go_wp2_with (first | ((with_reducible refine Lk.ld (d := 212) w11.heap.size B4.out V13.out.len ?_ ?_ ?_); exact rfl; exact rfl) | fail)
  refine (KD.out _ _ _ T.out.bel V13.out).mono ?_
  rintro e w21 ⟨rfl, hb⟩
  replace T := Lib.hid (T.out.step hb)
  replace B1 := Lib.hid (B1.out.step hb)
  replace B2 := Lib.hid (B2.out.step hb)
  replace B3 := Lib.hid (B3.out.step hb)
  replace B4 := Lib.hid (B4.out.step hb)
  replace B5 := Lib.hid (B5.out.step hb)
  replace B6 := Lib.hid (B6.out.step hb)
  replace V := Lib.hid (V.out.step hb)
  replace V9 := Lib.hid (V9.out.step hb)
  replace V11 := Lib.hid (V11.out.step hb)
  replace V13 := Lib.hid (V13.out.step hb)
  replace V15 := Lib.hid (V15.out.step hb)
  replace VF := Lib.hid (VF.out.step hb)
  clear hb
  go_wp2_with (first | ((with_reducible refine Lk.ld (d := 217) w13.heap.size B5.out V15.out.len ?_ ?_ ?_); exact rfl; exact rfl) | fail)
  refine (KE.out _ _ _ T.out.bel V15.out).mono ?_
  rintro e w22 ⟨rfl, hb⟩
  replace T := Lib.hid (T.out.step hb)
  replace B1 := Lib.hid (B1.out.step hb)
  replace B2 := Lib.hid (B2.out.step hb)
  replace B3 := Lib.hid (B3.out.step hb)
  replace B4 := Lib.hid (B4.out.step hb)
  replace B5 := Lib.hid (B5.out.step hb)
  replace B6 := Lib.hid (B6.out.step hb)
  replace V := Lib.hid (V.out.step hb)
  replace V9 := Lib.hid (V9.out.step hb)
  replace V11 := Lib.hid (V11.out.step hb)
  replace V13 := Lib.hid (V13.out.step hb)
  replace V15 := Lib.hid (V15.out.step hb)
  replace VF := Lib.hid (VF.out.step hb)
  clear hb
  go_wp2_with (first | ((with_reducible refine Lk.ld (d := 222) w15.heap.size B6.out VF.out.len ?_ ?_ ?_); exact rfl; exact rfl) | fail)
  refine (KH.out _ _ _ T.out.bel VF.out).mono ?_
  rintro e w23 ⟨rfl, hb⟩
  replace T := Lib.hid (T.out.step hb)
  replace B1 := Lib.hid (B1.out.step hb)
  replace B2 := Lib.hid (B2.out.step hb)
  replace B3 := Lib.hid (B3.out.step hb)
  replace B4 := Lib.hid (B4.out.step hb)
  replace B5 := Lib.hid (B5.out.step hb)
  replace B6 := Lib.hid (B6.out.step hb)
  replace V := Lib.hid (V.out.step hb)
  replace V9 := Lib.hid (V9.out.step hb)
  replace V11 := Lib.hid (V11.out.step hb)
  replace V13 := Lib.hid (V13.out.step hb)
  replace V15 := Lib.hid (V15.out.step hb)
  replace VF := Lib.hid (VF.out.step hb)
  clear hb
  go_wp2
  go_ret
  exact ⟨rfl, T.out.bel⟩
set_option maxHeartbeats 4000000 in
set_option maxRecDepth 100000 in
theorem fields_G {keyOk : Int → Int → Bool} {sgn : Int → Int → Str → Int × Int} {ver : Int → Str → Int → Int → Bool} {W : World} (P : Pk keyOk sgn ver W) (hsm : Ok W 9 #[] (.bool true))
    (a : Ac) (e s : Int) (cs : List Value) (A : Option Addr) (nA cA : Nat) (Q : Option Addr) (nQ cQ : Nat) (hv0 : Av W W.heap.size cs a e s) (h9 : cs[9]? = some (.slice A nA cA)) (h15 : cs[15]? = some (.slice Q nQ cQ)) (hz : Sz 281474976710656 140737488355328 a)
    (h : fewB a = true) (hv : valid a e s = true) (hpa : isId a.author = true) (hpt : ids a.to = true) (q1 : (a.seq == 0) = false) (q2 : (a.kind == 0) = false) (q3 : (a.prev == []) = false) (q4 : 0 < a.seq) (q5 : (a.prev.length : Int) = 32) (q6 : 7 ≤ a.kind) (q7 : ¬ a.kind ≤ 11) (q8 : posting a.kind = false) (q9 : (a.scope == 0) = false) (q16 : (a.kind == 16) = false) (q17 : (a.kind == 19) = false) (q18 : (a.kind == 18) = false) (q19 : a.wraps = []) (nc : good { a with m := a.m - 1 } = false) :
    Calls Tryz.prog 7 #[.agg cs.toArray] W fun x w' => x = .returned (.bool true) ∧ Below W.heap.size W w' := by
  have KS := Lib.hid hsm
  have T := Lib.hid (Lk.At.start W)
  have V := Lib.hid hv0
  have H9 := Lib.hid h9
  have H15 := Lib.hid h15
  have KFa := fun (w : World) (b0 : Nat) (c0 : List Value) (hb : Below W.heap.size W w) (h0 : Av w b0 c0 a e s) => fewC h0 hz
  rw [h] at KFa
  replace KFa := Lib.hid KFa
  have h6 := few_sz6 h
  have KRa := fun (w : World) (b0 : Nat) (c0 : List Value) (hb : Below W.heap.size W w) (h0 : Av w b0 c0 a e s) => P.rightC hb h0 h6
  rw [hv] at KRa
  replace KRa := Lib.hid KRa
  have hl := lim_of (valid_good hv)
  have hE0 : 0 ≤ a.epoch := by have := hl.epoch; simp only [epOk, Bool.and_eq_true, decide_eq_true_eq] at this; exact this.1
  have hE1 : a.epoch ≤ 1073741824 := by have := hl.epoch; simp only [epOk, Bool.and_eq_true, decide_eq_true_eq] at this; exact this.2
  have hM0 : 0 ≤ a.m := hl.m.1
  have hM1 : a.m < 2305843009213693951 := hl.m.2
  have hO1 : (a.object.length : Int) ≤ 32 := by have := hl.object; omega
  have hG1 : (a.target.length : Int) ≤ 32 := by have := hl.target; omega
  have KI := P.idR a.author h6.author
  rw [hpa] at KI
  replace KI := Lib.hid KI
  have KT := fun (w : World) (bd : Nat) (hb : Below W.heap.size W w) (h0 : Av w bd cs a e s) => P.idsR A a.to nA cA w hb (h0.toAt h9).1 ((h0.toAt h9).2.2.more h0.le) (by rw [(h0.toAt h9).1]; exact h6.to) h6.tos
  rw [hpt] at KT
  replace KT := Lib.hid KT
  have KP := P.posting a.kind
  rw [q8] at KP
  replace KP := Lib.hid KP
  have ND := more_object (valid_good hv) 120
  have NE := more_target (valid_good hv) 120
  have NF : good { a with wraps := ⟨1, 1, bx0⟩ :: a.wraps } = false := more_wraps
  have szD : Sz 1000000 1000000 { a with object := a.object ++ [120] } := ⟨h6.author, h6.prev, by show (a.object ++ [120]).length ≤ 1000000; simp; omega, h6.target, h6.group, h6.text, h6.nonce, h6.data, h6.tag, h6.to, h6.tos, h6.wraps, h6.boxes⟩
  have szE : Sz 1000000 1000000 { a with target := a.target ++ [120] } := ⟨h6.author, h6.prev, h6.object, by show (a.target ++ [120]).length ≤ 1000000; simp; omega, h6.group, h6.text, h6.nonce, h6.data, h6.tag, h6.to, h6.tos, h6.wraps, h6.boxes⟩
  have szF : Sz 1000000 1000000 { a with wraps := ⟨1, 1, bx0⟩ :: a.wraps } := ⟨h6.author, h6.prev, h6.object, h6.target, h6.group, h6.text, h6.nonce, h6.data, h6.tag, h6.to, h6.tos, by show a.wraps.length + 1 ≤ 1000000; have := hl.wraps.2; omega, fun w hw => by
    rcases List.mem_cons.1 hw with rfl | hw
    · simp [bx0]
    · exact h6.boxes w hw⟩
  have KD := fun (w : World) (b0 : Nat) (c0 : List Value) (hb : Below W.heap.size W w) (h0 : Av w b0 c0 { a with object := a.object ++ [120] } e s) => P.rightC hb h0 szD
  rw [show valid { a with object := a.object ++ [120] } e s = false by unfold valid; rw [ND, Bool.and_false]] at KD
  replace KD := Lib.hid KD
  have KE := fun (w : World) (b0 : Nat) (c0 : List Value) (hb : Below W.heap.size W w) (h0 : Av w b0 c0 { a with target := a.target ++ [120] } e s) => P.rightC hb h0 szE
  rw [show valid { a with target := a.target ++ [120] } e s = false by unfold valid; rw [NE, Bool.and_false]] at KE
  replace KE := Lib.hid KE
  have KH := fun (w : World) (b0 : Nat) (c0 : List Value) (hb : Below W.heap.size W w) (h0 : Av w b0 c0 { a with wraps := ⟨1, 1, bx0⟩ :: a.wraps } e s) => P.rightC hb h0 szF
  rw [show valid { a with wraps := ⟨1, 1, bx0⟩ :: a.wraps } e s = false by unfold valid; rw [NF, Bool.and_false]] at KH
  replace KH := Lib.hid KH
  have KC := fun (w : World) (b0 : Nat) (c0 : List Value) (hb : Below W.heap.size W w) (h0 : Av w b0 c0 { a with m := a.m - 1 } e s) => P.rightC hb h0 ⟨h6.author, h6.prev, h6.object, h6.target, h6.group, h6.text, h6.nonce, h6.data, h6.tag, h6.to, h6.tos, h6.wraps, h6.boxes⟩
  rw [show valid { a with m := a.m - 1 } e s = false by unfold valid; rw [nc, Bool.and_false]] at KC
  replace KC := Lib.hid KC
  have hnQ := (V.out.wrAt h15).1
  have hnA := (V.out.toAt h9).1
  have HLQ := Lib.hid (show ([⟨1, 1, bx0⟩] : List Wr).length + a.wraps.length ≤ 100000 by have := hl.wraps.2; simp; omega)
  obtain rfl : nQ = 0 := by rw [hnQ, q19]; rfl
  have HMQ := Lib.hid hnQ
  clear P hsm hv0 h9 h15 hz h hv hpa hpt h6 hl ND NE NF szD szE szF hnQ hnA q8 q19 nc
  have q9a : (a.scope != 0) = true := by rw [bne, q9]; rfl
  have q9b : decide (a.scope = 0) = false := by rw [← q9]; rfl
  go_enter Tryz.func7, Tryz.ntmps7
  go_wp2_with (first | fail)
  replace T := Lib.hid (T.out.alloc (.cells cs.toArray 29))
  replace V := Lib.hid (V.out.alloc (.cells cs.toArray 29))
  have B1 := Lib.hid (show Lk.Bl (W.alloc (.cells cs.toArray 29)) W.heap.size cs 29 from by have h := Lk.Bl.new W cs 29; simpa using h)
  generalize W.alloc (.cells cs.toArray 29) = w1 at *
  refine (KS.out _ T.out.bel).mono ?_
  rintro e w2 ⟨rfl, hb⟩
  replace T := Lib.hid (T.out.step hb)
  replace B1 := Lib.hid (B1.out.step hb)
  replace V := Lib.hid (V.out.step hb)
  clear hb
  go_wp2_with (first | ((with_reducible refine Lk.ld (d := 14) W.heap.size B1.out V.out.len ?_ ?_ ?_); exact rfl; exact rfl) | fail)
  refine (KFa.out _ _ _ T.out.bel V.out).mono ?_
  rintro e w3 ⟨rfl, hb⟩
  replace T := Lib.hid (T.out.step hb)
  replace B1 := Lib.hid (B1.out.step hb)
  replace V := Lib.hid (V.out.step hb)
  clear hb
  go_wp2_with (first | ((with_reducible refine Lk.ld (d := 18) W.heap.size B1.out V.out.len ?_ ?_ ?_); exact rfl; exact rfl) | fail)
  refine (KRa.out _ _ _ T.out.bel V.out).mono ?_
  rintro e w4 ⟨rfl, hb⟩
  replace T := Lib.hid (T.out.step hb)
  replace B1 := Lib.hid (B1.out.step hb)
  replace V := Lib.hid (V.out.step hb)
  clear hb
  have cB1_0 := B1.out.c 0 _ V.out.author
  go_wp2_with (first | fail)
  clear cB1_0
  refine (KI.out _ T.out.bel).mono ?_
  rintro e w5 ⟨rfl, hb⟩
  replace T := Lib.hid (T.out.step hb)
  replace B1 := Lib.hid (B1.out.step hb)
  replace V := Lib.hid (V.out.step hb)
  clear hb
  have cB1_9 := B1.out.c 9 _ H9.out
  go_wp2_with (first | fail)
  clear cB1_9
  refine (KT.out _ _ T.out.bel V.out).mono ?_
  rintro e w6 ⟨rfl, hb⟩
  replace T := Lib.hid (T.out.step hb)
  replace B1 := Lib.hid (B1.out.step hb)
  replace V := Lib.hid (V.out.step hb)
  clear hb
  have cB1_1 := B1.out.c 1 _ V.out.seq
  have cB1_3 := B1.out.c 3 _ V.out.kind
  have cB1_2 := B1.out.c 2 _ V.out.prev
  go_wp2_with (first | fail)
  clear cB1_1 cB1_3 cB1_2
  refine (KP.out _ T.out.bel).mono ?_
  rintro e w7 ⟨rfl, hb⟩
  replace T := Lib.hid (T.out.step hb)
  replace B1 := Lib.hid (B1.out.step hb)
  replace V := Lib.hid (V.out.step hb)
  clear hb
  have cB1_3 := B1.out.c 3 _ V.out.kind
  have cB1_15 := B1.out.c 15 _ H15.out
  go_wp2_with (first | ((with_reducible refine Lk.nw cs V.out.len V.out.one ?_ ?_ ?_ ?_); exact rfl; exact rfl; exact rfl) | ((with_reducible refine Lk.ld (d := 143) W.heap.size B1.out V.out.len ?_ ?_ ?_); exact rfl; exact rfl) | fail)
  clear cB1_3 cB1_15
  intro w8 bN hb
  have LB1_B2 := Lib.hid (show W.heap.size < w7.heap.size from B1.out.lt)
  have GV_B2 := Lib.hid (show W.heap.size ≤ w7.heap.size from V.out.le)
  have GB2 := Lib.hid (show W.heap.size ≤ w7.heap.size from T.out.bel.size)
  replace T := Lib.hid (T.out.step hb)
  replace B1 := Lib.hid (B1.out.step hb)
  replace V := Lib.hid (V.out.step hb)
  have B2 := Lib.hid (show Lk.Bl w8 w7.heap.size cs 29 from bN)
  clear bN hb
  have cB1_14 := B1.out.c 14 _ V.out.epoch
  go_wp2_with (first | ((with_reducible refine Lk.st w7.heap.size 14 [.int .i64 (a.epoch + 1)] (.int .i64 (a.epoch + 1)) B2.out ?_ ?_ ?_ ?_ ?_ ?_ ?_); exact Lk.infoI; exact rfl; (rw [V.out.len]; exact Nat.le_of_ble_eq_true rfl); (simp [Value.oneCell']); exact rfl; exact rfl) | fail)
  clear cB1_14
  intro w9 bN hb
  replace B1 := Lib.hid (B1.out.under hb LB1_B2.out)
  replace T := Lib.hid (T.out.under hb GB2.out)
  replace V := Lib.hid (V.out.under hb GV_B2.out)
  obtain ⟨cs9, hcs9⟩ : ∃ x : List Value, x = cs.take 14 ++ [.int .i64 (a.epoch + 1)] ++ cs.drop (14 + ([.int .i64 (a.epoch + 1)] : List Value).length) := ⟨_, rfl⟩
  have V9 := Lib.hid (show Av w9 W.heap.size cs9 { a with epoch := a.epoch + 1 } e s from by rw [hcs9]; exact V.out.put 14 [.int .i64 (a.epoch + 1)] rfl rfl (fun _ _ _ _ _ _ => rfl))
  replace B2 := Lib.hid (show Lk.Bl w9 w7.heap.size cs9 29 from by rw [hcs9]; exact bN)
  clear bN hb hcs9
  have GV9_B2 := GV_B2
  go_wp2_with (first | ((with_reducible refine Lk.nw cs V.out.len V.out.one ?_ ?_ ?_ ?_); exact rfl; exact rfl; exact rfl) | ((with_reducible refine Lk.ld (d := 148) W.heap.size B1.out V.out.len ?_ ?_ ?_); exact rfl; exact rfl) | fail)
  intro w10 bN hb
  have LB1_B3 := Lib.hid (show W.heap.size < w9.heap.size from B1.out.lt)
  have LB2_B3 := Lib.hid (show w7.heap.size < w9.heap.size from B2.out.lt)
  have GV_B3 := Lib.hid (show W.heap.size ≤ w9.heap.size from V.out.le)
  have GV9_B3 := Lib.hid (show W.heap.size ≤ w9.heap.size from V9.out.le)
  have GB3 := Lib.hid (show W.heap.size ≤ w9.heap.size from T.out.bel.size)
  replace T := Lib.hid (T.out.step hb)
  replace B1 := Lib.hid (B1.out.step hb)
  replace B2 := Lib.hid (B2.out.step hb)
  replace V := Lib.hid (V.out.step hb)
  replace V9 := Lib.hid (V9.out.step hb)
  have B3 := Lib.hid (show Lk.Bl w10 w9.heap.size cs 29 from bN)
  clear bN hb
  have cB1_17 := B1.out.c 17 _ V.out.m
  go_wp2_with (first | ((with_reducible refine Lk.st w9.heap.size 17 [.int .i64 (a.m - 1)] (.int .i64 (a.m - 1)) B3.out ?_ ?_ ?_ ?_ ?_ ?_ ?_); exact Lk.infoI; exact rfl; (rw [V.out.len]; exact Nat.le_of_ble_eq_true rfl); (simp [Value.oneCell']); exact rfl; exact rfl) | fail)
  clear cB1_17
  intro w11 bN hb
  replace B1 := Lib.hid (B1.out.under hb LB1_B3.out)
  replace B2 := Lib.hid (B2.out.under hb LB2_B3.out)
  replace T := Lib.hid (T.out.under hb GB3.out)
  replace V := Lib.hid (V.out.under hb GV_B3.out)
  replace V9 := Lib.hid (V9.out.under hb GV9_B3.out)
  obtain ⟨cs11, hcs11⟩ : ∃ x : List Value, x = cs.take 17 ++ [.int .i64 (a.m - 1)] ++ cs.drop (17 + ([.int .i64 (a.m - 1)] : List Value).length) := ⟨_, rfl⟩
  have V11 := Lib.hid (show Av w11 W.heap.size cs11 { a with m := a.m - 1 } e s from by rw [hcs11]; exact V.out.put 17 [.int .i64 (a.m - 1)] rfl rfl (fun _ _ _ _ _ _ => rfl))
  replace B3 := Lib.hid (show Lk.Bl w11 w9.heap.size cs11 29 from by rw [hcs11]; exact bN)
  clear bN hb hcs11
  have GV11_B2 := GV_B2
  have GV11_B3 := GV_B3
  go_wp2_with (first | ((with_reducible refine Lk.nw cs V.out.len V.out.one ?_ ?_ ?_ ?_); exact rfl; exact rfl; exact rfl) | ((with_reducible refine Lk.ld (d := 153) W.heap.size B1.out V.out.len ?_ ?_ ?_); exact rfl; exact rfl) | fail)
  intro w12 bN hb
  have LB1_B4 := Lib.hid (show W.heap.size < w11.heap.size from B1.out.lt)
  have LB2_B4 := Lib.hid (show w7.heap.size < w11.heap.size from B2.out.lt)
  have LB3_B4 := Lib.hid (show w9.heap.size < w11.heap.size from B3.out.lt)
  have GV_B4 := Lib.hid (show W.heap.size ≤ w11.heap.size from V.out.le)
  have GV9_B4 := Lib.hid (show W.heap.size ≤ w11.heap.size from V9.out.le)
  have GV11_B4 := Lib.hid (show W.heap.size ≤ w11.heap.size from V11.out.le)
  have GB4 := Lib.hid (show W.heap.size ≤ w11.heap.size from T.out.bel.size)
  replace T := Lib.hid (T.out.step hb)
  replace B1 := Lib.hid (B1.out.step hb)
  replace B2 := Lib.hid (B2.out.step hb)
  replace B3 := Lib.hid (B3.out.step hb)
  replace V := Lib.hid (V.out.step hb)
  replace V9 := Lib.hid (V9.out.step hb)
  replace V11 := Lib.hid (V11.out.step hb)
  have B4 := Lib.hid (show Lk.Bl w12 w11.heap.size cs 29 from bN)
  clear bN hb
  have cB1_5 := B1.out.c 5 _ V.out.object
  go_wp2_with (first | ((with_reducible refine Lk.st w11.heap.size 5 [.string (S2.B (a.object ++ [120]))] (.string (S2.B (a.object ++ [120]))) B4.out ?_ ?_ ?_ ?_ ?_ ?_ ?_); exact Lk.infoS; exact rfl; (rw [V.out.len]; exact Nat.le_of_ble_eq_true rfl); (simp [Value.oneCell']); exact rfl; exact rfl) | fail)
  clear cB1_5
  intro w13 bN hb
  replace B1 := Lib.hid (B1.out.under hb LB1_B4.out)
  replace B2 := Lib.hid (B2.out.under hb LB2_B4.out)
  replace B3 := Lib.hid (B3.out.under hb LB3_B4.out)
  replace T := Lib.hid (T.out.under hb GB4.out)
  replace V := Lib.hid (V.out.under hb GV_B4.out)
  replace V9 := Lib.hid (V9.out.under hb GV9_B4.out)
  replace V11 := Lib.hid (V11.out.under hb GV11_B4.out)
  obtain ⟨cs13, hcs13⟩ : ∃ x : List Value, x = cs.take 5 ++ [.string (S2.B (a.object ++ [120]))] ++ cs.drop (5 + ([.string (S2.B (a.object ++ [120]))] : List Value).length) := ⟨_, rfl⟩
  have V13 := Lib.hid (show Av w13 W.heap.size cs13 { a with object := a.object ++ [120] } e s from by rw [hcs13]; exact V.out.put 5 [.string (S2.B (a.object ++ [120]))] rfl rfl (fun _ _ _ _ _ _ => rfl))
  replace B4 := Lib.hid (show Lk.Bl w13 w11.heap.size cs13 29 from by rw [hcs13]; exact bN)
  clear bN hb hcs13
  have GV13_B2 := GV_B2
  have GV13_B3 := GV_B3
  have GV13_B4 := GV_B4
  go_wp2_with (first | ((with_reducible refine Lk.nw cs V.out.len V.out.one ?_ ?_ ?_ ?_); exact rfl; exact rfl; exact rfl) | ((with_reducible refine Lk.ld (d := 158) W.heap.size B1.out V.out.len ?_ ?_ ?_); exact rfl; exact rfl) | fail)
  intro w14 bN hb
  have LB1_B5 := Lib.hid (show W.heap.size < w13.heap.size from B1.out.lt)
  have LB2_B5 := Lib.hid (show w7.heap.size < w13.heap.size from B2.out.lt)
  have LB3_B5 := Lib.hid (show w9.heap.size < w13.heap.size from B3.out.lt)
  have LB4_B5 := Lib.hid (show w11.heap.size < w13.heap.size from B4.out.lt)
  have GV_B5 := Lib.hid (show W.heap.size ≤ w13.heap.size from V.out.le)
  have GV9_B5 := Lib.hid (show W.heap.size ≤ w13.heap.size from V9.out.le)
  have GV11_B5 := Lib.hid (show W.heap.size ≤ w13.heap.size from V11.out.le)
  have GV13_B5 := Lib.hid (show W.heap.size ≤ w13.heap.size from V13.out.le)
  have GB5 := Lib.hid (show W.heap.size ≤ w13.heap.size from T.out.bel.size)
  replace T := Lib.hid (T.out.step hb)
  replace B1 := Lib.hid (B1.out.step hb)
  replace B2 := Lib.hid (B2.out.step hb)
  replace B3 := Lib.hid (B3.out.step hb)
  replace B4 := Lib.hid (B4.out.step hb)
  replace V := Lib.hid (V.out.step hb)
  replace V9 := Lib.hid (V9.out.step hb)
  replace V11 := Lib.hid (V11.out.step hb)
  replace V13 := Lib.hid (V13.out.step hb)
  have B5 := Lib.hid (show Lk.Bl w14 w13.heap.size cs 29 from bN)
  clear bN hb
  have cB1_6 := B1.out.c 6 _ V.out.target
  go_wp2_with (first | ((with_reducible refine Lk.st w13.heap.size 6 [.string (S2.B (a.target ++ [120]))] (.string (S2.B (a.target ++ [120]))) B5.out ?_ ?_ ?_ ?_ ?_ ?_ ?_); exact Lk.infoS; exact rfl; (rw [V.out.len]; exact Nat.le_of_ble_eq_true rfl); (simp [Value.oneCell']); exact rfl; exact rfl) | fail)
  clear cB1_6
  intro w15 bN hb
  replace B1 := Lib.hid (B1.out.under hb LB1_B5.out)
  replace B2 := Lib.hid (B2.out.under hb LB2_B5.out)
  replace B3 := Lib.hid (B3.out.under hb LB3_B5.out)
  replace B4 := Lib.hid (B4.out.under hb LB4_B5.out)
  replace T := Lib.hid (T.out.under hb GB5.out)
  replace V := Lib.hid (V.out.under hb GV_B5.out)
  replace V9 := Lib.hid (V9.out.under hb GV9_B5.out)
  replace V11 := Lib.hid (V11.out.under hb GV11_B5.out)
  replace V13 := Lib.hid (V13.out.under hb GV13_B5.out)
  obtain ⟨cs15, hcs15⟩ : ∃ x : List Value, x = cs.take 6 ++ [.string (S2.B (a.target ++ [120]))] ++ cs.drop (6 + ([.string (S2.B (a.target ++ [120]))] : List Value).length) := ⟨_, rfl⟩
  have V15 := Lib.hid (show Av w15 W.heap.size cs15 { a with target := a.target ++ [120] } e s from by rw [hcs15]; exact V.out.put 6 [.string (S2.B (a.target ++ [120]))] rfl rfl (fun _ _ _ _ _ _ => rfl))
  replace B5 := Lib.hid (show Lk.Bl w15 w13.heap.size cs15 29 from by rw [hcs15]; exact bN)
  clear bN hb hcs15
  have GV15_B2 := GV_B2
  have GV15_B3 := GV_B3
  have GV15_B4 := GV_B4
  have GV15_B5 := GV_B5
  go_wp2_with (first | ((with_reducible refine Lk.nw cs V.out.len V.out.one ?_ ?_ ?_ ?_); exact rfl; exact rfl; exact rfl) | ((with_reducible refine Lk.ld (d := 163) W.heap.size B1.out V.out.len ?_ ?_ ?_); exact rfl; exact rfl) | fail)
  intro w16 bN hb
  have LB1_B6 := Lib.hid (show W.heap.size < w15.heap.size from B1.out.lt)
  have LB2_B6 := Lib.hid (show w7.heap.size < w15.heap.size from B2.out.lt)
  have LB3_B6 := Lib.hid (show w9.heap.size < w15.heap.size from B3.out.lt)
  have LB4_B6 := Lib.hid (show w11.heap.size < w15.heap.size from B4.out.lt)
  have LB5_B6 := Lib.hid (show w13.heap.size < w15.heap.size from B5.out.lt)
  have GV_B6 := Lib.hid (show W.heap.size ≤ w15.heap.size from V.out.le)
  have GV9_B6 := Lib.hid (show W.heap.size ≤ w15.heap.size from V9.out.le)
  have GV11_B6 := Lib.hid (show W.heap.size ≤ w15.heap.size from V11.out.le)
  have GV13_B6 := Lib.hid (show W.heap.size ≤ w15.heap.size from V13.out.le)
  have GV15_B6 := Lib.hid (show W.heap.size ≤ w15.heap.size from V15.out.le)
  have GB6 := Lib.hid (show W.heap.size ≤ w15.heap.size from T.out.bel.size)
  replace T := Lib.hid (T.out.step hb)
  replace B1 := Lib.hid (B1.out.step hb)
  replace B2 := Lib.hid (B2.out.step hb)
  replace B3 := Lib.hid (B3.out.step hb)
  replace B4 := Lib.hid (B4.out.step hb)
  replace B5 := Lib.hid (B5.out.step hb)
  replace V := Lib.hid (V.out.step hb)
  replace V9 := Lib.hid (V9.out.step hb)
  replace V11 := Lib.hid (V11.out.step hb)
  replace V13 := Lib.hid (V13.out.step hb)
  replace V15 := Lib.hid (V15.out.step hb)
  have B6 := Lib.hid (show Lk.Bl w16 w15.heap.size cs 29 from bN)
  clear bN hb
  have T0 := Lib.hid (show W.heap.size ≤ w16.heap.size from T.out.bel.size)
  have OW := Lib.hid (show OwnW (w16.alloc (.cells #[.int .i64 1, .int .i64 1, .string (S2.B []), .string (S2.B []), .string (S2.B [])] 50)) w16.heap.size (.slice (some ⟨w16.heap.size, 0, none⟩) 1 1) [⟨1, 1, bx0⟩] from OwnW.lit w16 [⟨1, 1, bx0⟩] (by decide))
  have SR := Lib.hid (show S2.Row (w16.alloc (.cells #[.int .i64 1, .int .i64 1, .string (S2.B []), .string (S2.B []), .string (S2.B [])] 50)) (w16.alloc (.cells #[.int .i64 1, .int .i64 1, .string (S2.B []), .string (S2.B []), .string (S2.B [])] 50)).heap.size Q (Ws a.wraps) from ((V.out.alloc (.cells #[.int .i64 1, .int .i64 1, .string (S2.B []), .string (S2.B []), .string (S2.B [])] 50)).wrAt H15.out).2.2.more (V.out.alloc (.cells #[.int .i64 1, .int .i64 1, .string (S2.B []), .string (S2.B []), .string (S2.B [])] 50)).le)
  have cB1_15 := (B1.out.alloc (.cells #[.int .i64 1, .int .i64 1, .string (S2.B []), .string (S2.B []), .string (S2.B [])] 50)).c 15 _ H15.out
  go_wp2_with (first | (at_builtin; refine wpList_appW rfl _ _ rfl OW.out SR.out rfl rfl HMQ.out HLQ.out ?_) | fail)
  clear cB1_15
  intro v1 w17 own1 hb1
  have hb : Below w16.heap.size w16 w17 := ((Below.refl _ _).alloc (Nat.le_refl _) (.cells #[.int .i64 1, .int .i64 1, .string (S2.B []), .string (S2.B []), .string (S2.B [])] 50)).trans hb1
  have LBQ := Lib.hid (show w15.heap.size < w16.heap.size from B6.out.lt)
  replace T := Lib.hid (T.out.step hb)
  replace B1 := Lib.hid (B1.out.step hb)
  replace B2 := Lib.hid (B2.out.step hb)
  replace B3 := Lib.hid (B3.out.step hb)
  replace B4 := Lib.hid (B4.out.step hb)
  replace B5 := Lib.hid (B5.out.step hb)
  replace B6 := Lib.hid (B6.out.step hb)
  replace V := Lib.hid (V.out.step hb)
  replace V9 := Lib.hid (V9.out.step hb)
  replace V11 := Lib.hid (V11.out.step hb)
  replace V13 := Lib.hid (V13.out.step hb)
  replace V15 := Lib.hid (V15.out.step hb)
  clear OW SR hb1 hb
  obtain ⟨AQ, nq, cq, rfl, hnq, hcq⟩ := own1.sl3
  have OQ := Lib.hid own1
  have HNQ := Lib.hid hnq
  have HCQ := Lib.hid hcq
  clear own1 hnq hcq
  go_wp2_with (first | ((with_reducible refine Lk.stX w15.heap.size 15 [.slice AQ nq cq] (.slice AQ nq cq) B6.out ?_ ?_ ?_ ?_ ?_ ?_ ?_); exact (show (Tryz.prog.info? 25).map (·.size) = some 1 by kernel_rfl); exact rfl; (rw [V.out.len]; exact Nat.le_of_ble_eq_true rfl); (simp [Value.oneCell']); exact rfl; exact rfl) | fail)
  intro w18 bN hb ho
  replace B1 := Lib.hid (B1.out.under hb LB1_B6.out)
  replace B2 := Lib.hid (B2.out.under hb LB2_B6.out)
  replace B3 := Lib.hid (B3.out.under hb LB3_B6.out)
  replace B4 := Lib.hid (B4.out.under hb LB4_B6.out)
  replace B5 := Lib.hid (B5.out.under hb LB5_B6.out)
  replace T := Lib.hid (T.out.under hb GB6.out)
  have RQ := row_only OQ.out.row ho OQ.out.addr LBQ.out
  have hbd : w17.heap.size ≤ w18.heap.size := hb.size
  replace V := Lib.hid (V.out.under hb GV_B6.out)
  replace V9 := Lib.hid (V9.out.under hb GV9_B6.out)
  replace V11 := Lib.hid (V11.out.under hb GV11_B6.out)
  replace V13 := Lib.hid (V13.out.under hb GV13_B6.out)
  replace V15 := Lib.hid (V15.out.under hb GV15_B6.out)
  have VF := Lib.hid (show Av w18 w17.heap.size (cs.take 15 ++ [.slice AQ nq cq] ++ cs.drop (15 + ([.slice AQ nq cq] : List Value).length)) { a with wraps := ⟨1, 1, bx0⟩ :: a.wraps } e s from V.out.putW RQ HNQ.out HCQ.out (Nat.le_trans T0.out OQ.out.le) hbd)
  obtain ⟨csF, hcsF⟩ : ∃ x : List Value, x = cs.take 15 ++ [.slice AQ nq cq] ++ cs.drop (15 + ([.slice AQ nq cq] : List Value).length) := ⟨_, rfl⟩
  rw [← hcsF] at VF bN
  replace B6 := Lib.hid bN
  clear bN hb ho hcsF RQ hbd OQ HNQ HCQ LBQ
  have cB1_7 := B1.out.c 7 _ V.out.scope
  have cB1_3 := B1.out.c 3 _ V.out.kind
  go_wp2_with (first | ((with_reducible refine Lk.ld (d := 206) w9.heap.size B3.out V11.out.len ?_ ?_ ?_); exact rfl; exact rfl) | fail)
  clear cB1_7 cB1_3
  refine (KC.out _ _ _ T.out.bel V11.out).mono ?_
  rintro e w19 ⟨rfl, hb⟩
  replace T := Lib.hid (T.out.step hb)
  replace B1 := Lib.hid (B1.out.step hb)
  replace B2 := Lib.hid (B2.out.step hb)
  replace B3 := Lib.hid (B3.out.step hb)
  replace B4 := Lib.hid (B4.out.step hb)
  replace B5 := Lib.hid (B5.out.step hb)
  replace B6 := Lib.hid (B6.out.step hb)
  replace V := Lib.hid (V.out.step hb)
  replace V9 := Lib.hid (V9.out.step hb)
  replace V11 := Lib.hid (V11.out.step hb)
  replace V13 := Lib.hid (V13.out.step hb)
  replace V15 := Lib.hid (V15.out.step hb)
  replace VF := Lib.hid (VF.out.step hb)
  clear hb
  go_wp2_with (first | ((with_reducible refine Lk.ld (d := 212) w11.heap.size B4.out V13.out.len ?_ ?_ ?_); exact rfl; exact rfl) | fail)
  refine (KD.out _ _ _ T.out.bel V13.out).mono ?_
  rintro e w20 ⟨rfl, hb⟩
  replace T := Lib.hid (T.out.step hb)
  replace B1 := Lib.hid (B1.out.step hb)
  replace B2 := Lib.hid (B2.out.step hb)
  replace B3 := Lib.hid (B3.out.step hb)
  replace B4 := Lib.hid (B4.out.step hb)
  replace B5 := Lib.hid (B5.out.step hb)
  replace B6 := Lib.hid (B6.out.step hb)
  replace V := Lib.hid (V.out.step hb)
  replace V9 := Lib.hid (V9.out.step hb)
  replace V11 := Lib.hid (V11.out.step hb)
  replace V13 := Lib.hid (V13.out.step hb)
  replace V15 := Lib.hid (V15.out.step hb)
  replace VF := Lib.hid (VF.out.step hb)
  clear hb
  go_wp2_with (first | ((with_reducible refine Lk.ld (d := 217) w13.heap.size B5.out V15.out.len ?_ ?_ ?_); exact rfl; exact rfl) | fail)
  refine (KE.out _ _ _ T.out.bel V15.out).mono ?_
  rintro e w21 ⟨rfl, hb⟩
  replace T := Lib.hid (T.out.step hb)
  replace B1 := Lib.hid (B1.out.step hb)
  replace B2 := Lib.hid (B2.out.step hb)
  replace B3 := Lib.hid (B3.out.step hb)
  replace B4 := Lib.hid (B4.out.step hb)
  replace B5 := Lib.hid (B5.out.step hb)
  replace B6 := Lib.hid (B6.out.step hb)
  replace V := Lib.hid (V.out.step hb)
  replace V9 := Lib.hid (V9.out.step hb)
  replace V11 := Lib.hid (V11.out.step hb)
  replace V13 := Lib.hid (V13.out.step hb)
  replace V15 := Lib.hid (V15.out.step hb)
  replace VF := Lib.hid (VF.out.step hb)
  clear hb
  go_wp2_with (first | ((with_reducible refine Lk.ld (d := 222) w15.heap.size B6.out VF.out.len ?_ ?_ ?_); exact rfl; exact rfl) | fail)
  refine (KH.out _ _ _ T.out.bel VF.out).mono ?_
  rintro e w22 ⟨rfl, hb⟩
  replace T := Lib.hid (T.out.step hb)
  replace B1 := Lib.hid (B1.out.step hb)
  replace B2 := Lib.hid (B2.out.step hb)
  replace B3 := Lib.hid (B3.out.step hb)
  replace B4 := Lib.hid (B4.out.step hb)
  replace B5 := Lib.hid (B5.out.step hb)
  replace B6 := Lib.hid (B6.out.step hb)
  replace V := Lib.hid (V.out.step hb)
  replace V9 := Lib.hid (V9.out.step hb)
  replace V11 := Lib.hid (V11.out.step hb)
  replace V13 := Lib.hid (V13.out.step hb)
  replace V15 := Lib.hid (V15.out.step hb)
  replace VF := Lib.hid (VF.out.step hb)
  clear hb
  go_wp2
  go_ret
  exact ⟨rfl, T.out.bel⟩
set_option maxHeartbeats 4000000 in
set_option maxRecDepth 100000 in
theorem fields_H {keyOk : Int → Int → Bool} {sgn : Int → Int → Str → Int × Int} {ver : Int → Str → Int → Int → Bool} {W : World} (P : Pk keyOk sgn ver W) (hsm : Ok W 9 #[] (.bool true))
    (a : Ac) (e s : Int) (cs : List Value) (A : Option Addr) (nA cA : Nat) (Q : Option Addr) (nQ cQ : Nat) (hv0 : Av W W.heap.size cs a e s) (h9 : cs[9]? = some (.slice A nA cA)) (h15 : cs[15]? = some (.slice Q nQ cQ)) (hz : Sz 281474976710656 140737488355328 a)
    (h : fewB a = true) (hv : valid a e s = true) (hpa : isId a.author = true) (hpt : ids a.to = true) (q1 : (a.seq == 0) = false) (q2 : (a.kind == 0) = false) (q3 : (a.prev == []) = false) (q4 : 0 < a.seq) (q5 : (a.prev.length : Int) = 32) (q6 : 7 ≤ a.kind) (q7 : ¬ a.kind ≤ 11) (q8 : posting a.kind = false) (q9 : (a.scope == 0) = false) (q16 : (a.kind == 16) = true) (q17 : (a.kind == 19) = false) (q18 : (a.kind == 18) = false) (q19 : a.wraps.length = a.to.length) (nc : good { a with m := a.m - 1 } = false) :
    Calls Tryz.prog 7 #[.agg cs.toArray] W fun x w' => x = .returned (.bool true) ∧ Below W.heap.size W w' := by
  have KS := Lib.hid hsm
  have T := Lib.hid (Lk.At.start W)
  have V := Lib.hid hv0
  have H9 := Lib.hid h9
  have H15 := Lib.hid h15
  have KFa := fun (w : World) (b0 : Nat) (c0 : List Value) (hb : Below W.heap.size W w) (h0 : Av w b0 c0 a e s) => fewC h0 hz
  rw [h] at KFa
  replace KFa := Lib.hid KFa
  have h6 := few_sz6 h
  have KRa := fun (w : World) (b0 : Nat) (c0 : List Value) (hb : Below W.heap.size W w) (h0 : Av w b0 c0 a e s) => P.rightC hb h0 h6
  rw [hv] at KRa
  replace KRa := Lib.hid KRa
  have hl := lim_of (valid_good hv)
  have hE0 : 0 ≤ a.epoch := by have := hl.epoch; simp only [epOk, Bool.and_eq_true, decide_eq_true_eq] at this; exact this.1
  have hE1 : a.epoch ≤ 1073741824 := by have := hl.epoch; simp only [epOk, Bool.and_eq_true, decide_eq_true_eq] at this; exact this.2
  have hM0 : 0 ≤ a.m := hl.m.1
  have hM1 : a.m < 2305843009213693951 := hl.m.2
  have hO1 : (a.object.length : Int) ≤ 32 := by have := hl.object; omega
  have hG1 : (a.target.length : Int) ≤ 32 := by have := hl.target; omega
  have KI := P.idR a.author h6.author
  rw [hpa] at KI
  replace KI := Lib.hid KI
  have KT := fun (w : World) (bd : Nat) (hb : Below W.heap.size W w) (h0 : Av w bd cs a e s) => P.idsR A a.to nA cA w hb (h0.toAt h9).1 ((h0.toAt h9).2.2.more h0.le) (by rw [(h0.toAt h9).1]; exact h6.to) h6.tos
  rw [hpt] at KT
  replace KT := Lib.hid KT
  have KP := P.posting a.kind
  rw [q8] at KP
  replace KP := Lib.hid KP
  have ND := more_object (valid_good hv) 120
  have NE := more_target (valid_good hv) 120
  have NF : good { a with wraps := ⟨1, 1, bx0⟩ :: a.wraps } = false := more_wraps
  have szD : Sz 1000000 1000000 { a with object := a.object ++ [120] } := ⟨h6.author, h6.prev, by show (a.object ++ [120]).length ≤ 1000000; simp; omega, h6.target, h6.group, h6.text, h6.nonce, h6.data, h6.tag, h6.to, h6.tos, h6.wraps, h6.boxes⟩
  have szE : Sz 1000000 1000000 { a with target := a.target ++ [120] } := ⟨h6.author, h6.prev, h6.object, by show (a.target ++ [120]).length ≤ 1000000; simp; omega, h6.group, h6.text, h6.nonce, h6.data, h6.tag, h6.to, h6.tos, h6.wraps, h6.boxes⟩
  have szF : Sz 1000000 1000000 { a with wraps := ⟨1, 1, bx0⟩ :: a.wraps } := ⟨h6.author, h6.prev, h6.object, h6.target, h6.group, h6.text, h6.nonce, h6.data, h6.tag, h6.to, h6.tos, by show a.wraps.length + 1 ≤ 1000000; have := hl.wraps.2; omega, fun w hw => by
    rcases List.mem_cons.1 hw with rfl | hw
    · simp [bx0]
    · exact h6.boxes w hw⟩
  have KD := fun (w : World) (b0 : Nat) (c0 : List Value) (hb : Below W.heap.size W w) (h0 : Av w b0 c0 { a with object := a.object ++ [120] } e s) => P.rightC hb h0 szD
  rw [show valid { a with object := a.object ++ [120] } e s = false by unfold valid; rw [ND, Bool.and_false]] at KD
  replace KD := Lib.hid KD
  have KE := fun (w : World) (b0 : Nat) (c0 : List Value) (hb : Below W.heap.size W w) (h0 : Av w b0 c0 { a with target := a.target ++ [120] } e s) => P.rightC hb h0 szE
  rw [show valid { a with target := a.target ++ [120] } e s = false by unfold valid; rw [NE, Bool.and_false]] at KE
  replace KE := Lib.hid KE
  have KH := fun (w : World) (b0 : Nat) (c0 : List Value) (hb : Below W.heap.size W w) (h0 : Av w b0 c0 { a with wraps := ⟨1, 1, bx0⟩ :: a.wraps } e s) => P.rightC hb h0 szF
  rw [show valid { a with wraps := ⟨1, 1, bx0⟩ :: a.wraps } e s = false by unfold valid; rw [NF, Bool.and_false]] at KH
  replace KH := Lib.hid KH
  have KC := fun (w : World) (b0 : Nat) (c0 : List Value) (hb : Below W.heap.size W w) (h0 : Av w b0 c0 { a with m := a.m - 1 } e s) => P.rightC hb h0 ⟨h6.author, h6.prev, h6.object, h6.target, h6.group, h6.text, h6.nonce, h6.data, h6.tag, h6.to, h6.tos, h6.wraps, h6.boxes⟩
  rw [show valid { a with m := a.m - 1 } e s = false by unfold valid; rw [nc, Bool.and_false]] at KC
  replace KC := Lib.hid KC
  have hnQ := (V.out.wrAt h15).1
  have hnA := (V.out.toAt h9).1
  have HLQ := Lib.hid (show ([⟨1, 1, bx0⟩] : List Wr).length + a.wraps.length ≤ 100000 by have := hl.wraps.2; simp; omega)
  obtain rfl : nQ = nA := by omega
  have HMQ := Lib.hid hnQ
  clear P hsm hv0 h9 h15 hz h hv hpa hpt h6 hl ND NE NF szD szE szF hnQ hnA q8 q19 nc
  have q9a : (a.scope != 0) = true := by rw [bne, q9]; rfl
  have q9b : decide (a.scope = 0) = false := by rw [← q9]; rfl
  go_enter Tryz.func7, Tryz.ntmps7
  go_wp2_with (first | fail)
  replace T := Lib.hid (T.out.alloc (.cells cs.toArray 29))
  replace V := Lib.hid (V.out.alloc (.cells cs.toArray 29))
  have B1 := Lib.hid (show Lk.Bl (W.alloc (.cells cs.toArray 29)) W.heap.size cs 29 from by have h := Lk.Bl.new W cs 29; simpa using h)
  generalize W.alloc (.cells cs.toArray 29) = w1 at *
  refine (KS.out _ T.out.bel).mono ?_
  rintro e w2 ⟨rfl, hb⟩
  replace T := Lib.hid (T.out.step hb)
  replace B1 := Lib.hid (B1.out.step hb)
  replace V := Lib.hid (V.out.step hb)
  clear hb
  go_wp2_with (first | ((with_reducible refine Lk.ld (d := 14) W.heap.size B1.out V.out.len ?_ ?_ ?_); exact rfl; exact rfl) | fail)
  refine (KFa.out _ _ _ T.out.bel V.out).mono ?_
  rintro e w3 ⟨rfl, hb⟩
  replace T := Lib.hid (T.out.step hb)
  replace B1 := Lib.hid (B1.out.step hb)
  replace V := Lib.hid (V.out.step hb)
  clear hb
  go_wp2_with (first | ((with_reducible refine Lk.ld (d := 18) W.heap.size B1.out V.out.len ?_ ?_ ?_); exact rfl; exact rfl) | fail)
  refine (KRa.out _ _ _ T.out.bel V.out).mono ?_
  rintro e w4 ⟨rfl, hb⟩
  replace T := Lib.hid (T.out.step hb)
  replace B1 := Lib.hid (B1.out.step hb)
  replace V := Lib.hid (V.out.step hb)
  clear hb
  have cB1_0 := B1.out.c 0 _ V.out.author
  go_wp2_with (first | fail)
  clear cB1_0
  refine (KI.out _ T.out.bel).mono ?_
  rintro e w5 ⟨rfl, hb⟩
  replace T := Lib.hid (T.out.step hb)
  replace B1 := Lib.hid (B1.out.step hb)
  replace V := Lib.hid (V.out.step hb)
  clear hb
  have cB1_9 := B1.out.c 9 _ H9.out
  go_wp2_with (first | fail)
  clear cB1_9
  refine (KT.out _ _ T.out.bel V.out).mono ?_
  rintro e w6 ⟨rfl, hb⟩
  replace T := Lib.hid (T.out.step hb)
  replace B1 := Lib.hid (B1.out.step hb)
  replace V := Lib.hid (V.out.step hb)
  clear hb
  have cB1_1 := B1.out.c 1 _ V.out.seq
  have cB1_3 := B1.out.c 3 _ V.out.kind
  have cB1_2 := B1.out.c 2 _ V.out.prev
  go_wp2_with (first | fail)
  clear cB1_1 cB1_3 cB1_2
  refine (KP.out _ T.out.bel).mono ?_
  rintro e w7 ⟨rfl, hb⟩
  replace T := Lib.hid (T.out.step hb)
  replace B1 := Lib.hid (B1.out.step hb)
  replace V := Lib.hid (V.out.step hb)
  clear hb
  have cB1_3 := B1.out.c 3 _ V.out.kind
  have cB1_15 := B1.out.c 15 _ H15.out
  have cB1_9 := B1.out.c 9 _ H9.out
  go_wp2_with (first | ((with_reducible refine Lk.nw cs V.out.len V.out.one ?_ ?_ ?_ ?_); exact rfl; exact rfl; exact rfl) | ((with_reducible refine Lk.ld (d := 143) W.heap.size B1.out V.out.len ?_ ?_ ?_); exact rfl; exact rfl) | fail)
  clear cB1_3 cB1_15 cB1_9
  intro w8 bN hb
  have LB1_B2 := Lib.hid (show W.heap.size < w7.heap.size from B1.out.lt)
  have GV_B2 := Lib.hid (show W.heap.size ≤ w7.heap.size from V.out.le)
  have GB2 := Lib.hid (show W.heap.size ≤ w7.heap.size from T.out.bel.size)
  replace T := Lib.hid (T.out.step hb)
  replace B1 := Lib.hid (B1.out.step hb)
  replace V := Lib.hid (V.out.step hb)
  have B2 := Lib.hid (show Lk.Bl w8 w7.heap.size cs 29 from bN)
  clear bN hb
  have cB1_14 := B1.out.c 14 _ V.out.epoch
  go_wp2_with (first | ((with_reducible refine Lk.st w7.heap.size 14 [.int .i64 (a.epoch + 1)] (.int .i64 (a.epoch + 1)) B2.out ?_ ?_ ?_ ?_ ?_ ?_ ?_); exact Lk.infoI; exact rfl; (rw [V.out.len]; exact Nat.le_of_ble_eq_true rfl); (simp [Value.oneCell']); exact rfl; exact rfl) | fail)
  clear cB1_14
  intro w9 bN hb
  replace B1 := Lib.hid (B1.out.under hb LB1_B2.out)
  replace T := Lib.hid (T.out.under hb GB2.out)
  replace V := Lib.hid (V.out.under hb GV_B2.out)
  obtain ⟨cs9, hcs9⟩ : ∃ x : List Value, x = cs.take 14 ++ [.int .i64 (a.epoch + 1)] ++ cs.drop (14 + ([.int .i64 (a.epoch + 1)] : List Value).length) := ⟨_, rfl⟩
  have V9 := Lib.hid (show Av w9 W.heap.size cs9 { a with epoch := a.epoch + 1 } e s from by rw [hcs9]; exact V.out.put 14 [.int .i64 (a.epoch + 1)] rfl rfl (fun _ _ _ _ _ _ => rfl))
  replace B2 := Lib.hid (show Lk.Bl w9 w7.heap.size cs9 29 from by rw [hcs9]; exact bN)
  clear bN hb hcs9
  have GV9_B2 := GV_B2
  go_wp2_with (first | ((with_reducible refine Lk.nw cs V.out.len V.out.one ?_ ?_ ?_ ?_); exact rfl; exact rfl; exact rfl) | ((with_reducible refine Lk.ld (d := 148) W.heap.size B1.out V.out.len ?_ ?_ ?_); exact rfl; exact rfl) | fail)
  intro w10 bN hb
  have LB1_B3 := Lib.hid (show W.heap.size < w9.heap.size from B1.out.lt)
  have LB2_B3 := Lib.hid (show w7.heap.size < w9.heap.size from B2.out.lt)
  have GV_B3 := Lib.hid (show W.heap.size ≤ w9.heap.size from V.out.le)
  have GV9_B3 := Lib.hid (show W.heap.size ≤ w9.heap.size from V9.out.le)
  have GB3 := Lib.hid (show W.heap.size ≤ w9.heap.size from T.out.bel.size)
  replace T := Lib.hid (T.out.step hb)
  replace B1 := Lib.hid (B1.out.step hb)
  replace B2 := Lib.hid (B2.out.step hb)
  replace V := Lib.hid (V.out.step hb)
  replace V9 := Lib.hid (V9.out.step hb)
  have B3 := Lib.hid (show Lk.Bl w10 w9.heap.size cs 29 from bN)
  clear bN hb
  have cB1_17 := B1.out.c 17 _ V.out.m
  go_wp2_with (first | ((with_reducible refine Lk.st w9.heap.size 17 [.int .i64 (a.m - 1)] (.int .i64 (a.m - 1)) B3.out ?_ ?_ ?_ ?_ ?_ ?_ ?_); exact Lk.infoI; exact rfl; (rw [V.out.len]; exact Nat.le_of_ble_eq_true rfl); (simp [Value.oneCell']); exact rfl; exact rfl) | fail)
  clear cB1_17
  intro w11 bN hb
  replace B1 := Lib.hid (B1.out.under hb LB1_B3.out)
  replace B2 := Lib.hid (B2.out.under hb LB2_B3.out)
  replace T := Lib.hid (T.out.under hb GB3.out)
  replace V := Lib.hid (V.out.under hb GV_B3.out)
  replace V9 := Lib.hid (V9.out.under hb GV9_B3.out)
  obtain ⟨cs11, hcs11⟩ : ∃ x : List Value, x = cs.take 17 ++ [.int .i64 (a.m - 1)] ++ cs.drop (17 + ([.int .i64 (a.m - 1)] : List Value).length) := ⟨_, rfl⟩
  have V11 := Lib.hid (show Av w11 W.heap.size cs11 { a with m := a.m - 1 } e s from by rw [hcs11]; exact V.out.put 17 [.int .i64 (a.m - 1)] rfl rfl (fun _ _ _ _ _ _ => rfl))
  replace B3 := Lib.hid (show Lk.Bl w11 w9.heap.size cs11 29 from by rw [hcs11]; exact bN)
  clear bN hb hcs11
  have GV11_B2 := GV_B2
  have GV11_B3 := GV_B3
  go_wp2_with (first | ((with_reducible refine Lk.nw cs V.out.len V.out.one ?_ ?_ ?_ ?_); exact rfl; exact rfl; exact rfl) | ((with_reducible refine Lk.ld (d := 153) W.heap.size B1.out V.out.len ?_ ?_ ?_); exact rfl; exact rfl) | fail)
  intro w12 bN hb
  have LB1_B4 := Lib.hid (show W.heap.size < w11.heap.size from B1.out.lt)
  have LB2_B4 := Lib.hid (show w7.heap.size < w11.heap.size from B2.out.lt)
  have LB3_B4 := Lib.hid (show w9.heap.size < w11.heap.size from B3.out.lt)
  have GV_B4 := Lib.hid (show W.heap.size ≤ w11.heap.size from V.out.le)
  have GV9_B4 := Lib.hid (show W.heap.size ≤ w11.heap.size from V9.out.le)
  have GV11_B4 := Lib.hid (show W.heap.size ≤ w11.heap.size from V11.out.le)
  have GB4 := Lib.hid (show W.heap.size ≤ w11.heap.size from T.out.bel.size)
  replace T := Lib.hid (T.out.step hb)
  replace B1 := Lib.hid (B1.out.step hb)
  replace B2 := Lib.hid (B2.out.step hb)
  replace B3 := Lib.hid (B3.out.step hb)
  replace V := Lib.hid (V.out.step hb)
  replace V9 := Lib.hid (V9.out.step hb)
  replace V11 := Lib.hid (V11.out.step hb)
  have B4 := Lib.hid (show Lk.Bl w12 w11.heap.size cs 29 from bN)
  clear bN hb
  have cB1_5 := B1.out.c 5 _ V.out.object
  go_wp2_with (first | ((with_reducible refine Lk.st w11.heap.size 5 [.string (S2.B (a.object ++ [120]))] (.string (S2.B (a.object ++ [120]))) B4.out ?_ ?_ ?_ ?_ ?_ ?_ ?_); exact Lk.infoS; exact rfl; (rw [V.out.len]; exact Nat.le_of_ble_eq_true rfl); (simp [Value.oneCell']); exact rfl; exact rfl) | fail)
  clear cB1_5
  intro w13 bN hb
  replace B1 := Lib.hid (B1.out.under hb LB1_B4.out)
  replace B2 := Lib.hid (B2.out.under hb LB2_B4.out)
  replace B3 := Lib.hid (B3.out.under hb LB3_B4.out)
  replace T := Lib.hid (T.out.under hb GB4.out)
  replace V := Lib.hid (V.out.under hb GV_B4.out)
  replace V9 := Lib.hid (V9.out.under hb GV9_B4.out)
  replace V11 := Lib.hid (V11.out.under hb GV11_B4.out)
  obtain ⟨cs13, hcs13⟩ : ∃ x : List Value, x = cs.take 5 ++ [.string (S2.B (a.object ++ [120]))] ++ cs.drop (5 + ([.string (S2.B (a.object ++ [120]))] : List Value).length) := ⟨_, rfl⟩
  have V13 := Lib.hid (show Av w13 W.heap.size cs13 { a with object := a.object ++ [120] } e s from by rw [hcs13]; exact V.out.put 5 [.string (S2.B (a.object ++ [120]))] rfl rfl (fun _ _ _ _ _ _ => rfl))
  replace B4 := Lib.hid (show Lk.Bl w13 w11.heap.size cs13 29 from by rw [hcs13]; exact bN)
  clear bN hb hcs13
  have GV13_B2 := GV_B2
  have GV13_B3 := GV_B3
  have GV13_B4 := GV_B4
  go_wp2_with (first | ((with_reducible refine Lk.nw cs V.out.len V.out.one ?_ ?_ ?_ ?_); exact rfl; exact rfl; exact rfl) | ((with_reducible refine Lk.ld (d := 158) W.heap.size B1.out V.out.len ?_ ?_ ?_); exact rfl; exact rfl) | fail)
  intro w14 bN hb
  have LB1_B5 := Lib.hid (show W.heap.size < w13.heap.size from B1.out.lt)
  have LB2_B5 := Lib.hid (show w7.heap.size < w13.heap.size from B2.out.lt)
  have LB3_B5 := Lib.hid (show w9.heap.size < w13.heap.size from B3.out.lt)
  have LB4_B5 := Lib.hid (show w11.heap.size < w13.heap.size from B4.out.lt)
  have GV_B5 := Lib.hid (show W.heap.size ≤ w13.heap.size from V.out.le)
  have GV9_B5 := Lib.hid (show W.heap.size ≤ w13.heap.size from V9.out.le)
  have GV11_B5 := Lib.hid (show W.heap.size ≤ w13.heap.size from V11.out.le)
  have GV13_B5 := Lib.hid (show W.heap.size ≤ w13.heap.size from V13.out.le)
  have GB5 := Lib.hid (show W.heap.size ≤ w13.heap.size from T.out.bel.size)
  replace T := Lib.hid (T.out.step hb)
  replace B1 := Lib.hid (B1.out.step hb)
  replace B2 := Lib.hid (B2.out.step hb)
  replace B3 := Lib.hid (B3.out.step hb)
  replace B4 := Lib.hid (B4.out.step hb)
  replace V := Lib.hid (V.out.step hb)
  replace V9 := Lib.hid (V9.out.step hb)
  replace V11 := Lib.hid (V11.out.step hb)
  replace V13 := Lib.hid (V13.out.step hb)
  have B5 := Lib.hid (show Lk.Bl w14 w13.heap.size cs 29 from bN)
  clear bN hb
  have cB1_6 := B1.out.c 6 _ V.out.target
  go_wp2_with (first | ((with_reducible refine Lk.st w13.heap.size 6 [.string (S2.B (a.target ++ [120]))] (.string (S2.B (a.target ++ [120]))) B5.out ?_ ?_ ?_ ?_ ?_ ?_ ?_); exact Lk.infoS; exact rfl; (rw [V.out.len]; exact Nat.le_of_ble_eq_true rfl); (simp [Value.oneCell']); exact rfl; exact rfl) | fail)
  clear cB1_6
  intro w15 bN hb
  replace B1 := Lib.hid (B1.out.under hb LB1_B5.out)
  replace B2 := Lib.hid (B2.out.under hb LB2_B5.out)
  replace B3 := Lib.hid (B3.out.under hb LB3_B5.out)
  replace B4 := Lib.hid (B4.out.under hb LB4_B5.out)
  replace T := Lib.hid (T.out.under hb GB5.out)
  replace V := Lib.hid (V.out.under hb GV_B5.out)
  replace V9 := Lib.hid (V9.out.under hb GV9_B5.out)
  replace V11 := Lib.hid (V11.out.under hb GV11_B5.out)
  replace V13 := Lib.hid (V13.out.under hb GV13_B5.out)
  obtain ⟨cs15, hcs15⟩ : ∃ x : List Value, x = cs.take 6 ++ [.string (S2.B (a.target ++ [120]))] ++ cs.drop (6 + ([.string (S2.B (a.target ++ [120]))] : List Value).length) := ⟨_, rfl⟩
  have V15 := Lib.hid (show Av w15 W.heap.size cs15 { a with target := a.target ++ [120] } e s from by rw [hcs15]; exact V.out.put 6 [.string (S2.B (a.target ++ [120]))] rfl rfl (fun _ _ _ _ _ _ => rfl))
  replace B5 := Lib.hid (show Lk.Bl w15 w13.heap.size cs15 29 from by rw [hcs15]; exact bN)
  clear bN hb hcs15
  have GV15_B2 := GV_B2
  have GV15_B3 := GV_B3
  have GV15_B4 := GV_B4
  have GV15_B5 := GV_B5
  go_wp2_with (first | ((with_reducible refine Lk.nw cs V.out.len V.out.one ?_ ?_ ?_ ?_); exact rfl; exact rfl; exact rfl) | ((with_reducible refine Lk.ld (d := 163) W.heap.size B1.out V.out.len ?_ ?_ ?_); exact rfl; exact rfl) | fail)
  intro w16 bN hb
  have LB1_B6 := Lib.hid (show W.heap.size < w15.heap.size from B1.out.lt)
  have LB2_B6 := Lib.hid (show w7.heap.size < w15.heap.size from B2.out.lt)
  have LB3_B6 := Lib.hid (show w9.heap.size < w15.heap.size from B3.out.lt)
  have LB4_B6 := Lib.hid (show w11.heap.size < w15.heap.size from B4.out.lt)
  have LB5_B6 := Lib.hid (show w13.heap.size < w15.heap.size from B5.out.lt)
  have GV_B6 := Lib.hid (show W.heap.size ≤ w15.heap.size from V.out.le)
  have GV9_B6 := Lib.hid (show W.heap.size ≤ w15.heap.size from V9.out.le)
  have GV11_B6 := Lib.hid (show W.heap.size ≤ w15.heap.size from V11.out.le)
  have GV13_B6 := Lib.hid (show W.heap.size ≤ w15.heap.size from V13.out.le)
  have GV15_B6 := Lib.hid (show W.heap.size ≤ w15.heap.size from V15.out.le)
  have GB6 := Lib.hid (show W.heap.size ≤ w15.heap.size from T.out.bel.size)
  replace T := Lib.hid (T.out.step hb)
  replace B1 := Lib.hid (B1.out.step hb)
  replace B2 := Lib.hid (B2.out.step hb)
  replace B3 := Lib.hid (B3.out.step hb)
  replace B4 := Lib.hid (B4.out.step hb)
  replace B5 := Lib.hid (B5.out.step hb)
  replace V := Lib.hid (V.out.step hb)
  replace V9 := Lib.hid (V9.out.step hb)
  replace V11 := Lib.hid (V11.out.step hb)
  replace V13 := Lib.hid (V13.out.step hb)
  replace V15 := Lib.hid (V15.out.step hb)
  have B6 := Lib.hid (show Lk.Bl w16 w15.heap.size cs 29 from bN)
  clear bN hb
  have T0 := Lib.hid (show W.heap.size ≤ w16.heap.size from T.out.bel.size)
  have OW := Lib.hid (show OwnW (w16.alloc (.cells #[.int .i64 1, .int .i64 1, .string (S2.B []), .string (S2.B []), .string (S2.B [])] 50)) w16.heap.size (.slice (some ⟨w16.heap.size, 0, none⟩) 1 1) [⟨1, 1, bx0⟩] from OwnW.lit w16 [⟨1, 1, bx0⟩] (by decide))
  have SR := Lib.hid (show S2.Row (w16.alloc (.cells #[.int .i64 1, .int .i64 1, .string (S2.B []), .string (S2.B []), .string (S2.B [])] 50)) (w16.alloc (.cells #[.int .i64 1, .int .i64 1, .string (S2.B []), .string (S2.B []), .string (S2.B [])] 50)).heap.size Q (Ws a.wraps) from ((V.out.alloc (.cells #[.int .i64 1, .int .i64 1, .string (S2.B []), .string (S2.B []), .string (S2.B [])] 50)).wrAt H15.out).2.2.more (V.out.alloc (.cells #[.int .i64 1, .int .i64 1, .string (S2.B []), .string (S2.B []), .string (S2.B [])] 50)).le)
  have cB1_15 := (B1.out.alloc (.cells #[.int .i64 1, .int .i64 1, .string (S2.B []), .string (S2.B []), .string (S2.B [])] 50)).c 15 _ H15.out
  go_wp2_with (first | (at_builtin; refine wpList_appW rfl _ _ rfl OW.out SR.out rfl rfl HMQ.out HLQ.out ?_) | fail)
  clear cB1_15
  intro v1 w17 own1 hb1
  have hb : Below w16.heap.size w16 w17 := ((Below.refl _ _).alloc (Nat.le_refl _) (.cells #[.int .i64 1, .int .i64 1, .string (S2.B []), .string (S2.B []), .string (S2.B [])] 50)).trans hb1
  have LBQ := Lib.hid (show w15.heap.size < w16.heap.size from B6.out.lt)
  replace T := Lib.hid (T.out.step hb)
  replace B1 := Lib.hid (B1.out.step hb)
  replace B2 := Lib.hid (B2.out.step hb)
  replace B3 := Lib.hid (B3.out.step hb)
  replace B4 := Lib.hid (B4.out.step hb)
  replace B5 := Lib.hid (B5.out.step hb)
  replace B6 := Lib.hid (B6.out.step hb)
  replace V := Lib.hid (V.out.step hb)
  replace V9 := Lib.hid (V9.out.step hb)
  replace V11 := Lib.hid (V11.out.step hb)
  replace V13 := Lib.hid (V13.out.step hb)
  replace V15 := Lib.hid (V15.out.step hb)
  clear OW SR hb1 hb
  obtain ⟨AQ, nq, cq, rfl, hnq, hcq⟩ := own1.sl3
  have OQ := Lib.hid own1
  have HNQ := Lib.hid hnq
  have HCQ := Lib.hid hcq
  clear own1 hnq hcq
  go_wp2_with (first | ((with_reducible refine Lk.stX w15.heap.size 15 [.slice AQ nq cq] (.slice AQ nq cq) B6.out ?_ ?_ ?_ ?_ ?_ ?_ ?_); exact (show (Tryz.prog.info? 25).map (·.size) = some 1 by kernel_rfl); exact rfl; (rw [V.out.len]; exact Nat.le_of_ble_eq_true rfl); (simp [Value.oneCell']); exact rfl; exact rfl) | fail)
  intro w18 bN hb ho
  replace B1 := Lib.hid (B1.out.under hb LB1_B6.out)
  replace B2 := Lib.hid (B2.out.under hb LB2_B6.out)
  replace B3 := Lib.hid (B3.out.under hb LB3_B6.out)
  replace B4 := Lib.hid (B4.out.under hb LB4_B6.out)
  replace B5 := Lib.hid (B5.out.under hb LB5_B6.out)
  replace T := Lib.hid (T.out.under hb GB6.out)
  have RQ := row_only OQ.out.row ho OQ.out.addr LBQ.out
  have hbd : w17.heap.size ≤ w18.heap.size := hb.size
  replace V := Lib.hid (V.out.under hb GV_B6.out)
  replace V9 := Lib.hid (V9.out.under hb GV9_B6.out)
  replace V11 := Lib.hid (V11.out.under hb GV11_B6.out)
  replace V13 := Lib.hid (V13.out.under hb GV13_B6.out)
  replace V15 := Lib.hid (V15.out.under hb GV15_B6.out)
  have VF := Lib.hid (show Av w18 w17.heap.size (cs.take 15 ++ [.slice AQ nq cq] ++ cs.drop (15 + ([.slice AQ nq cq] : List Value).length)) { a with wraps := ⟨1, 1, bx0⟩ :: a.wraps } e s from V.out.putW RQ HNQ.out HCQ.out (Nat.le_trans T0.out OQ.out.le) hbd)
  obtain ⟨csF, hcsF⟩ : ∃ x : List Value, x = cs.take 15 ++ [.slice AQ nq cq] ++ cs.drop (15 + ([.slice AQ nq cq] : List Value).length) := ⟨_, rfl⟩
  rw [← hcsF] at VF bN
  replace B6 := Lib.hid bN
  clear bN hb ho hcsF RQ hbd OQ HNQ HCQ LBQ
  have cB1_3 := B1.out.c 3 _ V.out.kind
  go_wp2_with (first | ((with_reducible refine Lk.ld (d := 206) w9.heap.size B3.out V11.out.len ?_ ?_ ?_); exact rfl; exact rfl) | fail)
  clear cB1_3
  refine (KC.out _ _ _ T.out.bel V11.out).mono ?_
  rintro e w19 ⟨rfl, hb⟩
  replace T := Lib.hid (T.out.step hb)
  replace B1 := Lib.hid (B1.out.step hb)
  replace B2 := Lib.hid (B2.out.step hb)
  replace B3 := Lib.hid (B3.out.step hb)
  replace B4 := Lib.hid (B4.out.step hb)
  replace B5 := Lib.hid (B5.out.step hb)
  replace B6 := Lib.hid (B6.out.step hb)
  replace V := Lib.hid (V.out.step hb)
  replace V9 := Lib.hid (V9.out.step hb)
  replace V11 := Lib.hid (V11.out.step hb)
  replace V13 := Lib.hid (V13.out.step hb)
  replace V15 := Lib.hid (V15.out.step hb)
  replace VF := Lib.hid (VF.out.step hb)
  clear hb
  go_wp2_with (first | ((with_reducible refine Lk.ld (d := 212) w11.heap.size B4.out V13.out.len ?_ ?_ ?_); exact rfl; exact rfl) | fail)
  refine (KD.out _ _ _ T.out.bel V13.out).mono ?_
  rintro e w20 ⟨rfl, hb⟩
  replace T := Lib.hid (T.out.step hb)
  replace B1 := Lib.hid (B1.out.step hb)
  replace B2 := Lib.hid (B2.out.step hb)
  replace B3 := Lib.hid (B3.out.step hb)
  replace B4 := Lib.hid (B4.out.step hb)
  replace B5 := Lib.hid (B5.out.step hb)
  replace B6 := Lib.hid (B6.out.step hb)
  replace V := Lib.hid (V.out.step hb)
  replace V9 := Lib.hid (V9.out.step hb)
  replace V11 := Lib.hid (V11.out.step hb)
  replace V13 := Lib.hid (V13.out.step hb)
  replace V15 := Lib.hid (V15.out.step hb)
  replace VF := Lib.hid (VF.out.step hb)
  clear hb
  go_wp2_with (first | ((with_reducible refine Lk.ld (d := 217) w13.heap.size B5.out V15.out.len ?_ ?_ ?_); exact rfl; exact rfl) | fail)
  refine (KE.out _ _ _ T.out.bel V15.out).mono ?_
  rintro e w21 ⟨rfl, hb⟩
  replace T := Lib.hid (T.out.step hb)
  replace B1 := Lib.hid (B1.out.step hb)
  replace B2 := Lib.hid (B2.out.step hb)
  replace B3 := Lib.hid (B3.out.step hb)
  replace B4 := Lib.hid (B4.out.step hb)
  replace B5 := Lib.hid (B5.out.step hb)
  replace B6 := Lib.hid (B6.out.step hb)
  replace V := Lib.hid (V.out.step hb)
  replace V9 := Lib.hid (V9.out.step hb)
  replace V11 := Lib.hid (V11.out.step hb)
  replace V13 := Lib.hid (V13.out.step hb)
  replace V15 := Lib.hid (V15.out.step hb)
  replace VF := Lib.hid (VF.out.step hb)
  clear hb
  go_wp2_with (first | ((with_reducible refine Lk.ld (d := 222) w15.heap.size B6.out VF.out.len ?_ ?_ ?_); exact rfl; exact rfl) | fail)
  refine (KH.out _ _ _ T.out.bel VF.out).mono ?_
  rintro e w22 ⟨rfl, hb⟩
  replace T := Lib.hid (T.out.step hb)
  replace B1 := Lib.hid (B1.out.step hb)
  replace B2 := Lib.hid (B2.out.step hb)
  replace B3 := Lib.hid (B3.out.step hb)
  replace B4 := Lib.hid (B4.out.step hb)
  replace B5 := Lib.hid (B5.out.step hb)
  replace B6 := Lib.hid (B6.out.step hb)
  replace V := Lib.hid (V.out.step hb)
  replace V9 := Lib.hid (V9.out.step hb)
  replace V11 := Lib.hid (V11.out.step hb)
  replace V13 := Lib.hid (V13.out.step hb)
  replace V15 := Lib.hid (V15.out.step hb)
  replace VF := Lib.hid (VF.out.step hb)
  clear hb
  go_wp2
  go_ret
  exact ⟨rfl, T.out.bel⟩
set_option maxHeartbeats 4000000 in
set_option maxRecDepth 100000 in
theorem fields_I {keyOk : Int → Int → Bool} {sgn : Int → Int → Str → Int × Int} {ver : Int → Str → Int → Int → Bool} {W : World} (P : Pk keyOk sgn ver W) (hsm : Ok W 9 #[] (.bool true))
    (a : Ac) (e s : Int) (cs : List Value) (A : Option Addr) (nA cA : Nat) (Q : Option Addr) (nQ cQ : Nat) (hv0 : Av W W.heap.size cs a e s) (h9 : cs[9]? = some (.slice A nA cA)) (h15 : cs[15]? = some (.slice Q nQ cQ)) (hz : Sz 281474976710656 140737488355328 a)
    (h : fewB a = true) (hv : valid a e s = true) (hpa : isId a.author = true) (hpt : ids a.to = true) (q1 : (a.seq == 0) = false) (q2 : (a.kind == 0) = false) (q3 : (a.prev == []) = false) (q4 : 0 < a.seq) (q5 : (a.prev.length : Int) = 32) (q6 : 7 ≤ a.kind) (q7 : ¬ a.kind ≤ 11) (q8 : posting a.kind = false) (q9 : (a.scope == 0) = true) (q16 : (a.kind == 16) = false) (q17 : (a.kind == 19) = false) (q18 : (a.kind == 18) = true) (q19 : a.wraps = []) (nb : good { a with epoch := a.epoch + 1 } = false) :
    Calls Tryz.prog 7 #[.agg cs.toArray] W fun x w' => x = .returned (.bool true) ∧ Below W.heap.size W w' := by
  have KS := Lib.hid hsm
  have T := Lib.hid (Lk.At.start W)
  have V := Lib.hid hv0
  have H9 := Lib.hid h9
  have H15 := Lib.hid h15
  have KFa := fun (w : World) (b0 : Nat) (c0 : List Value) (hb : Below W.heap.size W w) (h0 : Av w b0 c0 a e s) => fewC h0 hz
  rw [h] at KFa
  replace KFa := Lib.hid KFa
  have h6 := few_sz6 h
  have KRa := fun (w : World) (b0 : Nat) (c0 : List Value) (hb : Below W.heap.size W w) (h0 : Av w b0 c0 a e s) => P.rightC hb h0 h6
  rw [hv] at KRa
  replace KRa := Lib.hid KRa
  have hl := lim_of (valid_good hv)
  have hE0 : 0 ≤ a.epoch := by have := hl.epoch; simp only [epOk, Bool.and_eq_true, decide_eq_true_eq] at this; exact this.1
  have hE1 : a.epoch ≤ 1073741824 := by have := hl.epoch; simp only [epOk, Bool.and_eq_true, decide_eq_true_eq] at this; exact this.2
  have hM0 : 0 ≤ a.m := hl.m.1
  have hM1 : a.m < 2305843009213693951 := hl.m.2
  have hO1 : (a.object.length : Int) ≤ 32 := by have := hl.object; omega
  have hG1 : (a.target.length : Int) ≤ 32 := by have := hl.target; omega
  have KI := P.idR a.author h6.author
  rw [hpa] at KI
  replace KI := Lib.hid KI
  have KT := fun (w : World) (bd : Nat) (hb : Below W.heap.size W w) (h0 : Av w bd cs a e s) => P.idsR A a.to nA cA w hb (h0.toAt h9).1 ((h0.toAt h9).2.2.more h0.le) (by rw [(h0.toAt h9).1]; exact h6.to) h6.tos
  rw [hpt] at KT
  replace KT := Lib.hid KT
  have KP := P.posting a.kind
  rw [q8] at KP
  replace KP := Lib.hid KP
  have ND := more_object (valid_good hv) 120
  have NE := more_target (valid_good hv) 120
  have NF : good { a with wraps := ⟨1, 1, bx0⟩ :: a.wraps } = false := more_wraps
  have szD : Sz 1000000 1000000 { a with object := a.object ++ [120] } := ⟨h6.author, h6.prev, by show (a.object ++ [120]).length ≤ 1000000; simp; omega, h6.target, h6.group, h6.text, h6.nonce, h6.data, h6.tag, h6.to, h6.tos, h6.wraps, h6.boxes⟩
  have szE : Sz 1000000 1000000 { a with target := a.target ++ [120] } := ⟨h6.author, h6.prev, h6.object, by show (a.target ++ [120]).length ≤ 1000000; simp; omega, h6.group, h6.text, h6.nonce, h6.data, h6.tag, h6.to, h6.tos, h6.wraps, h6.boxes⟩
  have szF : Sz 1000000 1000000 { a with wraps := ⟨1, 1, bx0⟩ :: a.wraps } := ⟨h6.author, h6.prev, h6.object, h6.target, h6.group, h6.text, h6.nonce, h6.data, h6.tag, h6.to, h6.tos, by show a.wraps.length + 1 ≤ 1000000; have := hl.wraps.2; omega, fun w hw => by
    rcases List.mem_cons.1 hw with rfl | hw
    · simp [bx0]
    · exact h6.boxes w hw⟩
  have KD := fun (w : World) (b0 : Nat) (c0 : List Value) (hb : Below W.heap.size W w) (h0 : Av w b0 c0 { a with object := a.object ++ [120] } e s) => P.rightC hb h0 szD
  rw [show valid { a with object := a.object ++ [120] } e s = false by unfold valid; rw [ND, Bool.and_false]] at KD
  replace KD := Lib.hid KD
  have KE := fun (w : World) (b0 : Nat) (c0 : List Value) (hb : Below W.heap.size W w) (h0 : Av w b0 c0 { a with target := a.target ++ [120] } e s) => P.rightC hb h0 szE
  rw [show valid { a with target := a.target ++ [120] } e s = false by unfold valid; rw [NE, Bool.and_false]] at KE
  replace KE := Lib.hid KE
  have KH := fun (w : World) (b0 : Nat) (c0 : List Value) (hb : Below W.heap.size W w) (h0 : Av w b0 c0 { a with wraps := ⟨1, 1, bx0⟩ :: a.wraps } e s) => P.rightC hb h0 szF
  rw [show valid { a with wraps := ⟨1, 1, bx0⟩ :: a.wraps } e s = false by unfold valid; rw [NF, Bool.and_false]] at KH
  replace KH := Lib.hid KH
  have KB := fun (w : World) (b0 : Nat) (c0 : List Value) (hb : Below W.heap.size W w) (h0 : Av w b0 c0 { a with epoch := a.epoch + 1 } e s) => P.rightC hb h0 ⟨h6.author, h6.prev, h6.object, h6.target, h6.group, h6.text, h6.nonce, h6.data, h6.tag, h6.to, h6.tos, h6.wraps, h6.boxes⟩
  rw [show valid { a with epoch := a.epoch + 1 } e s = false by unfold valid; rw [nb, Bool.and_false]] at KB
  replace KB := Lib.hid KB
  have hnQ := (V.out.wrAt h15).1
  have hnA := (V.out.toAt h9).1
  have HLQ := Lib.hid (show ([⟨1, 1, bx0⟩] : List Wr).length + a.wraps.length ≤ 100000 by have := hl.wraps.2; simp; omega)
  obtain rfl : nQ = 0 := by rw [hnQ, q19]; rfl
  have HMQ := Lib.hid hnQ
  clear P hsm hv0 h9 h15 hz h hv hpa hpt h6 hl ND NE NF szD szE szF hnQ hnA q8 q19 nb
  have q9a : (a.scope != 0) = false := by rw [bne, q9]; rfl
  have q9b : decide (a.scope = 0) = true := by rw [← q9]; rfl
  go_enter Tryz.func7, Tryz.ntmps7
  go_wp2_with (first | fail)
  replace T := Lib.hid (T.out.alloc (.cells cs.toArray 29))
  replace V := Lib.hid (V.out.alloc (.cells cs.toArray 29))
  have B1 := Lib.hid (show Lk.Bl (W.alloc (.cells cs.toArray 29)) W.heap.size cs 29 from by have h := Lk.Bl.new W cs 29; simpa using h)
  generalize W.alloc (.cells cs.toArray 29) = w1 at *
  refine (KS.out _ T.out.bel).mono ?_
  rintro e w2 ⟨rfl, hb⟩
  replace T := Lib.hid (T.out.step hb)
  replace B1 := Lib.hid (B1.out.step hb)
  replace V := Lib.hid (V.out.step hb)
  clear hb
  go_wp2_with (first | ((with_reducible refine Lk.ld (d := 14) W.heap.size B1.out V.out.len ?_ ?_ ?_); exact rfl; exact rfl) | fail)
  refine (KFa.out _ _ _ T.out.bel V.out).mono ?_
  rintro e w3 ⟨rfl, hb⟩
  replace T := Lib.hid (T.out.step hb)
  replace B1 := Lib.hid (B1.out.step hb)
  replace V := Lib.hid (V.out.step hb)
  clear hb
  go_wp2_with (first | ((with_reducible refine Lk.ld (d := 18) W.heap.size B1.out V.out.len ?_ ?_ ?_); exact rfl; exact rfl) | fail)
  refine (KRa.out _ _ _ T.out.bel V.out).mono ?_
  rintro e w4 ⟨rfl, hb⟩
  replace T := Lib.hid (T.out.step hb)
  replace B1 := Lib.hid (B1.out.step hb)
  replace V := Lib.hid (V.out.step hb)
  clear hb
  have cB1_0 := B1.out.c 0 _ V.out.author
  go_wp2_with (first | fail)
  clear cB1_0
  refine (KI.out _ T.out.bel).mono ?_
  rintro e w5 ⟨rfl, hb⟩
  replace T := Lib.hid (T.out.step hb)
  replace B1 := Lib.hid (B1.out.step hb)
  replace V := Lib.hid (V.out.step hb)
  clear hb
  have cB1_9 := B1.out.c 9 _ H9.out
  go_wp2_with (first | fail)
  clear cB1_9
  refine (KT.out _ _ T.out.bel V.out).mono ?_
  rintro e w6 ⟨rfl, hb⟩
  replace T := Lib.hid (T.out.step hb)
  replace B1 := Lib.hid (B1.out.step hb)
  replace V := Lib.hid (V.out.step hb)
  clear hb
  have cB1_1 := B1.out.c 1 _ V.out.seq
  have cB1_3 := B1.out.c 3 _ V.out.kind
  have cB1_2 := B1.out.c 2 _ V.out.prev
  go_wp2_with (first | fail)
  clear cB1_1 cB1_3 cB1_2
  refine (KP.out _ T.out.bel).mono ?_
  rintro e w7 ⟨rfl, hb⟩
  replace T := Lib.hid (T.out.step hb)
  replace B1 := Lib.hid (B1.out.step hb)
  replace V := Lib.hid (V.out.step hb)
  clear hb
  have cB1_3 := B1.out.c 3 _ V.out.kind
  have cB1_15 := B1.out.c 15 _ H15.out
  go_wp2_with (first | ((with_reducible refine Lk.nw cs V.out.len V.out.one ?_ ?_ ?_ ?_); exact rfl; exact rfl; exact rfl) | ((with_reducible refine Lk.ld (d := 143) W.heap.size B1.out V.out.len ?_ ?_ ?_); exact rfl; exact rfl) | fail)
  clear cB1_3 cB1_15
  intro w8 bN hb
  have LB1_B2 := Lib.hid (show W.heap.size < w7.heap.size from B1.out.lt)
  have GV_B2 := Lib.hid (show W.heap.size ≤ w7.heap.size from V.out.le)
  have GB2 := Lib.hid (show W.heap.size ≤ w7.heap.size from T.out.bel.size)
  replace T := Lib.hid (T.out.step hb)
  replace B1 := Lib.hid (B1.out.step hb)
  replace V := Lib.hid (V.out.step hb)
  have B2 := Lib.hid (show Lk.Bl w8 w7.heap.size cs 29 from bN)
  clear bN hb
  have cB1_14 := B1.out.c 14 _ V.out.epoch
  go_wp2_with (first | ((with_reducible refine Lk.st w7.heap.size 14 [.int .i64 (a.epoch + 1)] (.int .i64 (a.epoch + 1)) B2.out ?_ ?_ ?_ ?_ ?_ ?_ ?_); exact Lk.infoI; exact rfl; (rw [V.out.len]; exact Nat.le_of_ble_eq_true rfl); (simp [Value.oneCell']); exact rfl; exact rfl) | fail)
  clear cB1_14
  intro w9 bN hb
  replace B1 := Lib.hid (B1.out.under hb LB1_B2.out)
  replace T := Lib.hid (T.out.under hb GB2.out)
  replace V := Lib.hid (V.out.under hb GV_B2.out)
  obtain ⟨cs9, hcs9⟩ : ∃ x : List Value, x = cs.take 14 ++ [.int .i64 (a.epoch + 1)] ++ cs.drop (14 + ([.int .i64 (a.epoch + 1)] : List Value).length) := ⟨_, rfl⟩
  have V9 := Lib.hid (show Av w9 W.heap.size cs9 { a with epoch := a.epoch + 1 } e s from by rw [hcs9]; exact V.out.put 14 [.int .i64 (a.epoch + 1)] rfl rfl (fun _ _ _ _ _ _ => rfl))
  replace B2 := Lib.hid (show Lk.Bl w9 w7.heap.size cs9 29 from by rw [hcs9]; exact bN)
  clear bN hb hcs9
  have GV9_B2 := GV_B2
  go_wp2_with (first | ((with_reducible refine Lk.nw cs V.out.len V.out.one ?_ ?_ ?_ ?_); exact rfl; exact rfl; exact rfl) | ((with_reducible refine Lk.ld (d := 148) W.heap.size B1.out V.out.len ?_ ?_ ?_); exact rfl; exact rfl) | fail)
  intro w10 bN hb
  have LB1_B3 := Lib.hid (show W.heap.size < w9.heap.size from B1.out.lt)
  have LB2_B3 := Lib.hid (show w7.heap.size < w9.heap.size from B2.out.lt)
  have GV_B3 := Lib.hid (show W.heap.size ≤ w9.heap.size from V.out.le)
  have GV9_B3 := Lib.hid (show W.heap.size ≤ w9.heap.size from V9.out.le)
  have GB3 := Lib.hid (show W.heap.size ≤ w9.heap.size from T.out.bel.size)
  replace T := Lib.hid (T.out.step hb)
  replace B1 := Lib.hid (B1.out.step hb)
  replace B2 := Lib.hid (B2.out.step hb)
  replace V := Lib.hid (V.out.step hb)
  replace V9 := Lib.hid (V9.out.step hb)
  have B3 := Lib.hid (show Lk.Bl w10 w9.heap.size cs 29 from bN)
  clear bN hb
  have cB1_17 := B1.out.c 17 _ V.out.m
  go_wp2_with (first | ((with_reducible refine Lk.st w9.heap.size 17 [.int .i64 (a.m - 1)] (.int .i64 (a.m - 1)) B3.out ?_ ?_ ?_ ?_ ?_ ?_ ?_); exact Lk.infoI; exact rfl; (rw [V.out.len]; exact Nat.le_of_ble_eq_true rfl); (simp [Value.oneCell']); exact rfl; exact rfl) | fail)
  clear cB1_17
  intro w11 bN hb
  replace B1 := Lib.hid (B1.out.under hb LB1_B3.out)
  replace B2 := Lib.hid (B2.out.under hb LB2_B3.out)
  replace T := Lib.hid (T.out.under hb GB3.out)
  replace V := Lib.hid (V.out.under hb GV_B3.out)
  replace V9 := Lib.hid (V9.out.under hb GV9_B3.out)
  obtain ⟨cs11, hcs11⟩ : ∃ x : List Value, x = cs.take 17 ++ [.int .i64 (a.m - 1)] ++ cs.drop (17 + ([.int .i64 (a.m - 1)] : List Value).length) := ⟨_, rfl⟩
  have V11 := Lib.hid (show Av w11 W.heap.size cs11 { a with m := a.m - 1 } e s from by rw [hcs11]; exact V.out.put 17 [.int .i64 (a.m - 1)] rfl rfl (fun _ _ _ _ _ _ => rfl))
  replace B3 := Lib.hid (show Lk.Bl w11 w9.heap.size cs11 29 from by rw [hcs11]; exact bN)
  clear bN hb hcs11
  have GV11_B2 := GV_B2
  have GV11_B3 := GV_B3
  go_wp2_with (first | ((with_reducible refine Lk.nw cs V.out.len V.out.one ?_ ?_ ?_ ?_); exact rfl; exact rfl; exact rfl) | ((with_reducible refine Lk.ld (d := 153) W.heap.size B1.out V.out.len ?_ ?_ ?_); exact rfl; exact rfl) | fail)
  intro w12 bN hb
  have LB1_B4 := Lib.hid (show W.heap.size < w11.heap.size from B1.out.lt)
  have LB2_B4 := Lib.hid (show w7.heap.size < w11.heap.size from B2.out.lt)
  have LB3_B4 := Lib.hid (show w9.heap.size < w11.heap.size from B3.out.lt)
  have GV_B4 := Lib.hid (show W.heap.size ≤ w11.heap.size from V.out.le)
  have GV9_B4 := Lib.hid (show W.heap.size ≤ w11.heap.size from V9.out.le)
  have GV11_B4 := Lib.hid (show W.heap.size ≤ w11.heap.size from V11.out.le)
  have GB4 := Lib.hid (show W.heap.size ≤ w11.heap.size from T.out.bel.size)
  replace T := Lib.hid (T.out.step hb)
  replace B1 := Lib.hid (B1.out.step hb)
  replace B2 := Lib.hid (B2.out.step hb)
  replace B3 := Lib.hid (B3.out.step hb)
  replace V := Lib.hid (V.out.step hb)
  replace V9 := Lib.hid (V9.out.step hb)
  replace V11 := Lib.hid (V11.out.step hb)
  have B4 := Lib.hid (show Lk.Bl w12 w11.heap.size cs 29 from bN)
  clear bN hb
  have cB1_5 := B1.out.c 5 _ V.out.object
  go_wp2_with (first | ((with_reducible refine Lk.st w11.heap.size 5 [.string (S2.B (a.object ++ [120]))] (.string (S2.B (a.object ++ [120]))) B4.out ?_ ?_ ?_ ?_ ?_ ?_ ?_); exact Lk.infoS; exact rfl; (rw [V.out.len]; exact Nat.le_of_ble_eq_true rfl); (simp [Value.oneCell']); exact rfl; exact rfl) | fail)
  clear cB1_5
  intro w13 bN hb
  replace B1 := Lib.hid (B1.out.under hb LB1_B4.out)
  replace B2 := Lib.hid (B2.out.under hb LB2_B4.out)
  replace B3 := Lib.hid (B3.out.under hb LB3_B4.out)
  replace T := Lib.hid (T.out.under hb GB4.out)
  replace V := Lib.hid (V.out.under hb GV_B4.out)
  replace V9 := Lib.hid (V9.out.under hb GV9_B4.out)
  replace V11 := Lib.hid (V11.out.under hb GV11_B4.out)
  obtain ⟨cs13, hcs13⟩ : ∃ x : List Value, x = cs.take 5 ++ [.string (S2.B (a.object ++ [120]))] ++ cs.drop (5 + ([.string (S2.B (a.object ++ [120]))] : List Value).length) := ⟨_, rfl⟩
  have V13 := Lib.hid (show Av w13 W.heap.size cs13 { a with object := a.object ++ [120] } e s from by rw [hcs13]; exact V.out.put 5 [.string (S2.B (a.object ++ [120]))] rfl rfl (fun _ _ _ _ _ _ => rfl))
  replace B4 := Lib.hid (show Lk.Bl w13 w11.heap.size cs13 29 from by rw [hcs13]; exact bN)
  clear bN hb hcs13
  have GV13_B2 := GV_B2
  have GV13_B3 := GV_B3
  have GV13_B4 := GV_B4
  go_wp2_with (first | ((with_reducible refine Lk.nw cs V.out.len V.out.one ?_ ?_ ?_ ?_); exact rfl; exact rfl; exact rfl) | ((with_reducible refine Lk.ld (d := 158) W.heap.size B1.out V.out.len ?_ ?_ ?_); exact rfl; exact rfl) | fail)
  intro w14 bN hb
  have LB1_B5 := Lib.hid (show W.heap.size < w13.heap.size from B1.out.lt)
  have LB2_B5 := Lib.hid (show w7.heap.size < w13.heap.size from B2.out.lt)
  have LB3_B5 := Lib.hid (show w9.heap.size < w13.heap.size from B3.out.lt)
  have LB4_B5 := Lib.hid (show w11.heap.size < w13.heap.size from B4.out.lt)
  have GV_B5 := Lib.hid (show W.heap.size ≤ w13.heap.size from V.out.le)
  have GV9_B5 := Lib.hid (show W.heap.size ≤ w13.heap.size from V9.out.le)
  have GV11_B5 := Lib.hid (show W.heap.size ≤ w13.heap.size from V11.out.le)
  have GV13_B5 := Lib.hid (show W.heap.size ≤ w13.heap.size from V13.out.le)
  have GB5 := Lib.hid (show W.heap.size ≤ w13.heap.size from T.out.bel.size)
  replace T := Lib.hid (T.out.step hb)
  replace B1 := Lib.hid (B1.out.step hb)
  replace B2 := Lib.hid (B2.out.step hb)
  replace B3 := Lib.hid (B3.out.step hb)
  replace B4 := Lib.hid (B4.out.step hb)
  replace V := Lib.hid (V.out.step hb)
  replace V9 := Lib.hid (V9.out.step hb)
  replace V11 := Lib.hid (V11.out.step hb)
  replace V13 := Lib.hid (V13.out.step hb)
  have B5 := Lib.hid (show Lk.Bl w14 w13.heap.size cs 29 from bN)
  clear bN hb
  have cB1_6 := B1.out.c 6 _ V.out.target
  go_wp2_with (first | ((with_reducible refine Lk.st w13.heap.size 6 [.string (S2.B (a.target ++ [120]))] (.string (S2.B (a.target ++ [120]))) B5.out ?_ ?_ ?_ ?_ ?_ ?_ ?_); exact Lk.infoS; exact rfl; (rw [V.out.len]; exact Nat.le_of_ble_eq_true rfl); (simp [Value.oneCell']); exact rfl; exact rfl) | fail)
  clear cB1_6
  intro w15 bN hb
  replace B1 := Lib.hid (B1.out.under hb LB1_B5.out)
  replace B2 := Lib.hid (B2.out.under hb LB2_B5.out)
  replace B3 := Lib.hid (B3.out.under hb LB3_B5.out)
  replace B4 := Lib.hid (B4.out.under hb LB4_B5.out)
  replace T := Lib.hid (T.out.under hb GB5.out)
  replace V := Lib.hid (V.out.under hb GV_B5.out)
  replace V9 := Lib.hid (V9.out.under hb GV9_B5.out)
  replace V11 := Lib.hid (V11.out.under hb GV11_B5.out)
  replace V13 := Lib.hid (V13.out.under hb GV13_B5.out)
  obtain ⟨cs15, hcs15⟩ : ∃ x : List Value, x = cs.take 6 ++ [.string (S2.B (a.target ++ [120]))] ++ cs.drop (6 + ([.string (S2.B (a.target ++ [120]))] : List Value).length) := ⟨_, rfl⟩
  have V15 := Lib.hid (show Av w15 W.heap.size cs15 { a with target := a.target ++ [120] } e s from by rw [hcs15]; exact V.out.put 6 [.string (S2.B (a.target ++ [120]))] rfl rfl (fun _ _ _ _ _ _ => rfl))
  replace B5 := Lib.hid (show Lk.Bl w15 w13.heap.size cs15 29 from by rw [hcs15]; exact bN)
  clear bN hb hcs15
  have GV15_B2 := GV_B2
  have GV15_B3 := GV_B3
  have GV15_B4 := GV_B4
  have GV15_B5 := GV_B5
  go_wp2_with (first | ((with_reducible refine Lk.nw cs V.out.len V.out.one ?_ ?_ ?_ ?_); exact rfl; exact rfl; exact rfl) | ((with_reducible refine Lk.ld (d := 163) W.heap.size B1.out V.out.len ?_ ?_ ?_); exact rfl; exact rfl) | fail)
  intro w16 bN hb
  have LB1_B6 := Lib.hid (show W.heap.size < w15.heap.size from B1.out.lt)
  have LB2_B6 := Lib.hid (show w7.heap.size < w15.heap.size from B2.out.lt)
  have LB3_B6 := Lib.hid (show w9.heap.size < w15.heap.size from B3.out.lt)
  have LB4_B6 := Lib.hid (show w11.heap.size < w15.heap.size from B4.out.lt)
  have LB5_B6 := Lib.hid (show w13.heap.size < w15.heap.size from B5.out.lt)
  have GV_B6 := Lib.hid (show W.heap.size ≤ w15.heap.size from V.out.le)
  have GV9_B6 := Lib.hid (show W.heap.size ≤ w15.heap.size from V9.out.le)
  have GV11_B6 := Lib.hid (show W.heap.size ≤ w15.heap.size from V11.out.le)
  have GV13_B6 := Lib.hid (show W.heap.size ≤ w15.heap.size from V13.out.le)
  have GV15_B6 := Lib.hid (show W.heap.size ≤ w15.heap.size from V15.out.le)
  have GB6 := Lib.hid (show W.heap.size ≤ w15.heap.size from T.out.bel.size)
  replace T := Lib.hid (T.out.step hb)
  replace B1 := Lib.hid (B1.out.step hb)
  replace B2 := Lib.hid (B2.out.step hb)
  replace B3 := Lib.hid (B3.out.step hb)
  replace B4 := Lib.hid (B4.out.step hb)
  replace B5 := Lib.hid (B5.out.step hb)
  replace V := Lib.hid (V.out.step hb)
  replace V9 := Lib.hid (V9.out.step hb)
  replace V11 := Lib.hid (V11.out.step hb)
  replace V13 := Lib.hid (V13.out.step hb)
  replace V15 := Lib.hid (V15.out.step hb)
  have B6 := Lib.hid (show Lk.Bl w16 w15.heap.size cs 29 from bN)
  clear bN hb
  have T0 := Lib.hid (show W.heap.size ≤ w16.heap.size from T.out.bel.size)
  have OW := Lib.hid (show OwnW (w16.alloc (.cells #[.int .i64 1, .int .i64 1, .string (S2.B []), .string (S2.B []), .string (S2.B [])] 50)) w16.heap.size (.slice (some ⟨w16.heap.size, 0, none⟩) 1 1) [⟨1, 1, bx0⟩] from OwnW.lit w16 [⟨1, 1, bx0⟩] (by decide))
  have SR := Lib.hid (show S2.Row (w16.alloc (.cells #[.int .i64 1, .int .i64 1, .string (S2.B []), .string (S2.B []), .string (S2.B [])] 50)) (w16.alloc (.cells #[.int .i64 1, .int .i64 1, .string (S2.B []), .string (S2.B []), .string (S2.B [])] 50)).heap.size Q (Ws a.wraps) from ((V.out.alloc (.cells #[.int .i64 1, .int .i64 1, .string (S2.B []), .string (S2.B []), .string (S2.B [])] 50)).wrAt H15.out).2.2.more (V.out.alloc (.cells #[.int .i64 1, .int .i64 1, .string (S2.B []), .string (S2.B []), .string (S2.B [])] 50)).le)
  have cB1_15 := (B1.out.alloc (.cells #[.int .i64 1, .int .i64 1, .string (S2.B []), .string (S2.B []), .string (S2.B [])] 50)).c 15 _ H15.out
  go_wp2_with (first | (at_builtin; refine wpList_appW rfl _ _ rfl OW.out SR.out rfl rfl HMQ.out HLQ.out ?_) | fail)
  clear cB1_15
  intro v1 w17 own1 hb1
  have hb : Below w16.heap.size w16 w17 := ((Below.refl _ _).alloc (Nat.le_refl _) (.cells #[.int .i64 1, .int .i64 1, .string (S2.B []), .string (S2.B []), .string (S2.B [])] 50)).trans hb1
  have LBQ := Lib.hid (show w15.heap.size < w16.heap.size from B6.out.lt)
  replace T := Lib.hid (T.out.step hb)
  replace B1 := Lib.hid (B1.out.step hb)
  replace B2 := Lib.hid (B2.out.step hb)
  replace B3 := Lib.hid (B3.out.step hb)
  replace B4 := Lib.hid (B4.out.step hb)
  replace B5 := Lib.hid (B5.out.step hb)
  replace B6 := Lib.hid (B6.out.step hb)
  replace V := Lib.hid (V.out.step hb)
  replace V9 := Lib.hid (V9.out.step hb)
  replace V11 := Lib.hid (V11.out.step hb)
  replace V13 := Lib.hid (V13.out.step hb)
  replace V15 := Lib.hid (V15.out.step hb)
  clear OW SR hb1 hb
  obtain ⟨AQ, nq, cq, rfl, hnq, hcq⟩ := own1.sl3
  have OQ := Lib.hid own1
  have HNQ := Lib.hid hnq
  have HCQ := Lib.hid hcq
  clear own1 hnq hcq
  go_wp2_with (first | ((with_reducible refine Lk.stX w15.heap.size 15 [.slice AQ nq cq] (.slice AQ nq cq) B6.out ?_ ?_ ?_ ?_ ?_ ?_ ?_); exact (show (Tryz.prog.info? 25).map (·.size) = some 1 by kernel_rfl); exact rfl; (rw [V.out.len]; exact Nat.le_of_ble_eq_true rfl); (simp [Value.oneCell']); exact rfl; exact rfl) | fail)
  intro w18 bN hb ho
  replace B1 := Lib.hid (B1.out.under hb LB1_B6.out)
  replace B2 := Lib.hid (B2.out.under hb LB2_B6.out)
  replace B3 := Lib.hid (B3.out.under hb LB3_B6.out)
  replace B4 := Lib.hid (B4.out.under hb LB4_B6.out)
  replace B5 := Lib.hid (B5.out.under hb LB5_B6.out)
  replace T := Lib.hid (T.out.under hb GB6.out)
  have RQ := row_only OQ.out.row ho OQ.out.addr LBQ.out
  have hbd : w17.heap.size ≤ w18.heap.size := hb.size
  replace V := Lib.hid (V.out.under hb GV_B6.out)
  replace V9 := Lib.hid (V9.out.under hb GV9_B6.out)
  replace V11 := Lib.hid (V11.out.under hb GV11_B6.out)
  replace V13 := Lib.hid (V13.out.under hb GV13_B6.out)
  replace V15 := Lib.hid (V15.out.under hb GV15_B6.out)
  have VF := Lib.hid (show Av w18 w17.heap.size (cs.take 15 ++ [.slice AQ nq cq] ++ cs.drop (15 + ([.slice AQ nq cq] : List Value).length)) { a with wraps := ⟨1, 1, bx0⟩ :: a.wraps } e s from V.out.putW RQ HNQ.out HCQ.out (Nat.le_trans T0.out OQ.out.le) hbd)
  obtain ⟨csF, hcsF⟩ : ∃ x : List Value, x = cs.take 15 ++ [.slice AQ nq cq] ++ cs.drop (15 + ([.slice AQ nq cq] : List Value).length) := ⟨_, rfl⟩
  rw [← hcsF] at VF bN
  replace B6 := Lib.hid bN
  clear bN hb ho hcsF RQ hbd OQ HNQ HCQ LBQ
  have cB1_7 := B1.out.c 7 _ V.out.scope
  have cB1_3 := B1.out.c 3 _ V.out.kind
  go_wp2_with (first | ((with_reducible refine Lk.ld (d := 198) w7.heap.size B2.out V9.out.len ?_ ?_ ?_); exact rfl; exact rfl) | fail)
  clear cB1_7 cB1_3
  refine (KB.out _ _ _ T.out.bel V9.out).mono ?_
  rintro e w19 ⟨rfl, hb⟩
  replace T := Lib.hid (T.out.step hb)
  replace B1 := Lib.hid (B1.out.step hb)
  replace B2 := Lib.hid (B2.out.step hb)
  replace B3 := Lib.hid (B3.out.step hb)
  replace B4 := Lib.hid (B4.out.step hb)
  replace B5 := Lib.hid (B5.out.step hb)
  replace B6 := Lib.hid (B6.out.step hb)
  replace V := Lib.hid (V.out.step hb)
  replace V9 := Lib.hid (V9.out.step hb)
  replace V11 := Lib.hid (V11.out.step hb)
  replace V13 := Lib.hid (V13.out.step hb)
  replace V15 := Lib.hid (V15.out.step hb)
  replace VF := Lib.hid (VF.out.step hb)
  clear hb
  go_wp2_with (first | ((with_reducible refine Lk.ld (d := 212) w11.heap.size B4.out V13.out.len ?_ ?_ ?_); exact rfl; exact rfl) | fail)
  refine (KD.out _ _ _ T.out.bel V13.out).mono ?_
  rintro e w20 ⟨rfl, hb⟩
  replace T := Lib.hid (T.out.step hb)
  replace B1 := Lib.hid (B1.out.step hb)
  replace B2 := Lib.hid (B2.out.step hb)
  replace B3 := Lib.hid (B3.out.step hb)
  replace B4 := Lib.hid (B4.out.step hb)
  replace B5 := Lib.hid (B5.out.step hb)
  replace B6 := Lib.hid (B6.out.step hb)
  replace V := Lib.hid (V.out.step hb)
  replace V9 := Lib.hid (V9.out.step hb)
  replace V11 := Lib.hid (V11.out.step hb)
  replace V13 := Lib.hid (V13.out.step hb)
  replace V15 := Lib.hid (V15.out.step hb)
  replace VF := Lib.hid (VF.out.step hb)
  clear hb
  go_wp2_with (first | ((with_reducible refine Lk.ld (d := 217) w13.heap.size B5.out V15.out.len ?_ ?_ ?_); exact rfl; exact rfl) | fail)
  refine (KE.out _ _ _ T.out.bel V15.out).mono ?_
  rintro e w21 ⟨rfl, hb⟩
  replace T := Lib.hid (T.out.step hb)
  replace B1 := Lib.hid (B1.out.step hb)
  replace B2 := Lib.hid (B2.out.step hb)
  replace B3 := Lib.hid (B3.out.step hb)
  replace B4 := Lib.hid (B4.out.step hb)
  replace B5 := Lib.hid (B5.out.step hb)
  replace B6 := Lib.hid (B6.out.step hb)
  replace V := Lib.hid (V.out.step hb)
  replace V9 := Lib.hid (V9.out.step hb)
  replace V11 := Lib.hid (V11.out.step hb)
  replace V13 := Lib.hid (V13.out.step hb)
  replace V15 := Lib.hid (V15.out.step hb)
  replace VF := Lib.hid (VF.out.step hb)
  clear hb
  go_wp2_with (first | ((with_reducible refine Lk.ld (d := 222) w15.heap.size B6.out VF.out.len ?_ ?_ ?_); exact rfl; exact rfl) | fail)
  refine (KH.out _ _ _ T.out.bel VF.out).mono ?_
  rintro e w22 ⟨rfl, hb⟩
  replace T := Lib.hid (T.out.step hb)
  replace B1 := Lib.hid (B1.out.step hb)
  replace B2 := Lib.hid (B2.out.step hb)
  replace B3 := Lib.hid (B3.out.step hb)
  replace B4 := Lib.hid (B4.out.step hb)
  replace B5 := Lib.hid (B5.out.step hb)
  replace B6 := Lib.hid (B6.out.step hb)
  replace V := Lib.hid (V.out.step hb)
  replace V9 := Lib.hid (V9.out.step hb)
  replace V11 := Lib.hid (V11.out.step hb)
  replace V13 := Lib.hid (V13.out.step hb)
  replace V15 := Lib.hid (V15.out.step hb)
  replace VF := Lib.hid (VF.out.step hb)
  clear hb
  go_wp2
  go_ret
  exact ⟨rfl, T.out.bel⟩
set_option maxHeartbeats 4000000 in
set_option maxRecDepth 100000 in
theorem fields_J {keyOk : Int → Int → Bool} {sgn : Int → Int → Str → Int × Int} {ver : Int → Str → Int → Int → Bool} {W : World} (P : Pk keyOk sgn ver W) (hsm : Ok W 9 #[] (.bool true))
    (a : Ac) (e s : Int) (cs : List Value) (A : Option Addr) (nA cA : Nat) (Q : Option Addr) (nQ cQ : Nat) (hv0 : Av W W.heap.size cs a e s) (h9 : cs[9]? = some (.slice A nA cA)) (h15 : cs[15]? = some (.slice Q nQ cQ)) (hz : Sz 281474976710656 140737488355328 a)
    (h : fewB a = true) (hv : valid a e s = true) (hpa : isId a.author = true) (hpt : ids a.to = true) (q1 : (a.seq == 0) = false) (q2 : (a.kind == 0) = false) (q3 : (a.prev == []) = false) (q4 : 0 < a.seq) (q5 : (a.prev.length : Int) = 32) (q6 : 7 ≤ a.kind) (q7 : ¬ a.kind ≤ 11) (q8 : posting a.kind = false) (q9 : (a.scope == 0) = true) (q16 : (a.kind == 16) = false) (q17 : (a.kind == 19) = true) (q18 : (a.kind == 18) = false) (q19 : a.wraps.length = a.to.length) (nb : good { a with epoch := a.epoch + 1 } = false) :
    Calls Tryz.prog 7 #[.agg cs.toArray] W fun x w' => x = .returned (.bool true) ∧ Below W.heap.size W w' := by
  have KS := Lib.hid hsm
  have T := Lib.hid (Lk.At.start W)
  have V := Lib.hid hv0
  have H9 := Lib.hid h9
  have H15 := Lib.hid h15
  have KFa := fun (w : World) (b0 : Nat) (c0 : List Value) (hb : Below W.heap.size W w) (h0 : Av w b0 c0 a e s) => fewC h0 hz
  rw [h] at KFa
  replace KFa := Lib.hid KFa
  have h6 := few_sz6 h
  have KRa := fun (w : World) (b0 : Nat) (c0 : List Value) (hb : Below W.heap.size W w) (h0 : Av w b0 c0 a e s) => P.rightC hb h0 h6
  rw [hv] at KRa
  replace KRa := Lib.hid KRa
  have hl := lim_of (valid_good hv)
  have hE0 : 0 ≤ a.epoch := by have := hl.epoch; simp only [epOk, Bool.and_eq_true, decide_eq_true_eq] at this; exact this.1
  have hE1 : a.epoch ≤ 1073741824 := by have := hl.epoch; simp only [epOk, Bool.and_eq_true, decide_eq_true_eq] at this; exact this.2
  have hM0 : 0 ≤ a.m := hl.m.1
  have hM1 : a.m < 2305843009213693951 := hl.m.2
  have hO1 : (a.object.length : Int) ≤ 32 := by have := hl.object; omega
  have hG1 : (a.target.length : Int) ≤ 32 := by have := hl.target; omega
  have KI := P.idR a.author h6.author
  rw [hpa] at KI
  replace KI := Lib.hid KI
  have KT := fun (w : World) (bd : Nat) (hb : Below W.heap.size W w) (h0 : Av w bd cs a e s) => P.idsR A a.to nA cA w hb (h0.toAt h9).1 ((h0.toAt h9).2.2.more h0.le) (by rw [(h0.toAt h9).1]; exact h6.to) h6.tos
  rw [hpt] at KT
  replace KT := Lib.hid KT
  have KP := P.posting a.kind
  rw [q8] at KP
  replace KP := Lib.hid KP
  have ND := more_object (valid_good hv) 120
  have NE := more_target (valid_good hv) 120
  have NF : good { a with wraps := ⟨1, 1, bx0⟩ :: a.wraps } = false := more_wraps
  have szD : Sz 1000000 1000000 { a with object := a.object ++ [120] } := ⟨h6.author, h6.prev, by show (a.object ++ [120]).length ≤ 1000000; simp; omega, h6.target, h6.group, h6.text, h6.nonce, h6.data, h6.tag, h6.to, h6.tos, h6.wraps, h6.boxes⟩
  have szE : Sz 1000000 1000000 { a with target := a.target ++ [120] } := ⟨h6.author, h6.prev, h6.object, by show (a.target ++ [120]).length ≤ 1000000; simp; omega, h6.group, h6.text, h6.nonce, h6.data, h6.tag, h6.to, h6.tos, h6.wraps, h6.boxes⟩
  have szF : Sz 1000000 1000000 { a with wraps := ⟨1, 1, bx0⟩ :: a.wraps } := ⟨h6.author, h6.prev, h6.object, h6.target, h6.group, h6.text, h6.nonce, h6.data, h6.tag, h6.to, h6.tos, by show a.wraps.length + 1 ≤ 1000000; have := hl.wraps.2; omega, fun w hw => by
    rcases List.mem_cons.1 hw with rfl | hw
    · simp [bx0]
    · exact h6.boxes w hw⟩
  have KD := fun (w : World) (b0 : Nat) (c0 : List Value) (hb : Below W.heap.size W w) (h0 : Av w b0 c0 { a with object := a.object ++ [120] } e s) => P.rightC hb h0 szD
  rw [show valid { a with object := a.object ++ [120] } e s = false by unfold valid; rw [ND, Bool.and_false]] at KD
  replace KD := Lib.hid KD
  have KE := fun (w : World) (b0 : Nat) (c0 : List Value) (hb : Below W.heap.size W w) (h0 : Av w b0 c0 { a with target := a.target ++ [120] } e s) => P.rightC hb h0 szE
  rw [show valid { a with target := a.target ++ [120] } e s = false by unfold valid; rw [NE, Bool.and_false]] at KE
  replace KE := Lib.hid KE
  have KH := fun (w : World) (b0 : Nat) (c0 : List Value) (hb : Below W.heap.size W w) (h0 : Av w b0 c0 { a with wraps := ⟨1, 1, bx0⟩ :: a.wraps } e s) => P.rightC hb h0 szF
  rw [show valid { a with wraps := ⟨1, 1, bx0⟩ :: a.wraps } e s = false by unfold valid; rw [NF, Bool.and_false]] at KH
  replace KH := Lib.hid KH
  have KB := fun (w : World) (b0 : Nat) (c0 : List Value) (hb : Below W.heap.size W w) (h0 : Av w b0 c0 { a with epoch := a.epoch + 1 } e s) => P.rightC hb h0 ⟨h6.author, h6.prev, h6.object, h6.target, h6.group, h6.text, h6.nonce, h6.data, h6.tag, h6.to, h6.tos, h6.wraps, h6.boxes⟩
  rw [show valid { a with epoch := a.epoch + 1 } e s = false by unfold valid; rw [nb, Bool.and_false]] at KB
  replace KB := Lib.hid KB
  have hnQ := (V.out.wrAt h15).1
  have hnA := (V.out.toAt h9).1
  have HLQ := Lib.hid (show ([⟨1, 1, bx0⟩] : List Wr).length + a.wraps.length ≤ 100000 by have := hl.wraps.2; simp; omega)
  obtain rfl : nQ = nA := by omega
  have HMQ := Lib.hid hnQ
  clear P hsm hv0 h9 h15 hz h hv hpa hpt h6 hl ND NE NF szD szE szF hnQ hnA q8 q19 nb
  have q9a : (a.scope != 0) = false := by rw [bne, q9]; rfl
  have q9b : decide (a.scope = 0) = true := by rw [← q9]; rfl
  go_enter Tryz.func7, Tryz.ntmps7
  go_wp2_with (first | fail)
  replace T := Lib.hid (T.out.alloc (.cells cs.toArray 29))
  replace V := Lib.hid (V.out.alloc (.cells cs.toArray 29))
  have B1 := Lib.hid (show Lk.Bl (W.alloc (.cells cs.toArray 29)) W.heap.size cs 29 from by have h := Lk.Bl.new W cs 29; simpa using h)
  generalize W.alloc (.cells cs.toArray 29) = w1 at *
  refine (KS.out _ T.out.bel).mono ?_
  rintro e w2 ⟨rfl, hb⟩
  replace T := Lib.hid (T.out.step hb)
  replace B1 := Lib.hid (B1.out.step hb)
  replace V := Lib.hid (V.out.step hb)
  clear hb
  go_wp2_with (first | ((with_reducible refine Lk.ld (d := 14) W.heap.size B1.out V.out.len ?_ ?_ ?_); exact rfl; exact rfl) | fail)
  refine (KFa.out _ _ _ T.out.bel V.out).mono ?_
  rintro e w3 ⟨rfl, hb⟩
  replace T := Lib.hid (T.out.step hb)
  replace B1 := Lib.hid (B1.out.step hb)
  replace V := Lib.hid (V.out.step hb)
  clear hb
  go_wp2_with (first | ((with_reducible refine Lk.ld (d := 18) W.heap.size B1.out V.out.len ?_ ?_ ?_); exact rfl; exact rfl) | fail)
  refine (KRa.out _ _ _ T.out.bel V.out).mono ?_
  rintro e w4 ⟨rfl, hb⟩
  replace T := Lib.hid (T.out.step hb)
  replace B1 := Lib.hid (B1.out.step hb)
  replace V := Lib.hid (V.out.step hb)
  clear hb
  have cB1_0 := B1.out.c 0 _ V.out.author
  go_wp2_with (first | fail)
  clear cB1_0
  refine (KI.out _ T.out.bel).mono ?_
  rintro e w5 ⟨rfl, hb⟩
  replace T := Lib.hid (T.out.step hb)
  replace B1 := Lib.hid (B1.out.step hb)
  replace V := Lib.hid (V.out.step hb)
  clear hb
  have cB1_9 := B1.out.c 9 _ H9.out
  go_wp2_with (first | fail)
  clear cB1_9
  refine (KT.out _ _ T.out.bel V.out).mono ?_
  rintro e w6 ⟨rfl, hb⟩
  replace T := Lib.hid (T.out.step hb)
  replace B1 := Lib.hid (B1.out.step hb)
  replace V := Lib.hid (V.out.step hb)
  clear hb
  have cB1_1 := B1.out.c 1 _ V.out.seq
  have cB1_3 := B1.out.c 3 _ V.out.kind
  have cB1_2 := B1.out.c 2 _ V.out.prev
  go_wp2_with (first | fail)
  clear cB1_1 cB1_3 cB1_2
  refine (KP.out _ T.out.bel).mono ?_
  rintro e w7 ⟨rfl, hb⟩
  replace T := Lib.hid (T.out.step hb)
  replace B1 := Lib.hid (B1.out.step hb)
  replace V := Lib.hid (V.out.step hb)
  clear hb
  have cB1_3 := B1.out.c 3 _ V.out.kind
  have cB1_15 := B1.out.c 15 _ H15.out
  have cB1_9 := B1.out.c 9 _ H9.out
  go_wp2_with (first | ((with_reducible refine Lk.nw cs V.out.len V.out.one ?_ ?_ ?_ ?_); exact rfl; exact rfl; exact rfl) | ((with_reducible refine Lk.ld (d := 143) W.heap.size B1.out V.out.len ?_ ?_ ?_); exact rfl; exact rfl) | fail)
  clear cB1_3 cB1_15 cB1_9
  intro w8 bN hb
  have LB1_B2 := Lib.hid (show W.heap.size < w7.heap.size from B1.out.lt)
  have GV_B2 := Lib.hid (show W.heap.size ≤ w7.heap.size from V.out.le)
  have GB2 := Lib.hid (show W.heap.size ≤ w7.heap.size from T.out.bel.size)
  replace T := Lib.hid (T.out.step hb)
  replace B1 := Lib.hid (B1.out.step hb)
  replace V := Lib.hid (V.out.step hb)
  have B2 := Lib.hid (show Lk.Bl w8 w7.heap.size cs 29 from bN)
  clear bN hb
  have cB1_14 := B1.out.c 14 _ V.out.epoch
  go_wp2_with (first | ((with_reducible refine Lk.st w7.heap.size 14 [.int .i64 (a.epoch + 1)] (.int .i64 (a.epoch + 1)) B2.out ?_ ?_ ?_ ?_ ?_ ?_ ?_); exact Lk.infoI; exact rfl; (rw [V.out.len]; exact Nat.le_of_ble_eq_true rfl); (simp [Value.oneCell']); exact rfl; exact rfl) | fail)
  clear cB1_14
  intro w9 bN hb
  replace B1 := Lib.hid (B1.out.under hb LB1_B2.out)
  replace T := Lib.hid (T.out.under hb GB2.out)
  replace V := Lib.hid (V.out.under hb GV_B2.out)
  obtain ⟨cs9, hcs9⟩ : ∃ x : List Value, x = cs.take 14 ++ [.int .i64 (a.epoch + 1)] ++ cs.drop (14 + ([.int .i64 (a.epoch + 1)] : List Value).length) := ⟨_, rfl⟩
  have V9 := Lib.hid (show Av w9 W.heap.size cs9 { a with epoch := a.epoch + 1 } e s from by rw [hcs9]; exact V.out.put 14 [.int .i64 (a.epoch + 1)] rfl rfl (fun _ _ _ _ _ _ => rfl))
  replace B2 := Lib.hid (show Lk.Bl w9 w7.heap.size cs9 29 from by rw [hcs9]; exact bN)
  clear bN hb hcs9
  have GV9_B2 := GV_B2
  go_wp2_with (first | ((with_reducible refine Lk.nw cs V.out.len V.out.one ?_ ?_ ?_ ?_); exact rfl; exact rfl; exact rfl) | ((with_reducible refine Lk.ld (d := 148) W.heap.size B1.out V.out.len ?_ ?_ ?_); exact rfl; exact rfl) | fail)
  intro w10 bN hb
  have LB1_B3 := Lib.hid (show W.heap.size < w9.heap.size from B1.out.lt)
  have LB2_B3 := Lib.hid (show w7.heap.size < w9.heap.size from B2.out.lt)
  have GV_B3 := Lib.hid (show W.heap.size ≤ w9.heap.size from V.out.le)
  have GV9_B3 := Lib.hid (show W.heap.size ≤ w9.heap.size from V9.out.le)
  have GB3 := Lib.hid (show W.heap.size ≤ w9.heap.size from T.out.bel.size)
  replace T := Lib.hid (T.out.step hb)
  replace B1 := Lib.hid (B1.out.step hb)
  replace B2 := Lib.hid (B2.out.step hb)
  replace V := Lib.hid (V.out.step hb)
  replace V9 := Lib.hid (V9.out.step hb)
  have B3 := Lib.hid (show Lk.Bl w10 w9.heap.size cs 29 from bN)
  clear bN hb
  have cB1_17 := B1.out.c 17 _ V.out.m
  go_wp2_with (first | ((with_reducible refine Lk.st w9.heap.size 17 [.int .i64 (a.m - 1)] (.int .i64 (a.m - 1)) B3.out ?_ ?_ ?_ ?_ ?_ ?_ ?_); exact Lk.infoI; exact rfl; (rw [V.out.len]; exact Nat.le_of_ble_eq_true rfl); (simp [Value.oneCell']); exact rfl; exact rfl) | fail)
  clear cB1_17
  intro w11 bN hb
  replace B1 := Lib.hid (B1.out.under hb LB1_B3.out)
  replace B2 := Lib.hid (B2.out.under hb LB2_B3.out)
  replace T := Lib.hid (T.out.under hb GB3.out)
  replace V := Lib.hid (V.out.under hb GV_B3.out)
  replace V9 := Lib.hid (V9.out.under hb GV9_B3.out)
  obtain ⟨cs11, hcs11⟩ : ∃ x : List Value, x = cs.take 17 ++ [.int .i64 (a.m - 1)] ++ cs.drop (17 + ([.int .i64 (a.m - 1)] : List Value).length) := ⟨_, rfl⟩
  have V11 := Lib.hid (show Av w11 W.heap.size cs11 { a with m := a.m - 1 } e s from by rw [hcs11]; exact V.out.put 17 [.int .i64 (a.m - 1)] rfl rfl (fun _ _ _ _ _ _ => rfl))
  replace B3 := Lib.hid (show Lk.Bl w11 w9.heap.size cs11 29 from by rw [hcs11]; exact bN)
  clear bN hb hcs11
  have GV11_B2 := GV_B2
  have GV11_B3 := GV_B3
  go_wp2_with (first | ((with_reducible refine Lk.nw cs V.out.len V.out.one ?_ ?_ ?_ ?_); exact rfl; exact rfl; exact rfl) | ((with_reducible refine Lk.ld (d := 153) W.heap.size B1.out V.out.len ?_ ?_ ?_); exact rfl; exact rfl) | fail)
  intro w12 bN hb
  have LB1_B4 := Lib.hid (show W.heap.size < w11.heap.size from B1.out.lt)
  have LB2_B4 := Lib.hid (show w7.heap.size < w11.heap.size from B2.out.lt)
  have LB3_B4 := Lib.hid (show w9.heap.size < w11.heap.size from B3.out.lt)
  have GV_B4 := Lib.hid (show W.heap.size ≤ w11.heap.size from V.out.le)
  have GV9_B4 := Lib.hid (show W.heap.size ≤ w11.heap.size from V9.out.le)
  have GV11_B4 := Lib.hid (show W.heap.size ≤ w11.heap.size from V11.out.le)
  have GB4 := Lib.hid (show W.heap.size ≤ w11.heap.size from T.out.bel.size)
  replace T := Lib.hid (T.out.step hb)
  replace B1 := Lib.hid (B1.out.step hb)
  replace B2 := Lib.hid (B2.out.step hb)
  replace B3 := Lib.hid (B3.out.step hb)
  replace V := Lib.hid (V.out.step hb)
  replace V9 := Lib.hid (V9.out.step hb)
  replace V11 := Lib.hid (V11.out.step hb)
  have B4 := Lib.hid (show Lk.Bl w12 w11.heap.size cs 29 from bN)
  clear bN hb
  have cB1_5 := B1.out.c 5 _ V.out.object
  go_wp2_with (first | ((with_reducible refine Lk.st w11.heap.size 5 [.string (S2.B (a.object ++ [120]))] (.string (S2.B (a.object ++ [120]))) B4.out ?_ ?_ ?_ ?_ ?_ ?_ ?_); exact Lk.infoS; exact rfl; (rw [V.out.len]; exact Nat.le_of_ble_eq_true rfl); (simp [Value.oneCell']); exact rfl; exact rfl) | fail)
  clear cB1_5
  intro w13 bN hb
  replace B1 := Lib.hid (B1.out.under hb LB1_B4.out)
  replace B2 := Lib.hid (B2.out.under hb LB2_B4.out)
  replace B3 := Lib.hid (B3.out.under hb LB3_B4.out)
  replace T := Lib.hid (T.out.under hb GB4.out)
  replace V := Lib.hid (V.out.under hb GV_B4.out)
  replace V9 := Lib.hid (V9.out.under hb GV9_B4.out)
  replace V11 := Lib.hid (V11.out.under hb GV11_B4.out)
  obtain ⟨cs13, hcs13⟩ : ∃ x : List Value, x = cs.take 5 ++ [.string (S2.B (a.object ++ [120]))] ++ cs.drop (5 + ([.string (S2.B (a.object ++ [120]))] : List Value).length) := ⟨_, rfl⟩
  have V13 := Lib.hid (show Av w13 W.heap.size cs13 { a with object := a.object ++ [120] } e s from by rw [hcs13]; exact V.out.put 5 [.string (S2.B (a.object ++ [120]))] rfl rfl (fun _ _ _ _ _ _ => rfl))
  replace B4 := Lib.hid (show Lk.Bl w13 w11.heap.size cs13 29 from by rw [hcs13]; exact bN)
  clear bN hb hcs13
  have GV13_B2 := GV_B2
  have GV13_B3 := GV_B3
  have GV13_B4 := GV_B4
  go_wp2_with (first | ((with_reducible refine Lk.nw cs V.out.len V.out.one ?_ ?_ ?_ ?_); exact rfl; exact rfl; exact rfl) | ((with_reducible refine Lk.ld (d := 158) W.heap.size B1.out V.out.len ?_ ?_ ?_); exact rfl; exact rfl) | fail)
  intro w14 bN hb
  have LB1_B5 := Lib.hid (show W.heap.size < w13.heap.size from B1.out.lt)
  have LB2_B5 := Lib.hid (show w7.heap.size < w13.heap.size from B2.out.lt)
  have LB3_B5 := Lib.hid (show w9.heap.size < w13.heap.size from B3.out.lt)
  have LB4_B5 := Lib.hid (show w11.heap.size < w13.heap.size from B4.out.lt)
  have GV_B5 := Lib.hid (show W.heap.size ≤ w13.heap.size from V.out.le)
  have GV9_B5 := Lib.hid (show W.heap.size ≤ w13.heap.size from V9.out.le)
  have GV11_B5 := Lib.hid (show W.heap.size ≤ w13.heap.size from V11.out.le)
  have GV13_B5 := Lib.hid (show W.heap.size ≤ w13.heap.size from V13.out.le)
  have GB5 := Lib.hid (show W.heap.size ≤ w13.heap.size from T.out.bel.size)
  replace T := Lib.hid (T.out.step hb)
  replace B1 := Lib.hid (B1.out.step hb)
  replace B2 := Lib.hid (B2.out.step hb)
  replace B3 := Lib.hid (B3.out.step hb)
  replace B4 := Lib.hid (B4.out.step hb)
  replace V := Lib.hid (V.out.step hb)
  replace V9 := Lib.hid (V9.out.step hb)
  replace V11 := Lib.hid (V11.out.step hb)
  replace V13 := Lib.hid (V13.out.step hb)
  have B5 := Lib.hid (show Lk.Bl w14 w13.heap.size cs 29 from bN)
  clear bN hb
  have cB1_6 := B1.out.c 6 _ V.out.target
  go_wp2_with (first | ((with_reducible refine Lk.st w13.heap.size 6 [.string (S2.B (a.target ++ [120]))] (.string (S2.B (a.target ++ [120]))) B5.out ?_ ?_ ?_ ?_ ?_ ?_ ?_); exact Lk.infoS; exact rfl; (rw [V.out.len]; exact Nat.le_of_ble_eq_true rfl); (simp [Value.oneCell']); exact rfl; exact rfl) | fail)
  clear cB1_6
  intro w15 bN hb
  replace B1 := Lib.hid (B1.out.under hb LB1_B5.out)
  replace B2 := Lib.hid (B2.out.under hb LB2_B5.out)
  replace B3 := Lib.hid (B3.out.under hb LB3_B5.out)
  replace B4 := Lib.hid (B4.out.under hb LB4_B5.out)
  replace T := Lib.hid (T.out.under hb GB5.out)
  replace V := Lib.hid (V.out.under hb GV_B5.out)
  replace V9 := Lib.hid (V9.out.under hb GV9_B5.out)
  replace V11 := Lib.hid (V11.out.under hb GV11_B5.out)
  replace V13 := Lib.hid (V13.out.under hb GV13_B5.out)
  obtain ⟨cs15, hcs15⟩ : ∃ x : List Value, x = cs.take 6 ++ [.string (S2.B (a.target ++ [120]))] ++ cs.drop (6 + ([.string (S2.B (a.target ++ [120]))] : List Value).length) := ⟨_, rfl⟩
  have V15 := Lib.hid (show Av w15 W.heap.size cs15 { a with target := a.target ++ [120] } e s from by rw [hcs15]; exact V.out.put 6 [.string (S2.B (a.target ++ [120]))] rfl rfl (fun _ _ _ _ _ _ => rfl))
  replace B5 := Lib.hid (show Lk.Bl w15 w13.heap.size cs15 29 from by rw [hcs15]; exact bN)
  clear bN hb hcs15
  have GV15_B2 := GV_B2
  have GV15_B3 := GV_B3
  have GV15_B4 := GV_B4
  have GV15_B5 := GV_B5
  go_wp2_with (first | ((with_reducible refine Lk.nw cs V.out.len V.out.one ?_ ?_ ?_ ?_); exact rfl; exact rfl; exact rfl) | ((with_reducible refine Lk.ld (d := 163) W.heap.size B1.out V.out.len ?_ ?_ ?_); exact rfl; exact rfl) | fail)
  intro w16 bN hb
  have LB1_B6 := Lib.hid (show W.heap.size < w15.heap.size from B1.out.lt)
  have LB2_B6 := Lib.hid (show w7.heap.size < w15.heap.size from B2.out.lt)
  have LB3_B6 := Lib.hid (show w9.heap.size < w15.heap.size from B3.out.lt)
  have LB4_B6 := Lib.hid (show w11.heap.size < w15.heap.size from B4.out.lt)
  have LB5_B6 := Lib.hid (show w13.heap.size < w15.heap.size from B5.out.lt)
  have GV_B6 := Lib.hid (show W.heap.size ≤ w15.heap.size from V.out.le)
  have GV9_B6 := Lib.hid (show W.heap.size ≤ w15.heap.size from V9.out.le)
  have GV11_B6 := Lib.hid (show W.heap.size ≤ w15.heap.size from V11.out.le)
  have GV13_B6 := Lib.hid (show W.heap.size ≤ w15.heap.size from V13.out.le)
  have GV15_B6 := Lib.hid (show W.heap.size ≤ w15.heap.size from V15.out.le)
  have GB6 := Lib.hid (show W.heap.size ≤ w15.heap.size from T.out.bel.size)
  replace T := Lib.hid (T.out.step hb)
  replace B1 := Lib.hid (B1.out.step hb)
  replace B2 := Lib.hid (B2.out.step hb)
  replace B3 := Lib.hid (B3.out.step hb)
  replace B4 := Lib.hid (B4.out.step hb)
  replace B5 := Lib.hid (B5.out.step hb)
  replace V := Lib.hid (V.out.step hb)
  replace V9 := Lib.hid (V9.out.step hb)
  replace V11 := Lib.hid (V11.out.step hb)
  replace V13 := Lib.hid (V13.out.step hb)
  replace V15 := Lib.hid (V15.out.step hb)
  have B6 := Lib.hid (show Lk.Bl w16 w15.heap.size cs 29 from bN)
  clear bN hb
  have T0 := Lib.hid (show W.heap.size ≤ w16.heap.size from T.out.bel.size)
  have OW := Lib.hid (show OwnW (w16.alloc (.cells #[.int .i64 1, .int .i64 1, .string (S2.B []), .string (S2.B []), .string (S2.B [])] 50)) w16.heap.size (.slice (some ⟨w16.heap.size, 0, none⟩) 1 1) [⟨1, 1, bx0⟩] from OwnW.lit w16 [⟨1, 1, bx0⟩] (by decide))
  have SR := Lib.hid (show S2.Row (w16.alloc (.cells #[.int .i64 1, .int .i64 1, .string (S2.B []), .string (S2.B []), .string (S2.B [])] 50)) (w16.alloc (.cells #[.int .i64 1, .int .i64 1, .string (S2.B []), .string (S2.B []), .string (S2.B [])] 50)).heap.size Q (Ws a.wraps) from ((V.out.alloc (.cells #[.int .i64 1, .int .i64 1, .string (S2.B []), .string (S2.B []), .string (S2.B [])] 50)).wrAt H15.out).2.2.more (V.out.alloc (.cells #[.int .i64 1, .int .i64 1, .string (S2.B []), .string (S2.B []), .string (S2.B [])] 50)).le)
  have cB1_15 := (B1.out.alloc (.cells #[.int .i64 1, .int .i64 1, .string (S2.B []), .string (S2.B []), .string (S2.B [])] 50)).c 15 _ H15.out
  go_wp2_with (first | (at_builtin; refine wpList_appW rfl _ _ rfl OW.out SR.out rfl rfl HMQ.out HLQ.out ?_) | fail)
  clear cB1_15
  intro v1 w17 own1 hb1
  have hb : Below w16.heap.size w16 w17 := ((Below.refl _ _).alloc (Nat.le_refl _) (.cells #[.int .i64 1, .int .i64 1, .string (S2.B []), .string (S2.B []), .string (S2.B [])] 50)).trans hb1
  have LBQ := Lib.hid (show w15.heap.size < w16.heap.size from B6.out.lt)
  replace T := Lib.hid (T.out.step hb)
  replace B1 := Lib.hid (B1.out.step hb)
  replace B2 := Lib.hid (B2.out.step hb)
  replace B3 := Lib.hid (B3.out.step hb)
  replace B4 := Lib.hid (B4.out.step hb)
  replace B5 := Lib.hid (B5.out.step hb)
  replace B6 := Lib.hid (B6.out.step hb)
  replace V := Lib.hid (V.out.step hb)
  replace V9 := Lib.hid (V9.out.step hb)
  replace V11 := Lib.hid (V11.out.step hb)
  replace V13 := Lib.hid (V13.out.step hb)
  replace V15 := Lib.hid (V15.out.step hb)
  clear OW SR hb1 hb
  obtain ⟨AQ, nq, cq, rfl, hnq, hcq⟩ := own1.sl3
  have OQ := Lib.hid own1
  have HNQ := Lib.hid hnq
  have HCQ := Lib.hid hcq
  clear own1 hnq hcq
  go_wp2_with (first | ((with_reducible refine Lk.stX w15.heap.size 15 [.slice AQ nq cq] (.slice AQ nq cq) B6.out ?_ ?_ ?_ ?_ ?_ ?_ ?_); exact (show (Tryz.prog.info? 25).map (·.size) = some 1 by kernel_rfl); exact rfl; (rw [V.out.len]; exact Nat.le_of_ble_eq_true rfl); (simp [Value.oneCell']); exact rfl; exact rfl) | fail)
  intro w18 bN hb ho
  replace B1 := Lib.hid (B1.out.under hb LB1_B6.out)
  replace B2 := Lib.hid (B2.out.under hb LB2_B6.out)
  replace B3 := Lib.hid (B3.out.under hb LB3_B6.out)
  replace B4 := Lib.hid (B4.out.under hb LB4_B6.out)
  replace B5 := Lib.hid (B5.out.under hb LB5_B6.out)
  replace T := Lib.hid (T.out.under hb GB6.out)
  have RQ := row_only OQ.out.row ho OQ.out.addr LBQ.out
  have hbd : w17.heap.size ≤ w18.heap.size := hb.size
  replace V := Lib.hid (V.out.under hb GV_B6.out)
  replace V9 := Lib.hid (V9.out.under hb GV9_B6.out)
  replace V11 := Lib.hid (V11.out.under hb GV11_B6.out)
  replace V13 := Lib.hid (V13.out.under hb GV13_B6.out)
  replace V15 := Lib.hid (V15.out.under hb GV15_B6.out)
  have VF := Lib.hid (show Av w18 w17.heap.size (cs.take 15 ++ [.slice AQ nq cq] ++ cs.drop (15 + ([.slice AQ nq cq] : List Value).length)) { a with wraps := ⟨1, 1, bx0⟩ :: a.wraps } e s from V.out.putW RQ HNQ.out HCQ.out (Nat.le_trans T0.out OQ.out.le) hbd)
  obtain ⟨csF, hcsF⟩ : ∃ x : List Value, x = cs.take 15 ++ [.slice AQ nq cq] ++ cs.drop (15 + ([.slice AQ nq cq] : List Value).length) := ⟨_, rfl⟩
  rw [← hcsF] at VF bN
  replace B6 := Lib.hid bN
  clear bN hb ho hcsF RQ hbd OQ HNQ HCQ LBQ
  have cB1_3 := B1.out.c 3 _ V.out.kind
  have cB1_7 := B1.out.c 7 _ V.out.scope
  go_wp2_with (first | ((with_reducible refine Lk.ld (d := 198) w7.heap.size B2.out V9.out.len ?_ ?_ ?_); exact rfl; exact rfl) | fail)
  clear cB1_3 cB1_7
  refine (KB.out _ _ _ T.out.bel V9.out).mono ?_
  rintro e w19 ⟨rfl, hb⟩
  replace T := Lib.hid (T.out.step hb)
  replace B1 := Lib.hid (B1.out.step hb)
  replace B2 := Lib.hid (B2.out.step hb)
  replace B3 := Lib.hid (B3.out.step hb)
  replace B4 := Lib.hid (B4.out.step hb)
  replace B5 := Lib.hid (B5.out.step hb)
  replace B6 := Lib.hid (B6.out.step hb)
  replace V := Lib.hid (V.out.step hb)
  replace V9 := Lib.hid (V9.out.step hb)
  replace V11 := Lib.hid (V11.out.step hb)
  replace V13 := Lib.hid (V13.out.step hb)
  replace V15 := Lib.hid (V15.out.step hb)
  replace VF := Lib.hid (VF.out.step hb)
  clear hb
  go_wp2_with (first | ((with_reducible refine Lk.ld (d := 212) w11.heap.size B4.out V13.out.len ?_ ?_ ?_); exact rfl; exact rfl) | fail)
  refine (KD.out _ _ _ T.out.bel V13.out).mono ?_
  rintro e w20 ⟨rfl, hb⟩
  replace T := Lib.hid (T.out.step hb)
  replace B1 := Lib.hid (B1.out.step hb)
  replace B2 := Lib.hid (B2.out.step hb)
  replace B3 := Lib.hid (B3.out.step hb)
  replace B4 := Lib.hid (B4.out.step hb)
  replace B5 := Lib.hid (B5.out.step hb)
  replace B6 := Lib.hid (B6.out.step hb)
  replace V := Lib.hid (V.out.step hb)
  replace V9 := Lib.hid (V9.out.step hb)
  replace V11 := Lib.hid (V11.out.step hb)
  replace V13 := Lib.hid (V13.out.step hb)
  replace V15 := Lib.hid (V15.out.step hb)
  replace VF := Lib.hid (VF.out.step hb)
  clear hb
  go_wp2_with (first | ((with_reducible refine Lk.ld (d := 217) w13.heap.size B5.out V15.out.len ?_ ?_ ?_); exact rfl; exact rfl) | fail)
  refine (KE.out _ _ _ T.out.bel V15.out).mono ?_
  rintro e w21 ⟨rfl, hb⟩
  replace T := Lib.hid (T.out.step hb)
  replace B1 := Lib.hid (B1.out.step hb)
  replace B2 := Lib.hid (B2.out.step hb)
  replace B3 := Lib.hid (B3.out.step hb)
  replace B4 := Lib.hid (B4.out.step hb)
  replace B5 := Lib.hid (B5.out.step hb)
  replace B6 := Lib.hid (B6.out.step hb)
  replace V := Lib.hid (V.out.step hb)
  replace V9 := Lib.hid (V9.out.step hb)
  replace V11 := Lib.hid (V11.out.step hb)
  replace V13 := Lib.hid (V13.out.step hb)
  replace V15 := Lib.hid (V15.out.step hb)
  replace VF := Lib.hid (VF.out.step hb)
  clear hb
  go_wp2_with (first | ((with_reducible refine Lk.ld (d := 222) w15.heap.size B6.out VF.out.len ?_ ?_ ?_); exact rfl; exact rfl) | fail)
  refine (KH.out _ _ _ T.out.bel VF.out).mono ?_
  rintro e w22 ⟨rfl, hb⟩
  replace T := Lib.hid (T.out.step hb)
  replace B1 := Lib.hid (B1.out.step hb)
  replace B2 := Lib.hid (B2.out.step hb)
  replace B3 := Lib.hid (B3.out.step hb)
  replace B4 := Lib.hid (B4.out.step hb)
  replace B5 := Lib.hid (B5.out.step hb)
  replace B6 := Lib.hid (B6.out.step hb)
  replace V := Lib.hid (V.out.step hb)
  replace V9 := Lib.hid (V9.out.step hb)
  replace V11 := Lib.hid (V11.out.step hb)
  replace V13 := Lib.hid (V13.out.step hb)
  replace V15 := Lib.hid (V15.out.step hb)
  replace VF := Lib.hid (VF.out.step hb)
  clear hb
  go_wp2
  go_ret
  exact ⟨rfl, T.out.bel⟩
theorem bq_t {x y : Int} (h : x = y) : (x == y) = true := by simp [h]
theorem bq_f {x y : Int} (h : x ≠ y) : (x == y) = false := by simp [h]
theorem le_t {l : Str} (h : l = []) : (l == []) = true := by rw [h]; rfl
theorem le_f {l : Str} (h : l ≠ []) : (l == []) = false := beq_eq_false_iff_ne.2 h
theorem post_t {k : Int} (h : 1 ≤ k ∧ k ≤ 3) : posting k = true := by simp only [posting, Bool.and_eq_true, decide_eq_true_eq]; exact h
theorem post_f {k : Int} (h : ¬ (1 ≤ k ∧ k ≤ 3)) : posting k = false := by
  cases hp : posting k with
  | false => rfl
  | true => exact absurd (posting_of hp) h
theorem fit_scope {a : Ac} (h : Fits a) : (a.kind = 16 → a.scope ≠ 0) ∧ (¬ (a.kind = 1 ∨ a.kind = 2 ∨ a.kind = 3 ∨ a.kind = 14 ∨ a.kind = 16) → a.scope = 0) := by
  cases h with
  | post k => exact ⟨fun h => by omega, fun h => absurd (.inl k) h⟩
  | reply k => exact ⟨fun h => by omega, fun h => absurd (.inr (by omega)) h⟩
  | grant k _ h1 => exact ⟨fun _ => by omega, fun h => absurd (.inr (.inr (.inr (.inr k)))) h⟩
  | begin_ k h1 h2 z => exact ⟨fun h => by omega, fun _ => z.scope⟩
  | move k h2 z => exact ⟨fun h => by omega, fun _ => z.scope⟩
  | like k h2 z => exact ⟨fun h => by omega, fun _ => z.scope⟩
  | follow k h2 z => exact ⟨fun h => by omega, fun _ => z.scope⟩
  | report k h2 h3 z => exact ⟨fun h => by omega, fun _ => z.scope⟩
  | circle k h h2 z => exact ⟨fun h => by omega, fun _ => z.scope⟩
  | label k h z => exact ⟨fun h => by omega, fun _ => z.scope⟩
  | setup k h h1 h2 h3 h4 h5 z => exact ⟨fun h => by omega, fun _ => z.scope⟩
  | judge k h2 h3 h4 z => exact ⟨fun h => by omega, fun _ => z.scope⟩
  | list k h2 h3 h4 h5 z => exact ⟨fun h => by omega, fun _ => z.scope⟩
theorem fields_walk {keyOk : Int → Int → Bool} {sgn : Int → Int → Str → Int × Int} {ver : Int → Str → Int → Int → Bool} {W : World} (P : Pk keyOk sgn ver W) (hsm : Ok W 9 #[] (.bool true))
    (a : Ac) (e s : Int) (A : Option Addr) (nA cA : Nat) (Q : Option Addr) (nQ cQ : Nat) (hp : Ap W W.heap.size a A nA cA Q nQ cQ) (hz : Sz 281474976710656 140737488355328 a) :
    Calls Tryz.prog 7 #[vA a e s A nA cA Q nQ cQ] W fun x w' => x = .returned (.bool true) ∧ Below W.heap.size W w' := by
  have hv0 : Av W W.heap.size (cellsA a e s A nA cA Q nQ cQ) a e s := Av.arg hp
  rw [vA_eq]
  cases h : fewB a with
  | false => exact fields_e1 P hsm a e s _ A nA cA Q nQ cQ hv0 rfl rfl hz h
  | true =>
    cases hv : valid a e s with
    | false => exact fields_e2 P hsm a e s _ A nA cA Q nQ cQ hv0 rfl rfl hz h hv
    | true =>
      have H := head_of (valid_good hv)
      have S := fit_scope H.fits
      have hkb := (lim_of (valid_good hv)).kind
      by_cases hk : a.kind = 0
      · have hs : a.seq = 0 := H.begin_.2 hk
        have hsc := S.2 (by omega)
        exact fields_A P hsm a e s _ A nA cA Q nQ cQ hv0 rfl rfl hz h hv H.author (lim_of (valid_good hv)).to (bq_t hs) (bq_t hk) (le_t (H.prev0.1 hs)) (by omega) (by omega) (post_f (by omega)) (bq_t hsc) (bq_f (by omega)) (bq_f (by omega)) ((fit_wraps H.fits).2 (by omega)) (more_epoch (valid_good hv) (by omega) hsc)
      have hs : a.seq ≠ 0 := fun h => hk (H.begin_.1 h)
      by_cases k1 : a.kind ≤ 3
      · by_cases hsc : a.scope = 0
        · exact fields_B P hsm a e s _ A nA cA Q nQ cQ hv0 rfl rfl hz h hv H.author (lim_of (valid_good hv)).to (bq_f hs) (bq_f hk) (le_f fun h => hs (H.prev0.2 h)) (by have := H.seq; omega) (by have := H.prev hs; omega) (by omega) (post_t (by omega)) (bq_t hsc) (bq_f (by omega)) (bq_f (by omega)) (bq_f (by omega)) ((fit_wraps H.fits).2 (by omega)) (more_epoch (valid_good hv) (by omega) hsc) (less_m (valid_good hv) (by omega))
        · exact fields_C P hsm a e s _ A nA cA Q nQ cQ hv0 rfl rfl hz h hv H.author (lim_of (valid_good hv)).to (bq_f hs) (bq_f hk) (le_f fun h => hs (H.prev0.2 h)) (by have := H.seq; omega) (by have := H.prev hs; omega) (by omega) (post_t (by omega)) (bq_f hsc) (le_t (fit_sealed H.fits (post_t (by omega)) hsc).1) (by have := (fit_sealed H.fits (post_t (by omega)) hsc).2; omega) (bq_f (by omega)) (bq_f (by omega)) (bq_f (by omega)) ((fit_wraps H.fits).2 (by omega)) (less_m (valid_good hv) (by omega))
      by_cases k2 : a.kind ≤ 6
      · have hsc := S.2 (by omega)
        exact fields_D P hsm a e s _ A nA cA Q nQ cQ hv0 rfl rfl hz h hv H.author (lim_of (valid_good hv)).to (bq_f hs) (bq_f hk) (le_f fun h => hs (H.prev0.2 h)) (by have := H.seq; omega) (by have := H.prev hs; omega) (by omega) (post_f (by omega)) (bq_t hsc) (bq_f (by omega)) (bq_f (by omega)) (bq_f (by omega)) ((fit_wraps H.fits).2 (by omega)) (more_epoch (valid_good hv) (by omega) hsc) (less_m (valid_good hv) (by omega))
      by_cases k3 : a.kind ≤ 11
      · have hsc := S.2 (by omega)
        exact fields_E P hsm a e s _ A nA cA Q nQ cQ hv0 rfl rfl hz h hv H.author (lim_of (valid_good hv)).to (bq_f hs) (bq_f hk) (le_f fun h => hs (H.prev0.2 h)) (by have := H.seq; omega) (by have := H.prev hs; omega) (by omega) (by omega) (post_f (by omega)) (bq_t hsc) ((fit_follow H.fits (by omega)).1) (le_t (fit_follow H.fits (by omega)).2.1) (le_t (fit_follow H.fits (by omega)).2.2.1) ((fit_follow H.fits (by omega)).2.2.2) (bq_f (by omega)) (bq_f (by omega)) (bq_f (by omega)) ((fit_wraps H.fits).2 (by omega)) (more_epoch (valid_good hv) (by omega) hsc) (less_m (valid_good hv) (by omega))
      by_cases k4 : a.kind = 16
      · have hsc := S.1 k4
        exact fields_H P hsm a e s _ A nA cA Q nQ cQ hv0 rfl rfl hz h hv H.author (lim_of (valid_good hv)).to (bq_f hs) (bq_f hk) (le_f fun h => hs (H.prev0.2 h)) (by have := H.seq; omega) (by have := H.prev hs; omega) (by omega) (by omega) (post_f (by omega)) (bq_f hsc) (bq_t (by omega)) (bq_f (by omega)) (bq_f (by omega)) ((fit_wraps H.fits).1.2 (by omega)) (less_m (valid_good hv) (by omega))
      by_cases k5 : a.kind = 18
      · have hsc := S.2 (by omega)
        exact fields_I P hsm a e s _ A nA cA Q nQ cQ hv0 rfl rfl hz h hv H.author (lim_of (valid_good hv)).to (bq_f hs) (bq_f hk) (le_f fun h => hs (H.prev0.2 h)) (by have := H.seq; omega) (by have := H.prev hs; omega) (by omega) (by omega) (post_f (by omega)) (bq_t hsc) (bq_f (by omega)) (bq_f (by omega)) (bq_t (by omega)) ((fit_wraps H.fits).2 (by omega)) (more_epoch (valid_good hv) (by omega) hsc)
      by_cases k6 : a.kind = 19
      · have hsc := S.2 (by omega)
        exact fields_J P hsm a e s _ A nA cA Q nQ cQ hv0 rfl rfl hz h hv H.author (lim_of (valid_good hv)).to (bq_f hs) (bq_f hk) (le_f fun h => hs (H.prev0.2 h)) (by have := H.seq; omega) (by have := H.prev hs; omega) (by omega) (by omega) (post_f (by omega)) (bq_t hsc) (bq_f (by omega)) (bq_t (by omega)) (bq_f (by omega)) ((fit_wraps H.fits).1.2 (by omega)) (more_epoch (valid_good hv) (by omega) hsc)
      by_cases hsc : a.scope = 0
      · exact fields_F P hsm a e s _ A nA cA Q nQ cQ hv0 rfl rfl hz h hv H.author (lim_of (valid_good hv)).to (bq_f hs) (bq_f hk) (le_f fun h => hs (H.prev0.2 h)) (by have := H.seq; omega) (by have := H.prev hs; omega) (by omega) (by omega) (post_f (by omega)) (bq_t hsc) (bq_f (by omega)) (bq_f (by omega)) (bq_f (by omega)) ((fit_wraps H.fits).2 (by omega)) (more_epoch (valid_good hv) (by omega) hsc) (less_m (valid_good hv) (by omega))
      · have k7 : a.kind = 14 := by
          by_cases h14 : a.kind = 14
          · exact h14
          · exact absurd (S.2 (by omega)) hsc
        exact fields_G P hsm a e s _ A nA cA Q nQ cQ hv0 rfl rfl hz h hv H.author (lim_of (valid_good hv)).to (bq_f hs) (bq_f hk) (le_f fun h => hs (H.prev0.2 h)) (by have := H.seq; omega) (by have := H.prev hs; omega) (by omega) (by omega) (post_f (by omega)) (bq_f hsc) (bq_f (by omega)) (bq_f (by omega)) (bq_f (by omega)) ((fit_wraps H.fits).2 (by omega)) (less_m (valid_good hv) (by omega))
end Ax
end Go.Proofs.YtojbicpchjiplaaGreatDoor
