/-
  Layer 12: ActReads' walk, against the package's contracts.
-/
import Derived.Test.YtojbicpchjiplaaGreatDoorActPv
namespace Go.Proofs.YtojbicpchjiplaaGreatDoor
open Go.RowKit
namespace Ax
open S11.Idt (Str isId isName ids)
attribute [local go_sem] S2.B_size S2.B_list S2.B_app S2.B_take litE lit120
theorem read_ex (t : Str) : ∃ a e g ok, IsRead t a e g ok := by
  by_cases h : ∃ a e g, valid a e g = true ∧ bytesB a e g = t
  · obtain ⟨a, e, g, h1, h2⟩ := h
    exact ⟨a, e, g, true, .inl ⟨rfl, h1, h2⟩⟩
  · exact ⟨ac0, 0, 0, false, .inr ⟨rfl, rfl, rfl, rfl, fun b e' g' h1 h2 => h ⟨b, e', g', h1, h2⟩⟩⟩
set_option maxHeartbeats 4000000 in
set_option maxRecDepth 100000 in
theorem reads_few {keyOk : Int → Int → Bool} {sgn : Int → Int → Str → Int × Int} {ver : Int → Str → Int → Int → Bool} {W : World} (_P : Pk keyOk sgn ver W) (hsm : Ok W 9 #[] (.bool true))
    (a : Ac) (e s : Int) (cs : List Value) (t : Str) (hv0 : Av W W.heap.size cs a e s) (hz : Sz 281474976710656 140737488355328 a) (ht : t.length ≤ 281474976710656)
    (hf : fewB a = false) :
    Calls Tryz.prog 4 #[.agg cs.toArray, .string (S2.B t)] W fun x w' => x = .returned (.bool true) ∧ Below W.heap.size W w' := by
  have KS := Lib.hid hsm
  have V := Lib.hid hv0
  have T := Lib.hid (Lk.At.start W)
  have htI : (t.length : Int) ≤ 281474976710656 := by omega
  obtain ⟨zc, hzc⟩ : ∃ x, x = Lk.zc := ⟨_, rfl⟩
  have HZC := Lib.hid hzc
  have HZV := Lib.hid (show Av W 0 zc ac0 0 0 from hzc ▸ Av.zero W)
  clear hzc
  have KF := fun (w : World) (b0 : Nat) (c0 : List Value) (hb : Below W.heap.size W w) (h0 : Av w b0 c0 a e s) => fewC h0 hz
  rw [hf] at KF
  replace KF := Lib.hid KF
  clear hf
  clear hsm hv0 hz ht
  go_enter Tryz.func4, Tryz.ntmps4
  go_wp2_with (first | fail)
  replace T := Lib.hid (T.out.alloc (.cells cs.toArray 29))
  replace V := Lib.hid (V.out.alloc (.cells cs.toArray 29))
  replace HZV := Lib.hid (HZV.out.alloc (.cells cs.toArray 29))
  have B1 := Lib.hid (show Lk.Bl (W.alloc (.cells cs.toArray 29)) W.heap.size cs 29 from by have h := Lk.Bl.new W cs 29; simpa using h)
  generalize W.alloc (.cells cs.toArray 29) = w1 at *
  refine (KS.out _ T.out.bel).mono ?_
  rintro e w2 ⟨rfl, hb⟩
  replace T := Lib.hid (T.out.step hb)
  replace B1 := Lib.hid (B1.out.step hb)
  replace V := Lib.hid (V.out.step hb)
  replace HZV := Lib.hid (HZV.out.step hb)
  clear hb
  go_wp2_with (first | ((with_reducible refine Lk.ld (d := 16) W.heap.size B1.out V.out.len ?_ ?_ ?_); exact rfl; exact rfl) | fail)
  refine (KF.out _ _ _ T.out.bel V.out).mono ?_
  rintro e w3 ⟨rfl, hb⟩
  replace T := Lib.hid (T.out.step hb)
  replace B1 := Lib.hid (B1.out.step hb)
  replace V := Lib.hid (V.out.step hb)
  replace HZV := Lib.hid (HZV.out.step hb)
  clear hb
  go_wp2
  go_ret
  exact ⟨rfl, T.out.bel⟩
set_option maxHeartbeats 4000000 in
set_option maxRecDepth 100000 in
theorem reads_long {keyOk : Int → Int → Bool} {sgn : Int → Int → Str → Int × Int} {ver : Int → Str → Int → Int → Bool} {W : World} (_P : Pk keyOk sgn ver W) (hsm : Ok W 9 #[] (.bool true))
    (a : Ac) (e s : Int) (cs : List Value) (t : Str) (hv0 : Av W W.heap.size cs a e s) (hz : Sz 281474976710656 140737488355328 a) (ht : t.length ≤ 281474976710656)
    (hf : fewB a = true) (hl : 10000 < t.length) :
    Calls Tryz.prog 4 #[.agg cs.toArray, .string (S2.B t)] W fun x w' => x = .returned (.bool true) ∧ Below W.heap.size W w' := by
  have KS := Lib.hid hsm
  have V := Lib.hid hv0
  have T := Lib.hid (Lk.At.start W)
  have htI : (t.length : Int) ≤ 281474976710656 := by omega
  obtain ⟨zc, hzc⟩ : ∃ x, x = Lk.zc := ⟨_, rfl⟩
  have HZC := Lib.hid hzc
  have HZV := Lib.hid (show Av W 0 zc ac0 0 0 from hzc ▸ Av.zero W)
  clear hzc
  have KF := fun (w : World) (b0 : Nat) (c0 : List Value) (hb : Below W.heap.size W w) (h0 : Av w b0 c0 a e s) => fewC h0 hz
  rw [hf] at KF
  replace KF := Lib.hid KF
  have hlI : (10000 : Int) < (t.length : Int) := by omega
  clear hf hl
  clear hsm hv0 hz ht
  go_enter Tryz.func4, Tryz.ntmps4
  go_wp2_with (first | fail)
  replace T := Lib.hid (T.out.alloc (.cells cs.toArray 29))
  replace V := Lib.hid (V.out.alloc (.cells cs.toArray 29))
  replace HZV := Lib.hid (HZV.out.alloc (.cells cs.toArray 29))
  have B1 := Lib.hid (show Lk.Bl (W.alloc (.cells cs.toArray 29)) W.heap.size cs 29 from by have h := Lk.Bl.new W cs 29; simpa using h)
  generalize W.alloc (.cells cs.toArray 29) = w1 at *
  refine (KS.out _ T.out.bel).mono ?_
  rintro e w2 ⟨rfl, hb⟩
  replace T := Lib.hid (T.out.step hb)
  replace B1 := Lib.hid (B1.out.step hb)
  replace V := Lib.hid (V.out.step hb)
  replace HZV := Lib.hid (HZV.out.step hb)
  clear hb
  go_wp2_with (first | ((with_reducible refine Lk.ld (d := 16) W.heap.size B1.out V.out.len ?_ ?_ ?_); exact rfl; exact rfl) | fail)
  refine (KF.out _ _ _ T.out.bel V.out).mono ?_
  rintro e w3 ⟨rfl, hb⟩
  replace T := Lib.hid (T.out.step hb)
  replace B1 := Lib.hid (B1.out.step hb)
  replace V := Lib.hid (V.out.step hb)
  replace HZV := Lib.hid (HZV.out.step hb)
  clear hb
  go_wp2
  go_ret
  exact ⟨rfl, T.out.bel⟩
set_option maxHeartbeats 4000000 in
set_option maxRecDepth 100000 in
theorem reads_yy {keyOk : Int → Int → Bool} {sgn : Int → Int → Str → Int × Int} {ver : Int → Str → Int → Int → Bool} {W : World} (P : Pk keyOk sgn ver W) (hsm : Ok W 9 #[] (.bool true))
    (a : Ac) (e s : Int) (cs : List Value) (t : Str) (hv0 : Av W W.heap.size cs a e s) (hz : Sz 281474976710656 140737488355328 a) (ht : t.length ≤ 281474976710656)
    (hf : fewB a = true) (hl : t.length ≤ 10000) (x : Ac) (xe xs : Int) (hr : IsRead t x xe xs true) (hv : valid a e s = true) :
    Calls Tryz.prog 4 #[.agg cs.toArray, .string (S2.B t)] W fun x w' => x = .returned (.bool true) ∧ Below W.heap.size W w' := by
  have KS := Lib.hid hsm
  have V := Lib.hid hv0
  have T := Lib.hid (Lk.At.start W)
  have htI : (t.length : Int) ≤ 281474976710656 := by omega
  obtain ⟨zc, hzc⟩ : ∃ x, x = Lk.zc := ⟨_, rfl⟩
  have HZC := Lib.hid hzc
  have HZV := Lib.hid (show Av W 0 zc ac0 0 0 from hzc ▸ Av.zero W)
  clear hzc
  have KF := fun (w : World) (b0 : Nat) (c0 : List Value) (hb : Below W.heap.size W w) (h0 : Av w b0 c0 a e s) => fewC h0 hz
  rw [hf] at KF
  replace KF := Lib.hid KF
  have hlI : ¬ (10000 : Int) < (t.length : Int) := by omega
  have hs6 := few_sz6 hf
  rcases hr with ⟨_, hxv, hxb⟩ | ⟨hno, _⟩
  rotate_left
  · cases hno
  have hsx := valid_sz hxv
  have K1 := Lib.hid (fun (w : World) (hb : Below W.heap.size W w) => P.readC (.inl ⟨rfl, hxv, hxb⟩) (show t.length ≤ 1000000 by omega) hb)
  have K2 := fun (w : World) (b0 : Nat) (c0 : List Value) (hb : Below W.heap.size W w) (h0 : Av w b0 c0 x xe xs) => P.rightC hb h0 hsx
  rw [hxv] at K2
  replace K2 := Lib.hid K2
  have K3 := fun (w : World) (b0 : Nat) (c0 : List Value) (hb : Below W.heap.size W w) (h0 : Av w b0 c0 x xe xs) => P.bytesC hb h0 hsx
  rw [show bytes x xe xs = t from (if_pos hxv).trans hxb] at K3
  replace K3 := Lib.hid K3
  clear hxv hxb hsx
  have hbl := bytes_le hv
  have hb4 := bytes_pos a e s
  have KB := fun (w : World) (b0 : Nat) (c0 : List Value) (hb : Below W.heap.size W w) (h0 : Av w b0 c0 a e s) => P.bytesC hb h0 hs6
  rw [show bytes a e s = bytesB a e s from if_pos hv] at KB
  have KR := fun (w : World) (b0 : Nat) (c0 : List Value) (hb : Below W.heap.size W w) (h0 : Av w b0 c0 a e s) => P.rightC hb h0 hs6
  rw [hv] at KR
  replace KR := Lib.hid KR
  have M1 := fun (w : World) (hb : Below W.heap.size W w) => P.readC (read_back hv) (show (bytesB a e s).length ≤ 1000000 by omega) hb
  have M2 := fun (w : World) (b0 : Nat) (c0 : List Value) (b1 : Nat) (c1 : List Value) (hb : Below W.heap.size W w) (h0 : Av w b0 c0 a e s) (h1 : Av w b1 c1 a e s) => P.sameC (r := true) hb h0 h1 hs6 hs6 (by simp)
  replace M2 := Lib.hid M2
  have M3 := fun (w : World) (hb : Below W.heap.size W w) => P.readC (read_more hv [120] (by simp)) (show (bytesB a e s ++ [120]).length ≤ 1000000 by simp; omega) hb
  obtain ⟨k, hk⟩ : ∃ k, k = (bytesB a e s).length - 1 := ⟨_, rfl⟩
  have M4 := fun (w : World) (hb : Below W.heap.size W w) => P.readC (read_less hv (show k < _ by omega)) (show ((bytesB a e s).take k).length ≤ 1000000 by rw [List.length_take]; omega) hb
  obtain ⟨b, hbb⟩ : ∃ b, b = bytesB a e s := ⟨_, rfl⟩
  rw [← hbb] at KB M1 M3 M4 hbl hb4 hk
  have hkI : (b.length : Int) - 1 = (k : Int) := by omega
  have hkl : (k : Int) ≤ (b.length : Int) := by omega
  have hb0 : ((b.length : Int) == 0) = false := beq_eq_false_iff_ne.2 (by omega)
  have hbI : (b.length : Int) ≤ 61000 := by omega
  replace KB := Lib.hid KB
  replace M1 := Lib.hid M1
  replace M3 := Lib.hid M3
  replace M4 := Lib.hid M4
  clear hbb hbl hb4 hk hv hs6
  clear hf hl
  clear P hsm hv0 hz ht
  go_enter Tryz.func4, Tryz.ntmps4
  go_wp2_with (first | fail)
  replace T := Lib.hid (T.out.alloc (.cells cs.toArray 29))
  replace V := Lib.hid (V.out.alloc (.cells cs.toArray 29))
  replace HZV := Lib.hid (HZV.out.alloc (.cells cs.toArray 29))
  have B1 := Lib.hid (show Lk.Bl (W.alloc (.cells cs.toArray 29)) W.heap.size cs 29 from by have h := Lk.Bl.new W cs 29; simpa using h)
  generalize W.alloc (.cells cs.toArray 29) = w1 at *
  refine (KS.out _ T.out.bel).mono ?_
  rintro e w2 ⟨rfl, hb⟩
  replace T := Lib.hid (T.out.step hb)
  replace B1 := Lib.hid (B1.out.step hb)
  replace V := Lib.hid (V.out.step hb)
  replace HZV := Lib.hid (HZV.out.step hb)
  clear hb
  go_wp2_with (first | ((with_reducible refine Lk.ld (d := 16) W.heap.size B1.out V.out.len ?_ ?_ ?_); exact rfl; exact rfl) | fail)
  refine (KF.out _ _ _ T.out.bel V.out).mono ?_
  rintro e w3 ⟨rfl, hb⟩
  replace T := Lib.hid (T.out.step hb)
  replace B1 := Lib.hid (B1.out.step hb)
  replace V := Lib.hid (V.out.step hb)
  replace HZV := Lib.hid (HZV.out.step hb)
  clear hb
  go_wp2_with (first | fail)
  refine (K1.out _ T.out.bel).mono ?_
  rintro e w4 ⟨cx, rfl, hx, hb⟩
  replace T := Lib.hid (T.out.step hb)
  replace B1 := Lib.hid (B1.out.step hb)
  replace V := Lib.hid (V.out.step hb)
  replace HZV := Lib.hid (HZV.out.step hb)
  have Vx := Lib.hid hx
  clear hx
  clear hb
  go_wp2_with (first | ((with_reducible refine Lk.nw cx Vx.out.len Vx.out.one ?_ ?_ ?_ ?_); exact rfl; exact rfl; exact rfl) | fail)
  intro w5 bN hb
  have LB1_B2 := Lib.hid (show W.heap.size < w4.heap.size from B1.out.lt)
  have GV_B2 := Lib.hid (show W.heap.size ≤ w4.heap.size from V.out.le)
  have GHZV_B2 := Lib.hid (show 0 ≤ w4.heap.size from HZV.out.le)
  have GVx_B2 := Lib.hid (show w4.heap.size ≤ w4.heap.size from Vx.out.le)
  have GB2 := Lib.hid (show W.heap.size ≤ w4.heap.size from T.out.bel.size)
  replace T := Lib.hid (T.out.step hb)
  replace B1 := Lib.hid (B1.out.step hb)
  replace V := Lib.hid (V.out.step hb)
  replace HZV := Lib.hid (HZV.out.step hb)
  replace Vx := Lib.hid (Vx.out.step hb)
  have B2 := Lib.hid (show Lk.Bl w5 w4.heap.size cx 29 from bN)
  clear bN hb
  go_wp2_with (first | ((with_reducible refine Lk.ld (d := 32) w4.heap.size B2.out Vx.out.len ?_ ?_ ?_); exact rfl; exact rfl) | fail)
  refine (K2.out _ _ _ T.out.bel Vx.out).mono ?_
  rintro e w6 ⟨rfl, hb⟩
  replace T := Lib.hid (T.out.step hb)
  replace B1 := Lib.hid (B1.out.step hb)
  replace B2 := Lib.hid (B2.out.step hb)
  replace V := Lib.hid (V.out.step hb)
  replace HZV := Lib.hid (HZV.out.step hb)
  replace Vx := Lib.hid (Vx.out.step hb)
  clear hb
  go_wp2_with (first | ((with_reducible refine Lk.ld (d := 36) w4.heap.size B2.out Vx.out.len ?_ ?_ ?_); exact rfl; exact rfl) | fail)
  refine (K3.out _ _ _ T.out.bel Vx.out).mono ?_
  rintro e w7 ⟨rfl, hb⟩
  replace T := Lib.hid (T.out.step hb)
  replace B1 := Lib.hid (B1.out.step hb)
  replace B2 := Lib.hid (B2.out.step hb)
  replace V := Lib.hid (V.out.step hb)
  replace HZV := Lib.hid (HZV.out.step hb)
  replace Vx := Lib.hid (Vx.out.step hb)
  clear hb
  go_wp2_with (first | ((with_reducible refine Lk.ld (d := 52) W.heap.size B1.out V.out.len ?_ ?_ ?_); exact rfl; exact rfl) | fail)
  refine (KB.out _ _ _ T.out.bel V.out).mono ?_
  rintro e w8 ⟨rfl, hb⟩
  replace T := Lib.hid (T.out.step hb)
  replace B1 := Lib.hid (B1.out.step hb)
  replace B2 := Lib.hid (B2.out.step hb)
  replace V := Lib.hid (V.out.step hb)
  replace HZV := Lib.hid (HZV.out.step hb)
  replace Vx := Lib.hid (Vx.out.step hb)
  clear hb
  go_wp2_with (first | ((with_reducible refine Lk.ld (d := 54) W.heap.size B1.out V.out.len ?_ ?_ ?_); exact rfl; exact rfl) | fail)
  refine (KR.out _ _ _ T.out.bel V.out).mono ?_
  rintro e w9 ⟨rfl, hb⟩
  replace T := Lib.hid (T.out.step hb)
  replace B1 := Lib.hid (B1.out.step hb)
  replace B2 := Lib.hid (B2.out.step hb)
  replace V := Lib.hid (V.out.step hb)
  replace HZV := Lib.hid (HZV.out.step hb)
  replace Vx := Lib.hid (Vx.out.step hb)
  clear hb
  go_wp2_with (first | fail)
  refine (M1.out _ T.out.bel).mono ?_
  rintro e w10 ⟨cy, rfl, hx, hb⟩
  replace T := Lib.hid (T.out.step hb)
  replace B1 := Lib.hid (B1.out.step hb)
  replace B2 := Lib.hid (B2.out.step hb)
  replace V := Lib.hid (V.out.step hb)
  replace HZV := Lib.hid (HZV.out.step hb)
  replace Vx := Lib.hid (Vx.out.step hb)
  have Vy := Lib.hid hx
  clear hx
  clear hb
  go_wp2_with (first | ((with_reducible refine Lk.nw cy Vy.out.len Vy.out.one ?_ ?_ ?_ ?_); exact rfl; exact rfl; exact rfl) | fail)
  intro w11 bN hb
  have LB1_B3 := Lib.hid (show W.heap.size < w10.heap.size from B1.out.lt)
  have LB2_B3 := Lib.hid (show w4.heap.size < w10.heap.size from B2.out.lt)
  have GV_B3 := Lib.hid (show W.heap.size ≤ w10.heap.size from V.out.le)
  have GHZV_B3 := Lib.hid (show 0 ≤ w10.heap.size from HZV.out.le)
  have GVx_B3 := Lib.hid (show w4.heap.size ≤ w10.heap.size from Vx.out.le)
  have GVy_B3 := Lib.hid (show w10.heap.size ≤ w10.heap.size from Vy.out.le)
  have GB3 := Lib.hid (show W.heap.size ≤ w10.heap.size from T.out.bel.size)
  replace T := Lib.hid (T.out.step hb)
  replace B1 := Lib.hid (B1.out.step hb)
  replace B2 := Lib.hid (B2.out.step hb)
  replace V := Lib.hid (V.out.step hb)
  replace HZV := Lib.hid (HZV.out.step hb)
  replace Vx := Lib.hid (Vx.out.step hb)
  replace Vy := Lib.hid (Vy.out.step hb)
  have B3 := Lib.hid (show Lk.Bl w11 w10.heap.size cy 29 from bN)
  clear bN hb
  go_wp2_with (first | ((with_reducible refine Lk.ld (d := 75) w10.heap.size B3.out Vy.out.len ?_ ?_ ?_); exact rfl; exact rfl) | ((with_reducible refine Lk.ld (d := 76) W.heap.size B1.out V.out.len ?_ ?_ ?_); exact rfl; exact rfl) | fail)
  refine (M2.out _ _ _ _ _ T.out.bel Vy.out V.out).mono ?_
  rintro e w12 ⟨rfl, hb⟩
  replace T := Lib.hid (T.out.step hb)
  replace B1 := Lib.hid (B1.out.step hb)
  replace B2 := Lib.hid (B2.out.step hb)
  replace B3 := Lib.hid (B3.out.step hb)
  replace V := Lib.hid (V.out.step hb)
  replace HZV := Lib.hid (HZV.out.step hb)
  replace Vx := Lib.hid (Vx.out.step hb)
  replace Vy := Lib.hid (Vy.out.step hb)
  clear hb
  go_wp2_with (first | fail)
  refine (M3.out _ T.out.bel).mono ?_
  rintro e w13 ⟨cu, rfl, hx, hb⟩
  replace T := Lib.hid (T.out.step hb)
  replace B1 := Lib.hid (B1.out.step hb)
  replace B2 := Lib.hid (B2.out.step hb)
  replace B3 := Lib.hid (B3.out.step hb)
  replace V := Lib.hid (V.out.step hb)
  replace HZV := Lib.hid (HZV.out.step hb)
  replace Vx := Lib.hid (Vx.out.step hb)
  replace Vy := Lib.hid (Vy.out.step hb)
  have Vu := Lib.hid hx
  clear hx
  clear hb
  go_wp2_with (first | ((with_reducible refine Lk.nw cu Vu.out.len Vu.out.one ?_ ?_ ?_ ?_); exact rfl; exact rfl; exact rfl) | fail)
  intro w14 bN hb
  have LB1_B4 := Lib.hid (show W.heap.size < w13.heap.size from B1.out.lt)
  have LB2_B4 := Lib.hid (show w4.heap.size < w13.heap.size from B2.out.lt)
  have LB3_B4 := Lib.hid (show w10.heap.size < w13.heap.size from B3.out.lt)
  have GV_B4 := Lib.hid (show W.heap.size ≤ w13.heap.size from V.out.le)
  have GHZV_B4 := Lib.hid (show 0 ≤ w13.heap.size from HZV.out.le)
  have GVx_B4 := Lib.hid (show w4.heap.size ≤ w13.heap.size from Vx.out.le)
  have GVy_B4 := Lib.hid (show w10.heap.size ≤ w13.heap.size from Vy.out.le)
  have GVu_B4 := Lib.hid (show w13.heap.size ≤ w13.heap.size from Vu.out.le)
  have GB4 := Lib.hid (show W.heap.size ≤ w13.heap.size from T.out.bel.size)
  replace T := Lib.hid (T.out.step hb)
  replace B1 := Lib.hid (B1.out.step hb)
  replace B2 := Lib.hid (B2.out.step hb)
  replace B3 := Lib.hid (B3.out.step hb)
  replace V := Lib.hid (V.out.step hb)
  replace HZV := Lib.hid (HZV.out.step hb)
  replace Vx := Lib.hid (Vx.out.step hb)
  replace Vy := Lib.hid (Vy.out.step hb)
  replace Vu := Lib.hid (Vu.out.step hb)
  have B4 := Lib.hid (show Lk.Bl w14 w13.heap.size cu 29 from bN)
  clear bN hb
  go_wp2_with (first | fail)
  refine (M4.out _ T.out.bel).mono ?_
  rintro e w15 ⟨cv, rfl, hx, hb⟩
  replace T := Lib.hid (T.out.step hb)
  replace B1 := Lib.hid (B1.out.step hb)
  replace B2 := Lib.hid (B2.out.step hb)
  replace B3 := Lib.hid (B3.out.step hb)
  replace B4 := Lib.hid (B4.out.step hb)
  replace V := Lib.hid (V.out.step hb)
  replace HZV := Lib.hid (HZV.out.step hb)
  replace Vx := Lib.hid (Vx.out.step hb)
  replace Vy := Lib.hid (Vy.out.step hb)
  replace Vu := Lib.hid (Vu.out.step hb)
  have Vv := Lib.hid hx
  clear hx
  clear hb
  go_wp2_with (first | ((with_reducible refine Lk.nw cv Vv.out.len Vv.out.one ?_ ?_ ?_ ?_); exact rfl; exact rfl; exact rfl) | fail)
  intro w16 bN hb
  have LB1_B5 := Lib.hid (show W.heap.size < w15.heap.size from B1.out.lt)
  have LB2_B5 := Lib.hid (show w4.heap.size < w15.heap.size from B2.out.lt)
  have LB3_B5 := Lib.hid (show w10.heap.size < w15.heap.size from B3.out.lt)
  have LB4_B5 := Lib.hid (show w13.heap.size < w15.heap.size from B4.out.lt)
  have GV_B5 := Lib.hid (show W.heap.size ≤ w15.heap.size from V.out.le)
  have GHZV_B5 := Lib.hid (show 0 ≤ w15.heap.size from HZV.out.le)
  have GVx_B5 := Lib.hid (show w4.heap.size ≤ w15.heap.size from Vx.out.le)
  have GVy_B5 := Lib.hid (show w10.heap.size ≤ w15.heap.size from Vy.out.le)
  have GVu_B5 := Lib.hid (show w13.heap.size ≤ w15.heap.size from Vu.out.le)
  have GVv_B5 := Lib.hid (show w15.heap.size ≤ w15.heap.size from Vv.out.le)
  have GB5 := Lib.hid (show W.heap.size ≤ w15.heap.size from T.out.bel.size)
  replace T := Lib.hid (T.out.step hb)
  replace B1 := Lib.hid (B1.out.step hb)
  replace B2 := Lib.hid (B2.out.step hb)
  replace B3 := Lib.hid (B3.out.step hb)
  replace B4 := Lib.hid (B4.out.step hb)
  replace V := Lib.hid (V.out.step hb)
  replace HZV := Lib.hid (HZV.out.step hb)
  replace Vx := Lib.hid (Vx.out.step hb)
  replace Vy := Lib.hid (Vy.out.step hb)
  replace Vu := Lib.hid (Vu.out.step hb)
  replace Vv := Lib.hid (Vv.out.step hb)
  have B5 := Lib.hid (show Lk.Bl w16 w15.heap.size cv 29 from bN)
  clear bN hb
  go_wp2
  go_ret
  exact ⟨rfl, T.out.bel⟩
set_option maxHeartbeats 4000000 in
set_option maxRecDepth 100000 in
theorem reads_yn {keyOk : Int → Int → Bool} {sgn : Int → Int → Str → Int × Int} {ver : Int → Str → Int → Int → Bool} {W : World} (P : Pk keyOk sgn ver W) (hsm : Ok W 9 #[] (.bool true))
    (a : Ac) (e s : Int) (cs : List Value) (t : Str) (hv0 : Av W W.heap.size cs a e s) (hz : Sz 281474976710656 140737488355328 a) (ht : t.length ≤ 281474976710656)
    (hf : fewB a = true) (hl : t.length ≤ 10000) (x : Ac) (xe xs : Int) (hr : IsRead t x xe xs true) (hv : valid a e s = false) :
    Calls Tryz.prog 4 #[.agg cs.toArray, .string (S2.B t)] W fun x w' => x = .returned (.bool true) ∧ Below W.heap.size W w' := by
  have KS := Lib.hid hsm
  have V := Lib.hid hv0
  have T := Lib.hid (Lk.At.start W)
  have htI : (t.length : Int) ≤ 281474976710656 := by omega
  obtain ⟨zc, hzc⟩ : ∃ x, x = Lk.zc := ⟨_, rfl⟩
  have HZC := Lib.hid hzc
  have HZV := Lib.hid (show Av W 0 zc ac0 0 0 from hzc ▸ Av.zero W)
  clear hzc
  have KF := fun (w : World) (b0 : Nat) (c0 : List Value) (hb : Below W.heap.size W w) (h0 : Av w b0 c0 a e s) => fewC h0 hz
  rw [hf] at KF
  replace KF := Lib.hid KF
  have hlI : ¬ (10000 : Int) < (t.length : Int) := by omega
  have hs6 := few_sz6 hf
  rcases hr with ⟨_, hxv, hxb⟩ | ⟨hno, _⟩
  rotate_left
  · cases hno
  have hsx := valid_sz hxv
  have K1 := Lib.hid (fun (w : World) (hb : Below W.heap.size W w) => P.readC (.inl ⟨rfl, hxv, hxb⟩) (show t.length ≤ 1000000 by omega) hb)
  have K2 := fun (w : World) (b0 : Nat) (c0 : List Value) (hb : Below W.heap.size W w) (h0 : Av w b0 c0 x xe xs) => P.rightC hb h0 hsx
  rw [hxv] at K2
  replace K2 := Lib.hid K2
  have K3 := fun (w : World) (b0 : Nat) (c0 : List Value) (hb : Below W.heap.size W w) (h0 : Av w b0 c0 x xe xs) => P.bytesC hb h0 hsx
  rw [show bytes x xe xs = t from (if_pos hxv).trans hxb] at K3
  replace K3 := Lib.hid K3
  clear hxv hxb hsx
  have KB := fun (w : World) (b0 : Nat) (c0 : List Value) (hb : Below W.heap.size W w) (h0 : Av w b0 c0 a e s) => P.bytesC hb h0 hs6
  rw [show bytes a e s = [] from if_neg (by rw [hv]; decide)] at KB
  replace KB := Lib.hid KB
  have KR := fun (w : World) (b0 : Nat) (c0 : List Value) (hb : Below W.heap.size W w) (h0 : Av w b0 c0 a e s) => P.rightC hb h0 hs6
  rw [hv] at KR
  replace KR := Lib.hid KR
  have KC := fun (w : World) (b0 : Nat) (c0 : List Value) (hb : Below W.heap.size W w) (h0 : Av w b0 c0 a e s) => P.coreC hb h0 hs6
  rw [show core a e s = [] from if_neg (by rw [hv]; decide)] at KC
  replace KC := Lib.hid KC
  clear hv hs6
  clear hf hl
  clear P hsm hv0 hz ht
  go_enter Tryz.func4, Tryz.ntmps4
  go_wp2_with (first | fail)
  replace T := Lib.hid (T.out.alloc (.cells cs.toArray 29))
  replace V := Lib.hid (V.out.alloc (.cells cs.toArray 29))
  replace HZV := Lib.hid (HZV.out.alloc (.cells cs.toArray 29))
  have B1 := Lib.hid (show Lk.Bl (W.alloc (.cells cs.toArray 29)) W.heap.size cs 29 from by have h := Lk.Bl.new W cs 29; simpa using h)
  generalize W.alloc (.cells cs.toArray 29) = w1 at *
  refine (KS.out _ T.out.bel).mono ?_
  rintro e w2 ⟨rfl, hb⟩
  replace T := Lib.hid (T.out.step hb)
  replace B1 := Lib.hid (B1.out.step hb)
  replace V := Lib.hid (V.out.step hb)
  replace HZV := Lib.hid (HZV.out.step hb)
  clear hb
  go_wp2_with (first | ((with_reducible refine Lk.ld (d := 16) W.heap.size B1.out V.out.len ?_ ?_ ?_); exact rfl; exact rfl) | fail)
  refine (KF.out _ _ _ T.out.bel V.out).mono ?_
  rintro e w3 ⟨rfl, hb⟩
  replace T := Lib.hid (T.out.step hb)
  replace B1 := Lib.hid (B1.out.step hb)
  replace V := Lib.hid (V.out.step hb)
  replace HZV := Lib.hid (HZV.out.step hb)
  clear hb
  go_wp2_with (first | fail)
  refine (K1.out _ T.out.bel).mono ?_
  rintro e w4 ⟨cx, rfl, hx, hb⟩
  replace T := Lib.hid (T.out.step hb)
  replace B1 := Lib.hid (B1.out.step hb)
  replace V := Lib.hid (V.out.step hb)
  replace HZV := Lib.hid (HZV.out.step hb)
  have Vx := Lib.hid hx
  clear hx
  clear hb
  go_wp2_with (first | ((with_reducible refine Lk.nw cx Vx.out.len Vx.out.one ?_ ?_ ?_ ?_); exact rfl; exact rfl; exact rfl) | fail)
  intro w5 bN hb
  have LB1_B2 := Lib.hid (show W.heap.size < w4.heap.size from B1.out.lt)
  have GV_B2 := Lib.hid (show W.heap.size ≤ w4.heap.size from V.out.le)
  have GHZV_B2 := Lib.hid (show 0 ≤ w4.heap.size from HZV.out.le)
  have GVx_B2 := Lib.hid (show w4.heap.size ≤ w4.heap.size from Vx.out.le)
  have GB2 := Lib.hid (show W.heap.size ≤ w4.heap.size from T.out.bel.size)
  replace T := Lib.hid (T.out.step hb)
  replace B1 := Lib.hid (B1.out.step hb)
  replace V := Lib.hid (V.out.step hb)
  replace HZV := Lib.hid (HZV.out.step hb)
  replace Vx := Lib.hid (Vx.out.step hb)
  have B2 := Lib.hid (show Lk.Bl w5 w4.heap.size cx 29 from bN)
  clear bN hb
  go_wp2_with (first | ((with_reducible refine Lk.ld (d := 32) w4.heap.size B2.out Vx.out.len ?_ ?_ ?_); exact rfl; exact rfl) | fail)
  refine (K2.out _ _ _ T.out.bel Vx.out).mono ?_
  rintro e w6 ⟨rfl, hb⟩
  replace T := Lib.hid (T.out.step hb)
  replace B1 := Lib.hid (B1.out.step hb)
  replace B2 := Lib.hid (B2.out.step hb)
  replace V := Lib.hid (V.out.step hb)
  replace HZV := Lib.hid (HZV.out.step hb)
  replace Vx := Lib.hid (Vx.out.step hb)
  clear hb
  go_wp2_with (first | ((with_reducible refine Lk.ld (d := 36) w4.heap.size B2.out Vx.out.len ?_ ?_ ?_); exact rfl; exact rfl) | fail)
  refine (K3.out _ _ _ T.out.bel Vx.out).mono ?_
  rintro e w7 ⟨rfl, hb⟩
  replace T := Lib.hid (T.out.step hb)
  replace B1 := Lib.hid (B1.out.step hb)
  replace B2 := Lib.hid (B2.out.step hb)
  replace V := Lib.hid (V.out.step hb)
  replace HZV := Lib.hid (HZV.out.step hb)
  replace Vx := Lib.hid (Vx.out.step hb)
  clear hb
  go_wp2_with (first | ((with_reducible refine Lk.ld (d := 52) W.heap.size B1.out V.out.len ?_ ?_ ?_); exact rfl; exact rfl) | fail)
  refine (KB.out _ _ _ T.out.bel V.out).mono ?_
  rintro e w8 ⟨rfl, hb⟩
  replace T := Lib.hid (T.out.step hb)
  replace B1 := Lib.hid (B1.out.step hb)
  replace B2 := Lib.hid (B2.out.step hb)
  replace V := Lib.hid (V.out.step hb)
  replace HZV := Lib.hid (HZV.out.step hb)
  replace Vx := Lib.hid (Vx.out.step hb)
  clear hb
  go_wp2_with (first | ((with_reducible refine Lk.ld (d := 54) W.heap.size B1.out V.out.len ?_ ?_ ?_); exact rfl; exact rfl) | fail)
  refine (KR.out _ _ _ T.out.bel V.out).mono ?_
  rintro e w9 ⟨rfl, hb⟩
  replace T := Lib.hid (T.out.step hb)
  replace B1 := Lib.hid (B1.out.step hb)
  replace B2 := Lib.hid (B2.out.step hb)
  replace V := Lib.hid (V.out.step hb)
  replace HZV := Lib.hid (HZV.out.step hb)
  replace Vx := Lib.hid (Vx.out.step hb)
  clear hb
  go_wp2_with (first | ((with_reducible refine Lk.ld (d := 63) W.heap.size B1.out V.out.len ?_ ?_ ?_); exact rfl; exact rfl) | fail)
  refine (KC.out _ _ _ T.out.bel V.out).mono ?_
  rintro e w10 ⟨rfl, hb⟩
  replace T := Lib.hid (T.out.step hb)
  replace B1 := Lib.hid (B1.out.step hb)
  replace B2 := Lib.hid (B2.out.step hb)
  replace V := Lib.hid (V.out.step hb)
  replace HZV := Lib.hid (HZV.out.step hb)
  replace Vx := Lib.hid (Vx.out.step hb)
  clear hb
  go_wp2
  go_ret
  exact ⟨rfl, T.out.bel⟩
set_option maxHeartbeats 4000000 in
set_option maxRecDepth 100000 in
theorem reads_ny {keyOk : Int → Int → Bool} {sgn : Int → Int → Str → Int × Int} {ver : Int → Str → Int → Int → Bool} {W : World} (P : Pk keyOk sgn ver W) (hsm : Ok W 9 #[] (.bool true))
    (a : Ac) (e s : Int) (cs : List Value) (t : Str) (hv0 : Av W W.heap.size cs a e s) (hz : Sz 281474976710656 140737488355328 a) (ht : t.length ≤ 281474976710656)
    (hf : fewB a = true) (hl : t.length ≤ 10000) (x : Ac) (xe xs : Int) (hr : IsRead t x xe xs false) (hv : valid a e s = true) :
    Calls Tryz.prog 4 #[.agg cs.toArray, .string (S2.B t)] W fun x w' => x = .returned (.bool true) ∧ Below W.heap.size W w' := by
  have KS := Lib.hid hsm
  have V := Lib.hid hv0
  have T := Lib.hid (Lk.At.start W)
  have htI : (t.length : Int) ≤ 281474976710656 := by omega
  obtain ⟨zc, hzc⟩ : ∃ x, x = Lk.zc := ⟨_, rfl⟩
  have HZC := Lib.hid hzc
  have HZV := Lib.hid (show Av W 0 zc ac0 0 0 from hzc ▸ Av.zero W)
  clear hzc
  have KF := fun (w : World) (b0 : Nat) (c0 : List Value) (hb : Below W.heap.size W w) (h0 : Av w b0 c0 a e s) => fewC h0 hz
  rw [hf] at KF
  replace KF := Lib.hid KF
  have hlI : ¬ (10000 : Int) < (t.length : Int) := by omega
  have hs6 := few_sz6 hf
  have K1 := Lib.hid (fun (w : World) (hb : Below W.heap.size W w) => P.readC hr (show t.length ≤ 1000000 by omega) hb)
  rcases hr with ⟨hno, _⟩ | ⟨_, rfl, rfl, rfl, hxn⟩
  · cases hno
  have K4 := fun (w : World) (b0 : Nat) (c0 : List Value) (b1 : Nat) (c1 : List Value) (hb : Below W.heap.size W w) (h0 : Av w b0 c0 ac0 0 0) (h1 : Av w b1 c1 ac0 0 0) => P.sameC (r := true) hb h0 h1 sz0 sz0 (by simp)
  replace K4 := Lib.hid K4
  clear hxn
  have hbl := bytes_le hv
  have hb4 := bytes_pos a e s
  have KB := fun (w : World) (b0 : Nat) (c0 : List Value) (hb : Below W.heap.size W w) (h0 : Av w b0 c0 a e s) => P.bytesC hb h0 hs6
  rw [show bytes a e s = bytesB a e s from if_pos hv] at KB
  have KR := fun (w : World) (b0 : Nat) (c0 : List Value) (hb : Below W.heap.size W w) (h0 : Av w b0 c0 a e s) => P.rightC hb h0 hs6
  rw [hv] at KR
  replace KR := Lib.hid KR
  have M1 := fun (w : World) (hb : Below W.heap.size W w) => P.readC (read_back hv) (show (bytesB a e s).length ≤ 1000000 by omega) hb
  have M2 := fun (w : World) (b0 : Nat) (c0 : List Value) (b1 : Nat) (c1 : List Value) (hb : Below W.heap.size W w) (h0 : Av w b0 c0 a e s) (h1 : Av w b1 c1 a e s) => P.sameC (r := true) hb h0 h1 hs6 hs6 (by simp)
  replace M2 := Lib.hid M2
  have M3 := fun (w : World) (hb : Below W.heap.size W w) => P.readC (read_more hv [120] (by simp)) (show (bytesB a e s ++ [120]).length ≤ 1000000 by simp; omega) hb
  obtain ⟨k, hk⟩ : ∃ k, k = (bytesB a e s).length - 1 := ⟨_, rfl⟩
  have M4 := fun (w : World) (hb : Below W.heap.size W w) => P.readC (read_less hv (show k < _ by omega)) (show ((bytesB a e s).take k).length ≤ 1000000 by rw [List.length_take]; omega) hb
  obtain ⟨b, hbb⟩ : ∃ b, b = bytesB a e s := ⟨_, rfl⟩
  rw [← hbb] at KB M1 M3 M4 hbl hb4 hk
  have hkI : (b.length : Int) - 1 = (k : Int) := by omega
  have hkl : (k : Int) ≤ (b.length : Int) := by omega
  have hb0 : ((b.length : Int) == 0) = false := beq_eq_false_iff_ne.2 (by omega)
  have hbI : (b.length : Int) ≤ 61000 := by omega
  replace KB := Lib.hid KB
  replace M1 := Lib.hid M1
  replace M3 := Lib.hid M3
  replace M4 := Lib.hid M4
  clear hbb hbl hb4 hk hv hs6
  clear hf hl
  clear P hsm hv0 hz ht
  go_enter Tryz.func4, Tryz.ntmps4
  go_wp2_with (first | fail)
  replace T := Lib.hid (T.out.alloc (.cells cs.toArray 29))
  replace V := Lib.hid (V.out.alloc (.cells cs.toArray 29))
  replace HZV := Lib.hid (HZV.out.alloc (.cells cs.toArray 29))
  have B1 := Lib.hid (show Lk.Bl (W.alloc (.cells cs.toArray 29)) W.heap.size cs 29 from by have h := Lk.Bl.new W cs 29; simpa using h)
  generalize W.alloc (.cells cs.toArray 29) = w1 at *
  refine (KS.out _ T.out.bel).mono ?_
  rintro e w2 ⟨rfl, hb⟩
  replace T := Lib.hid (T.out.step hb)
  replace B1 := Lib.hid (B1.out.step hb)
  replace V := Lib.hid (V.out.step hb)
  replace HZV := Lib.hid (HZV.out.step hb)
  clear hb
  go_wp2_with (first | ((with_reducible refine Lk.ld (d := 16) W.heap.size B1.out V.out.len ?_ ?_ ?_); exact rfl; exact rfl) | fail)
  refine (KF.out _ _ _ T.out.bel V.out).mono ?_
  rintro e w3 ⟨rfl, hb⟩
  replace T := Lib.hid (T.out.step hb)
  replace B1 := Lib.hid (B1.out.step hb)
  replace V := Lib.hid (V.out.step hb)
  replace HZV := Lib.hid (HZV.out.step hb)
  clear hb
  go_wp2_with (first | fail)
  refine (K1.out _ T.out.bel).mono ?_
  rintro e w4 ⟨cx, rfl, hx, hb⟩
  replace T := Lib.hid (T.out.step hb)
  replace B1 := Lib.hid (B1.out.step hb)
  replace V := Lib.hid (V.out.step hb)
  replace HZV := Lib.hid (HZV.out.step hb)
  have Vx := Lib.hid hx
  clear hx
  clear hb
  go_wp2_with (first | ((with_reducible refine Lk.nw cx Vx.out.len Vx.out.one ?_ ?_ ?_ ?_); exact rfl; exact rfl; exact rfl) | fail)
  intro w5 bN hb
  have LB1_B2 := Lib.hid (show W.heap.size < w4.heap.size from B1.out.lt)
  have GV_B2 := Lib.hid (show W.heap.size ≤ w4.heap.size from V.out.le)
  have GHZV_B2 := Lib.hid (show 0 ≤ w4.heap.size from HZV.out.le)
  have GVx_B2 := Lib.hid (show w4.heap.size ≤ w4.heap.size from Vx.out.le)
  have GB2 := Lib.hid (show W.heap.size ≤ w4.heap.size from T.out.bel.size)
  replace T := Lib.hid (T.out.step hb)
  replace B1 := Lib.hid (B1.out.step hb)
  replace V := Lib.hid (V.out.step hb)
  replace HZV := Lib.hid (HZV.out.step hb)
  replace Vx := Lib.hid (Vx.out.step hb)
  have B2 := Lib.hid (show Lk.Bl w5 w4.heap.size cx 29 from bN)
  clear bN hb
  go_wp2_with (first | ((with_reducible refine Lk.ld (d := 46) w4.heap.size B2.out Vx.out.len ?_ ?_ ?_); exact rfl; exact rfl) | ((with_reducible refine Lk.zr (d := 47) HZC.out ?_ ?_); exact rfl) | fail)
  refine (K4.out _ _ _ _ _ T.out.bel Vx.out HZV.out).mono ?_
  rintro e w6 ⟨rfl, hb⟩
  replace T := Lib.hid (T.out.step hb)
  replace B1 := Lib.hid (B1.out.step hb)
  replace B2 := Lib.hid (B2.out.step hb)
  replace V := Lib.hid (V.out.step hb)
  replace HZV := Lib.hid (HZV.out.step hb)
  replace Vx := Lib.hid (Vx.out.step hb)
  clear hb
  go_wp2_with (first | ((with_reducible refine Lk.ld (d := 52) W.heap.size B1.out V.out.len ?_ ?_ ?_); exact rfl; exact rfl) | fail)
  refine (KB.out _ _ _ T.out.bel V.out).mono ?_
  rintro e w7 ⟨rfl, hb⟩
  replace T := Lib.hid (T.out.step hb)
  replace B1 := Lib.hid (B1.out.step hb)
  replace B2 := Lib.hid (B2.out.step hb)
  replace V := Lib.hid (V.out.step hb)
  replace HZV := Lib.hid (HZV.out.step hb)
  replace Vx := Lib.hid (Vx.out.step hb)
  clear hb
  go_wp2_with (first | ((with_reducible refine Lk.ld (d := 54) W.heap.size B1.out V.out.len ?_ ?_ ?_); exact rfl; exact rfl) | fail)
  refine (KR.out _ _ _ T.out.bel V.out).mono ?_
  rintro e w8 ⟨rfl, hb⟩
  replace T := Lib.hid (T.out.step hb)
  replace B1 := Lib.hid (B1.out.step hb)
  replace B2 := Lib.hid (B2.out.step hb)
  replace V := Lib.hid (V.out.step hb)
  replace HZV := Lib.hid (HZV.out.step hb)
  replace Vx := Lib.hid (Vx.out.step hb)
  clear hb
  go_wp2_with (first | fail)
  refine (M1.out _ T.out.bel).mono ?_
  rintro e w9 ⟨cy, rfl, hx, hb⟩
  replace T := Lib.hid (T.out.step hb)
  replace B1 := Lib.hid (B1.out.step hb)
  replace B2 := Lib.hid (B2.out.step hb)
  replace V := Lib.hid (V.out.step hb)
  replace HZV := Lib.hid (HZV.out.step hb)
  replace Vx := Lib.hid (Vx.out.step hb)
  have Vy := Lib.hid hx
  clear hx
  clear hb
  go_wp2_with (first | ((with_reducible refine Lk.nw cy Vy.out.len Vy.out.one ?_ ?_ ?_ ?_); exact rfl; exact rfl; exact rfl) | fail)
  intro w10 bN hb
  have LB1_B3 := Lib.hid (show W.heap.size < w9.heap.size from B1.out.lt)
  have LB2_B3 := Lib.hid (show w4.heap.size < w9.heap.size from B2.out.lt)
  have GV_B3 := Lib.hid (show W.heap.size ≤ w9.heap.size from V.out.le)
  have GHZV_B3 := Lib.hid (show 0 ≤ w9.heap.size from HZV.out.le)
  have GVx_B3 := Lib.hid (show w4.heap.size ≤ w9.heap.size from Vx.out.le)
  have GVy_B3 := Lib.hid (show w9.heap.size ≤ w9.heap.size from Vy.out.le)
  have GB3 := Lib.hid (show W.heap.size ≤ w9.heap.size from T.out.bel.size)
  replace T := Lib.hid (T.out.step hb)
  replace B1 := Lib.hid (B1.out.step hb)
  replace B2 := Lib.hid (B2.out.step hb)
  replace V := Lib.hid (V.out.step hb)
  replace HZV := Lib.hid (HZV.out.step hb)
  replace Vx := Lib.hid (Vx.out.step hb)
  replace Vy := Lib.hid (Vy.out.step hb)
  have B3 := Lib.hid (show Lk.Bl w10 w9.heap.size cy 29 from bN)
  clear bN hb
  go_wp2_with (first | ((with_reducible refine Lk.ld (d := 75) w9.heap.size B3.out Vy.out.len ?_ ?_ ?_); exact rfl; exact rfl) | ((with_reducible refine Lk.ld (d := 76) W.heap.size B1.out V.out.len ?_ ?_ ?_); exact rfl; exact rfl) | fail)
  refine (M2.out _ _ _ _ _ T.out.bel Vy.out V.out).mono ?_
  rintro e w11 ⟨rfl, hb⟩
  replace T := Lib.hid (T.out.step hb)
  replace B1 := Lib.hid (B1.out.step hb)
  replace B2 := Lib.hid (B2.out.step hb)
  replace B3 := Lib.hid (B3.out.step hb)
  replace V := Lib.hid (V.out.step hb)
  replace HZV := Lib.hid (HZV.out.step hb)
  replace Vx := Lib.hid (Vx.out.step hb)
  replace Vy := Lib.hid (Vy.out.step hb)
  clear hb
  go_wp2_with (first | fail)
  refine (M3.out _ T.out.bel).mono ?_
  rintro e w12 ⟨cu, rfl, hx, hb⟩
  replace T := Lib.hid (T.out.step hb)
  replace B1 := Lib.hid (B1.out.step hb)
  replace B2 := Lib.hid (B2.out.step hb)
  replace B3 := Lib.hid (B3.out.step hb)
  replace V := Lib.hid (V.out.step hb)
  replace HZV := Lib.hid (HZV.out.step hb)
  replace Vx := Lib.hid (Vx.out.step hb)
  replace Vy := Lib.hid (Vy.out.step hb)
  have Vu := Lib.hid hx
  clear hx
  clear hb
  go_wp2_with (first | ((with_reducible refine Lk.nw cu Vu.out.len Vu.out.one ?_ ?_ ?_ ?_); exact rfl; exact rfl; exact rfl) | fail)
  intro w13 bN hb
  have LB1_B4 := Lib.hid (show W.heap.size < w12.heap.size from B1.out.lt)
  have LB2_B4 := Lib.hid (show w4.heap.size < w12.heap.size from B2.out.lt)
  have LB3_B4 := Lib.hid (show w9.heap.size < w12.heap.size from B3.out.lt)
  have GV_B4 := Lib.hid (show W.heap.size ≤ w12.heap.size from V.out.le)
  have GHZV_B4 := Lib.hid (show 0 ≤ w12.heap.size from HZV.out.le)
  have GVx_B4 := Lib.hid (show w4.heap.size ≤ w12.heap.size from Vx.out.le)
  have GVy_B4 := Lib.hid (show w9.heap.size ≤ w12.heap.size from Vy.out.le)
  have GVu_B4 := Lib.hid (show w12.heap.size ≤ w12.heap.size from Vu.out.le)
  have GB4 := Lib.hid (show W.heap.size ≤ w12.heap.size from T.out.bel.size)
  replace T := Lib.hid (T.out.step hb)
  replace B1 := Lib.hid (B1.out.step hb)
  replace B2 := Lib.hid (B2.out.step hb)
  replace B3 := Lib.hid (B3.out.step hb)
  replace V := Lib.hid (V.out.step hb)
  replace HZV := Lib.hid (HZV.out.step hb)
  replace Vx := Lib.hid (Vx.out.step hb)
  replace Vy := Lib.hid (Vy.out.step hb)
  replace Vu := Lib.hid (Vu.out.step hb)
  have B4 := Lib.hid (show Lk.Bl w13 w12.heap.size cu 29 from bN)
  clear bN hb
  go_wp2_with (first | fail)
  refine (M4.out _ T.out.bel).mono ?_
  rintro e w14 ⟨cv, rfl, hx, hb⟩
  replace T := Lib.hid (T.out.step hb)
  replace B1 := Lib.hid (B1.out.step hb)
  replace B2 := Lib.hid (B2.out.step hb)
  replace B3 := Lib.hid (B3.out.step hb)
  replace B4 := Lib.hid (B4.out.step hb)
  replace V := Lib.hid (V.out.step hb)
  replace HZV := Lib.hid (HZV.out.step hb)
  replace Vx := Lib.hid (Vx.out.step hb)
  replace Vy := Lib.hid (Vy.out.step hb)
  replace Vu := Lib.hid (Vu.out.step hb)
  have Vv := Lib.hid hx
  clear hx
  clear hb
  go_wp2_with (first | ((with_reducible refine Lk.nw cv Vv.out.len Vv.out.one ?_ ?_ ?_ ?_); exact rfl; exact rfl; exact rfl) | fail)
  intro w15 bN hb
  have LB1_B5 := Lib.hid (show W.heap.size < w14.heap.size from B1.out.lt)
  have LB2_B5 := Lib.hid (show w4.heap.size < w14.heap.size from B2.out.lt)
  have LB3_B5 := Lib.hid (show w9.heap.size < w14.heap.size from B3.out.lt)
  have LB4_B5 := Lib.hid (show w12.heap.size < w14.heap.size from B4.out.lt)
  have GV_B5 := Lib.hid (show W.heap.size ≤ w14.heap.size from V.out.le)
  have GHZV_B5 := Lib.hid (show 0 ≤ w14.heap.size from HZV.out.le)
  have GVx_B5 := Lib.hid (show w4.heap.size ≤ w14.heap.size from Vx.out.le)
  have GVy_B5 := Lib.hid (show w9.heap.size ≤ w14.heap.size from Vy.out.le)
  have GVu_B5 := Lib.hid (show w12.heap.size ≤ w14.heap.size from Vu.out.le)
  have GVv_B5 := Lib.hid (show w14.heap.size ≤ w14.heap.size from Vv.out.le)
  have GB5 := Lib.hid (show W.heap.size ≤ w14.heap.size from T.out.bel.size)
  replace T := Lib.hid (T.out.step hb)
  replace B1 := Lib.hid (B1.out.step hb)
  replace B2 := Lib.hid (B2.out.step hb)
  replace B3 := Lib.hid (B3.out.step hb)
  replace B4 := Lib.hid (B4.out.step hb)
  replace V := Lib.hid (V.out.step hb)
  replace HZV := Lib.hid (HZV.out.step hb)
  replace Vx := Lib.hid (Vx.out.step hb)
  replace Vy := Lib.hid (Vy.out.step hb)
  replace Vu := Lib.hid (Vu.out.step hb)
  replace Vv := Lib.hid (Vv.out.step hb)
  have B5 := Lib.hid (show Lk.Bl w15 w14.heap.size cv 29 from bN)
  clear bN hb
  go_wp2
  go_ret
  exact ⟨rfl, T.out.bel⟩
set_option maxHeartbeats 4000000 in
set_option maxRecDepth 100000 in
theorem reads_nn {keyOk : Int → Int → Bool} {sgn : Int → Int → Str → Int × Int} {ver : Int → Str → Int → Int → Bool} {W : World} (P : Pk keyOk sgn ver W) (hsm : Ok W 9 #[] (.bool true))
    (a : Ac) (e s : Int) (cs : List Value) (t : Str) (hv0 : Av W W.heap.size cs a e s) (hz : Sz 281474976710656 140737488355328 a) (ht : t.length ≤ 281474976710656)
    (hf : fewB a = true) (hl : t.length ≤ 10000) (x : Ac) (xe xs : Int) (hr : IsRead t x xe xs false) (hv : valid a e s = false) :
    Calls Tryz.prog 4 #[.agg cs.toArray, .string (S2.B t)] W fun x w' => x = .returned (.bool true) ∧ Below W.heap.size W w' := by
  have KS := Lib.hid hsm
  have V := Lib.hid hv0
  have T := Lib.hid (Lk.At.start W)
  have htI : (t.length : Int) ≤ 281474976710656 := by omega
  obtain ⟨zc, hzc⟩ : ∃ x, x = Lk.zc := ⟨_, rfl⟩
  have HZC := Lib.hid hzc
  have HZV := Lib.hid (show Av W 0 zc ac0 0 0 from hzc ▸ Av.zero W)
  clear hzc
  have KF := fun (w : World) (b0 : Nat) (c0 : List Value) (hb : Below W.heap.size W w) (h0 : Av w b0 c0 a e s) => fewC h0 hz
  rw [hf] at KF
  replace KF := Lib.hid KF
  have hlI : ¬ (10000 : Int) < (t.length : Int) := by omega
  have hs6 := few_sz6 hf
  have K1 := Lib.hid (fun (w : World) (hb : Below W.heap.size W w) => P.readC hr (show t.length ≤ 1000000 by omega) hb)
  rcases hr with ⟨hno, _⟩ | ⟨_, rfl, rfl, rfl, hxn⟩
  · cases hno
  have K4 := fun (w : World) (b0 : Nat) (c0 : List Value) (b1 : Nat) (c1 : List Value) (hb : Below W.heap.size W w) (h0 : Av w b0 c0 ac0 0 0) (h1 : Av w b1 c1 ac0 0 0) => P.sameC (r := true) hb h0 h1 sz0 sz0 (by simp)
  replace K4 := Lib.hid K4
  clear hxn
  have KB := fun (w : World) (b0 : Nat) (c0 : List Value) (hb : Below W.heap.size W w) (h0 : Av w b0 c0 a e s) => P.bytesC hb h0 hs6
  rw [show bytes a e s = [] from if_neg (by rw [hv]; decide)] at KB
  replace KB := Lib.hid KB
  have KR := fun (w : World) (b0 : Nat) (c0 : List Value) (hb : Below W.heap.size W w) (h0 : Av w b0 c0 a e s) => P.rightC hb h0 hs6
  rw [hv] at KR
  replace KR := Lib.hid KR
  have KC := fun (w : World) (b0 : Nat) (c0 : List Value) (hb : Below W.heap.size W w) (h0 : Av w b0 c0 a e s) => P.coreC hb h0 hs6
  rw [show core a e s = [] from if_neg (by rw [hv]; decide)] at KC
  replace KC := Lib.hid KC
  clear hv hs6
  clear hf hl
  clear P hsm hv0 hz ht
  go_enter Tryz.func4, Tryz.ntmps4
  go_wp2_with (first | fail)
  replace T := Lib.hid (T.out.alloc (.cells cs.toArray 29))
  replace V := Lib.hid (V.out.alloc (.cells cs.toArray 29))
  replace HZV := Lib.hid (HZV.out.alloc (.cells cs.toArray 29))
  have B1 := Lib.hid (show Lk.Bl (W.alloc (.cells cs.toArray 29)) W.heap.size cs 29 from by have h := Lk.Bl.new W cs 29; simpa using h)
  generalize W.alloc (.cells cs.toArray 29) = w1 at *
  refine (KS.out _ T.out.bel).mono ?_
  rintro e w2 ⟨rfl, hb⟩
  replace T := Lib.hid (T.out.step hb)
  replace B1 := Lib.hid (B1.out.step hb)
  replace V := Lib.hid (V.out.step hb)
  replace HZV := Lib.hid (HZV.out.step hb)
  clear hb
  go_wp2_with (first | ((with_reducible refine Lk.ld (d := 16) W.heap.size B1.out V.out.len ?_ ?_ ?_); exact rfl; exact rfl) | fail)
  refine (KF.out _ _ _ T.out.bel V.out).mono ?_
  rintro e w3 ⟨rfl, hb⟩
  replace T := Lib.hid (T.out.step hb)
  replace B1 := Lib.hid (B1.out.step hb)
  replace V := Lib.hid (V.out.step hb)
  replace HZV := Lib.hid (HZV.out.step hb)
  clear hb
  go_wp2_with (first | fail)
  refine (K1.out _ T.out.bel).mono ?_
  rintro e w4 ⟨cx, rfl, hx, hb⟩
  replace T := Lib.hid (T.out.step hb)
  replace B1 := Lib.hid (B1.out.step hb)
  replace V := Lib.hid (V.out.step hb)
  replace HZV := Lib.hid (HZV.out.step hb)
  have Vx := Lib.hid hx
  clear hx
  clear hb
  go_wp2_with (first | ((with_reducible refine Lk.nw cx Vx.out.len Vx.out.one ?_ ?_ ?_ ?_); exact rfl; exact rfl; exact rfl) | fail)
  intro w5 bN hb
  have LB1_B2 := Lib.hid (show W.heap.size < w4.heap.size from B1.out.lt)
  have GV_B2 := Lib.hid (show W.heap.size ≤ w4.heap.size from V.out.le)
  have GHZV_B2 := Lib.hid (show 0 ≤ w4.heap.size from HZV.out.le)
  have GVx_B2 := Lib.hid (show w4.heap.size ≤ w4.heap.size from Vx.out.le)
  have GB2 := Lib.hid (show W.heap.size ≤ w4.heap.size from T.out.bel.size)
  replace T := Lib.hid (T.out.step hb)
  replace B1 := Lib.hid (B1.out.step hb)
  replace V := Lib.hid (V.out.step hb)
  replace HZV := Lib.hid (HZV.out.step hb)
  replace Vx := Lib.hid (Vx.out.step hb)
  have B2 := Lib.hid (show Lk.Bl w5 w4.heap.size cx 29 from bN)
  clear bN hb
  go_wp2_with (first | ((with_reducible refine Lk.ld (d := 46) w4.heap.size B2.out Vx.out.len ?_ ?_ ?_); exact rfl; exact rfl) | ((with_reducible refine Lk.zr (d := 47) HZC.out ?_ ?_); exact rfl) | fail)
  refine (K4.out _ _ _ _ _ T.out.bel Vx.out HZV.out).mono ?_
  rintro e w6 ⟨rfl, hb⟩
  replace T := Lib.hid (T.out.step hb)
  replace B1 := Lib.hid (B1.out.step hb)
  replace B2 := Lib.hid (B2.out.step hb)
  replace V := Lib.hid (V.out.step hb)
  replace HZV := Lib.hid (HZV.out.step hb)
  replace Vx := Lib.hid (Vx.out.step hb)
  clear hb
  go_wp2_with (first | ((with_reducible refine Lk.ld (d := 52) W.heap.size B1.out V.out.len ?_ ?_ ?_); exact rfl; exact rfl) | fail)
  refine (KB.out _ _ _ T.out.bel V.out).mono ?_
  rintro e w7 ⟨rfl, hb⟩
  replace T := Lib.hid (T.out.step hb)
  replace B1 := Lib.hid (B1.out.step hb)
  replace B2 := Lib.hid (B2.out.step hb)
  replace V := Lib.hid (V.out.step hb)
  replace HZV := Lib.hid (HZV.out.step hb)
  replace Vx := Lib.hid (Vx.out.step hb)
  clear hb
  go_wp2_with (first | ((with_reducible refine Lk.ld (d := 54) W.heap.size B1.out V.out.len ?_ ?_ ?_); exact rfl; exact rfl) | fail)
  refine (KR.out _ _ _ T.out.bel V.out).mono ?_
  rintro e w8 ⟨rfl, hb⟩
  replace T := Lib.hid (T.out.step hb)
  replace B1 := Lib.hid (B1.out.step hb)
  replace B2 := Lib.hid (B2.out.step hb)
  replace V := Lib.hid (V.out.step hb)
  replace HZV := Lib.hid (HZV.out.step hb)
  replace Vx := Lib.hid (Vx.out.step hb)
  clear hb
  go_wp2_with (first | ((with_reducible refine Lk.ld (d := 63) W.heap.size B1.out V.out.len ?_ ?_ ?_); exact rfl; exact rfl) | fail)
  refine (KC.out _ _ _ T.out.bel V.out).mono ?_
  rintro e w9 ⟨rfl, hb⟩
  replace T := Lib.hid (T.out.step hb)
  replace B1 := Lib.hid (B1.out.step hb)
  replace B2 := Lib.hid (B2.out.step hb)
  replace V := Lib.hid (V.out.step hb)
  replace HZV := Lib.hid (HZV.out.step hb)
  replace Vx := Lib.hid (Vx.out.step hb)
  clear hb
  go_wp2
  go_ret
  exact ⟨rfl, T.out.bel⟩
theorem reads_walk {keyOk : Int → Int → Bool} {sgn : Int → Int → Str → Int × Int} {ver : Int → Str → Int → Int → Bool} {W : World} (P : Pk keyOk sgn ver W) (hsm : Ok W 9 #[] (.bool true))
    (a : Ac) (e s : Int) (A : Option Addr) (nA cA : Nat) (Q : Option Addr) (nQ cQ : Nat) (t : Str) (hp : Ap W W.heap.size a A nA cA Q nQ cQ) (hz : Sz 281474976710656 140737488355328 a) (ht : t.length ≤ 281474976710656) :
    Calls Tryz.prog 4 #[vA a e s A nA cA Q nQ cQ, .string (S2.B t)] W fun x w' => x = .returned (.bool true) ∧ Below W.heap.size W w' := by
  have hv0 : Av W W.heap.size (cellsA a e s A nA cA Q nQ cQ) a e s := Av.arg hp
  rw [vA_eq]
  cases hf : fewB a with
  | false => exact reads_few P hsm a e s _ t hv0 hz ht hf
  | true =>
    by_cases hl : 10000 < t.length
    · exact reads_long P hsm a e s _ t hv0 hz ht hf hl
    obtain ⟨x, xe, xs, ok, hr⟩ := read_ex t
    cases ok with
    | true =>
      cases hv : valid a e s with
      | true => exact reads_yy P hsm a e s _ t hv0 hz ht hf (by omega) x xe xs hr hv
      | false => exact reads_yn P hsm a e s _ t hv0 hz ht hf (by omega) x xe xs hr hv
    | false =>
      cases hv : valid a e s with
      | true => exact reads_ny P hsm a e s _ t hv0 hz ht hf (by omega) x xe xs hr hv
      | false => exact reads_nn P hsm a e s _ t hv0 hz ht hf (by omega) x xe xs hr hv
end Ax
end Go.Proofs.YtojbicpchjiplaaGreatDoor
