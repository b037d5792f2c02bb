/-
  Layer 12: ActSigns' walk, against the package's contracts.
-/
import Derived.Test.YtojbicpchjiplaaGreatDoorActPv
namespace Go.Proofs.YtojbicpchjiplaaGreatDoor
open Go.RowKit
namespace Ax
open S11.Idt (Str isId isName ids)
attribute [local go_sem] S2.B_size S2.B_list S2.B_app S2.B_take litE lit120
set_option maxHeartbeats 4000000 in
set_option maxRecDepth 100000 in
theorem signs_e1 {keyOk : Int → Int → Bool} {sgn : Int → Int → Str → Int × Int} {ver : Int → Str → Int → Int → Bool} {W : World} (_P : Pk keyOk sgn ver W) (hsm : Ok W 9 #[] (.bool true))
    (a : Ac) (e s : Int) (cs : List Value) (k p : Int) (hv0 : Av W W.heap.size cs a e s) (hz : Sz 281474976710656 140737488355328 a) (_hk : -9223372036854775808 ≤ k ∧ k ≤ 9223372036854775807) (_hp : -9223372036854775808 ≤ p ∧ p ≤ 9223372036854775807)
    (h : fewB a = false) :
    Calls Tryz.prog 6 #[.agg cs.toArray, .agg #[.int .i64 k, .int .i64 p]] W fun x w' => x = .returned (.bool true) ∧ Below W.heap.size W w' := by
  have KS := Lib.hid hsm
  have T := Lib.hid (Lk.At.start W)
  obtain ⟨zc, hzc⟩ : ∃ x, x = Lk.zc := ⟨_, rfl⟩
  have HZC := Lib.hid hzc
  have HZV := Lib.hid (show Av W 0 zc ac0 0 0 from hzc ▸ Av.zero W)
  clear hzc
  have V := Lib.hid hv0
  have KFa := fun (w : World) (b0 : Nat) (c0 : List Value) (hb : Below W.heap.size W w) (h0 : Av w b0 c0 a e s) => fewC h0 hz
  rw [h] at KFa
  replace KFa := Lib.hid KFa
  clear hsm hv0 hz _hk _hp h
  go_enter Tryz.func6, Tryz.ntmps6
  go_wp2_with (first | fail)
  replace T := Lib.hid (T.out.alloc (.cells cs.toArray 29))
  replace V := Lib.hid (V.out.alloc (.cells cs.toArray 29))
  replace HZV := Lib.hid (HZV.out.alloc (.cells cs.toArray 29))
  have B1 := Lib.hid (show Lk.Bl (W.alloc (.cells cs.toArray 29)) W.heap.size cs 29 from by have h := Lk.Bl.new W cs 29; simpa using h)
  replace T := Lib.hid (T.out.alloc (.cells #[.int .i64 k, .int .i64 p] 31))
  replace B1 := Lib.hid (B1.out.alloc (.cells #[.int .i64 k, .int .i64 p] 31))
  replace V := Lib.hid (V.out.alloc (.cells #[.int .i64 k, .int .i64 p] 31))
  replace HZV := Lib.hid (HZV.out.alloc (.cells #[.int .i64 k, .int .i64 p] 31))
  have B2 := Lib.hid (show Lk.Bl ((W.alloc (.cells cs.toArray 29)).alloc (.cells #[.int .i64 k, .int .i64 p] 31)) (W.heap.size + 1) [.int .i64 k, .int .i64 p] 31 from by have h := Lk.Bl.new (W.alloc (.cells cs.toArray 29)) [.int .i64 k, .int .i64 p] 31; simpa using h)
  generalize (W.alloc (.cells cs.toArray 29)).alloc (.cells #[.int .i64 k, .int .i64 p] 31) = w1 at *
  refine (KS.out _ T.out.bel).mono ?_
  rintro e w2 ⟨rfl, hb⟩
  replace T := Lib.hid (T.out.step hb)
  replace B1 := Lib.hid (B1.out.step hb)
  replace B2 := Lib.hid (B2.out.step hb)
  replace V := Lib.hid (V.out.step hb)
  replace HZV := Lib.hid (HZV.out.step hb)
  clear hb
  go_wp2_with (first | ((with_reducible refine Lk.ld (d := 10) W.heap.size B1.out V.out.len ?_ ?_ ?_); exact rfl; exact rfl) | fail)
  refine (KFa.out _ _ _ T.out.bel V.out).mono ?_
  rintro e w3 ⟨rfl, hb⟩
  replace T := Lib.hid (T.out.step hb)
  replace B1 := Lib.hid (B1.out.step hb)
  replace B2 := Lib.hid (B2.out.step hb)
  replace V := Lib.hid (V.out.step hb)
  replace HZV := Lib.hid (HZV.out.step hb)
  clear hb
  go_wp2
  go_ret
  exact ⟨rfl, T.out.bel⟩
set_option maxHeartbeats 4000000 in
set_option maxRecDepth 100000 in
theorem signs_key {keyOk : Int → Int → Bool} {sgn : Int → Int → Str → Int × Int} {ver : Int → Str → Int → Int → Bool} {W : World} (P : Pk keyOk sgn ver W) (hsm : Ok W 9 #[] (.bool true))
    (a : Ac) (e s : Int) (cs : List Value) (k p : Int) (hv0 : Av W W.heap.size cs a e s) (hz : Sz 281474976710656 140737488355328 a) (hk : -9223372036854775808 ≤ k ∧ k ≤ 9223372036854775807) (hp : -9223372036854775808 ≤ p ∧ p ≤ 9223372036854775807)
    (h : fewB a = true) (hkk : keyOk k p = false) :
    Calls Tryz.prog 6 #[.agg cs.toArray, .agg #[.int .i64 k, .int .i64 p]] W fun x w' => x = .returned (.bool true) ∧ Below W.heap.size W w' := by
  have KS := Lib.hid hsm
  have T := Lib.hid (Lk.At.start W)
  obtain ⟨zc, hzc⟩ : ∃ x, x = Lk.zc := ⟨_, rfl⟩
  have HZC := Lib.hid hzc
  have HZV := Lib.hid (show Av W 0 zc ac0 0 0 from hzc ▸ Av.zero W)
  clear hzc
  have V := Lib.hid hv0
  have KFa := fun (w : World) (b0 : Nat) (c0 : List Value) (hb : Below W.heap.size W w) (h0 : Av w b0 c0 a e s) => fewC h0 hz
  rw [h] at KFa
  replace KFa := Lib.hid KFa
  have h6 := few_sz6 h
  have KK := P.keyR k p hk hp
  rw [hkk] at KK
  replace KK := Lib.hid KK
  have KG := fun (w : World) (b0 : Nat) (c0 : List Value) (hb : Below W.heap.size W w) (h0 : Av w b0 c0 a e s) => P.signC hk hp hb h0 h6
  rw [show signed keyOk sgn k p a = (ac0, 0, 0) from if_neg (by simp [hkk])] at KG
  replace KG := Lib.hid KG
  have KS0 := fun (w : World) (b0 : Nat) (c0 : List Value) (b1 : Nat) (c1 : List Value) (hb : Below W.heap.size W w) (h0 : Av w b0 c0 ac0 0 0) (h1 : Av w b1 c1 ac0 0 0) => P.sameC (r := true) hb h0 h1 sz0 sz0 (by simp)
  replace KS0 := Lib.hid KS0
  clear P hsm hv0 hz hk hp h h6 hkk
  go_enter Tryz.func6, Tryz.ntmps6
  go_wp2_with (first | fail)
  replace T := Lib.hid (T.out.alloc (.cells cs.toArray 29))
  replace V := Lib.hid (V.out.alloc (.cells cs.toArray 29))
  replace HZV := Lib.hid (HZV.out.alloc (.cells cs.toArray 29))
  have B1 := Lib.hid (show Lk.Bl (W.alloc (.cells cs.toArray 29)) W.heap.size cs 29 from by have h := Lk.Bl.new W cs 29; simpa using h)
  replace T := Lib.hid (T.out.alloc (.cells #[.int .i64 k, .int .i64 p] 31))
  replace B1 := Lib.hid (B1.out.alloc (.cells #[.int .i64 k, .int .i64 p] 31))
  replace V := Lib.hid (V.out.alloc (.cells #[.int .i64 k, .int .i64 p] 31))
  replace HZV := Lib.hid (HZV.out.alloc (.cells #[.int .i64 k, .int .i64 p] 31))
  have B2 := Lib.hid (show Lk.Bl ((W.alloc (.cells cs.toArray 29)).alloc (.cells #[.int .i64 k, .int .i64 p] 31)) (W.heap.size + 1) [.int .i64 k, .int .i64 p] 31 from by have h := Lk.Bl.new (W.alloc (.cells cs.toArray 29)) [.int .i64 k, .int .i64 p] 31; simpa using h)
  generalize (W.alloc (.cells cs.toArray 29)).alloc (.cells #[.int .i64 k, .int .i64 p] 31) = w1 at *
  refine (KS.out _ T.out.bel).mono ?_
  rintro e w2 ⟨rfl, hb⟩
  replace T := Lib.hid (T.out.step hb)
  replace B1 := Lib.hid (B1.out.step hb)
  replace B2 := Lib.hid (B2.out.step hb)
  replace V := Lib.hid (V.out.step hb)
  replace HZV := Lib.hid (HZV.out.step hb)
  clear hb
  go_wp2_with (first | ((with_reducible refine Lk.ld (d := 10) W.heap.size B1.out V.out.len ?_ ?_ ?_); exact rfl; exact rfl) | fail)
  refine (KFa.out _ _ _ T.out.bel V.out).mono ?_
  rintro e w3 ⟨rfl, hb⟩
  replace T := Lib.hid (T.out.step hb)
  replace B1 := Lib.hid (B1.out.step hb)
  replace B2 := Lib.hid (B2.out.step hb)
  replace V := Lib.hid (V.out.step hb)
  replace HZV := Lib.hid (HZV.out.step hb)
  clear hb
  go_wp2_with (first | ((with_reducible refine Lk.nw cs V.out.len V.out.one ?_ ?_ ?_ ?_); exact rfl; exact rfl; exact rfl) | ((with_reducible refine Lk.ld (d := 14) W.heap.size B1.out V.out.len ?_ ?_ ?_); exact rfl; exact rfl) | fail)
  intro w4 bN hb
  have LB1_B3 := Lib.hid (show W.heap.size < w3.heap.size from B1.out.lt)
  have LB2_B3 := Lib.hid (show (W.heap.size + 1) < w3.heap.size from B2.out.lt)
  have GV_B3 := Lib.hid (show W.heap.size ≤ w3.heap.size from V.out.le)
  have GHZV_B3 := Lib.hid (show 0 ≤ w3.heap.size from HZV.out.le)
  have GB3 := Lib.hid (show W.heap.size ≤ w3.heap.size from T.out.bel.size)
  replace T := Lib.hid (T.out.step hb)
  replace B1 := Lib.hid (B1.out.step hb)
  replace B2 := Lib.hid (B2.out.step hb)
  replace V := Lib.hid (V.out.step hb)
  replace HZV := Lib.hid (HZV.out.step hb)
  have B3 := Lib.hid (show Lk.Bl w4 w3.heap.size cs 29 from bN)
  clear bN hb
  go_wp2_with (first | ((with_reducible refine Lk.st w3.heap.size 18 [.int .i64 0, .int .i64 0] (.agg #[.int .i64 0, .int .i64 0]) B3.out ?_ ?_ ?_ ?_ ?_ ?_ ?_); exact Lk.infoG; exact rfl; (rw [V.out.len]; exact Nat.le_of_ble_eq_true rfl); (simp [Value.oneCell']); exact rfl; exact rfl) | fail)
  intro w5 bN hb
  replace B1 := Lib.hid (B1.out.under hb LB1_B3.out)
  replace B2 := Lib.hid (B2.out.under hb LB2_B3.out)
  replace T := Lib.hid (T.out.under hb GB3.out)
  replace V := Lib.hid (V.out.under hb GV_B3.out)
  replace HZV := Lib.hid (HZV.out.under hb GHZV_B3.out)
  obtain ⟨cs5, hcs5⟩ : ∃ x : List Value, x = cs.take 18 ++ [.int .i64 0, .int .i64 0] ++ cs.drop (18 + ([.int .i64 0, .int .i64 0] : List Value).length) := ⟨_, rfl⟩
  have V5 := Lib.hid (show Av w5 W.heap.size cs5 a 0 0 from by rw [hcs5]; exact V.out.put 18 [.int .i64 0, .int .i64 0] rfl rfl (fun _ _ _ _ _ _ => rfl))
  replace B3 := Lib.hid (show Lk.Bl w5 w3.heap.size cs5 29 from by rw [hcs5]; exact bN)
  clear bN hb hcs5
  have GV5_B3 := GV_B3
  have cB2_0 := B2.out.c 0 _ rfl
  have cB2_1 := B2.out.c 1 _ rfl
  go_wp2_with (first | ((with_reducible refine Lk.ld (d := 18) W.heap.size B1.out V.out.len ?_ ?_ ?_); exact rfl; exact rfl) | fail)
  clear cB2_0 cB2_1
  refine (KG.out _ _ _ T.out.bel V.out).mono ?_
  rintro e w6 ⟨cx, rfl, hx, hb⟩
  replace T := Lib.hid (T.out.step hb)
  replace B1 := Lib.hid (B1.out.step hb)
  replace B2 := Lib.hid (B2.out.step hb)
  replace B3 := Lib.hid (B3.out.step hb)
  replace V := Lib.hid (V.out.step hb)
  replace HZV := Lib.hid (HZV.out.step hb)
  replace V5 := Lib.hid (V5.out.step hb)
  have Vx := Lib.hid hx
  clear hx
  clear hb
  go_wp2_with (first | ((with_reducible refine Lk.nw cx Vx.out.len Vx.out.one ?_ ?_ ?_ ?_); exact rfl; exact rfl; exact rfl) | fail)
  intro w7 bN hb
  have LB1_B4 := Lib.hid (show W.heap.size < w6.heap.size from B1.out.lt)
  have LB2_B4 := Lib.hid (show (W.heap.size + 1) < w6.heap.size from B2.out.lt)
  have LB3_B4 := Lib.hid (show w3.heap.size < w6.heap.size from B3.out.lt)
  have GV_B4 := Lib.hid (show W.heap.size ≤ w6.heap.size from V.out.le)
  have GHZV_B4 := Lib.hid (show 0 ≤ w6.heap.size from HZV.out.le)
  have GV5_B4 := Lib.hid (show W.heap.size ≤ w6.heap.size from V5.out.le)
  have GVx_B4 := Lib.hid (show w6.heap.size ≤ w6.heap.size from Vx.out.le)
  have GB4 := Lib.hid (show W.heap.size ≤ w6.heap.size from T.out.bel.size)
  replace T := Lib.hid (T.out.step hb)
  replace B1 := Lib.hid (B1.out.step hb)
  replace B2 := Lib.hid (B2.out.step hb)
  replace B3 := Lib.hid (B3.out.step hb)
  replace V := Lib.hid (V.out.step hb)
  replace HZV := Lib.hid (HZV.out.step hb)
  replace V5 := Lib.hid (V5.out.step hb)
  replace Vx := Lib.hid (Vx.out.step hb)
  have B4 := Lib.hid (show Lk.Bl w7 w6.heap.size cx 29 from bN)
  clear bN hb
  have cB2_0 := B2.out.c 0 _ rfl
  have cB2_1 := B2.out.c 1 _ rfl
  go_wp2_with (first | fail)
  clear cB2_0 cB2_1
  refine (KK.out _ T.out.bel).mono ?_
  rintro e w8 ⟨rfl, hb⟩
  replace T := Lib.hid (T.out.step hb)
  replace B1 := Lib.hid (B1.out.step hb)
  replace B2 := Lib.hid (B2.out.step hb)
  replace B3 := Lib.hid (B3.out.step hb)
  replace B4 := Lib.hid (B4.out.step hb)
  replace V := Lib.hid (V.out.step hb)
  replace HZV := Lib.hid (HZV.out.step hb)
  replace V5 := Lib.hid (V5.out.step hb)
  replace Vx := Lib.hid (Vx.out.step hb)
  clear hb
  go_wp2_with (first | ((with_reducible refine Lk.ld (d := 30) w6.heap.size B4.out Vx.out.len ?_ ?_ ?_); exact rfl; exact rfl) | ((with_reducible refine Lk.zr (d := 31) HZC.out ?_ ?_); exact rfl) | fail)
  refine (KS0.out _ _ _ _ _ T.out.bel Vx.out HZV.out).mono ?_
  rintro e w9 ⟨rfl, hb⟩
  replace T := Lib.hid (T.out.step hb)
  replace B1 := Lib.hid (B1.out.step hb)
  replace B2 := Lib.hid (B2.out.step hb)
  replace B3 := Lib.hid (B3.out.step hb)
  replace B4 := Lib.hid (B4.out.step hb)
  replace V := Lib.hid (V.out.step hb)
  replace HZV := Lib.hid (HZV.out.step hb)
  replace V5 := Lib.hid (V5.out.step hb)
  replace Vx := Lib.hid (Vx.out.step hb)
  clear hb
  go_wp2
  go_ret
  exact ⟨rfl, T.out.bel⟩
set_option maxHeartbeats 4000000 in
set_option maxRecDepth 100000 in
theorem signs_bad {keyOk : Int → Int → Bool} {sgn : Int → Int → Str → Int × Int} {ver : Int → Str → Int → Int → Bool} {W : World} (P : Pk keyOk sgn ver W) (hsm : Ok W 9 #[] (.bool true))
    (a : Ac) (e s : Int) (cs : List Value) (k p : Int) (hv0 : Av W W.heap.size cs a e s) (hz : Sz 281474976710656 140737488355328 a) (hk : -9223372036854775808 ≤ k ∧ k ≤ 9223372036854775807) (hp : -9223372036854775808 ≤ p ∧ p ≤ 9223372036854775807)
    (h : fewB a = true) (hkk : keyOk k p = true) (hg : good a = false) :
    Calls Tryz.prog 6 #[.agg cs.toArray, .agg #[.int .i64 k, .int .i64 p]] W fun x w' => x = .returned (.bool true) ∧ Below W.heap.size W w' := by
  have KS := Lib.hid hsm
  have T := Lib.hid (Lk.At.start W)
  obtain ⟨zc, hzc⟩ : ∃ x, x = Lk.zc := ⟨_, rfl⟩
  have HZC := Lib.hid hzc
  have HZV := Lib.hid (show Av W 0 zc ac0 0 0 from hzc ▸ Av.zero W)
  clear hzc
  have V := Lib.hid hv0
  have KFa := fun (w : World) (b0 : Nat) (c0 : List Value) (hb : Below W.heap.size W w) (h0 : Av w b0 c0 a e s) => fewC h0 hz
  rw [h] at KFa
  replace KFa := Lib.hid KFa
  have h6 := few_sz6 h
  have hv00 : valid a 0 0 = good a := by simp [valid, sigOk]
  have KK := P.keyR k p hk hp
  rw [hkk] at KK
  replace KK := Lib.hid KK
  have KG := fun (w : World) (b0 : Nat) (c0 : List Value) (hb : Below W.heap.size W w) (h0 : Av w b0 c0 a e s) => P.signC hk hp hb h0 h6
  rw [show signed keyOk sgn k p a = (ac0, 0, 0) from if_neg (by simp [hg])] at KG
  replace KG := Lib.hid KG
  have KS0 := fun (w : World) (b0 : Nat) (c0 : List Value) (b1 : Nat) (c1 : List Value) (hb : Below W.heap.size W w) (h0 : Av w b0 c0 ac0 0 0) (h1 : Av w b1 c1 ac0 0 0) => P.sameC (r := true) hb h0 h1 sz0 sz0 (by simp)
  replace KS0 := Lib.hid KS0
  have KRb := fun (w : World) (b0 : Nat) (c0 : List Value) (hb : Below W.heap.size W w) (h0 : Av w b0 c0 a 0 0) => P.rightC hb h0 h6
  rw [hv00, hg] at KRb
  replace KRb := Lib.hid KRb
  clear P hsm hv0 hz hk hp h h6 hkk hg hv00
  go_enter Tryz.func6, Tryz.ntmps6
  go_wp2_with (first | fail)
  replace T := Lib.hid (T.out.alloc (.cells cs.toArray 29))
  replace V := Lib.hid (V.out.alloc (.cells cs.toArray 29))
  replace HZV := Lib.hid (HZV.out.alloc (.cells cs.toArray 29))
  have B1 := Lib.hid (show Lk.Bl (W.alloc (.cells cs.toArray 29)) W.heap.size cs 29 from by have h := Lk.Bl.new W cs 29; simpa using h)
  replace T := Lib.hid (T.out.alloc (.cells #[.int .i64 k, .int .i64 p] 31))
  replace B1 := Lib.hid (B1.out.alloc (.cells #[.int .i64 k, .int .i64 p] 31))
  replace V := Lib.hid (V.out.alloc (.cells #[.int .i64 k, .int .i64 p] 31))
  replace HZV := Lib.hid (HZV.out.alloc (.cells #[.int .i64 k, .int .i64 p] 31))
  have B2 := Lib.hid (show Lk.Bl ((W.alloc (.cells cs.toArray 29)).alloc (.cells #[.int .i64 k, .int .i64 p] 31)) (W.heap.size + 1) [.int .i64 k, .int .i64 p] 31 from by have h := Lk.Bl.new (W.alloc (.cells cs.toArray 29)) [.int .i64 k, .int .i64 p] 31; simpa using h)
  generalize (W.alloc (.cells cs.toArray 29)).alloc (.cells #[.int .i64 k, .int .i64 p] 31) = w1 at *
  refine (KS.out _ T.out.bel).mono ?_
  rintro e w2 ⟨rfl, hb⟩
  replace T := Lib.hid (T.out.step hb)
  replace B1 := Lib.hid (B1.out.step hb)
  replace B2 := Lib.hid (B2.out.step hb)
  replace V := Lib.hid (V.out.step hb)
  replace HZV := Lib.hid (HZV.out.step hb)
  clear hb
  go_wp2_with (first | ((with_reducible refine Lk.ld (d := 10) W.heap.size B1.out V.out.len ?_ ?_ ?_); exact rfl; exact rfl) | fail)
  refine (KFa.out _ _ _ T.out.bel V.out).mono ?_
  rintro e w3 ⟨rfl, hb⟩
  replace T := Lib.hid (T.out.step hb)
  replace B1 := Lib.hid (B1.out.step hb)
  replace B2 := Lib.hid (B2.out.step hb)
  replace V := Lib.hid (V.out.step hb)
  replace HZV := Lib.hid (HZV.out.step hb)
  clear hb
  go_wp2_with (first | ((with_reducible refine Lk.nw cs V.out.len V.out.one ?_ ?_ ?_ ?_); exact rfl; exact rfl; exact rfl) | ((with_reducible refine Lk.ld (d := 14) W.heap.size B1.out V.out.len ?_ ?_ ?_); exact rfl; exact rfl) | fail)
  intro w4 bN hb
  have LB1_B3 := Lib.hid (show W.heap.size < w3.heap.size from B1.out.lt)
  have LB2_B3 := Lib.hid (show (W.heap.size + 1) < w3.heap.size from B2.out.lt)
  have GV_B3 := Lib.hid (show W.heap.size ≤ w3.heap.size from V.out.le)
  have GHZV_B3 := Lib.hid (show 0 ≤ w3.heap.size from HZV.out.le)
  have GB3 := Lib.hid (show W.heap.size ≤ w3.heap.size from T.out.bel.size)
  replace T := Lib.hid (T.out.step hb)
  replace B1 := Lib.hid (B1.out.step hb)
  replace B2 := Lib.hid (B2.out.step hb)
  replace V := Lib.hid (V.out.step hb)
  replace HZV := Lib.hid (HZV.out.step hb)
  have B3 := Lib.hid (show Lk.Bl w4 w3.heap.size cs 29 from bN)
  clear bN hb
  go_wp2_with (first | ((with_reducible refine Lk.st w3.heap.size 18 [.int .i64 0, .int .i64 0] (.agg #[.int .i64 0, .int .i64 0]) B3.out ?_ ?_ ?_ ?_ ?_ ?_ ?_); exact Lk.infoG; exact rfl; (rw [V.out.len]; exact Nat.le_of_ble_eq_true rfl); (simp [Value.oneCell']); exact rfl; exact rfl) | fail)
  intro w5 bN hb
  replace B1 := Lib.hid (B1.out.under hb LB1_B3.out)
  replace B2 := Lib.hid (B2.out.under hb LB2_B3.out)
  replace T := Lib.hid (T.out.under hb GB3.out)
  replace V := Lib.hid (V.out.under hb GV_B3.out)
  replace HZV := Lib.hid (HZV.out.under hb GHZV_B3.out)
  obtain ⟨cs5, hcs5⟩ : ∃ x : List Value, x = cs.take 18 ++ [.int .i64 0, .int .i64 0] ++ cs.drop (18 + ([.int .i64 0, .int .i64 0] : List Value).length) := ⟨_, rfl⟩
  have V5 := Lib.hid (show Av w5 W.heap.size cs5 a 0 0 from by rw [hcs5]; exact V.out.put 18 [.int .i64 0, .int .i64 0] rfl rfl (fun _ _ _ _ _ _ => rfl))
  replace B3 := Lib.hid (show Lk.Bl w5 w3.heap.size cs5 29 from by rw [hcs5]; exact bN)
  clear bN hb hcs5
  have GV5_B3 := GV_B3
  have cB2_0 := B2.out.c 0 _ rfl
  have cB2_1 := B2.out.c 1 _ rfl
  go_wp2_with (first | ((with_reducible refine Lk.ld (d := 18) W.heap.size B1.out V.out.len ?_ ?_ ?_); exact rfl; exact rfl) | fail)
  clear cB2_0 cB2_1
  refine (KG.out _ _ _ T.out.bel V.out).mono ?_
  rintro e w6 ⟨cx, rfl, hx, hb⟩
  replace T := Lib.hid (T.out.step hb)
  replace B1 := Lib.hid (B1.out.step hb)
  replace B2 := Lib.hid (B2.out.step hb)
  replace B3 := Lib.hid (B3.out.step hb)
  replace V := Lib.hid (V.out.step hb)
  replace HZV := Lib.hid (HZV.out.step hb)
  replace V5 := Lib.hid (V5.out.step hb)
  have Vx := Lib.hid hx
  clear hx
  clear hb
  go_wp2_with (first | ((with_reducible refine Lk.nw cx Vx.out.len Vx.out.one ?_ ?_ ?_ ?_); exact rfl; exact rfl; exact rfl) | fail)
  intro w7 bN hb
  have LB1_B4 := Lib.hid (show W.heap.size < w6.heap.size from B1.out.lt)
  have LB2_B4 := Lib.hid (show (W.heap.size + 1) < w6.heap.size from B2.out.lt)
  have LB3_B4 := Lib.hid (show w3.heap.size < w6.heap.size from B3.out.lt)
  have GV_B4 := Lib.hid (show W.heap.size ≤ w6.heap.size from V.out.le)
  have GHZV_B4 := Lib.hid (show 0 ≤ w6.heap.size from HZV.out.le)
  have GV5_B4 := Lib.hid (show W.heap.size ≤ w6.heap.size from V5.out.le)
  have GVx_B4 := Lib.hid (show w6.heap.size ≤ w6.heap.size from Vx.out.le)
  have GB4 := Lib.hid (show W.heap.size ≤ w6.heap.size from T.out.bel.size)
  replace T := Lib.hid (T.out.step hb)
  replace B1 := Lib.hid (B1.out.step hb)
  replace B2 := Lib.hid (B2.out.step hb)
  replace B3 := Lib.hid (B3.out.step hb)
  replace V := Lib.hid (V.out.step hb)
  replace HZV := Lib.hid (HZV.out.step hb)
  replace V5 := Lib.hid (V5.out.step hb)
  replace Vx := Lib.hid (Vx.out.step hb)
  have B4 := Lib.hid (show Lk.Bl w7 w6.heap.size cx 29 from bN)
  clear bN hb
  have cB2_0 := B2.out.c 0 _ rfl
  have cB2_1 := B2.out.c 1 _ rfl
  go_wp2_with (first | fail)
  clear cB2_0 cB2_1
  refine (KK.out _ T.out.bel).mono ?_
  rintro e w8 ⟨rfl, hb⟩
  replace T := Lib.hid (T.out.step hb)
  replace B1 := Lib.hid (B1.out.step hb)
  replace B2 := Lib.hid (B2.out.step hb)
  replace B3 := Lib.hid (B3.out.step hb)
  replace B4 := Lib.hid (B4.out.step hb)
  replace V := Lib.hid (V.out.step hb)
  replace HZV := Lib.hid (HZV.out.step hb)
  replace V5 := Lib.hid (V5.out.step hb)
  replace Vx := Lib.hid (Vx.out.step hb)
  clear hb
  go_wp2_with (first | ((with_reducible refine Lk.ld (d := 24) w3.heap.size B3.out V5.out.len ?_ ?_ ?_); exact rfl; exact rfl) | fail)
  refine (KRb.out _ _ _ T.out.bel V5.out).mono ?_
  rintro e w9 ⟨rfl, hb⟩
  replace T := Lib.hid (T.out.step hb)
  replace B1 := Lib.hid (B1.out.step hb)
  replace B2 := Lib.hid (B2.out.step hb)
  replace B3 := Lib.hid (B3.out.step hb)
  replace B4 := Lib.hid (B4.out.step hb)
  replace V := Lib.hid (V.out.step hb)
  replace HZV := Lib.hid (HZV.out.step hb)
  replace V5 := Lib.hid (V5.out.step hb)
  replace Vx := Lib.hid (Vx.out.step hb)
  clear hb
  go_wp2_with (first | ((with_reducible refine Lk.ld (d := 30) w6.heap.size B4.out Vx.out.len ?_ ?_ ?_); exact rfl; exact rfl) | ((with_reducible refine Lk.zr (d := 31) HZC.out ?_ ?_); exact rfl) | fail)
  refine (KS0.out _ _ _ _ _ T.out.bel Vx.out HZV.out).mono ?_
  rintro e w10 ⟨rfl, hb⟩
  replace T := Lib.hid (T.out.step hb)
  replace B1 := Lib.hid (B1.out.step hb)
  replace B2 := Lib.hid (B2.out.step hb)
  replace B3 := Lib.hid (B3.out.step hb)
  replace B4 := Lib.hid (B4.out.step hb)
  replace V := Lib.hid (V.out.step hb)
  replace HZV := Lib.hid (HZV.out.step hb)
  replace V5 := Lib.hid (V5.out.step hb)
  replace Vx := Lib.hid (Vx.out.step hb)
  clear hb
  go_wp2
  go_ret
  exact ⟨rfl, T.out.bel⟩
set_option maxHeartbeats 4000000 in
set_option maxRecDepth 100000 in
theorem signs_good {keyOk : Int → Int → Bool} {sgn : Int → Int → Str → Int × Int} {ver : Int → Str → Int → Int → Bool} {W : World} (P : Pk keyOk sgn ver W) (hsm : Ok W 9 #[] (.bool true))
    (a : Ac) (e s : Int) (cs : List Value) (k p : Int) (hv0 : Av W W.heap.size cs a e s) (hz : Sz 281474976710656 140737488355328 a) (hk : -9223372036854775808 ≤ k ∧ k ≤ 9223372036854775807) (hp : -9223372036854775808 ≤ p ∧ p ≤ 9223372036854775807)
    (h : fewB a = true) (hkk : keyOk k p = true) (hg : good a = true) :
    Calls Tryz.prog 6 #[.agg cs.toArray, .agg #[.int .i64 k, .int .i64 p]] W fun x w' => x = .returned (.bool true) ∧ Below W.heap.size W w' := by
  have KS := Lib.hid hsm
  have T := Lib.hid (Lk.At.start W)
  obtain ⟨zc, hzc⟩ : ∃ x, x = Lk.zc := ⟨_, rfl⟩
  have HZC := Lib.hid hzc
  have HZV := Lib.hid (show Av W 0 zc ac0 0 0 from hzc ▸ Av.zero W)
  clear hzc
  have V := Lib.hid hv0
  have KFa := fun (w : World) (b0 : Nat) (c0 : List Value) (hb : Below W.heap.size W w) (h0 : Av w b0 c0 a e s) => fewC h0 hz
  rw [h] at KFa
  replace KFa := Lib.hid KFa
  have h6 := few_sz6 h
  have hv00 : valid a 0 0 = good a := by simp [valid, sigOk]
  have KK := P.keyR k p hk hp
  rw [hkk] at KK
  replace KK := Lib.hid KK
  have hsg : signed keyOk sgn k p a = (a, sgn k p (coreB a)) := if_pos ⟨hkk, hg⟩
  have hrg := P.sg.range k p (coreB a) hkk
  have hho := P.sg.holds k p (coreB a) hkk
  have KG := fun (w : World) (b0 : Nat) (c0 : List Value) (hb : Below W.heap.size W w) (h0 : Av w b0 c0 a e s) => P.signC hk hp hb h0 h6
  rw [hsg] at KG
  obtain ⟨⟨E, G⟩, hEG⟩ : ∃ x, x = sgn k p (coreB a) := ⟨_, rfl⟩
  rw [← hEG] at hrg hho
  have hvx : valid a E G = true := by simp only [valid, Bool.and_eq_true]; exact ⟨hrg, hg⟩
  have KG2 := fun (w : World) (b0 : Nat) (c0 : List Value) (hb : Below W.heap.size W w) (h0 : Av w b0 c0 a E G) => P.signC hk hp hb h0 h6
  rw [hsg] at KG2
  have KVx := fun (w : World) (b0 : Nat) (c0 : List Value) (hb : Below W.heap.size W w) (h0 : Av w b0 c0 a E G) => P.verifyC hp hb h0 h6
  rw [hvx, Bool.true_and, hho] at KVx
  replace KVx := Lib.hid KVx
  have KRx := fun (w : World) (b0 : Nat) (c0 : List Value) (hb : Below W.heap.size W w) (h0 : Av w b0 c0 a E G) => P.rightC hb h0 h6
  rw [hvx] at KRx
  replace KRx := Lib.hid KRx
  have KCx := fun (w : World) (b0 : Nat) (c0 : List Value) (hb : Below W.heap.size W w) (h0 : Av w b0 c0 a E G) => P.coreC hb h0 h6
  rw [show core a E G = coreB a from if_pos hvx] at KCx
  have KCb := fun (w : World) (b0 : Nat) (c0 : List Value) (hb : Below W.heap.size W w) (h0 : Av w b0 c0 a 0 0) => P.coreC hb h0 h6
  rw [show core a 0 0 = coreB a from if_pos (hv00.trans hg)] at KCb
  have KS1 := fun (w : World) (b0 : Nat) (c0 : List Value) (b1 : Nat) (c1 : List Value) (hb : Below W.heap.size W w) (h0 : Av w b0 c0 a 0 0) (h1 : Av w b1 c1 a 0 0) => P.sameC (r := true) hb h0 h1 h6 h6 (by simp)
  replace KS1 := Lib.hid KS1
  have KS2 := fun (w : World) (b0 : Nat) (c0 : List Value) (b1 : Nat) (c1 : List Value) (hb : Below W.heap.size W w) (h0 : Av w b0 c0 a E G) (h1 : Av w b1 c1 a E G) => P.sameC (r := true) hb h0 h1 h6 h6 (by simp)
  replace KS2 := Lib.hid KS2
  have KRb := fun (w : World) (b0 : Nat) (c0 : List Value) (hb : Below W.heap.size W w) (h0 : Av w b0 c0 a 0 0) => P.rightC hb h0 h6
  rw [hv00, hg] at KRb
  replace KRb := Lib.hid KRb
  rw [← hEG] at KG KG2
  obtain ⟨ca, hca⟩ : ∃ x, x = coreB a := ⟨_, rfl⟩
  rw [← hca] at KCx KCb
  replace KG := Lib.hid KG
  replace KG2 := Lib.hid KG2
  replace KCx := Lib.hid KCx
  replace KCb := Lib.hid KCb
  clear P hsm hv0 hz hk hp h h6 hkk hg hv00 hsg hrg hho hvx hEG hca
  go_enter Tryz.func6, Tryz.ntmps6
  go_wp2_with (first | fail)
  replace T := Lib.hid (T.out.alloc (.cells cs.toArray 29))
  replace V := Lib.hid (V.out.alloc (.cells cs.toArray 29))
  replace HZV := Lib.hid (HZV.out.alloc (.cells cs.toArray 29))
  have B1 := Lib.hid (show Lk.Bl (W.alloc (.cells cs.toArray 29)) W.heap.size cs 29 from by have h := Lk.Bl.new W cs 29; simpa using h)
  replace T := Lib.hid (T.out.alloc (.cells #[.int .i64 k, .int .i64 p] 31))
  replace B1 := Lib.hid (B1.out.alloc (.cells #[.int .i64 k, .int .i64 p] 31))
  replace V := Lib.hid (V.out.alloc (.cells #[.int .i64 k, .int .i64 p] 31))
  replace HZV := Lib.hid (HZV.out.alloc (.cells #[.int .i64 k, .int .i64 p] 31))
  have B2 := Lib.hid (show Lk.Bl ((W.alloc (.cells cs.toArray 29)).alloc (.cells #[.int .i64 k, .int .i64 p] 31)) (W.heap.size + 1) [.int .i64 k, .int .i64 p] 31 from by have h := Lk.Bl.new (W.alloc (.cells cs.toArray 29)) [.int .i64 k, .int .i64 p] 31; simpa using h)
  generalize (W.alloc (.cells cs.toArray 29)).alloc (.cells #[.int .i64 k, .int .i64 p] 31) = w1 at *
  refine (KS.out _ T.out.bel).mono ?_
  rintro e w2 ⟨rfl, hb⟩
  replace T := Lib.hid (T.out.step hb)
  replace B1 := Lib.hid (B1.out.step hb)
  replace B2 := Lib.hid (B2.out.step hb)
  replace V := Lib.hid (V.out.step hb)
  replace HZV := Lib.hid (HZV.out.step hb)
  clear hb
  go_wp2_with (first | ((with_reducible refine Lk.ld (d := 10) W.heap.size B1.out V.out.len ?_ ?_ ?_); exact rfl; exact rfl) | fail)
  refine (KFa.out _ _ _ T.out.bel V.out).mono ?_
  rintro e w3 ⟨rfl, hb⟩
  replace T := Lib.hid (T.out.step hb)
  replace B1 := Lib.hid (B1.out.step hb)
  replace B2 := Lib.hid (B2.out.step hb)
  replace V := Lib.hid (V.out.step hb)
  replace HZV := Lib.hid (HZV.out.step hb)
  clear hb
  go_wp2_with (first | ((with_reducible refine Lk.nw cs V.out.len V.out.one ?_ ?_ ?_ ?_); exact rfl; exact rfl; exact rfl) | ((with_reducible refine Lk.ld (d := 14) W.heap.size B1.out V.out.len ?_ ?_ ?_); exact rfl; exact rfl) | fail)
  intro w4 bN hb
  have LB1_B3 := Lib.hid (show W.heap.size < w3.heap.size from B1.out.lt)
  have LB2_B3 := Lib.hid (show (W.heap.size + 1) < w3.heap.size from B2.out.lt)
  have GV_B3 := Lib.hid (show W.heap.size ≤ w3.heap.size from V.out.le)
  have GHZV_B3 := Lib.hid (show 0 ≤ w3.heap.size from HZV.out.le)
  have GB3 := Lib.hid (show W.heap.size ≤ w3.heap.size from T.out.bel.size)
  replace T := Lib.hid (T.out.step hb)
  replace B1 := Lib.hid (B1.out.step hb)
  replace B2 := Lib.hid (B2.out.step hb)
  replace V := Lib.hid (V.out.step hb)
  replace HZV := Lib.hid (HZV.out.step hb)
  have B3 := Lib.hid (show Lk.Bl w4 w3.heap.size cs 29 from bN)
  clear bN hb
  go_wp2_with (first | ((with_reducible refine Lk.st w3.heap.size 18 [.int .i64 0, .int .i64 0] (.agg #[.int .i64 0, .int .i64 0]) B3.out ?_ ?_ ?_ ?_ ?_ ?_ ?_); exact Lk.infoG; exact rfl; (rw [V.out.len]; exact Nat.le_of_ble_eq_true rfl); (simp [Value.oneCell']); exact rfl; exact rfl) | fail)
  intro w5 bN hb
  replace B1 := Lib.hid (B1.out.under hb LB1_B3.out)
  replace B2 := Lib.hid (B2.out.under hb LB2_B3.out)
  replace T := Lib.hid (T.out.under hb GB3.out)
  replace V := Lib.hid (V.out.under hb GV_B3.out)
  replace HZV := Lib.hid (HZV.out.under hb GHZV_B3.out)
  obtain ⟨cs5, hcs5⟩ : ∃ x : List Value, x = cs.take 18 ++ [.int .i64 0, .int .i64 0] ++ cs.drop (18 + ([.int .i64 0, .int .i64 0] : List Value).length) := ⟨_, rfl⟩
  have V5 := Lib.hid (show Av w5 W.heap.size cs5 a 0 0 from by rw [hcs5]; exact V.out.put 18 [.int .i64 0, .int .i64 0] rfl rfl (fun _ _ _ _ _ _ => rfl))
  replace B3 := Lib.hid (show Lk.Bl w5 w3.heap.size cs5 29 from by rw [hcs5]; exact bN)
  clear bN hb hcs5
  have GV5_B3 := GV_B3
  have cB2_0 := B2.out.c 0 _ rfl
  have cB2_1 := B2.out.c 1 _ rfl
  go_wp2_with (first | ((with_reducible refine Lk.ld (d := 18) W.heap.size B1.out V.out.len ?_ ?_ ?_); exact rfl; exact rfl) | fail)
  clear cB2_0 cB2_1
  refine (KG.out _ _ _ T.out.bel V.out).mono ?_
  rintro e w6 ⟨cx, rfl, hx, hb⟩
  replace T := Lib.hid (T.out.step hb)
  replace B1 := Lib.hid (B1.out.step hb)
  replace B2 := Lib.hid (B2.out.step hb)
  replace B3 := Lib.hid (B3.out.step hb)
  replace V := Lib.hid (V.out.step hb)
  replace HZV := Lib.hid (HZV.out.step hb)
  replace V5 := Lib.hid (V5.out.step hb)
  have Vx := Lib.hid hx
  clear hx
  clear hb
  go_wp2_with (first | ((with_reducible refine Lk.nw cx Vx.out.len Vx.out.one ?_ ?_ ?_ ?_); exact rfl; exact rfl; exact rfl) | fail)
  intro w7 bN hb
  have LB1_B4 := Lib.hid (show W.heap.size < w6.heap.size from B1.out.lt)
  have LB2_B4 := Lib.hid (show (W.heap.size + 1) < w6.heap.size from B2.out.lt)
  have LB3_B4 := Lib.hid (show w3.heap.size < w6.heap.size from B3.out.lt)
  have GV_B4 := Lib.hid (show W.heap.size ≤ w6.heap.size from V.out.le)
  have GHZV_B4 := Lib.hid (show 0 ≤ w6.heap.size from HZV.out.le)
  have GV5_B4 := Lib.hid (show W.heap.size ≤ w6.heap.size from V5.out.le)
  have GVx_B4 := Lib.hid (show w6.heap.size ≤ w6.heap.size from Vx.out.le)
  have GB4 := Lib.hid (show W.heap.size ≤ w6.heap.size from T.out.bel.size)
  replace T := Lib.hid (T.out.step hb)
  replace B1 := Lib.hid (B1.out.step hb)
  replace B2 := Lib.hid (B2.out.step hb)
  replace B3 := Lib.hid (B3.out.step hb)
  replace V := Lib.hid (V.out.step hb)
  replace HZV := Lib.hid (HZV.out.step hb)
  replace V5 := Lib.hid (V5.out.step hb)
  replace Vx := Lib.hid (Vx.out.step hb)
  have B4 := Lib.hid (show Lk.Bl w7 w6.heap.size cx 29 from bN)
  clear bN hb
  have cB2_0 := B2.out.c 0 _ rfl
  have cB2_1 := B2.out.c 1 _ rfl
  go_wp2_with (first | fail)
  clear cB2_0 cB2_1
  refine (KK.out _ T.out.bel).mono ?_
  rintro e w8 ⟨rfl, hb⟩
  replace T := Lib.hid (T.out.step hb)
  replace B1 := Lib.hid (B1.out.step hb)
  replace B2 := Lib.hid (B2.out.step hb)
  replace B3 := Lib.hid (B3.out.step hb)
  replace B4 := Lib.hid (B4.out.step hb)
  replace V := Lib.hid (V.out.step hb)
  replace HZV := Lib.hid (HZV.out.step hb)
  replace V5 := Lib.hid (V5.out.step hb)
  replace Vx := Lib.hid (Vx.out.step hb)
  clear hb
  go_wp2_with (first | ((with_reducible refine Lk.ld (d := 24) w3.heap.size B3.out V5.out.len ?_ ?_ ?_); exact rfl; exact rfl) | fail)
  refine (KRb.out _ _ _ T.out.bel V5.out).mono ?_
  rintro e w9 ⟨rfl, hb⟩
  replace T := Lib.hid (T.out.step hb)
  replace B1 := Lib.hid (B1.out.step hb)
  replace B2 := Lib.hid (B2.out.step hb)
  replace B3 := Lib.hid (B3.out.step hb)
  replace B4 := Lib.hid (B4.out.step hb)
  replace V := Lib.hid (V.out.step hb)
  replace HZV := Lib.hid (HZV.out.step hb)
  replace V5 := Lib.hid (V5.out.step hb)
  replace Vx := Lib.hid (Vx.out.step hb)
  clear hb
  go_wp2_with (first | ((with_reducible refine Lk.nw cx Vx.out.len Vx.out.one ?_ ?_ ?_ ?_); exact rfl; exact rfl; exact rfl) | ((with_reducible refine Lk.ld (d := 34) w6.heap.size B4.out Vx.out.len ?_ ?_ ?_); exact rfl; exact rfl) | fail)
  intro w10 bN hb
  have LB1_B5 := Lib.hid (show W.heap.size < w9.heap.size from B1.out.lt)
  have LB2_B5 := Lib.hid (show (W.heap.size + 1) < w9.heap.size from B2.out.lt)
  have LB3_B5 := Lib.hid (show w3.heap.size < w9.heap.size from B3.out.lt)
  have LB4_B5 := Lib.hid (show w6.heap.size < w9.heap.size from B4.out.lt)
  have GV_B5 := Lib.hid (show W.heap.size ≤ w9.heap.size from V.out.le)
  have GHZV_B5 := Lib.hid (show 0 ≤ w9.heap.size from HZV.out.le)
  have GV5_B5 := Lib.hid (show W.heap.size ≤ w9.heap.size from V5.out.le)
  have GVx_B5 := Lib.hid (show w6.heap.size ≤ w9.heap.size from Vx.out.le)
  have GB5 := Lib.hid (show W.heap.size ≤ w9.heap.size from T.out.bel.size)
  replace T := Lib.hid (T.out.step hb)
  replace B1 := Lib.hid (B1.out.step hb)
  replace B2 := Lib.hid (B2.out.step hb)
  replace B3 := Lib.hid (B3.out.step hb)
  replace B4 := Lib.hid (B4.out.step hb)
  replace V := Lib.hid (V.out.step hb)
  replace HZV := Lib.hid (HZV.out.step hb)
  replace V5 := Lib.hid (V5.out.step hb)
  replace Vx := Lib.hid (Vx.out.step hb)
  have B5 := Lib.hid (show Lk.Bl w10 w9.heap.size cx 29 from bN)
  clear bN hb
  go_wp2_with (first | ((with_reducible refine Lk.st w9.heap.size 18 [.int .i64 0, .int .i64 0] (.agg #[.int .i64 0, .int .i64 0]) B5.out ?_ ?_ ?_ ?_ ?_ ?_ ?_); exact Lk.infoG; exact rfl; (rw [Vx.out.len]; exact Nat.le_of_ble_eq_true rfl); (simp [Value.oneCell']); exact rfl; exact rfl) | fail)
  intro w11 bN hb
  replace B1 := Lib.hid (B1.out.under hb LB1_B5.out)
  replace B2 := Lib.hid (B2.out.under hb LB2_B5.out)
  replace B3 := Lib.hid (B3.out.under hb LB3_B5.out)
  replace B4 := Lib.hid (B4.out.under hb LB4_B5.out)
  replace T := Lib.hid (T.out.under hb GB5.out)
  replace V := Lib.hid (V.out.under hb GV_B5.out)
  replace HZV := Lib.hid (HZV.out.under hb GHZV_B5.out)
  replace V5 := Lib.hid (V5.out.under hb GV5_B5.out)
  replace Vx := Lib.hid (Vx.out.under hb GVx_B5.out)
  obtain ⟨cs11, hcs11⟩ : ∃ x : List Value, x = cx.take 18 ++ [.int .i64 0, .int .i64 0] ++ cx.drop (18 + ([.int .i64 0, .int .i64 0] : List Value).length) := ⟨_, rfl⟩
  have V11 := Lib.hid (show Av w11 w6.heap.size cs11 a 0 0 from by rw [hcs11]; exact Vx.out.put 18 [.int .i64 0, .int .i64 0] rfl rfl (fun _ _ _ _ _ _ => rfl))
  replace B5 := Lib.hid (show Lk.Bl w11 w9.heap.size cs11 29 from by rw [hcs11]; exact bN)
  clear bN hb hcs11
  have GV11_B4 := GVx_B4
  have GV11_B5 := GVx_B5
  go_wp2_with (first | fail)
  replace T := Lib.hid (T.out.drew)
  replace B1 := Lib.hid (B1.out.drew)
  replace B2 := Lib.hid (B2.out.drew)
  replace B3 := Lib.hid (B3.out.drew)
  replace B4 := Lib.hid (B4.out.drew)
  replace B5 := Lib.hid (B5.out.drew)
  replace V := Lib.hid (V.out.drew)
  replace HZV := Lib.hid (HZV.out.drew)
  replace V5 := Lib.hid (V5.out.drew)
  replace Vx := Lib.hid (Vx.out.drew)
  replace V11 := Lib.hid (V11.out.drew)
  refine wp_region_held_drew (S := (fun w' => Lk.Bl w' w6.heap.size cx 29 ∧ Lk.Bl w' w9.heap.size cs11 29 ∧ Lk.Bl w' w3.heap.size cs5 29 ∧ w'.cell? ⟨(W.heap.size + 1), 1, none⟩ = some (.int .i64 p) ∧ w'.cell? ⟨(W.heap.size + 1), 0, none⟩ = some (.int .i64 k))) (by kernel_rfl) ⟨B4.out, B5.out, B3.out, (B2.out.c 1 _ rfl), (B2.out.c 0 _ rfl)⟩ (fun hHeld => ?_)
  refine wpAnyH_take (i := 0) (oi := ⟨_, _, _, _, _, _⟩) (v := ?_) rfl (by kernel_rfl) (by kernel_rfl) (by kernel_rfl) (fun _ _ _ h => h) (Or.inl ⟨by rfl, ?_⟩) (by assumption) ?_
  rotate_left
  · intro wz hSw
    try dsimp only at hSw
    go_simp
    try with_reducible rfl
  try simp only [Act.put, List.setIfInBounds_toArray, List.set_cons_zero, List.set_cons_succ]
  refine wpAnyH_take (i := 1) (oi := ⟨_, _, _, _, _, _⟩) (v := ?_) rfl (by kernel_rfl) (by kernel_rfl) (by kernel_rfl) (fun _ _ _ h => h) (Or.inl ⟨by rfl, ?_⟩) (by assumption) ?_
  rotate_left
  · intro wz hSw
    try dsimp only at hSw
    go_simp
    try with_reducible rfl
  try simp only [Act.put, List.setIfInBounds_toArray, List.set_cons_zero, List.set_cons_succ]
  refine wpAnyH_take (i := 2) (oi := ⟨_, _, _, _, _, _⟩) (v := ?_) rfl (by kernel_rfl) (by kernel_rfl) (by kernel_rfl) (fun _ _ _ h => h) (Or.inl ⟨by rfl, ?_⟩) (by assumption) ?_
  rotate_left
  · intro wz hSw
    try dsimp only at hSw
    go_simp
    try with_reducible rfl
  try simp only [Act.put, List.setIfInBounds_toArray, List.set_cons_zero, List.set_cons_succ]
  refine wpAnyH_take (i := 3) (oi := ⟨_, _, _, _, _, _⟩) (v := ?_) rfl (by kernel_rfl) (by kernel_rfl) (by kernel_rfl) (fun _ _ _ h => h) (Or.inl ⟨by rfl, ?_⟩) (by assumption) ?_
  rotate_left
  · intro wz hSw
    try dsimp only at hSw
    go_simp
    try with_reducible rfl
  try simp only [Act.put, List.setIfInBounds_toArray, List.set_cons_zero, List.set_cons_succ]
  refine wpAnyH_take (i := 4) (oi := ⟨_, _, _, _, _, _⟩) (v := .agg cx.toArray) rfl (by kernel_rfl) (by kernel_rfl) (by kernel_rfl) (fun _ _ _ h => h) (Or.inl ⟨by rfl, fun wz hSw => Lk.act_run _ rfl _ rfl hSw.1 Vx.out.len⟩) (by assumption) ?_
  try simp only [Act.put, List.setIfInBounds_toArray, List.set_cons_zero, List.set_cons_succ]
  refine wpAnyH_ready (rs := [5]) (by kernel_rfl) (by simp) ?_
  refine AllReadyH.cons (o := ⟨_, _, _, _, _, _⟩) rfl (fun K hK => ?_) AllReadyH.nil
  go_simp
  refine (KVx.out _ _ _ T.out.bel Vx.out).mono ?_
  rintro e w12 ⟨rfl, hb⟩
  replace T := Lib.hid (T.out.step hb)
  replace B1 := Lib.hid (B1.out.step hb)
  replace B2 := Lib.hid (B2.out.step hb)
  replace B3 := Lib.hid (B3.out.step hb)
  replace B4 := Lib.hid (B4.out.step hb)
  replace B5 := Lib.hid (B5.out.step hb)
  replace V := Lib.hid (V.out.step hb)
  replace HZV := Lib.hid (HZV.out.step hb)
  replace V5 := Lib.hid (V5.out.step hb)
  replace Vx := Lib.hid (Vx.out.step hb)
  replace V11 := Lib.hid (V11.out.step hb)
  clear hb hHeld
  refine hK.out _ _ ⟨B4.out, B5.out, B3.out, (B2.out.c 1 _ rfl), (B2.out.c 0 _ rfl)⟩ (fun hHeld => ?_)
  clear hK K
  try simp only [Act.put, List.setIfInBounds_toArray, List.set_cons_zero, List.set_cons_succ]
  refine wpAnyH_take (i := 6) (oi := ⟨_, _, _, _, _, _⟩) (v := ?_) rfl (by kernel_rfl) (by kernel_rfl) (by kernel_rfl) (fun _ _ _ h => h) (Or.inl ⟨by rfl, ?_⟩) (by assumption) ?_
  rotate_left
  · intro wz hSw
    try dsimp only at hSw
    go_simp
    try with_reducible rfl
  try simp only [Act.put, List.setIfInBounds_toArray, List.set_cons_zero, List.set_cons_succ]
  refine wpAnyH_take (i := 7) (oi := ⟨_, _, _, _, _, _⟩) (v := ?_) rfl (by kernel_rfl) (by kernel_rfl) (by kernel_rfl) (fun _ _ _ h => h) (Or.inl ⟨by rfl, ?_⟩) (by assumption) ?_
  rotate_left
  · intro wz hSw
    try dsimp only at hSw
    go_simp
    try with_reducible rfl
  try simp only [Act.put, List.setIfInBounds_toArray, List.set_cons_zero, List.set_cons_succ]
  refine wpAnyH_take (i := 8) (oi := ⟨_, _, _, _, _, _⟩) (v := .agg cx.toArray) rfl (by kernel_rfl) (by kernel_rfl) (by kernel_rfl) (fun _ _ _ h => h) (Or.inl ⟨by rfl, fun wz hSw => Lk.act_run _ rfl _ rfl hSw.1 Vx.out.len⟩) (by assumption) ?_
  try simp only [Act.put, List.setIfInBounds_toArray, List.set_cons_zero, List.set_cons_succ]
  refine wpAnyH_ready (rs := [9]) (by kernel_rfl) (by simp) ?_
  refine AllReadyH.cons (o := ⟨_, _, _, _, _, _⟩) rfl (fun K hK => ?_) AllReadyH.nil
  go_simp
  refine (KRx.out _ _ _ T.out.bel Vx.out).mono ?_
  rintro e w13 ⟨rfl, hb⟩
  replace T := Lib.hid (T.out.step hb)
  replace B1 := Lib.hid (B1.out.step hb)
  replace B2 := Lib.hid (B2.out.step hb)
  replace B3 := Lib.hid (B3.out.step hb)
  replace B4 := Lib.hid (B4.out.step hb)
  replace B5 := Lib.hid (B5.out.step hb)
  replace V := Lib.hid (V.out.step hb)
  replace HZV := Lib.hid (HZV.out.step hb)
  replace V5 := Lib.hid (V5.out.step hb)
  replace Vx := Lib.hid (Vx.out.step hb)
  replace V11 := Lib.hid (V11.out.step hb)
  clear hb hHeld
  refine hK.out _ _ ⟨B4.out, B5.out, B3.out, (B2.out.c 1 _ rfl), (B2.out.c 0 _ rfl)⟩ (fun hHeld => ?_)
  clear hK K
  try simp only [Act.put, List.setIfInBounds_toArray, List.set_cons_zero, List.set_cons_succ]
  refine wpAnyH_take (i := 10) (oi := ⟨_, _, _, _, _, _⟩) (v := ?_) rfl (by kernel_rfl) (by kernel_rfl) (by kernel_rfl) (fun _ _ _ h => h) (Or.inl ⟨by rfl, ?_⟩) (by assumption) ?_
  rotate_left
  · intro wz hSw
    try dsimp only at hSw
    go_simp
    try with_reducible rfl
  try simp only [Act.put, List.setIfInBounds_toArray, List.set_cons_zero, List.set_cons_succ]
  refine wpAnyH_take (i := 11) (oi := ⟨_, _, _, _, _, _⟩) (v := ?_) rfl (by kernel_rfl) (by kernel_rfl) (by kernel_rfl) (fun _ _ _ h => h) (Or.inl ⟨by rfl, ?_⟩) (by assumption) ?_
  rotate_left
  · intro wz hSw
    try dsimp only at hSw
    go_simp
    try with_reducible rfl
  try simp only [Act.put, List.setIfInBounds_toArray, List.set_cons_zero, List.set_cons_succ]
  refine wpAnyH_take (i := 12) (oi := ⟨_, _, _, _, _, _⟩) (v := .agg cs11.toArray) rfl (by kernel_rfl) (by kernel_rfl) (by kernel_rfl) (fun _ _ _ h => h) (Or.inl ⟨by rfl, fun wz hSw => Lk.act_run _ rfl _ rfl hSw.2.1 V11.out.len⟩) (by assumption) ?_
  try simp only [Act.put, List.setIfInBounds_toArray, List.set_cons_zero, List.set_cons_succ]
  refine wpAnyH_take (i := 13) (oi := ⟨_, _, _, _, _, _⟩) (v := .agg cs5.toArray) rfl (by kernel_rfl) (by kernel_rfl) (by kernel_rfl) (fun _ _ _ h => h) (Or.inl ⟨by rfl, fun wz hSw => Lk.act_run _ rfl _ rfl hSw.2.2.1 V5.out.len⟩) (by assumption) ?_
  try simp only [Act.put, List.setIfInBounds_toArray, List.set_cons_zero, List.set_cons_succ]
  refine wpAnyH_ready (rs := [14]) (by kernel_rfl) (by simp) ?_
  refine AllReadyH.cons (o := ⟨_, _, _, _, _, _⟩) rfl (fun K hK => ?_) AllReadyH.nil
  go_simp
  refine (KS1.out _ _ _ _ _ T.out.bel V11.out V5.out).mono ?_
  rintro e w14 ⟨rfl, hb⟩
  replace T := Lib.hid (T.out.step hb)
  replace B1 := Lib.hid (B1.out.step hb)
  replace B2 := Lib.hid (B2.out.step hb)
  replace B3 := Lib.hid (B3.out.step hb)
  replace B4 := Lib.hid (B4.out.step hb)
  replace B5 := Lib.hid (B5.out.step hb)
  replace V := Lib.hid (V.out.step hb)
  replace HZV := Lib.hid (HZV.out.step hb)
  replace V5 := Lib.hid (V5.out.step hb)
  replace Vx := Lib.hid (Vx.out.step hb)
  replace V11 := Lib.hid (V11.out.step hb)
  clear hb hHeld
  refine hK.out _ _ ⟨B4.out, B5.out, B3.out, (B2.out.c 1 _ rfl), (B2.out.c 0 _ rfl)⟩ (fun hHeld => ?_)
  clear hK K
  try simp only [Act.put, List.setIfInBounds_toArray, List.set_cons_zero, List.set_cons_succ]
  refine wpAnyH_take (i := 15) (oi := ⟨_, _, _, _, _, _⟩) (v := ?_) rfl (by kernel_rfl) (by kernel_rfl) (by kernel_rfl) (fun _ _ _ h => h) (Or.inl ⟨by rfl, ?_⟩) (by assumption) ?_
  rotate_left
  · intro wz hSw
    try dsimp only at hSw
    go_simp
    try with_reducible rfl
  try simp only [Act.put, List.setIfInBounds_toArray, List.set_cons_zero, List.set_cons_succ]
  refine wpAnyH_take (i := 16) (oi := ⟨_, _, _, _, _, _⟩) (v := ?_) rfl (by kernel_rfl) (by kernel_rfl) (by kernel_rfl) (fun _ _ _ h => h) (Or.inl ⟨by rfl, ?_⟩) (by assumption) ?_
  rotate_left
  · intro wz hSw
    try dsimp only at hSw
    go_simp
    try with_reducible rfl
  try simp only [Act.put, List.setIfInBounds_toArray, List.set_cons_zero, List.set_cons_succ]
  refine wpAnyH_take (i := 17) (oi := ⟨_, _, _, _, _, _⟩) (v := ?_) rfl (by kernel_rfl) (by kernel_rfl) (by kernel_rfl) (fun _ _ _ h => h) (Or.inl ⟨by rfl, ?_⟩) (by assumption) ?_
  rotate_left
  · intro wz hSw
    try dsimp only at hSw
    go_simp
    try with_reducible rfl
  try simp only [Act.put, List.setIfInBounds_toArray, List.set_cons_zero, List.set_cons_succ]
  refine wpAnyH_take (i := 18) (oi := ⟨_, _, _, _, _, _⟩) (v := .agg cx.toArray) rfl (by kernel_rfl) (by kernel_rfl) (by kernel_rfl) (fun _ _ _ h => h) (Or.inl ⟨by rfl, fun wz hSw => Lk.act_run _ rfl _ rfl hSw.1 Vx.out.len⟩) (by assumption) ?_
  try simp only [Act.put, List.setIfInBounds_toArray, List.set_cons_zero, List.set_cons_succ]
  refine wpAnyH_take (i := 20) (oi := ⟨_, _, _, _, _, _⟩) (v := .agg cx.toArray) rfl (by kernel_rfl) (by kernel_rfl) (by kernel_rfl) (fun _ _ _ h => h) (Or.inl ⟨by rfl, fun wz hSw => Lk.act_run _ rfl _ rfl hSw.1 Vx.out.len⟩) (by assumption) ?_
  try simp only [Act.put, List.setIfInBounds_toArray, List.set_cons_zero, List.set_cons_succ]
  refine wpAnyH_ready (rs := [19]) (by kernel_rfl) (by simp) ?_
  refine AllReadyH.cons (o := ⟨_, _, _, _, _, _⟩) rfl (fun K hK => ?_) AllReadyH.nil
  go_simp
  refine (KG2.out _ _ _ T.out.bel Vx.out).mono ?_
  rintro e w15 ⟨cz, rfl, hx, hb⟩
  replace T := Lib.hid (T.out.step hb)
  replace B1 := Lib.hid (B1.out.step hb)
  replace B2 := Lib.hid (B2.out.step hb)
  replace B3 := Lib.hid (B3.out.step hb)
  replace B4 := Lib.hid (B4.out.step hb)
  replace B5 := Lib.hid (B5.out.step hb)
  replace V := Lib.hid (V.out.step hb)
  replace HZV := Lib.hid (HZV.out.step hb)
  replace V5 := Lib.hid (V5.out.step hb)
  replace Vx := Lib.hid (Vx.out.step hb)
  replace V11 := Lib.hid (V11.out.step hb)
  have Vz := Lib.hid hx
  clear hx
  clear hb hHeld
  refine hK.out _ _ ⟨B4.out, B5.out, B3.out, (B2.out.c 1 _ rfl), (B2.out.c 0 _ rfl)⟩ (fun hHeld => ?_)
  clear hK K
  try simp only [Act.put, List.setIfInBounds_toArray, List.set_cons_zero, List.set_cons_succ]
  refine wpAnyH_ready (rs := [21]) (by kernel_rfl) (by simp) ?_
  refine AllReadyH.cons (o := ⟨_, _, _, _, _, _⟩) rfl (fun K hK => ?_) AllReadyH.nil
  go_simp
  refine (KS2.out _ _ _ _ _ T.out.bel Vz.out Vx.out).mono ?_
  rintro e w16 ⟨rfl, hb⟩
  replace T := Lib.hid (T.out.step hb)
  replace B1 := Lib.hid (B1.out.step hb)
  replace B2 := Lib.hid (B2.out.step hb)
  replace B3 := Lib.hid (B3.out.step hb)
  replace B4 := Lib.hid (B4.out.step hb)
  replace B5 := Lib.hid (B5.out.step hb)
  replace V := Lib.hid (V.out.step hb)
  replace HZV := Lib.hid (HZV.out.step hb)
  replace V5 := Lib.hid (V5.out.step hb)
  replace Vx := Lib.hid (Vx.out.step hb)
  replace V11 := Lib.hid (V11.out.step hb)
  replace Vz := Lib.hid (Vz.out.step hb)
  clear hb hHeld
  refine hK.out _ _ ⟨B4.out, B5.out, B3.out, (B2.out.c 1 _ rfl), (B2.out.c 0 _ rfl)⟩ (fun hHeld => ?_)
  clear hK K
  try simp only [Act.put, List.setIfInBounds_toArray, List.set_cons_zero, List.set_cons_succ]
  refine wpAnyH_take (i := 22) (oi := ⟨_, _, _, _, _, _⟩) (v := ?_) rfl (by kernel_rfl) (by kernel_rfl) (by kernel_rfl) (fun _ _ _ h => h) (Or.inl ⟨by rfl, ?_⟩) (by assumption) ?_
  rotate_left
  · intro wz hSw
    try dsimp only at hSw
    go_simp
    try with_reducible rfl
  try simp only [Act.put, List.setIfInBounds_toArray, List.set_cons_zero, List.set_cons_succ]
  refine wpAnyH_take (i := 23) (oi := ⟨_, _, _, _, _, _⟩) (v := ?_) rfl (by kernel_rfl) (by kernel_rfl) (by kernel_rfl) (fun _ _ _ h => h) (Or.inl ⟨by rfl, ?_⟩) (by assumption) ?_
  rotate_left
  · intro wz hSw
    try dsimp only at hSw
    go_simp
    try with_reducible rfl
  try simp only [Act.put, List.setIfInBounds_toArray, List.set_cons_zero, List.set_cons_succ]
  refine wpAnyH_take (i := 24) (oi := ⟨_, _, _, _, _, _⟩) (v := .agg cx.toArray) rfl (by kernel_rfl) (by kernel_rfl) (by kernel_rfl) (fun _ _ _ h => h) (Or.inl ⟨by rfl, fun wz hSw => Lk.act_run _ rfl _ rfl hSw.1 Vx.out.len⟩) (by assumption) ?_
  try simp only [Act.put, List.setIfInBounds_toArray, List.set_cons_zero, List.set_cons_succ]
  refine wpAnyH_take (i := 26) (oi := ⟨_, _, _, _, _, _⟩) (v := .agg cs5.toArray) rfl (by kernel_rfl) (by kernel_rfl) (by kernel_rfl) (fun _ _ _ h => h) (Or.inl ⟨by rfl, fun wz hSw => Lk.act_run _ rfl _ rfl hSw.2.2.1 V5.out.len⟩) (by assumption) ?_
  try simp only [Act.put, List.setIfInBounds_toArray, List.set_cons_zero, List.set_cons_succ]
  refine wpAnyH_ready (rs := [25]) (by kernel_rfl) (by simp) ?_
  refine AllReadyH.cons (o := ⟨_, _, _, _, _, _⟩) rfl (fun K hK => ?_) AllReadyH.nil
  go_simp
  refine (KCx.out _ _ _ T.out.bel Vx.out).mono ?_
  rintro e w17 ⟨rfl, hb⟩
  replace T := Lib.hid (T.out.step hb)
  replace B1 := Lib.hid (B1.out.step hb)
  replace B2 := Lib.hid (B2.out.step hb)
  replace B3 := Lib.hid (B3.out.step hb)
  replace B4 := Lib.hid (B4.out.step hb)
  replace B5 := Lib.hid (B5.out.step hb)
  replace V := Lib.hid (V.out.step hb)
  replace HZV := Lib.hid (HZV.out.step hb)
  replace V5 := Lib.hid (V5.out.step hb)
  replace Vx := Lib.hid (Vx.out.step hb)
  replace V11 := Lib.hid (V11.out.step hb)
  replace Vz := Lib.hid (Vz.out.step hb)
  clear hb hHeld
  refine hK.out _ _ ⟨B4.out, B5.out, B3.out, (B2.out.c 1 _ rfl), (B2.out.c 0 _ rfl)⟩ (fun hHeld => ?_)
  clear hK K
  try simp only [Act.put, List.setIfInBounds_toArray, List.set_cons_zero, List.set_cons_succ]
  refine wpAnyH_ready (rs := [27]) (by kernel_rfl) (by simp) ?_
  refine AllReadyH.cons (o := ⟨_, _, _, _, _, _⟩) rfl (fun K hK => ?_) AllReadyH.nil
  go_simp
  refine (KCb.out _ _ _ T.out.bel V5.out).mono ?_
  rintro e w18 ⟨rfl, hb⟩
  replace T := Lib.hid (T.out.step hb)
  replace B1 := Lib.hid (B1.out.step hb)
  replace B2 := Lib.hid (B2.out.step hb)
  replace B3 := Lib.hid (B3.out.step hb)
  replace B4 := Lib.hid (B4.out.step hb)
  replace B5 := Lib.hid (B5.out.step hb)
  replace V := Lib.hid (V.out.step hb)
  replace HZV := Lib.hid (HZV.out.step hb)
  replace V5 := Lib.hid (V5.out.step hb)
  replace Vx := Lib.hid (Vx.out.step hb)
  replace V11 := Lib.hid (V11.out.step hb)
  replace Vz := Lib.hid (Vz.out.step hb)
  clear hb hHeld
  refine hK.out _ _ ⟨B4.out, B5.out, B3.out, (B2.out.c 1 _ rfl), (B2.out.c 0 _ rfl)⟩ (fun hHeld => ?_)
  clear hK K
  try simp only [Act.put, List.setIfInBounds_toArray, List.set_cons_zero, List.set_cons_succ]
  refine wpAnyH_take (i := 28) (oi := ⟨_, _, _, _, _, _⟩) (v := ?_) rfl (by kernel_rfl) (by kernel_rfl) (by kernel_rfl) (fun _ _ _ h => h) (Or.inl ⟨by rfl, ?_⟩) (by assumption) ?_
  rotate_left
  · intro wz hSw
    try dsimp only at hSw
    go_simp
    try with_reducible rfl
  try simp only [Act.put, List.setIfInBounds_toArray, List.set_cons_zero, List.set_cons_succ]
  refine wpAnyH_take (i := 29) (oi := ⟨_, _, _, _, _, _⟩) (v := ?_) rfl (by kernel_rfl) (by kernel_rfl) (by kernel_rfl) (fun _ _ _ h => h) (Or.inl ⟨by rfl, ?_⟩) (by assumption) ?_
  rotate_left
  · intro wz hSw
    try dsimp only at hSw
    go_simp
    try with_reducible rfl
  try simp only [Act.put, List.setIfInBounds_toArray, List.set_cons_zero, List.set_cons_succ]
  refine wpAnyH_take (i := 30) (oi := ⟨_, _, _, _, _, _⟩) (v := ?_) rfl (by kernel_rfl) (by kernel_rfl) (by kernel_rfl) (fun _ _ _ h => h) (Or.inl ⟨by rfl, ?_⟩) (by assumption) ?_
  rotate_left
  · intro wz hSw
    try dsimp only at hSw
    go_simp
    try with_reducible rfl
  try simp only [Act.put, List.setIfInBounds_toArray, List.set_cons_zero, List.set_cons_succ]
  refine wpAnyH_done (by kernel_rfl) ?_ _
  clear hHeld
  go_wp2
  go_ret
  exact ⟨rfl, T.out.bel⟩
theorem signs_walk {keyOk : Int → Int → Bool} {sgn : Int → Int → Str → Int × Int} {ver : Int → Str → Int → Int → Bool} {W : World} (P : Pk keyOk sgn ver W) (hsm : Ok W 9 #[] (.bool true))
    (a : Ac) (e s : Int) (A : Option Addr) (nA cA : Nat) (Q : Option Addr) (nQ cQ : Nat) (k p : Int) (hp : Ap W W.heap.size a A nA cA Q nQ cQ) (hz : Sz 281474976710656 140737488355328 a) (hk : -9223372036854775808 ≤ k ∧ k ≤ 9223372036854775807) (hq : -9223372036854775808 ≤ p ∧ p ≤ 9223372036854775807) :
    Calls Tryz.prog 6 #[vA a e s A nA cA Q nQ cQ, .agg #[.int .i64 k, .int .i64 p]] W fun x w' => x = .returned (.bool true) ∧ Below W.heap.size W w' := by
  have hv0 : Av W W.heap.size (cellsA a e s A nA cA Q nQ cQ) a e s := Av.arg hp
  rw [vA_eq]
  cases h : fewB a with
  | false => exact signs_e1 P hsm a e s _ k p hv0 hz hk hq h
  | true =>
    cases hkk : keyOk k p with
    | false => exact signs_key P hsm a e s _ k p hv0 hz hk hq h hkk
    | true =>
      cases hg : good a with
      | false => exact signs_bad P hsm a e s _ k p hv0 hz hk hq h hkk hg
      | true => exact signs_good P hsm a e s _ k p hv0 hz hk hq h hkk hg
end Ax
end Go.Proofs.YtojbicpchjiplaaGreatDoor
