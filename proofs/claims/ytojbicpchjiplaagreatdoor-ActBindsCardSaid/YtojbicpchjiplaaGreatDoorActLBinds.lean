/-
  Layer 12: ActBinds' walk, against the package's contracts.
-/
import Derived.Test.YtojbicpchjiplaaGreatDoorActPv
namespace Go.Proofs.YtojbicpchjiplaaGreatDoor
open Go.RowKit
namespace Ax
open S11.Idt (Str isId isName ids)
attribute [local go_sem] S2.B_size S2.B_list S2.B_app S2.B_take litE lit120
set_option maxHeartbeats 4000000 in
set_option maxRecDepth 100000 in
theorem binds_e1 {keyOk : Int → Int → Bool} {sgn : Int → Int → Str → Int × Int} {ver : Int → Str → Int → Int → Bool} {W : World} (_P : Pk keyOk sgn ver W) (hsm : Ok W 9 #[] (.bool true))
    (a b : Ac) (e s e' s' : Int) (cs ds : List Value) (p : Int) (hv0 : Av W W.heap.size cs a e s) (hv1 : Av W W.heap.size ds b e' s') (hz : Sz 281474976710656 140737488355328 a) (_hz1 : Sz 281474976710656 140737488355328 b)
    (h : fewB a = false) :
    Calls Tryz.prog 5 #[.agg cs.toArray, .agg ds.toArray, .int .i64 p] W fun x w' => x = .returned (.bool true) ∧ Below W.heap.size W w' := by
  have KS := Lib.hid hsm
  have T := Lib.hid (Lk.At.start W)
  obtain ⟨zc, hzc⟩ : ∃ x, x = Lk.zc := ⟨_, rfl⟩
  have HZC := Lib.hid hzc
  have HZV := Lib.hid (show Av W 0 zc ac0 0 0 from hzc ▸ Av.zero W)
  clear hzc
  have V := Lib.hid hv0
  have U := Lib.hid hv1
  have KFa := fun (w : World) (b0 : Nat) (c0 : List Value) (hb : Below W.heap.size W w) (h0 : Av w b0 c0 a e s) => fewC h0 hz
  rw [h] at KFa
  replace KFa := Lib.hid KFa
  clear hsm hv0 hv1 hz _hz1 h
  go_enter Tryz.func5, Tryz.ntmps5
  go_wp2_with (first | fail)
  replace T := Lib.hid (T.out.alloc (.cells cs.toArray 29))
  replace V := Lib.hid (V.out.alloc (.cells cs.toArray 29))
  replace U := Lib.hid (U.out.alloc (.cells cs.toArray 29))
  replace HZV := Lib.hid (HZV.out.alloc (.cells cs.toArray 29))
  have B1 := Lib.hid (show Lk.Bl (W.alloc (.cells cs.toArray 29)) W.heap.size cs 29 from by have h := Lk.Bl.new W cs 29; simpa using h)
  replace T := Lib.hid (T.out.alloc (.cells ds.toArray 29))
  replace B1 := Lib.hid (B1.out.alloc (.cells ds.toArray 29))
  replace V := Lib.hid (V.out.alloc (.cells ds.toArray 29))
  replace U := Lib.hid (U.out.alloc (.cells ds.toArray 29))
  replace HZV := Lib.hid (HZV.out.alloc (.cells ds.toArray 29))
  have B2 := Lib.hid (show Lk.Bl ((W.alloc (.cells cs.toArray 29)).alloc (.cells ds.toArray 29)) (W.heap.size + 1) ds 29 from by have h := Lk.Bl.new (W.alloc (.cells cs.toArray 29)) ds 29; simpa using h)
  generalize (W.alloc (.cells cs.toArray 29)).alloc (.cells ds.toArray 29) = w1 at *
  refine (KS.out _ T.out.bel).mono ?_
  rintro e w2 ⟨rfl, hb⟩
  replace T := Lib.hid (T.out.step hb)
  replace B1 := Lib.hid (B1.out.step hb)
  replace B2 := Lib.hid (B2.out.step hb)
  replace V := Lib.hid (V.out.step hb)
  replace U := Lib.hid (U.out.step hb)
  replace HZV := Lib.hid (HZV.out.step hb)
  clear hb
  go_wp2_with (first | ((with_reducible refine Lk.ld (d := 12) W.heap.size B1.out V.out.len ?_ ?_ ?_); exact rfl; exact rfl) | fail)
  refine (KFa.out _ _ _ T.out.bel V.out).mono ?_
  rintro e w3 ⟨rfl, hb⟩
  replace T := Lib.hid (T.out.step hb)
  replace B1 := Lib.hid (B1.out.step hb)
  replace B2 := Lib.hid (B2.out.step hb)
  replace V := Lib.hid (V.out.step hb)
  replace U := Lib.hid (U.out.step hb)
  replace HZV := Lib.hid (HZV.out.step hb)
  clear hb
  go_wp2
  go_ret
  exact ⟨rfl, T.out.bel⟩
set_option maxHeartbeats 4000000 in
set_option maxRecDepth 100000 in
theorem binds_e2 {keyOk : Int → Int → Bool} {sgn : Int → Int → Str → Int × Int} {ver : Int → Str → Int → Int → Bool} {W : World} (_P : Pk keyOk sgn ver W) (hsm : Ok W 9 #[] (.bool true))
    (a b : Ac) (e s e' s' : Int) (cs ds : List Value) (p : Int) (hv0 : Av W W.heap.size cs a e s) (hv1 : Av W W.heap.size ds b e' s') (hz : Sz 281474976710656 140737488355328 a) (hz1 : Sz 281474976710656 140737488355328 b)
    (h : fewB a = true) (h2 : fewB b = false) :
    Calls Tryz.prog 5 #[.agg cs.toArray, .agg ds.toArray, .int .i64 p] W fun x w' => x = .returned (.bool true) ∧ Below W.heap.size W w' := by
  have KS := Lib.hid hsm
  have T := Lib.hid (Lk.At.start W)
  obtain ⟨zc, hzc⟩ : ∃ x, x = Lk.zc := ⟨_, rfl⟩
  have HZC := Lib.hid hzc
  have HZV := Lib.hid (show Av W 0 zc ac0 0 0 from hzc ▸ Av.zero W)
  clear hzc
  have V := Lib.hid hv0
  have U := Lib.hid hv1
  have KFa := fun (w : World) (b0 : Nat) (c0 : List Value) (hb : Below W.heap.size W w) (h0 : Av w b0 c0 a e s) => fewC h0 hz
  rw [h] at KFa
  replace KFa := Lib.hid KFa
  have KFb := fun (w : World) (b0 : Nat) (c0 : List Value) (hb : Below W.heap.size W w) (h0 : Av w b0 c0 b e' s') => fewC h0 hz1
  rw [h2] at KFb
  replace KFb := Lib.hid KFb
  clear hsm hv0 hv1 hz hz1 h h2
  go_enter Tryz.func5, Tryz.ntmps5
  go_wp2_with (first | fail)
  replace T := Lib.hid (T.out.alloc (.cells cs.toArray 29))
  replace V := Lib.hid (V.out.alloc (.cells cs.toArray 29))
  replace U := Lib.hid (U.out.alloc (.cells cs.toArray 29))
  replace HZV := Lib.hid (HZV.out.alloc (.cells cs.toArray 29))
  have B1 := Lib.hid (show Lk.Bl (W.alloc (.cells cs.toArray 29)) W.heap.size cs 29 from by have h := Lk.Bl.new W cs 29; simpa using h)
  replace T := Lib.hid (T.out.alloc (.cells ds.toArray 29))
  replace B1 := Lib.hid (B1.out.alloc (.cells ds.toArray 29))
  replace V := Lib.hid (V.out.alloc (.cells ds.toArray 29))
  replace U := Lib.hid (U.out.alloc (.cells ds.toArray 29))
  replace HZV := Lib.hid (HZV.out.alloc (.cells ds.toArray 29))
  have B2 := Lib.hid (show Lk.Bl ((W.alloc (.cells cs.toArray 29)).alloc (.cells ds.toArray 29)) (W.heap.size + 1) ds 29 from by have h := Lk.Bl.new (W.alloc (.cells cs.toArray 29)) ds 29; simpa using h)
  generalize (W.alloc (.cells cs.toArray 29)).alloc (.cells ds.toArray 29) = w1 at *
  refine (KS.out _ T.out.bel).mono ?_
  rintro e w2 ⟨rfl, hb⟩
  replace T := Lib.hid (T.out.step hb)
  replace B1 := Lib.hid (B1.out.step hb)
  replace B2 := Lib.hid (B2.out.step hb)
  replace V := Lib.hid (V.out.step hb)
  replace U := Lib.hid (U.out.step hb)
  replace HZV := Lib.hid (HZV.out.step hb)
  clear hb
  go_wp2_with (first | ((with_reducible refine Lk.ld (d := 12) W.heap.size B1.out V.out.len ?_ ?_ ?_); exact rfl; exact rfl) | fail)
  refine (KFa.out _ _ _ T.out.bel V.out).mono ?_
  rintro e w3 ⟨rfl, hb⟩
  replace T := Lib.hid (T.out.step hb)
  replace B1 := Lib.hid (B1.out.step hb)
  replace B2 := Lib.hid (B2.out.step hb)
  replace V := Lib.hid (V.out.step hb)
  replace U := Lib.hid (U.out.step hb)
  replace HZV := Lib.hid (HZV.out.step hb)
  clear hb
  go_wp2_with (first | ((with_reducible refine Lk.ld (d := 16) (W.heap.size + 1) B2.out U.out.len ?_ ?_ ?_); exact rfl; exact rfl) | fail)
  refine (KFb.out _ _ _ T.out.bel U.out).mono ?_
  rintro e w4 ⟨rfl, hb⟩
  replace T := Lib.hid (T.out.step hb)
  replace B1 := Lib.hid (B1.out.step hb)
  replace B2 := Lib.hid (B2.out.step hb)
  replace V := Lib.hid (V.out.step hb)
  replace U := Lib.hid (U.out.step hb)
  replace HZV := Lib.hid (HZV.out.step hb)
  clear hb
  go_wp2
  go_ret
  exact ⟨rfl, T.out.bel⟩
set_option maxHeartbeats 4000000 in
set_option maxRecDepth 100000 in
theorem binds_e3 {keyOk : Int → Int → Bool} {sgn : Int → Int → Str → Int × Int} {ver : Int → Str → Int → Int → Bool} {W : World} (P : Pk keyOk sgn ver W) (hsm : Ok W 9 #[] (.bool true))
    (a b : Ac) (e s e' s' : Int) (cs ds : List Value) (p : Int) (hv0 : Av W W.heap.size cs a e s) (hv1 : Av W W.heap.size ds b e' s') (hz : Sz 281474976710656 140737488355328 a) (hz1 : Sz 281474976710656 140737488355328 b)
    (h : fewB a = true) (h2 : fewB b = true) (h3 : valid a e s = false) :
    Calls Tryz.prog 5 #[.agg cs.toArray, .agg ds.toArray, .int .i64 p] W fun x w' => x = .returned (.bool true) ∧ Below W.heap.size W w' := by
  have KS := Lib.hid hsm
  have T := Lib.hid (Lk.At.start W)
  obtain ⟨zc, hzc⟩ : ∃ x, x = Lk.zc := ⟨_, rfl⟩
  have HZC := Lib.hid hzc
  have HZV := Lib.hid (show Av W 0 zc ac0 0 0 from hzc ▸ Av.zero W)
  clear hzc
  have V := Lib.hid hv0
  have U := Lib.hid hv1
  have KFa := fun (w : World) (b0 : Nat) (c0 : List Value) (hb : Below W.heap.size W w) (h0 : Av w b0 c0 a e s) => fewC h0 hz
  rw [h] at KFa
  replace KFa := Lib.hid KFa
  have KFb := fun (w : World) (b0 : Nat) (c0 : List Value) (hb : Below W.heap.size W w) (h0 : Av w b0 c0 b e' s') => fewC h0 hz1
  rw [h2] at KFb
  replace KFb := Lib.hid KFb
  have KRa := fun (w : World) (b0 : Nat) (c0 : List Value) (hb : Below W.heap.size W w) (h0 : Av w b0 c0 a e s) => P.rightC hb h0 (few_sz6 h)
  rw [h3] at KRa
  replace KRa := Lib.hid KRa
  clear P hsm hv0 hv1 hz hz1 h h2 h3
  go_enter Tryz.func5, Tryz.ntmps5
  go_wp2_with (first | fail)
  replace T := Lib.hid (T.out.alloc (.cells cs.toArray 29))
  replace V := Lib.hid (V.out.alloc (.cells cs.toArray 29))
  replace U := Lib.hid (U.out.alloc (.cells cs.toArray 29))
  replace HZV := Lib.hid (HZV.out.alloc (.cells cs.toArray 29))
  have B1 := Lib.hid (show Lk.Bl (W.alloc (.cells cs.toArray 29)) W.heap.size cs 29 from by have h := Lk.Bl.new W cs 29; simpa using h)
  replace T := Lib.hid (T.out.alloc (.cells ds.toArray 29))
  replace B1 := Lib.hid (B1.out.alloc (.cells ds.toArray 29))
  replace V := Lib.hid (V.out.alloc (.cells ds.toArray 29))
  replace U := Lib.hid (U.out.alloc (.cells ds.toArray 29))
  replace HZV := Lib.hid (HZV.out.alloc (.cells ds.toArray 29))
  have B2 := Lib.hid (show Lk.Bl ((W.alloc (.cells cs.toArray 29)).alloc (.cells ds.toArray 29)) (W.heap.size + 1) ds 29 from by have h := Lk.Bl.new (W.alloc (.cells cs.toArray 29)) ds 29; simpa using h)
  generalize (W.alloc (.cells cs.toArray 29)).alloc (.cells ds.toArray 29) = w1 at *
  refine (KS.out _ T.out.bel).mono ?_
  rintro e w2 ⟨rfl, hb⟩
  replace T := Lib.hid (T.out.step hb)
  replace B1 := Lib.hid (B1.out.step hb)
  replace B2 := Lib.hid (B2.out.step hb)
  replace V := Lib.hid (V.out.step hb)
  replace U := Lib.hid (U.out.step hb)
  replace HZV := Lib.hid (HZV.out.step hb)
  clear hb
  go_wp2_with (first | ((with_reducible refine Lk.ld (d := 12) W.heap.size B1.out V.out.len ?_ ?_ ?_); exact rfl; exact rfl) | fail)
  refine (KFa.out _ _ _ T.out.bel V.out).mono ?_
  rintro e w3 ⟨rfl, hb⟩
  replace T := Lib.hid (T.out.step hb)
  replace B1 := Lib.hid (B1.out.step hb)
  replace B2 := Lib.hid (B2.out.step hb)
  replace V := Lib.hid (V.out.step hb)
  replace U := Lib.hid (U.out.step hb)
  replace HZV := Lib.hid (HZV.out.step hb)
  clear hb
  go_wp2_with (first | ((with_reducible refine Lk.ld (d := 16) (W.heap.size + 1) B2.out U.out.len ?_ ?_ ?_); exact rfl; exact rfl) | fail)
  refine (KFb.out _ _ _ T.out.bel U.out).mono ?_
  rintro e w4 ⟨rfl, hb⟩
  replace T := Lib.hid (T.out.step hb)
  replace B1 := Lib.hid (B1.out.step hb)
  replace B2 := Lib.hid (B2.out.step hb)
  replace V := Lib.hid (V.out.step hb)
  replace U := Lib.hid (U.out.step hb)
  replace HZV := Lib.hid (HZV.out.step hb)
  clear hb
  go_wp2_with (first | ((with_reducible refine Lk.ld (d := 21) W.heap.size B1.out V.out.len ?_ ?_ ?_); exact rfl; exact rfl) | fail)
  refine (KRa.out _ _ _ T.out.bel V.out).mono ?_
  rintro e w5 ⟨rfl, hb⟩
  replace T := Lib.hid (T.out.step hb)
  replace B1 := Lib.hid (B1.out.step hb)
  replace B2 := Lib.hid (B2.out.step hb)
  replace V := Lib.hid (V.out.step hb)
  replace U := Lib.hid (U.out.step hb)
  replace HZV := Lib.hid (HZV.out.step hb)
  clear hb
  go_wp2
  go_ret
  exact ⟨rfl, T.out.bel⟩
set_option maxHeartbeats 4000000 in
set_option maxRecDepth 100000 in
theorem binds_e4 {keyOk : Int → Int → Bool} {sgn : Int → Int → Str → Int × Int} {ver : Int → Str → Int → Int → Bool} {W : World} (P : Pk keyOk sgn ver W) (hsm : Ok W 9 #[] (.bool true))
    (a b : Ac) (e s e' s' : Int) (cs ds : List Value) (p : Int) (hv0 : Av W W.heap.size cs a e s) (hv1 : Av W W.heap.size ds b e' s') (hz : Sz 281474976710656 140737488355328 a) (hz1 : Sz 281474976710656 140737488355328 b)
    (h : fewB a = true) (h2 : fewB b = true) (h3 : valid a e s = true) (h4 : valid b e' s' = false) :
    Calls Tryz.prog 5 #[.agg cs.toArray, .agg ds.toArray, .int .i64 p] W fun x w' => x = .returned (.bool true) ∧ Below W.heap.size W w' := by
  have KS := Lib.hid hsm
  have T := Lib.hid (Lk.At.start W)
  obtain ⟨zc, hzc⟩ : ∃ x, x = Lk.zc := ⟨_, rfl⟩
  have HZC := Lib.hid hzc
  have HZV := Lib.hid (show Av W 0 zc ac0 0 0 from hzc ▸ Av.zero W)
  clear hzc
  have V := Lib.hid hv0
  have U := Lib.hid hv1
  have KFa := fun (w : World) (b0 : Nat) (c0 : List Value) (hb : Below W.heap.size W w) (h0 : Av w b0 c0 a e s) => fewC h0 hz
  rw [h] at KFa
  replace KFa := Lib.hid KFa
  have KFb := fun (w : World) (b0 : Nat) (c0 : List Value) (hb : Below W.heap.size W w) (h0 : Av w b0 c0 b e' s') => fewC h0 hz1
  rw [h2] at KFb
  replace KFb := Lib.hid KFb
  have KRa := fun (w : World) (b0 : Nat) (c0 : List Value) (hb : Below W.heap.size W w) (h0 : Av w b0 c0 a e s) => P.rightC hb h0 (few_sz6 h)
  rw [h3] at KRa
  replace KRa := Lib.hid KRa
  have KRb := fun (w : World) (b0 : Nat) (c0 : List Value) (hb : Below W.heap.size W w) (h0 : Av w b0 c0 b e' s') => P.rightC hb h0 (few_sz6 h2)
  rw [h4] at KRb
  replace KRb := Lib.hid KRb
  clear P hsm hv0 hv1 hz hz1 h h2 h3 h4
  go_enter Tryz.func5, Tryz.ntmps5
  go_wp2_with (first | fail)
  replace T := Lib.hid (T.out.alloc (.cells cs.toArray 29))
  replace V := Lib.hid (V.out.alloc (.cells cs.toArray 29))
  replace U := Lib.hid (U.out.alloc (.cells cs.toArray 29))
  replace HZV := Lib.hid (HZV.out.alloc (.cells cs.toArray 29))
  have B1 := Lib.hid (show Lk.Bl (W.alloc (.cells cs.toArray 29)) W.heap.size cs 29 from by have h := Lk.Bl.new W cs 29; simpa using h)
  replace T := Lib.hid (T.out.alloc (.cells ds.toArray 29))
  replace B1 := Lib.hid (B1.out.alloc (.cells ds.toArray 29))
  replace V := Lib.hid (V.out.alloc (.cells ds.toArray 29))
  replace U := Lib.hid (U.out.alloc (.cells ds.toArray 29))
  replace HZV := Lib.hid (HZV.out.alloc (.cells ds.toArray 29))
  have B2 := Lib.hid (show Lk.Bl ((W.alloc (.cells cs.toArray 29)).alloc (.cells ds.toArray 29)) (W.heap.size + 1) ds 29 from by have h := Lk.Bl.new (W.alloc (.cells cs.toArray 29)) ds 29; simpa using h)
  generalize (W.alloc (.cells cs.toArray 29)).alloc (.cells ds.toArray 29) = w1 at *
  refine (KS.out _ T.out.bel).mono ?_
  rintro e w2 ⟨rfl, hb⟩
  replace T := Lib.hid (T.out.step hb)
  replace B1 := Lib.hid (B1.out.step hb)
  replace B2 := Lib.hid (B2.out.step hb)
  replace V := Lib.hid (V.out.step hb)
  replace U := Lib.hid (U.out.step hb)
  replace HZV := Lib.hid (HZV.out.step hb)
  clear hb
  go_wp2_with (first | ((with_reducible refine Lk.ld (d := 12) W.heap.size B1.out V.out.len ?_ ?_ ?_); exact rfl; exact rfl) | fail)
  refine (KFa.out _ _ _ T.out.bel V.out).mono ?_
  rintro e w3 ⟨rfl, hb⟩
  replace T := Lib.hid (T.out.step hb)
  replace B1 := Lib.hid (B1.out.step hb)
  replace B2 := Lib.hid (B2.out.step hb)
  replace V := Lib.hid (V.out.step hb)
  replace U := Lib.hid (U.out.step hb)
  replace HZV := Lib.hid (HZV.out.step hb)
  clear hb
  go_wp2_with (first | ((with_reducible refine Lk.ld (d := 16) (W.heap.size + 1) B2.out U.out.len ?_ ?_ ?_); exact rfl; exact rfl) | fail)
  refine (KFb.out _ _ _ T.out.bel U.out).mono ?_
  rintro e w4 ⟨rfl, hb⟩
  replace T := Lib.hid (T.out.step hb)
  replace B1 := Lib.hid (B1.out.step hb)
  replace B2 := Lib.hid (B2.out.step hb)
  replace V := Lib.hid (V.out.step hb)
  replace U := Lib.hid (U.out.step hb)
  replace HZV := Lib.hid (HZV.out.step hb)
  clear hb
  go_wp2_with (first | ((with_reducible refine Lk.ld (d := 21) W.heap.size B1.out V.out.len ?_ ?_ ?_); exact rfl; exact rfl) | fail)
  refine (KRa.out _ _ _ T.out.bel V.out).mono ?_
  rintro e w5 ⟨rfl, hb⟩
  replace T := Lib.hid (T.out.step hb)
  replace B1 := Lib.hid (B1.out.step hb)
  replace B2 := Lib.hid (B2.out.step hb)
  replace V := Lib.hid (V.out.step hb)
  replace U := Lib.hid (U.out.step hb)
  replace HZV := Lib.hid (HZV.out.step hb)
  clear hb
  go_wp2_with (first | ((with_reducible refine Lk.ld (d := 26) (W.heap.size + 1) B2.out U.out.len ?_ ?_ ?_); exact rfl; exact rfl) | fail)
  refine (KRb.out _ _ _ T.out.bel U.out).mono ?_
  rintro e w6 ⟨rfl, hb⟩
  replace T := Lib.hid (T.out.step hb)
  replace B1 := Lib.hid (B1.out.step hb)
  replace B2 := Lib.hid (B2.out.step hb)
  replace V := Lib.hid (V.out.step hb)
  replace U := Lib.hid (U.out.step hb)
  replace HZV := Lib.hid (HZV.out.step hb)
  clear hb
  go_wp2
  go_ret
  exact ⟨rfl, T.out.bel⟩
set_option maxHeartbeats 4000000 in
set_option maxRecDepth 100000 in
theorem binds_same {keyOk : Int → Int → Bool} {sgn : Int → Int → Str → Int × Int} {ver : Int → Str → Int → Int → Bool} {W : World} (P : Pk keyOk sgn ver W) (hsm : Ok W 9 #[] (.bool true))
    (a : Ac) (e s : Int) (cs ds : List Value) (p : Int) (hv0 : Av W W.heap.size cs a e s) (hv1 : Av W W.heap.size ds a e s) (hz : Sz 281474976710656 140737488355328 a) (hp : -9223372036854775808 ≤ p ∧ p ≤ 9223372036854775807)
    (h : fewB a = true) (h3 : valid a e s = true) :
    Calls Tryz.prog 5 #[.agg cs.toArray, .agg ds.toArray, .int .i64 p] W fun x w' => x = .returned (.bool true) ∧ Below W.heap.size W w' := by
  have KS := Lib.hid hsm
  have T := Lib.hid (Lk.At.start W)
  obtain ⟨zc, hzc⟩ : ∃ x, x = Lk.zc := ⟨_, rfl⟩
  have HZC := Lib.hid hzc
  have HZV := Lib.hid (show Av W 0 zc ac0 0 0 from hzc ▸ Av.zero W)
  clear hzc
  have V := Lib.hid hv0
  have U := Lib.hid hv1
  have KFa := fun (w : World) (b0 : Nat) (c0 : List Value) (hb : Below W.heap.size W w) (h0 : Av w b0 c0 a e s) => fewC h0 hz
  rw [h] at KFa
  replace KFa := Lib.hid KFa
  have KFb := fun (w : World) (b0 : Nat) (c0 : List Value) (hb : Below W.heap.size W w) (h0 : Av w b0 c0 a e s) => fewC h0 hz
  rw [h] at KFb
  replace KFb := Lib.hid KFb
  have KRa := fun (w : World) (b0 : Nat) (c0 : List Value) (hb : Below W.heap.size W w) (h0 : Av w b0 c0 a e s) => P.rightC hb h0 (few_sz6 h)
  rw [h3] at KRa
  replace KRa := Lib.hid KRa
  have KRb := fun (w : World) (b0 : Nat) (c0 : List Value) (hb : Below W.heap.size W w) (h0 : Av w b0 c0 a e s) => P.rightC hb h0 (few_sz6 h)
  rw [h3] at KRb
  replace KRb := Lib.hid KRb
  have h6 := few_sz6 h
  have hl := core_le (lim_of (valid_good h3))
  have KBa := fun (w : World) (b0 : Nat) (c0 : List Value) (hb : Below W.heap.size W w) (h0 : Av w b0 c0 a e s) => P.bytesC hb h0 h6
  rw [show bytes a e s = bytesB a e s from if_pos h3] at KBa
  have KCa := fun (w : World) (b0 : Nat) (c0 : List Value) (hb : Below W.heap.size W w) (h0 : Av w b0 c0 a e s) => P.coreC hb h0 h6
  rw [show core a e s = coreB a from if_pos h3] at KCa
  have KVa := fun (w : World) (b0 : Nat) (c0 : List Value) (hb : Below W.heap.size W w) (h0 : Av w b0 c0 a e s) => P.verifyC hp hb h0 h6
  rw [h3, Bool.true_and] at KVa
  have hsg : sigOk e s = true := by simp only [valid, Bool.and_eq_true] at h3; exact h3.1
  have KSV := P.verR p (coreB a) e s hp (by omega) hsg
  have KS1 := fun (w : World) (b0 : Nat) (c0 : List Value) (b1 : Nat) (c1 : List Value) (hb : Below W.heap.size W w) (h0 : Av w b0 c0 a e s) (h1 : Av w b1 c1 a e s) => P.sameC (r := true) hb h0 h1 h6 h6 (by simp)
  replace KS1 := Lib.hid KS1
  obtain ⟨ca, hca⟩ : ∃ x, x = coreB a := ⟨_, rfl⟩
  obtain ⟨va, hva⟩ : ∃ x, x = ver p (coreB a) e s := ⟨_, rfl⟩
  rw [← hva] at KVa KSV
  obtain ⟨ba, hba⟩ : ∃ x, x = bytesB a e s := ⟨_, rfl⟩
  rw [← hba] at KBa
  rw [← hca] at KCa KSV
  replace KBa := Lib.hid KBa
  replace KCa := Lib.hid KCa
  replace KVa := Lib.hid KVa
  replace KSV := Lib.hid KSV
  clear P hsm hv0 hv1 hz hp h h3 h6 hl hsg hca hva hba
  go_enter Tryz.func5, Tryz.ntmps5
  go_wp2_with (first | fail)
  replace T := Lib.hid (T.out.alloc (.cells cs.toArray 29))
  replace V := Lib.hid (V.out.alloc (.cells cs.toArray 29))
  replace U := Lib.hid (U.out.alloc (.cells cs.toArray 29))
  replace HZV := Lib.hid (HZV.out.alloc (.cells cs.toArray 29))
  have B1 := Lib.hid (show Lk.Bl (W.alloc (.cells cs.toArray 29)) W.heap.size cs 29 from by have h := Lk.Bl.new W cs 29; simpa using h)
  replace T := Lib.hid (T.out.alloc (.cells ds.toArray 29))
  replace B1 := Lib.hid (B1.out.alloc (.cells ds.toArray 29))
  replace V := Lib.hid (V.out.alloc (.cells ds.toArray 29))
  replace U := Lib.hid (U.out.alloc (.cells ds.toArray 29))
  replace HZV := Lib.hid (HZV.out.alloc (.cells ds.toArray 29))
  have B2 := Lib.hid (show Lk.Bl ((W.alloc (.cells cs.toArray 29)).alloc (.cells ds.toArray 29)) (W.heap.size + 1) ds 29 from by have h := Lk.Bl.new (W.alloc (.cells cs.toArray 29)) ds 29; simpa using h)
  generalize (W.alloc (.cells cs.toArray 29)).alloc (.cells ds.toArray 29) = w1 at *
  refine (KS.out _ T.out.bel).mono ?_
  rintro e w2 ⟨rfl, hb⟩
  replace T := Lib.hid (T.out.step hb)
  replace B1 := Lib.hid (B1.out.step hb)
  replace B2 := Lib.hid (B2.out.step hb)
  replace V := Lib.hid (V.out.step hb)
  replace U := Lib.hid (U.out.step hb)
  replace HZV := Lib.hid (HZV.out.step hb)
  clear hb
  go_wp2_with (first | ((with_reducible refine Lk.ld (d := 12) W.heap.size B1.out V.out.len ?_ ?_ ?_); exact rfl; exact rfl) | fail)
  refine (KFa.out _ _ _ T.out.bel V.out).mono ?_
  rintro e w3 ⟨rfl, hb⟩
  replace T := Lib.hid (T.out.step hb)
  replace B1 := Lib.hid (B1.out.step hb)
  replace B2 := Lib.hid (B2.out.step hb)
  replace V := Lib.hid (V.out.step hb)
  replace U := Lib.hid (U.out.step hb)
  replace HZV := Lib.hid (HZV.out.step hb)
  clear hb
  go_wp2_with (first | ((with_reducible refine Lk.ld (d := 16) (W.heap.size + 1) B2.out U.out.len ?_ ?_ ?_); exact rfl; exact rfl) | fail)
  refine (KFb.out _ _ _ T.out.bel U.out).mono ?_
  rintro e w4 ⟨rfl, hb⟩
  replace T := Lib.hid (T.out.step hb)
  replace B1 := Lib.hid (B1.out.step hb)
  replace B2 := Lib.hid (B2.out.step hb)
  replace V := Lib.hid (V.out.step hb)
  replace U := Lib.hid (U.out.step hb)
  replace HZV := Lib.hid (HZV.out.step hb)
  clear hb
  go_wp2_with (first | ((with_reducible refine Lk.ld (d := 21) W.heap.size B1.out V.out.len ?_ ?_ ?_); exact rfl; exact rfl) | fail)
  refine (KRa.out _ _ _ T.out.bel V.out).mono ?_
  rintro e w5 ⟨rfl, hb⟩
  replace T := Lib.hid (T.out.step hb)
  replace B1 := Lib.hid (B1.out.step hb)
  replace B2 := Lib.hid (B2.out.step hb)
  replace V := Lib.hid (V.out.step hb)
  replace U := Lib.hid (U.out.step hb)
  replace HZV := Lib.hid (HZV.out.step hb)
  clear hb
  go_wp2_with (first | ((with_reducible refine Lk.ld (d := 26) (W.heap.size + 1) B2.out U.out.len ?_ ?_ ?_); exact rfl; exact rfl) | fail)
  refine (KRb.out _ _ _ T.out.bel U.out).mono ?_
  rintro e w6 ⟨rfl, hb⟩
  replace T := Lib.hid (T.out.step hb)
  replace B1 := Lib.hid (B1.out.step hb)
  replace B2 := Lib.hid (B2.out.step hb)
  replace V := Lib.hid (V.out.step hb)
  replace U := Lib.hid (U.out.step hb)
  replace HZV := Lib.hid (HZV.out.step hb)
  clear hb
  go_wp2_with (first | ((with_reducible refine Lk.ld (d := 31) W.heap.size B1.out V.out.len ?_ ?_ ?_); exact rfl; exact rfl) | ((with_reducible refine Lk.ld (d := 32) (W.heap.size + 1) B2.out U.out.len ?_ ?_ ?_); exact rfl; exact rfl) | fail)
  refine (KS1.out _ _ _ _ _ T.out.bel V.out U.out).mono ?_
  rintro e w7 ⟨rfl, hb⟩
  replace T := Lib.hid (T.out.step hb)
  replace B1 := Lib.hid (B1.out.step hb)
  replace B2 := Lib.hid (B2.out.step hb)
  replace V := Lib.hid (V.out.step hb)
  replace U := Lib.hid (U.out.step hb)
  replace HZV := Lib.hid (HZV.out.step hb)
  clear hb
  go_wp2_with (first | fail)
  replace T := Lib.hid (T.out.drew)
  replace B1 := Lib.hid (B1.out.drew)
  replace B2 := Lib.hid (B2.out.drew)
  replace V := Lib.hid (V.out.drew)
  replace U := Lib.hid (U.out.drew)
  replace HZV := Lib.hid (HZV.out.drew)
  refine wp_region_held_drew (S := (fun w' => Lk.Bl w' W.heap.size cs 29 ∧ Lk.Bl w' (W.heap.size + 1) ds 29)) (by kernel_rfl) ⟨B1.out, B2.out⟩ (fun hHeld => ?_)
  refine wpAnyH_take (i := 0) (oi := ⟨_, _, _, _, _, _⟩) (v := .agg cs.toArray) rfl (by kernel_rfl) (by kernel_rfl) (by kernel_rfl) (fun _ _ _ h => h) (Or.inl ⟨by rfl, fun wz hSw => Lk.act_run _ rfl _ rfl hSw.1 V.out.len⟩) (by assumption) ?_
  try simp only [Act.put, List.setIfInBounds_toArray, List.set_cons_zero, List.set_cons_succ]
  refine wpAnyH_take (i := 2) (oi := ⟨_, _, _, _, _, _⟩) (v := .agg ds.toArray) rfl (by kernel_rfl) (by kernel_rfl) (by kernel_rfl) (fun _ _ _ h => h) (Or.inl ⟨by rfl, fun wz hSw => Lk.act_run _ rfl _ rfl hSw.2 U.out.len⟩) (by assumption) ?_
  try simp only [Act.put, List.setIfInBounds_toArray, List.set_cons_zero, List.set_cons_succ]
  refine wpAnyH_take (i := 5) (oi := ⟨_, _, _, _, _, _⟩) (v := ?_) rfl (by kernel_rfl) (by kernel_rfl) (by kernel_rfl) (fun _ _ _ h => h) (Or.inl ⟨by rfl, ?_⟩) (by assumption) ?_
  rotate_left
  · intro wz hSw
    try dsimp only at hSw
    go_simp
    try with_reducible rfl
  try simp only [Act.put, List.setIfInBounds_toArray, List.set_cons_zero, List.set_cons_succ]
  refine wpAnyH_ready (rs := [1]) (by kernel_rfl) (by simp) ?_
  refine AllReadyH.cons (o := ⟨_, _, _, _, _, _⟩) rfl (fun K hK => ?_) AllReadyH.nil
  go_simp
  refine (KBa.out _ _ _ T.out.bel V.out).mono ?_
  rintro e w8 ⟨rfl, hb⟩
  replace T := Lib.hid (T.out.step hb)
  replace B1 := Lib.hid (B1.out.step hb)
  replace B2 := Lib.hid (B2.out.step hb)
  replace V := Lib.hid (V.out.step hb)
  replace U := Lib.hid (U.out.step hb)
  replace HZV := Lib.hid (HZV.out.step hb)
  clear hb hHeld
  refine hK.out _ _ ⟨B1.out, B2.out⟩ (fun hHeld => ?_)
  clear hK K
  try simp only [Act.put, List.setIfInBounds_toArray, List.set_cons_zero, List.set_cons_succ]
  refine wpAnyH_ready (rs := [3]) (by kernel_rfl) (by simp) ?_
  refine AllReadyH.cons (o := ⟨_, _, _, _, _, _⟩) rfl (fun K hK => ?_) AllReadyH.nil
  go_simp
  refine (KBa.out _ _ _ T.out.bel U.out).mono ?_
  rintro e w9 ⟨rfl, hb⟩
  replace T := Lib.hid (T.out.step hb)
  replace B1 := Lib.hid (B1.out.step hb)
  replace B2 := Lib.hid (B2.out.step hb)
  replace V := Lib.hid (V.out.step hb)
  replace U := Lib.hid (U.out.step hb)
  replace HZV := Lib.hid (HZV.out.step hb)
  clear hb hHeld
  refine hK.out _ _ ⟨B1.out, B2.out⟩ (fun hHeld => ?_)
  clear hK K
  try simp only [Act.put, List.setIfInBounds_toArray, List.set_cons_zero, List.set_cons_succ]
  refine wpAnyH_take (i := 4) (oi := ⟨_, _, _, _, _, _⟩) (v := ?_) rfl (by kernel_rfl) (by kernel_rfl) (by kernel_rfl) (fun _ _ _ h => h) (Or.inl ⟨by rfl, ?_⟩) (by assumption) ?_
  rotate_left
  · intro wz hSw
    try dsimp only at hSw
    go_simp
    try with_reducible rfl
  try simp only [Act.put, List.setIfInBounds_toArray, List.set_cons_zero, List.set_cons_succ]
  refine wpAnyH_take (i := 6) (oi := ⟨_, _, _, _, _, _⟩) (v := ?_) rfl (by kernel_rfl) (by kernel_rfl) (by kernel_rfl) (fun _ _ _ h => h) (Or.inl ⟨by rfl, ?_⟩) (by assumption) ?_
  rotate_left
  · intro wz hSw
    try dsimp only at hSw
    go_simp
    try with_reducible rfl
  try simp only [Act.put, List.setIfInBounds_toArray, List.set_cons_zero, List.set_cons_succ]
  refine wpAnyH_take (i := 7) (oi := ⟨_, _, _, _, _, _⟩) (v := ?_) rfl (by kernel_rfl) (by kernel_rfl) (by kernel_rfl) (fun _ _ _ h => h) (Or.inl ⟨by rfl, ?_⟩) (by assumption) ?_
  rotate_left
  · intro wz hSw
    try dsimp only at hSw
    go_simp
    try with_reducible rfl
  try simp only [Act.put, List.setIfInBounds_toArray, List.set_cons_zero, List.set_cons_succ]
  refine wpAnyH_take (i := 8) (oi := ⟨_, _, _, _, _, _⟩) (v := ?_) rfl (by kernel_rfl) (by kernel_rfl) (by kernel_rfl) (fun _ _ _ h => h) (Or.inl ⟨by rfl, ?_⟩) (by assumption) ?_
  rotate_left
  · intro wz hSw
    try dsimp only at hSw
    go_simp
    try with_reducible rfl
  try simp only [Act.put, List.setIfInBounds_toArray, List.set_cons_zero, List.set_cons_succ]
  refine wpAnyH_take (i := 9) (oi := ⟨_, _, _, _, _, _⟩) (v := ?_) rfl (by kernel_rfl) (by kernel_rfl) (by kernel_rfl) (fun _ _ _ h => h) (Or.inl ⟨by rfl, ?_⟩) (by assumption) ?_
  rotate_left
  · intro wz hSw
    try dsimp only at hSw
    go_simp
    try with_reducible rfl
  try simp only [Act.put, List.setIfInBounds_toArray, List.set_cons_zero, List.set_cons_succ]
  refine wpAnyH_take (i := 10) (oi := ⟨_, _, _, _, _, _⟩) (v := ?_) rfl (by kernel_rfl) (by kernel_rfl) (by kernel_rfl) (fun _ _ _ h => h) (Or.inl ⟨by rfl, ?_⟩) (by assumption) ?_
  rotate_left
  · intro wz hSw
    try dsimp only at hSw
    go_simp
    try with_reducible rfl
  try simp only [Act.put, List.setIfInBounds_toArray, List.set_cons_zero, List.set_cons_succ]
  refine wpAnyH_take (i := 11) (oi := ⟨_, _, _, _, _, _⟩) (v := .agg cs.toArray) rfl (by kernel_rfl) (by kernel_rfl) (by kernel_rfl) (fun _ _ _ h => h) (Or.inl ⟨by rfl, fun wz hSw => Lk.act_run _ rfl _ rfl hSw.1 V.out.len⟩) (by assumption) ?_
  try simp only [Act.put, List.setIfInBounds_toArray, List.set_cons_zero, List.set_cons_succ]
  refine wpAnyH_take (i := 13) (oi := ⟨_, _, _, _, _, _⟩) (v := ?_) rfl (by kernel_rfl) (by kernel_rfl) (by kernel_rfl) (fun _ _ _ h => h) (Or.inl ⟨by rfl, ?_⟩) (by assumption) ?_
  rotate_left
  · intro wz hSw
    try dsimp only at hSw
    go_simp
    try with_reducible rfl
  try simp only [Act.put, List.setIfInBounds_toArray, List.set_cons_zero, List.set_cons_succ]
  refine wpAnyH_take (i := 14) (oi := ⟨_, _, _, _, _, _⟩) (v := .agg ds.toArray) rfl (by kernel_rfl) (by kernel_rfl) (by kernel_rfl) (fun _ _ _ h => h) (Or.inl ⟨by rfl, fun wz hSw => Lk.act_run _ rfl _ rfl hSw.2 U.out.len⟩) (by assumption) ?_
  try simp only [Act.put, List.setIfInBounds_toArray, List.set_cons_zero, List.set_cons_succ]
  refine wpAnyH_ready (rs := [12]) (by kernel_rfl) (by simp) ?_
  refine AllReadyH.cons (o := ⟨_, _, _, _, _, _⟩) rfl (fun K hK => ?_) AllReadyH.nil
  go_simp
  refine (KVa.out _ _ _ T.out.bel V.out).mono ?_
  rintro e w10 ⟨rfl, hb⟩
  replace T := Lib.hid (T.out.step hb)
  replace B1 := Lib.hid (B1.out.step hb)
  replace B2 := Lib.hid (B2.out.step hb)
  replace V := Lib.hid (V.out.step hb)
  replace U := Lib.hid (U.out.step hb)
  replace HZV := Lib.hid (HZV.out.step hb)
  clear hb hHeld
  refine hK.out _ _ ⟨B1.out, B2.out⟩ (fun hHeld => ?_)
  clear hK K
  try simp only [Act.put, List.setIfInBounds_toArray, List.set_cons_zero, List.set_cons_succ]
  refine wpAnyH_ready (rs := [15]) (by kernel_rfl) (by simp) ?_
  refine AllReadyH.cons (o := ⟨_, _, _, _, _, _⟩) rfl (fun K hK => ?_) AllReadyH.nil
  go_simp
  refine (KVa.out _ _ _ T.out.bel U.out).mono ?_
  rintro e w11 ⟨rfl, hb⟩
  replace T := Lib.hid (T.out.step hb)
  replace B1 := Lib.hid (B1.out.step hb)
  replace B2 := Lib.hid (B2.out.step hb)
  replace V := Lib.hid (V.out.step hb)
  replace U := Lib.hid (U.out.step hb)
  replace HZV := Lib.hid (HZV.out.step hb)
  clear hb hHeld
  refine hK.out _ _ ⟨B1.out, B2.out⟩ (fun hHeld => ?_)
  clear hK K
  try simp only [Act.put, List.setIfInBounds_toArray, List.set_cons_zero, List.set_cons_succ]
  refine wpAnyH_take (i := 16) (oi := ⟨_, _, _, _, _, _⟩) (v := ?_) rfl (by kernel_rfl) (by kernel_rfl) (by kernel_rfl) (fun _ _ _ h => h) (Or.inl ⟨by rfl, ?_⟩) (by assumption) ?_
  rotate_left
  · intro wz hSw
    try dsimp only at hSw
    go_simp
    try with_reducible rfl
  try simp only [Act.put, List.setIfInBounds_toArray, List.set_cons_zero, List.set_cons_succ]
  refine wpAnyH_take (i := 17) (oi := ⟨_, _, _, _, _, _⟩) (v := ?_) rfl (by kernel_rfl) (by kernel_rfl) (by kernel_rfl) (fun _ _ _ h => h) (Or.inl ⟨by rfl, ?_⟩) (by assumption) ?_
  rotate_left
  · intro wz hSw
    try dsimp only at hSw
    go_simp
    try with_reducible rfl
  try simp only [Act.put, List.setIfInBounds_toArray, List.set_cons_zero, List.set_cons_succ]
  refine wpAnyH_take (i := 18) (oi := ⟨_, _, _, _, _, _⟩) (v := ?_) rfl (by kernel_rfl) (by kernel_rfl) (by kernel_rfl) (fun _ _ _ h => h) (Or.inl ⟨by rfl, ?_⟩) (by assumption) ?_
  rotate_left
  · intro wz hSw
    try dsimp only at hSw
    go_simp
    try with_reducible rfl
  try simp only [Act.put, List.setIfInBounds_toArray, List.set_cons_zero, List.set_cons_succ]
  refine wpAnyH_done (by kernel_rfl) ?_ _
  clear hHeld
  go_wp2_with (first | ((with_reducible refine Lk.nw ds U.out.len U.out.one ?_ ?_ ?_ ?_); exact rfl; exact rfl; exact rfl) | ((with_reducible refine Lk.ld (d := 53) (W.heap.size + 1) B2.out U.out.len ?_ ?_ ?_); exact rfl; exact rfl) | fail)
  intro w12 bN hb
  have LB1_B3 := Lib.hid (show W.heap.size < w11.heap.size from B1.out.lt)
  have LB2_B3 := Lib.hid (show (W.heap.size + 1) < w11.heap.size from B2.out.lt)
  have GV_B3 := Lib.hid (show W.heap.size ≤ w11.heap.size from V.out.le)
  have GU_B3 := Lib.hid (show W.heap.size ≤ w11.heap.size from U.out.le)
  have GHZV_B3 := Lib.hid (show 0 ≤ w11.heap.size from HZV.out.le)
  have GB3 := Lib.hid (show W.heap.size ≤ w11.heap.size from T.out.bel.size)
  replace T := Lib.hid (T.out.step hb)
  replace B1 := Lib.hid (B1.out.step hb)
  replace B2 := Lib.hid (B2.out.step hb)
  replace V := Lib.hid (V.out.step hb)
  replace U := Lib.hid (U.out.step hb)
  replace HZV := Lib.hid (HZV.out.step hb)
  have B3 := Lib.hid (show Lk.Bl w12 w11.heap.size ds 29 from bN)
  clear bN hb
  have cB1_18 := B1.out.c 18 _ V.out.sigE
  have cB1_19 := B1.out.c 19 _ V.out.sigS
  go_wp2_with (first | ((with_reducible refine Lk.st w11.heap.size 18 [.int .i64 e, .int .i64 s] (.agg #[.int .i64 e, .int .i64 s]) B3.out ?_ ?_ ?_ ?_ ?_ ?_ ?_); exact Lk.infoG; exact rfl; (rw [U.out.len]; exact Nat.le_of_ble_eq_true rfl); (simp [Value.oneCell']); exact rfl; exact rfl) | fail)
  clear cB1_18 cB1_19
  intro w13 bN hb
  replace B1 := Lib.hid (B1.out.under hb LB1_B3.out)
  replace B2 := Lib.hid (B2.out.under hb LB2_B3.out)
  replace T := Lib.hid (T.out.under hb GB3.out)
  replace V := Lib.hid (V.out.under hb GV_B3.out)
  replace U := Lib.hid (U.out.under hb GU_B3.out)
  replace HZV := Lib.hid (HZV.out.under hb GHZV_B3.out)
  obtain ⟨cs13, hcs13⟩ : ∃ x : List Value, x = ds.take 18 ++ [.int .i64 e, .int .i64 s] ++ ds.drop (18 + ([.int .i64 e, .int .i64 s] : List Value).length) := ⟨_, rfl⟩
  have V13 := Lib.hid (show Av w13 W.heap.size cs13 a e s from by rw [hcs13]; exact U.out.put 18 [.int .i64 e, .int .i64 s] rfl rfl (fun _ _ _ _ _ _ => rfl))
  replace B3 := Lib.hid (show Lk.Bl w13 w11.heap.size cs13 29 from by rw [hcs13]; exact bN)
  clear bN hb hcs13
  have GV13_B3 := GU_B3
  go_wp2_with (first | fail)
  replace T := Lib.hid (T.out.drew)
  replace B1 := Lib.hid (B1.out.drew)
  replace B2 := Lib.hid (B2.out.drew)
  replace B3 := Lib.hid (B3.out.drew)
  replace V := Lib.hid (V.out.drew)
  replace U := Lib.hid (U.out.drew)
  replace HZV := Lib.hid (HZV.out.drew)
  replace V13 := Lib.hid (V13.out.drew)
  refine wp_region_held_drew (S := (fun w' => Lk.Bl w' W.heap.size cs 29 ∧ Lk.Bl w' (W.heap.size + 1) ds 29)) (by kernel_rfl) ⟨B1.out, B2.out⟩ (fun hHeld => ?_)
  refine wpAnyH_take (i := 0) (oi := ⟨_, _, _, _, _, _⟩) (v := .agg cs.toArray) rfl (by kernel_rfl) (by kernel_rfl) (by kernel_rfl) (fun _ _ _ h => h) (Or.inl ⟨by rfl, fun wz hSw => Lk.act_run _ rfl _ rfl hSw.1 V.out.len⟩) (by assumption) ?_
  try simp only [Act.put, List.setIfInBounds_toArray, List.set_cons_zero, List.set_cons_succ]
  refine wpAnyH_take (i := 2) (oi := ⟨_, _, _, _, _, _⟩) (v := .agg ds.toArray) rfl (by kernel_rfl) (by kernel_rfl) (by kernel_rfl) (fun _ _ _ h => h) (Or.inl ⟨by rfl, fun wz hSw => Lk.act_run _ rfl _ rfl hSw.2 U.out.len⟩) (by assumption) ?_
  try simp only [Act.put, List.setIfInBounds_toArray, List.set_cons_zero, List.set_cons_succ]
  refine wpAnyH_ready (rs := [1]) (by kernel_rfl) (by simp) ?_
  refine AllReadyH.cons (o := ⟨_, _, _, _, _, _⟩) rfl (fun K hK => ?_) AllReadyH.nil
  go_simp
  refine (KCa.out _ _ _ T.out.bel V.out).mono ?_
  rintro e w14 ⟨rfl, hb⟩
  replace T := Lib.hid (T.out.step hb)
  replace B1 := Lib.hid (B1.out.step hb)
  replace B2 := Lib.hid (B2.out.step hb)
  replace B3 := Lib.hid (B3.out.step hb)
  replace V := Lib.hid (V.out.step hb)
  replace U := Lib.hid (U.out.step hb)
  replace HZV := Lib.hid (HZV.out.step hb)
  replace V13 := Lib.hid (V13.out.step hb)
  clear hb hHeld
  refine hK.out _ _ ⟨B1.out, B2.out⟩ (fun hHeld => ?_)
  clear hK K
  try simp only [Act.put, List.setIfInBounds_toArray, List.set_cons_zero, List.set_cons_succ]
  refine wpAnyH_ready (rs := [3]) (by kernel_rfl) (by simp) ?_
  refine AllReadyH.cons (o := ⟨_, _, _, _, _, _⟩) rfl (fun K hK => ?_) AllReadyH.nil
  go_simp
  refine (KCa.out _ _ _ T.out.bel U.out).mono ?_
  rintro e w15 ⟨rfl, hb⟩
  replace T := Lib.hid (T.out.step hb)
  replace B1 := Lib.hid (B1.out.step hb)
  replace B2 := Lib.hid (B2.out.step hb)
  replace B3 := Lib.hid (B3.out.step hb)
  replace V := Lib.hid (V.out.step hb)
  replace U := Lib.hid (U.out.step hb)
  replace HZV := Lib.hid (HZV.out.step hb)
  replace V13 := Lib.hid (V13.out.step hb)
  clear hb hHeld
  refine hK.out _ _ ⟨B1.out, B2.out⟩ (fun hHeld => ?_)
  clear hK K
  try simp only [Act.put, List.setIfInBounds_toArray, List.set_cons_zero, List.set_cons_succ]
  refine wpAnyH_take (i := 4) (oi := ⟨_, _, _, _, _, _⟩) (v := ?_) rfl (by kernel_rfl) (by kernel_rfl) (by kernel_rfl) (fun _ _ _ h => h) (Or.inl ⟨by rfl, ?_⟩) (by assumption) ?_
  rotate_left
  · intro wz hSw
    try dsimp only at hSw
    go_simp
    try with_reducible rfl
  try simp only [Act.put, List.setIfInBounds_toArray, List.set_cons_zero, List.set_cons_succ]
  refine wpAnyH_take (i := 5) (oi := ⟨_, _, _, _, _, _⟩) (v := ?_) rfl (by kernel_rfl) (by kernel_rfl) (by kernel_rfl) (fun _ _ _ h => h) (Or.inl ⟨by rfl, ?_⟩) (by assumption) ?_
  rotate_left
  · intro wz hSw
    try dsimp only at hSw
    go_simp
    try with_reducible rfl
  try simp only [Act.put, List.setIfInBounds_toArray, List.set_cons_zero, List.set_cons_succ]
  refine wpAnyH_done (by kernel_rfl) ?_ _
  clear hHeld
  go_wp2_with (first | fail)
  replace T := Lib.hid (T.out.drew)
  replace B1 := Lib.hid (B1.out.drew)
  replace B2 := Lib.hid (B2.out.drew)
  replace B3 := Lib.hid (B3.out.drew)
  replace V := Lib.hid (V.out.drew)
  replace U := Lib.hid (U.out.drew)
  replace HZV := Lib.hid (HZV.out.drew)
  replace V13 := Lib.hid (V13.out.drew)
  refine wp_region_held_drew (S := (fun w' => Lk.Bl w' W.heap.size cs 29 ∧ Lk.Bl w' w11.heap.size cs13 29 ∧ w'.cell? ⟨W.heap.size, 18, none⟩ = some (.int .i64 e) ∧ w'.cell? ⟨W.heap.size, 19, none⟩ = some (.int .i64 s))) (by kernel_rfl) ⟨B1.out, B3.out, (B1.out.c 18 _ V.out.sigE), (B1.out.c 19 _ V.out.sigS)⟩ (fun hHeld => ?_)
  refine wpAnyH_take (i := 0) (oi := ⟨_, _, _, _, _, _⟩) (v := ?_) rfl (by kernel_rfl) (by kernel_rfl) (by kernel_rfl) (fun _ _ _ h => h) (Or.inl ⟨by rfl, ?_⟩) (by assumption) ?_
  rotate_left
  · intro wz hSw
    try dsimp only at hSw
    go_simp
    try with_reducible rfl
  try simp only [Act.put, List.setIfInBounds_toArray, List.set_cons_zero, List.set_cons_succ]
  refine wpAnyH_take (i := 1) (oi := ⟨_, _, _, _, _, _⟩) (v := ?_) rfl (by kernel_rfl) (by kernel_rfl) (by kernel_rfl) (fun _ _ _ h => h) (Or.inl ⟨by rfl, ?_⟩) (by assumption) ?_
  rotate_left
  · intro wz hSw
    try dsimp only at hSw
    go_simp
    try with_reducible rfl
  try simp only [Act.put, List.setIfInBounds_toArray, List.set_cons_zero, List.set_cons_succ]
  refine wpAnyH_take (i := 2) (oi := ⟨_, _, _, _, _, _⟩) (v := ?_) rfl (by kernel_rfl) (by kernel_rfl) (by kernel_rfl) (fun _ _ _ h => h) (Or.inl ⟨by rfl, ?_⟩) (by assumption) ?_
  rotate_left
  · intro wz hSw
    try dsimp only at hSw
    go_simp
    try with_reducible rfl
  try simp only [Act.put, List.setIfInBounds_toArray, List.set_cons_zero, List.set_cons_succ]
  refine wpAnyH_take (i := 3) (oi := ⟨_, _, _, _, _, _⟩) (v := .agg cs.toArray) rfl (by kernel_rfl) (by kernel_rfl) (by kernel_rfl) (fun _ _ _ h => h) (Or.inl ⟨by rfl, fun wz hSw => Lk.act_run _ rfl _ rfl hSw.1 V.out.len⟩) (by assumption) ?_
  try simp only [Act.put, List.setIfInBounds_toArray, List.set_cons_zero, List.set_cons_succ]
  refine wpAnyH_take (i := 4) (oi := ⟨_, _, _, _, _, _⟩) (v := .agg cs13.toArray) rfl (by kernel_rfl) (by kernel_rfl) (by kernel_rfl) (fun _ _ _ h => h) (Or.inl ⟨by rfl, fun wz hSw => Lk.act_run _ rfl _ rfl hSw.2.1 V13.out.len⟩) (by assumption) ?_
  try simp only [Act.put, List.setIfInBounds_toArray, List.set_cons_zero, List.set_cons_succ]
  refine wpAnyH_ready (rs := [5]) (by kernel_rfl) (by simp) ?_
  refine AllReadyH.cons (o := ⟨_, _, _, _, _, _⟩) rfl (fun K hK => ?_) AllReadyH.nil
  go_simp
  refine (KS1.out _ _ _ _ _ T.out.bel V.out V13.out).mono ?_
  rintro e w16 ⟨rfl, hb⟩
  replace T := Lib.hid (T.out.step hb)
  replace B1 := Lib.hid (B1.out.step hb)
  replace B2 := Lib.hid (B2.out.step hb)
  replace B3 := Lib.hid (B3.out.step hb)
  replace V := Lib.hid (V.out.step hb)
  replace U := Lib.hid (U.out.step hb)
  replace HZV := Lib.hid (HZV.out.step hb)
  replace V13 := Lib.hid (V13.out.step hb)
  clear hb hHeld
  refine hK.out _ _ ⟨B1.out, B3.out, (B1.out.c 18 _ V.out.sigE), (B1.out.c 19 _ V.out.sigS)⟩ (fun hHeld => ?_)
  clear hK K
  try simp only [Act.put, List.setIfInBounds_toArray, List.set_cons_zero, List.set_cons_succ]
  refine wpAnyH_take (i := 6) (oi := ⟨_, _, _, _, _, _⟩) (v := ?_) rfl (by kernel_rfl) (by kernel_rfl) (by kernel_rfl) (fun _ _ _ h => h) (Or.inl ⟨by rfl, ?_⟩) (by assumption) ?_
  rotate_left
  · intro wz hSw
    try dsimp only at hSw
    go_simp
    try with_reducible rfl
  try simp only [Act.put, List.setIfInBounds_toArray, List.set_cons_zero, List.set_cons_succ]
  refine wpAnyH_take (i := 7) (oi := ⟨_, _, _, _, _, _⟩) (v := ?_) rfl (by kernel_rfl) (by kernel_rfl) (by kernel_rfl) (fun _ _ _ h => h) (Or.inl ⟨by rfl, ?_⟩) (by assumption) ?_
  rotate_left
  · intro wz hSw
    try dsimp only at hSw
    go_simp
    try with_reducible rfl
  try simp only [Act.put, List.setIfInBounds_toArray, List.set_cons_zero, List.set_cons_succ]
  refine wpAnyH_take (i := 8) (oi := ⟨_, _, _, _, _, _⟩) (v := ?_) rfl (by kernel_rfl) (by kernel_rfl) (by kernel_rfl) (fun _ _ _ h => h) (Or.inl ⟨by rfl, ?_⟩) (by assumption) ?_
  rotate_left
  · intro wz hSw
    try dsimp only at hSw
    go_simp
    try with_reducible rfl
  try simp only [Act.put, List.setIfInBounds_toArray, List.set_cons_zero, List.set_cons_succ]
  refine wpAnyH_take (i := 9) (oi := ⟨_, _, _, _, _, _⟩) (v := ?_) rfl (by kernel_rfl) (by kernel_rfl) (by kernel_rfl) (fun _ _ _ h => h) (Or.inl ⟨by rfl, ?_⟩) (by assumption) ?_
  rotate_left
  · intro wz hSw
    try dsimp only at hSw
    go_simp
    try with_reducible rfl
  try simp only [Act.put, List.setIfInBounds_toArray, List.set_cons_zero, List.set_cons_succ]
  refine wpAnyH_take (i := 10) (oi := ⟨_, _, _, _, _, _⟩) (v := ?_) rfl (by kernel_rfl) (by kernel_rfl) (by kernel_rfl) (fun _ _ _ h => h) (Or.inl ⟨by rfl, ?_⟩) (by assumption) ?_
  rotate_left
  · intro wz hSw
    try dsimp only at hSw
    go_simp
    try with_reducible rfl
  try simp only [Act.put, List.setIfInBounds_toArray, List.set_cons_zero, List.set_cons_succ]
  refine wpAnyH_take (i := 11) (oi := ⟨_, _, _, _, _, _⟩) (v := ?_) rfl (by kernel_rfl) (by kernel_rfl) (by kernel_rfl) (fun _ _ _ h => h) (Or.inl ⟨by rfl, ?_⟩) (by assumption) ?_
  rotate_left
  · intro wz hSw
    try dsimp only at hSw
    go_simp
    try with_reducible rfl
  try simp only [Act.put, List.setIfInBounds_toArray, List.set_cons_zero, List.set_cons_succ]
  refine wpAnyH_take (i := 12) (oi := ⟨_, _, _, _, _, _⟩) (v := ?_) rfl (by kernel_rfl) (by kernel_rfl) (by kernel_rfl) (fun _ _ _ h => h) (Or.inl ⟨by rfl, ?_⟩) (by assumption) ?_
  rotate_left
  · intro wz hSw
    try dsimp only at hSw
    go_simp
    try with_reducible rfl
  try simp only [Act.put, List.setIfInBounds_toArray, List.set_cons_zero, List.set_cons_succ]
  refine wpAnyH_take (i := 13) (oi := ⟨_, _, _, _, _, _⟩) (v := .agg cs13.toArray) rfl (by kernel_rfl) (by kernel_rfl) (by kernel_rfl) (fun _ _ _ h => h) (Or.inl ⟨by rfl, fun wz hSw => Lk.act_run _ rfl _ rfl hSw.2.1 V13.out.len⟩) (by assumption) ?_
  try simp only [Act.put, List.setIfInBounds_toArray, List.set_cons_zero, List.set_cons_succ]
  refine wpAnyH_take (i := 15) (oi := ⟨_, _, _, _, _, _⟩) (v := ?_) rfl (by kernel_rfl) (by kernel_rfl) (by kernel_rfl) (fun _ _ _ h => h) (Or.inl ⟨by rfl, ?_⟩) (by assumption) ?_
  rotate_left
  · intro wz hSw
    try dsimp only at hSw
    go_simp
    try with_reducible rfl
  try simp only [Act.put, List.setIfInBounds_toArray, List.set_cons_zero, List.set_cons_succ]
  refine wpAnyH_take (i := 16) (oi := ⟨_, _, _, _, _, _⟩) (v := .agg cs.toArray) rfl (by kernel_rfl) (by kernel_rfl) (by kernel_rfl) (fun _ _ _ h => h) (Or.inl ⟨by rfl, fun wz hSw => Lk.act_run _ rfl _ rfl hSw.1 V.out.len⟩) (by assumption) ?_
  try simp only [Act.put, List.setIfInBounds_toArray, List.set_cons_zero, List.set_cons_succ]
  refine wpAnyH_ready (rs := [14]) (by kernel_rfl) (by simp) ?_
  refine AllReadyH.cons (o := ⟨_, _, _, _, _, _⟩) rfl (fun K hK => ?_) AllReadyH.nil
  go_simp
  refine (KVa.out _ _ _ T.out.bel V13.out).mono ?_
  rintro e w17 ⟨rfl, hb⟩
  replace T := Lib.hid (T.out.step hb)
  replace B1 := Lib.hid (B1.out.step hb)
  replace B2 := Lib.hid (B2.out.step hb)
  replace B3 := Lib.hid (B3.out.step hb)
  replace V := Lib.hid (V.out.step hb)
  replace U := Lib.hid (U.out.step hb)
  replace HZV := Lib.hid (HZV.out.step hb)
  replace V13 := Lib.hid (V13.out.step hb)
  clear hb hHeld
  refine hK.out _ _ ⟨B1.out, B3.out, (B1.out.c 18 _ V.out.sigE), (B1.out.c 19 _ V.out.sigS)⟩ (fun hHeld => ?_)
  clear hK K
  try simp only [Act.put, List.setIfInBounds_toArray, List.set_cons_zero, List.set_cons_succ]
  refine wpAnyH_ready (rs := [17]) (by kernel_rfl) (by simp) ?_
  refine AllReadyH.cons (o := ⟨_, _, _, _, _, _⟩) rfl (fun K hK => ?_) AllReadyH.nil
  go_simp
  refine (KVa.out _ _ _ T.out.bel V.out).mono ?_
  rintro e w18 ⟨rfl, hb⟩
  replace T := Lib.hid (T.out.step hb)
  replace B1 := Lib.hid (B1.out.step hb)
  replace B2 := Lib.hid (B2.out.step hb)
  replace B3 := Lib.hid (B3.out.step hb)
  replace V := Lib.hid (V.out.step hb)
  replace U := Lib.hid (U.out.step hb)
  replace HZV := Lib.hid (HZV.out.step hb)
  replace V13 := Lib.hid (V13.out.step hb)
  clear hb hHeld
  refine hK.out _ _ ⟨B1.out, B3.out, (B1.out.c 18 _ V.out.sigE), (B1.out.c 19 _ V.out.sigS)⟩ (fun hHeld => ?_)
  clear hK K
  try simp only [Act.put, List.setIfInBounds_toArray, List.set_cons_zero, List.set_cons_succ]
  refine wpAnyH_take (i := 18) (oi := ⟨_, _, _, _, _, _⟩) (v := ?_) rfl (by kernel_rfl) (by kernel_rfl) (by kernel_rfl) (fun _ _ _ h => h) (Or.inl ⟨by rfl, ?_⟩) (by assumption) ?_
  rotate_left
  · intro wz hSw
    try dsimp only at hSw
    go_simp
    try with_reducible rfl
  try simp only [Act.put, List.setIfInBounds_toArray, List.set_cons_zero, List.set_cons_succ]
  refine wpAnyH_take (i := 19) (oi := ⟨_, _, _, _, _, _⟩) (v := ?_) rfl (by kernel_rfl) (by kernel_rfl) (by kernel_rfl) (fun _ _ _ h => h) (Or.inl ⟨by rfl, ?_⟩) (by assumption) ?_
  rotate_left
  · intro wz hSw
    try dsimp only at hSw
    go_simp
    try with_reducible rfl
  try simp only [Act.put, List.setIfInBounds_toArray, List.set_cons_zero, List.set_cons_succ]
  refine wpAnyH_take (i := 20) (oi := ⟨_, _, _, _, _, _⟩) (v := ?_) rfl (by kernel_rfl) (by kernel_rfl) (by kernel_rfl) (fun _ _ _ h => h) (Or.inl ⟨by rfl, ?_⟩) (by assumption) ?_
  rotate_left
  · intro wz hSw
    try dsimp only at hSw
    go_simp
    try with_reducible rfl
  try simp only [Act.put, List.setIfInBounds_toArray, List.set_cons_zero, List.set_cons_succ]
  refine wpAnyH_take (i := 21) (oi := ⟨_, _, _, _, _, _⟩) (v := ?_) rfl (by kernel_rfl) (by kernel_rfl) (by kernel_rfl) (fun _ _ _ h => h) (Or.inl ⟨by rfl, ?_⟩) (by assumption) ?_
  rotate_left
  · intro wz hSw
    try dsimp only at hSw
    go_simp
    try with_reducible rfl
  try simp only [Act.put, List.setIfInBounds_toArray, List.set_cons_zero, List.set_cons_succ]
  refine wpAnyH_take (i := 22) (oi := ⟨_, _, _, _, _, _⟩) (v := ?_) rfl (by kernel_rfl) (by kernel_rfl) (by kernel_rfl) (fun _ _ _ h => h) (Or.inl ⟨by rfl, ?_⟩) (by assumption) ?_
  rotate_left
  · intro wz hSw
    try dsimp only at hSw
    go_simp
    try with_reducible rfl
  try simp only [Act.put, List.setIfInBounds_toArray, List.set_cons_zero, List.set_cons_succ]
  refine wpAnyH_take (i := 23) (oi := ⟨_, _, _, _, _, _⟩) (v := .agg cs.toArray) rfl (by kernel_rfl) (by kernel_rfl) (by kernel_rfl) (fun _ _ _ h => h) (Or.inl ⟨by rfl, fun wz hSw => Lk.act_run _ rfl _ rfl hSw.1 V.out.len⟩) (by assumption) ?_
  try simp only [Act.put, List.setIfInBounds_toArray, List.set_cons_zero, List.set_cons_succ]
  refine wpAnyH_take (i := 25) (oi := ⟨_, _, _, _, _, _⟩) (v := ?_) rfl (by kernel_rfl) (by kernel_rfl) (by kernel_rfl) (fun _ _ _ h => h) (Or.inl ⟨by rfl, ?_⟩) (by assumption) ?_
  rotate_left
  · intro wz hSw
    try dsimp only at hSw
    go_simp
    try with_reducible rfl
  try simp only [Act.put, List.setIfInBounds_toArray, List.set_cons_zero, List.set_cons_succ]
  refine wpAnyH_take (i := 26) (oi := ⟨_, _, _, _, _, _⟩) (v := .agg cs.toArray) rfl (by kernel_rfl) (by kernel_rfl) (by kernel_rfl) (fun _ _ _ h => h) (Or.inl ⟨by rfl, fun wz hSw => Lk.act_run _ rfl _ rfl hSw.1 V.out.len⟩) (by assumption) ?_
  try simp only [Act.put, List.setIfInBounds_toArray, List.set_cons_zero, List.set_cons_succ]
  refine wpAnyH_take (i := 28) (oi := ⟨_, _, _, _, _, _⟩) (v := ?_) rfl (by kernel_rfl) (by kernel_rfl) (by kernel_rfl) (fun _ _ _ h => h) (Or.inl ⟨by rfl, ?_⟩) (by assumption) ?_
  rotate_left
  · intro wz hSw
    try dsimp only at hSw
    go_simp
    try with_reducible rfl
  try simp only [Act.put, List.setIfInBounds_toArray, List.set_cons_zero, List.set_cons_succ]
  refine wpAnyH_take (i := 29) (oi := ⟨_, _, _, _, _, _⟩) (v := ?_) rfl (by kernel_rfl) (by kernel_rfl) (by kernel_rfl) (fun _ _ _ h => h) (Or.inl ⟨by rfl, ?_⟩) (by assumption) ?_
  rotate_left
  · intro wz hSw
    try dsimp only at hSw
    go_simp
    try with_reducible rfl
  try simp only [Act.put, List.setIfInBounds_toArray, List.set_cons_zero, List.set_cons_succ]
  refine wpAnyH_ready (rs := [24]) (by kernel_rfl) (by simp) ?_
  refine AllReadyH.cons (o := ⟨_, _, _, _, _, _⟩) rfl (fun K hK => ?_) AllReadyH.nil
  go_simp
  refine (KVa.out _ _ _ T.out.bel V.out).mono ?_
  rintro e w19 ⟨rfl, hb⟩
  replace T := Lib.hid (T.out.step hb)
  replace B1 := Lib.hid (B1.out.step hb)
  replace B2 := Lib.hid (B2.out.step hb)
  replace B3 := Lib.hid (B3.out.step hb)
  replace V := Lib.hid (V.out.step hb)
  replace U := Lib.hid (U.out.step hb)
  replace HZV := Lib.hid (HZV.out.step hb)
  replace V13 := Lib.hid (V13.out.step hb)
  clear hb hHeld
  refine hK.out _ _ ⟨B1.out, B3.out, (B1.out.c 18 _ V.out.sigE), (B1.out.c 19 _ V.out.sigS)⟩ (fun hHeld => ?_)
  clear hK K
  try simp only [Act.put, List.setIfInBounds_toArray, List.set_cons_zero, List.set_cons_succ]
  refine wpAnyH_ready (rs := [27]) (by kernel_rfl) (by simp) ?_
  refine AllReadyH.cons (o := ⟨_, _, _, _, _, _⟩) rfl (fun K hK => ?_) AllReadyH.nil
  go_simp
  refine (KCa.out _ _ _ T.out.bel V.out).mono ?_
  rintro e w20 ⟨rfl, hb⟩
  replace T := Lib.hid (T.out.step hb)
  replace B1 := Lib.hid (B1.out.step hb)
  replace B2 := Lib.hid (B2.out.step hb)
  replace B3 := Lib.hid (B3.out.step hb)
  replace V := Lib.hid (V.out.step hb)
  replace U := Lib.hid (U.out.step hb)
  replace HZV := Lib.hid (HZV.out.step hb)
  replace V13 := Lib.hid (V13.out.step hb)
  clear hb hHeld
  refine hK.out _ _ ⟨B1.out, B3.out, (B1.out.c 18 _ V.out.sigE), (B1.out.c 19 _ V.out.sigS)⟩ (fun hHeld => ?_)
  clear hK K
  try simp only [Act.put, List.setIfInBounds_toArray, List.set_cons_zero, List.set_cons_succ]
  refine wpAnyH_ready (rs := [30]) (by kernel_rfl) (by simp) ?_
  refine AllReadyH.cons (o := ⟨_, _, _, _, _, _⟩) rfl (fun K hK => ?_) AllReadyH.nil
  go_simp
  refine (KSV.out _ T.out.bel).mono ?_
  rintro e w21 ⟨rfl, hb⟩
  replace T := Lib.hid (T.out.step hb)
  replace B1 := Lib.hid (B1.out.step hb)
  replace B2 := Lib.hid (B2.out.step hb)
  replace B3 := Lib.hid (B3.out.step hb)
  replace V := Lib.hid (V.out.step hb)
  replace U := Lib.hid (U.out.step hb)
  replace HZV := Lib.hid (HZV.out.step hb)
  replace V13 := Lib.hid (V13.out.step hb)
  clear hb hHeld
  refine hK.out _ _ ⟨B1.out, B3.out, (B1.out.c 18 _ V.out.sigE), (B1.out.c 19 _ V.out.sigS)⟩ (fun hHeld => ?_)
  clear hK K
  try simp only [Act.put, List.setIfInBounds_toArray, List.set_cons_zero, List.set_cons_succ]
  refine wpAnyH_take (i := 31) (oi := ⟨_, _, _, _, _, _⟩) (v := ?_) rfl (by kernel_rfl) (by kernel_rfl) (by kernel_rfl) (fun _ _ _ h => h) (Or.inl ⟨by rfl, ?_⟩) (by assumption) ?_
  rotate_left
  · intro wz hSw
    try dsimp only at hSw
    go_simp
    try with_reducible rfl
  try simp only [Act.put, List.setIfInBounds_toArray, List.set_cons_zero, List.set_cons_succ]
  refine wpAnyH_take (i := 32) (oi := ⟨_, _, _, _, _, _⟩) (v := ?_) rfl (by kernel_rfl) (by kernel_rfl) (by kernel_rfl) (fun _ _ _ h => h) (Or.inl ⟨by rfl, ?_⟩) (by assumption) ?_
  rotate_left
  · intro wz hSw
    try dsimp only at hSw
    go_simp
    try with_reducible rfl
  try simp only [Act.put, List.setIfInBounds_toArray, List.set_cons_zero, List.set_cons_succ]
  refine wpAnyH_take (i := 33) (oi := ⟨_, _, _, _, _, _⟩) (v := ?_) rfl (by kernel_rfl) (by kernel_rfl) (by kernel_rfl) (fun _ _ _ h => h) (Or.inl ⟨by rfl, ?_⟩) (by assumption) ?_
  rotate_left
  · intro wz hSw
    try dsimp only at hSw
    go_simp
    try with_reducible rfl
  try simp only [Act.put, List.setIfInBounds_toArray, List.set_cons_zero, List.set_cons_succ]
  refine wpAnyH_done (by kernel_rfl) ?_ _
  clear hHeld
  go_wp2
  go_ret
  exact ⟨rfl, T.out.bel⟩
set_option maxHeartbeats 4000000 in
set_option maxRecDepth 100000 in
theorem binds_sig {keyOk : Int → Int → Bool} {sgn : Int → Int → Str → Int × Int} {ver : Int → Str → Int → Int → Bool} {W : World} (P : Pk keyOk sgn ver W) (hsm : Ok W 9 #[] (.bool true))
    (a : Ac) (e s e' s' : Int) (cs ds : List Value) (p : Int) (hv0 : Av W W.heap.size cs a e s) (hv1 : Av W W.heap.size ds a e' s') (hz : Sz 281474976710656 140737488355328 a) (hp : -9223372036854775808 ≤ p ∧ p ≤ 9223372036854775807)
    (h : fewB a = true) (h3 : valid a e s = true) (h4 : valid a e' s' = true) (hne : e = e' → s = s' → False) :
    Calls Tryz.prog 5 #[.agg cs.toArray, .agg ds.toArray, .int .i64 p] W fun x w' => x = .returned (.bool true) ∧ Below W.heap.size W w' := by
  have KS := Lib.hid hsm
  have T := Lib.hid (Lk.At.start W)
  obtain ⟨zc, hzc⟩ : ∃ x, x = Lk.zc := ⟨_, rfl⟩
  have HZC := Lib.hid hzc
  have HZV := Lib.hid (show Av W 0 zc ac0 0 0 from hzc ▸ Av.zero W)
  clear hzc
  have V := Lib.hid hv0
  have U := Lib.hid hv1
  have KFa := fun (w : World) (b0 : Nat) (c0 : List Value) (hb : Below W.heap.size W w) (h0 : Av w b0 c0 a e s) => fewC h0 hz
  rw [h] at KFa
  replace KFa := Lib.hid KFa
  have KFb := fun (w : World) (b0 : Nat) (c0 : List Value) (hb : Below W.heap.size W w) (h0 : Av w b0 c0 a e' s') => fewC h0 hz
  rw [h] at KFb
  replace KFb := Lib.hid KFb
  have KRa := fun (w : World) (b0 : Nat) (c0 : List Value) (hb : Below W.heap.size W w) (h0 : Av w b0 c0 a e s) => P.rightC hb h0 (few_sz6 h)
  rw [h3] at KRa
  replace KRa := Lib.hid KRa
  have KRb := fun (w : World) (b0 : Nat) (c0 : List Value) (hb : Below W.heap.size W w) (h0 : Av w b0 c0 a e' s') => P.rightC hb h0 (few_sz6 h)
  rw [h4] at KRb
  replace KRb := Lib.hid KRb
  have h6 := few_sz6 h
  have hl := core_le (lim_of (valid_good h3))
  have KBa := fun (w : World) (b0 : Nat) (c0 : List Value) (hb : Below W.heap.size W w) (h0 : Av w b0 c0 a e s) => P.bytesC hb h0 h6
  rw [show bytes a e s = bytesB a e s from if_pos h3] at KBa
  have KCa := fun (w : World) (b0 : Nat) (c0 : List Value) (hb : Below W.heap.size W w) (h0 : Av w b0 c0 a e s) => P.coreC hb h0 h6
  rw [show core a e s = coreB a from if_pos h3] at KCa
  have KVa := fun (w : World) (b0 : Nat) (c0 : List Value) (hb : Below W.heap.size W w) (h0 : Av w b0 c0 a e s) => P.verifyC hp hb h0 h6
  rw [h3, Bool.true_and] at KVa
  have hsg : sigOk e s = true := by simp only [valid, Bool.and_eq_true] at h3; exact h3.1
  have KSV := P.verR p (coreB a) e s hp (by omega) hsg
  have KBb := fun (w : World) (b0 : Nat) (c0 : List Value) (hb : Below W.heap.size W w) (h0 : Av w b0 c0 a e' s') => P.bytesC hb h0 h6
  rw [show bytes a e' s' = bytesB a e' s' from if_pos h4] at KBb
  have KCb := fun (w : World) (b0 : Nat) (c0 : List Value) (hb : Below W.heap.size W w) (h0 : Av w b0 c0 a e' s') => P.coreC hb h0 h6
  rw [show core a e' s' = coreB a from if_pos h4] at KCb
  have KS1 := fun (w : World) (b0 : Nat) (c0 : List Value) (b1 : Nat) (c1 : List Value) (hb : Below W.heap.size W w) (h0 : Av w b0 c0 a e s) (h1 : Av w b1 c1 a e' s') => P.sameC (r := false) hb h0 h1 h6 h6 (by simpa using hne)
  replace KS1 := Lib.hid KS1
  have KS2 := fun (w : World) (b0 : Nat) (c0 : List Value) (b1 : Nat) (c1 : List Value) (hb : Below W.heap.size W w) (h0 : Av w b0 c0 a e s) (h1 : Av w b1 c1 a e s) => P.sameC (r := true) hb h0 h1 h6 h6 (by simp)
  replace KS2 := Lib.hid KS2
  obtain ⟨ca, hca⟩ : ∃ x, x = coreB a := ⟨_, rfl⟩
  obtain ⟨va, hva⟩ : ∃ x, x = ver p (coreB a) e s := ⟨_, rfl⟩
  rw [← hva] at KVa KSV
  have hbb : (bytesB a e s == bytesB a e' s') = false := beq_eq_false_iff_ne.2 fun hh => by
    have := bytes_inj h3 h4 hh
    exact hne this.2.1 this.2.2
  obtain ⟨ba, hba⟩ : ∃ x, x = bytesB a e s := ⟨_, rfl⟩
  obtain ⟨bb, hbx⟩ : ∃ x, x = bytesB a e' s' := ⟨_, rfl⟩
  rw [← hba] at KBa
  rw [← hbx] at KBb
  rw [← hba, ← hbx] at hbb
  rw [← hca] at KCa KSV KCb
  replace KBa := Lib.hid KBa
  replace KBb := Lib.hid KBb
  replace KCa := Lib.hid KCa
  replace KCb := Lib.hid KCb
  replace KVa := Lib.hid KVa
  replace KSV := Lib.hid KSV
  clear P hsm hv0 hv1 hz hp h h3 h4 h6 hl hsg hca hva hba hbx hne
  go_enter Tryz.func5, Tryz.ntmps5
  go_wp2_with (first | fail)
  replace T := Lib.hid (T.out.alloc (.cells cs.toArray 29))
  replace V := Lib.hid (V.out.alloc (.cells cs.toArray 29))
  replace U := Lib.hid (U.out.alloc (.cells cs.toArray 29))
  replace HZV := Lib.hid (HZV.out.alloc (.cells cs.toArray 29))
  have B1 := Lib.hid (show Lk.Bl (W.alloc (.cells cs.toArray 29)) W.heap.size cs 29 from by have h := Lk.Bl.new W cs 29; simpa using h)
  replace T := Lib.hid (T.out.alloc (.cells ds.toArray 29))
  replace B1 := Lib.hid (B1.out.alloc (.cells ds.toArray 29))
  replace V := Lib.hid (V.out.alloc (.cells ds.toArray 29))
  replace U := Lib.hid (U.out.alloc (.cells ds.toArray 29))
  replace HZV := Lib.hid (HZV.out.alloc (.cells ds.toArray 29))
  have B2 := Lib.hid (show Lk.Bl ((W.alloc (.cells cs.toArray 29)).alloc (.cells ds.toArray 29)) (W.heap.size + 1) ds 29 from by have h := Lk.Bl.new (W.alloc (.cells cs.toArray 29)) ds 29; simpa using h)
  generalize (W.alloc (.cells cs.toArray 29)).alloc (.cells ds.toArray 29) = w1 at *
  refine (KS.out _ T.out.bel).mono ?_
  rintro e w2 ⟨rfl, hb⟩
  replace T := Lib.hid (T.out.step hb)
  replace B1 := Lib.hid (B1.out.step hb)
  replace B2 := Lib.hid (B2.out.step hb)
  replace V := Lib.hid (V.out.step hb)
  replace U := Lib.hid (U.out.step hb)
  replace HZV := Lib.hid (HZV.out.step hb)
  clear hb
  go_wp2_with (first | ((with_reducible refine Lk.ld (d := 12) W.heap.size B1.out V.out.len ?_ ?_ ?_); exact rfl; exact rfl) | fail)
  refine (KFa.out _ _ _ T.out.bel V.out).mono ?_
  rintro e w3 ⟨rfl, hb⟩
  replace T := Lib.hid (T.out.step hb)
  replace B1 := Lib.hid (B1.out.step hb)
  replace B2 := Lib.hid (B2.out.step hb)
  replace V := Lib.hid (V.out.step hb)
  replace U := Lib.hid (U.out.step hb)
  replace HZV := Lib.hid (HZV.out.step hb)
  clear hb
  go_wp2_with (first | ((with_reducible refine Lk.ld (d := 16) (W.heap.size + 1) B2.out U.out.len ?_ ?_ ?_); exact rfl; exact rfl) | fail)
  refine (KFb.out _ _ _ T.out.bel U.out).mono ?_
  rintro e w4 ⟨rfl, hb⟩
  replace T := Lib.hid (T.out.step hb)
  replace B1 := Lib.hid (B1.out.step hb)
  replace B2 := Lib.hid (B2.out.step hb)
  replace V := Lib.hid (V.out.step hb)
  replace U := Lib.hid (U.out.step hb)
  replace HZV := Lib.hid (HZV.out.step hb)
  clear hb
  go_wp2_with (first | ((with_reducible refine Lk.ld (d := 21) W.heap.size B1.out V.out.len ?_ ?_ ?_); exact rfl; exact rfl) | fail)
  refine (KRa.out _ _ _ T.out.bel V.out).mono ?_
  rintro e w5 ⟨rfl, hb⟩
  replace T := Lib.hid (T.out.step hb)
  replace B1 := Lib.hid (B1.out.step hb)
  replace B2 := Lib.hid (B2.out.step hb)
  replace V := Lib.hid (V.out.step hb)
  replace U := Lib.hid (U.out.step hb)
  replace HZV := Lib.hid (HZV.out.step hb)
  clear hb
  go_wp2_with (first | ((with_reducible refine Lk.ld (d := 26) (W.heap.size + 1) B2.out U.out.len ?_ ?_ ?_); exact rfl; exact rfl) | fail)
  refine (KRb.out _ _ _ T.out.bel U.out).mono ?_
  rintro e w6 ⟨rfl, hb⟩
  replace T := Lib.hid (T.out.step hb)
  replace B1 := Lib.hid (B1.out.step hb)
  replace B2 := Lib.hid (B2.out.step hb)
  replace V := Lib.hid (V.out.step hb)
  replace U := Lib.hid (U.out.step hb)
  replace HZV := Lib.hid (HZV.out.step hb)
  clear hb
  go_wp2_with (first | ((with_reducible refine Lk.ld (d := 31) W.heap.size B1.out V.out.len ?_ ?_ ?_); exact rfl; exact rfl) | ((with_reducible refine Lk.ld (d := 32) (W.heap.size + 1) B2.out U.out.len ?_ ?_ ?_); exact rfl; exact rfl) | fail)
  refine (KS1.out _ _ _ _ _ T.out.bel V.out U.out).mono ?_
  rintro e w7 ⟨rfl, hb⟩
  replace T := Lib.hid (T.out.step hb)
  replace B1 := Lib.hid (B1.out.step hb)
  replace B2 := Lib.hid (B2.out.step hb)
  replace V := Lib.hid (V.out.step hb)
  replace U := Lib.hid (U.out.step hb)
  replace HZV := Lib.hid (HZV.out.step hb)
  clear hb
  go_wp2_with (first | fail)
  replace T := Lib.hid (T.out.drew)
  replace B1 := Lib.hid (B1.out.drew)
  replace B2 := Lib.hid (B2.out.drew)
  replace V := Lib.hid (V.out.drew)
  replace U := Lib.hid (U.out.drew)
  replace HZV := Lib.hid (HZV.out.drew)
  refine wp_region_held_drew (S := (fun w' => Lk.Bl w' W.heap.size cs 29 ∧ Lk.Bl w' (W.heap.size + 1) ds 29)) (by kernel_rfl) ⟨B1.out, B2.out⟩ (fun hHeld => ?_)
  refine wpAnyH_take (i := 0) (oi := ⟨_, _, _, _, _, _⟩) (v := .agg cs.toArray) rfl (by kernel_rfl) (by kernel_rfl) (by kernel_rfl) (fun _ _ _ h => h) (Or.inl ⟨by rfl, fun wz hSw => Lk.act_run _ rfl _ rfl hSw.1 V.out.len⟩) (by assumption) ?_
  try simp only [Act.put, List.setIfInBounds_toArray, List.set_cons_zero, List.set_cons_succ]
  refine wpAnyH_take (i := 2) (oi := ⟨_, _, _, _, _, _⟩) (v := .agg ds.toArray) rfl (by kernel_rfl) (by kernel_rfl) (by kernel_rfl) (fun _ _ _ h => h) (Or.inl ⟨by rfl, fun wz hSw => Lk.act_run _ rfl _ rfl hSw.2 U.out.len⟩) (by assumption) ?_
  try simp only [Act.put, List.setIfInBounds_toArray, List.set_cons_zero, List.set_cons_succ]
  refine wpAnyH_take (i := 5) (oi := ⟨_, _, _, _, _, _⟩) (v := ?_) rfl (by kernel_rfl) (by kernel_rfl) (by kernel_rfl) (fun _ _ _ h => h) (Or.inl ⟨by rfl, ?_⟩) (by assumption) ?_
  rotate_left
  · intro wz hSw
    try dsimp only at hSw
    go_simp
    try with_reducible rfl
  try simp only [Act.put, List.setIfInBounds_toArray, List.set_cons_zero, List.set_cons_succ]
  refine wpAnyH_ready (rs := [1]) (by kernel_rfl) (by simp) ?_
  refine AllReadyH.cons (o := ⟨_, _, _, _, _, _⟩) rfl (fun K hK => ?_) AllReadyH.nil
  go_simp
  refine (KBa.out _ _ _ T.out.bel V.out).mono ?_
  rintro e w8 ⟨rfl, hb⟩
  replace T := Lib.hid (T.out.step hb)
  replace B1 := Lib.hid (B1.out.step hb)
  replace B2 := Lib.hid (B2.out.step hb)
  replace V := Lib.hid (V.out.step hb)
  replace U := Lib.hid (U.out.step hb)
  replace HZV := Lib.hid (HZV.out.step hb)
  clear hb hHeld
  refine hK.out _ _ ⟨B1.out, B2.out⟩ (fun hHeld => ?_)
  clear hK K
  try simp only [Act.put, List.setIfInBounds_toArray, List.set_cons_zero, List.set_cons_succ]
  refine wpAnyH_ready (rs := [3]) (by kernel_rfl) (by simp) ?_
  refine AllReadyH.cons (o := ⟨_, _, _, _, _, _⟩) rfl (fun K hK => ?_) AllReadyH.nil
  go_simp
  refine (KBb.out _ _ _ T.out.bel U.out).mono ?_
  rintro e w9 ⟨rfl, hb⟩
  replace T := Lib.hid (T.out.step hb)
  replace B1 := Lib.hid (B1.out.step hb)
  replace B2 := Lib.hid (B2.out.step hb)
  replace V := Lib.hid (V.out.step hb)
  replace U := Lib.hid (U.out.step hb)
  replace HZV := Lib.hid (HZV.out.step hb)
  clear hb hHeld
  refine hK.out _ _ ⟨B1.out, B2.out⟩ (fun hHeld => ?_)
  clear hK K
  try simp only [Act.put, List.setIfInBounds_toArray, List.set_cons_zero, List.set_cons_succ]
  refine wpAnyH_take (i := 4) (oi := ⟨_, _, _, _, _, _⟩) (v := ?_) rfl (by kernel_rfl) (by kernel_rfl) (by kernel_rfl) (fun _ _ _ h => h) (Or.inl ⟨by rfl, ?_⟩) (by assumption) ?_
  rotate_left
  · intro wz hSw
    try dsimp only at hSw
    go_simp
    try with_reducible rfl
  try simp only [Act.put, List.setIfInBounds_toArray, List.set_cons_zero, List.set_cons_succ]
  refine wpAnyH_take (i := 6) (oi := ⟨_, _, _, _, _, _⟩) (v := ?_) rfl (by kernel_rfl) (by kernel_rfl) (by kernel_rfl) (fun _ _ _ h => h) (Or.inl ⟨by rfl, ?_⟩) (by assumption) ?_
  rotate_left
  · intro wz hSw
    try dsimp only at hSw
    go_simp
    try with_reducible rfl
  try simp only [Act.put, List.setIfInBounds_toArray, List.set_cons_zero, List.set_cons_succ]
  refine wpAnyH_take (i := 7) (oi := ⟨_, _, _, _, _, _⟩) (v := ?_) rfl (by kernel_rfl) (by kernel_rfl) (by kernel_rfl) (fun _ _ _ h => h) (Or.inl ⟨by rfl, ?_⟩) (by assumption) ?_
  rotate_left
  · intro wz hSw
    try dsimp only at hSw
    go_simp
    try with_reducible rfl
  try simp only [Act.put, List.setIfInBounds_toArray, List.set_cons_zero, List.set_cons_succ]
  refine wpAnyH_take (i := 8) (oi := ⟨_, _, _, _, _, _⟩) (v := ?_) rfl (by kernel_rfl) (by kernel_rfl) (by kernel_rfl) (fun _ _ _ h => h) (Or.inl ⟨by rfl, ?_⟩) (by assumption) ?_
  rotate_left
  · intro wz hSw
    try dsimp only at hSw
    go_simp
    try with_reducible rfl
  try simp only [Act.put, List.setIfInBounds_toArray, List.set_cons_zero, List.set_cons_succ]
  refine wpAnyH_take (i := 9) (oi := ⟨_, _, _, _, _, _⟩) (v := ?_) rfl (by kernel_rfl) (by kernel_rfl) (by kernel_rfl) (fun _ _ _ h => h) (Or.inl ⟨by rfl, ?_⟩) (by assumption) ?_
  rotate_left
  · intro wz hSw
    try dsimp only at hSw
    go_simp
    try with_reducible rfl
  try simp only [Act.put, List.setIfInBounds_toArray, List.set_cons_zero, List.set_cons_succ]
  refine wpAnyH_take (i := 10) (oi := ⟨_, _, _, _, _, _⟩) (v := undef) rfl (by kernel_rfl) (by kernel_rfl) (by kernel_rfl) (fun _ _ _ h => h) (Or.inr ⟨by rfl, rfl⟩) (by assumption) ?_
  try simp only [Act.put, List.setIfInBounds_toArray, List.set_cons_zero, List.set_cons_succ]
  refine wpAnyH_take (i := 11) (oi := ⟨_, _, _, _, _, _⟩) (v := undef) rfl (by kernel_rfl) (by kernel_rfl) (by kernel_rfl) (fun _ _ _ h => h) (Or.inr ⟨by rfl, rfl⟩) (by assumption) ?_
  try simp only [Act.put, List.setIfInBounds_toArray, List.set_cons_zero, List.set_cons_succ]
  refine wpAnyH_take (i := 12) (oi := ⟨_, _, _, _, _, _⟩) (v := undef) rfl (by kernel_rfl) (by kernel_rfl) (by kernel_rfl) (fun _ _ _ h => h) (Or.inr ⟨by rfl, rfl⟩) (by assumption) ?_
  try simp only [Act.put, List.setIfInBounds_toArray, List.set_cons_zero, List.set_cons_succ]
  refine wpAnyH_take (i := 13) (oi := ⟨_, _, _, _, _, _⟩) (v := undef) rfl (by kernel_rfl) (by kernel_rfl) (by kernel_rfl) (fun _ _ _ h => h) (Or.inr ⟨by rfl, rfl⟩) (by assumption) ?_
  try simp only [Act.put, List.setIfInBounds_toArray, List.set_cons_zero, List.set_cons_succ]
  refine wpAnyH_take (i := 14) (oi := ⟨_, _, _, _, _, _⟩) (v := undef) rfl (by kernel_rfl) (by kernel_rfl) (by kernel_rfl) (fun _ _ _ h => h) (Or.inr ⟨by rfl, rfl⟩) (by assumption) ?_
  try simp only [Act.put, List.setIfInBounds_toArray, List.set_cons_zero, List.set_cons_succ]
  refine wpAnyH_take (i := 15) (oi := ⟨_, _, _, _, _, _⟩) (v := undef) rfl (by kernel_rfl) (by kernel_rfl) (by kernel_rfl) (fun _ _ _ h => h) (Or.inr ⟨by rfl, rfl⟩) (by assumption) ?_
  try simp only [Act.put, List.setIfInBounds_toArray, List.set_cons_zero, List.set_cons_succ]
  refine wpAnyH_take (i := 16) (oi := ⟨_, _, _, _, _, _⟩) (v := undef) rfl (by kernel_rfl) (by kernel_rfl) (by kernel_rfl) (fun _ _ _ h => h) (Or.inr ⟨by rfl, rfl⟩) (by assumption) ?_
  try simp only [Act.put, List.setIfInBounds_toArray, List.set_cons_zero, List.set_cons_succ]
  refine wpAnyH_take (i := 17) (oi := ⟨_, _, _, _, _, _⟩) (v := ?_) rfl (by kernel_rfl) (by kernel_rfl) (by kernel_rfl) (fun _ _ _ h => h) (Or.inl ⟨by rfl, ?_⟩) (by assumption) ?_
  rotate_left
  · intro wz hSw
    try dsimp only at hSw
    go_simp
    try with_reducible rfl
  try simp only [Act.put, List.setIfInBounds_toArray, List.set_cons_zero, List.set_cons_succ]
  refine wpAnyH_take (i := 18) (oi := ⟨_, _, _, _, _, _⟩) (v := ?_) rfl (by kernel_rfl) (by kernel_rfl) (by kernel_rfl) (fun _ _ _ h => h) (Or.inl ⟨by rfl, ?_⟩) (by assumption) ?_
  rotate_left
  · intro wz hSw
    try dsimp only at hSw
    go_simp
    try with_reducible rfl
  try simp only [Act.put, List.setIfInBounds_toArray, List.set_cons_zero, List.set_cons_succ]
  refine wpAnyH_done (by kernel_rfl) ?_ _
  clear hHeld
  go_wp2_with (first | ((with_reducible refine Lk.nw ds U.out.len U.out.one ?_ ?_ ?_ ?_); exact rfl; exact rfl; exact rfl) | ((with_reducible refine Lk.ld (d := 53) (W.heap.size + 1) B2.out U.out.len ?_ ?_ ?_); exact rfl; exact rfl) | fail)
  intro w10 bN hb
  have LB1_B3 := Lib.hid (show W.heap.size < w9.heap.size from B1.out.lt)
  have LB2_B3 := Lib.hid (show (W.heap.size + 1) < w9.heap.size from B2.out.lt)
  have GV_B3 := Lib.hid (show W.heap.size ≤ w9.heap.size from V.out.le)
  have GU_B3 := Lib.hid (show W.heap.size ≤ w9.heap.size from U.out.le)
  have GHZV_B3 := Lib.hid (show 0 ≤ w9.heap.size from HZV.out.le)
  have GB3 := Lib.hid (show W.heap.size ≤ w9.heap.size from T.out.bel.size)
  replace T := Lib.hid (T.out.step hb)
  replace B1 := Lib.hid (B1.out.step hb)
  replace B2 := Lib.hid (B2.out.step hb)
  replace V := Lib.hid (V.out.step hb)
  replace U := Lib.hid (U.out.step hb)
  replace HZV := Lib.hid (HZV.out.step hb)
  have B3 := Lib.hid (show Lk.Bl w10 w9.heap.size ds 29 from bN)
  clear bN hb
  have cB1_18 := B1.out.c 18 _ V.out.sigE
  have cB1_19 := B1.out.c 19 _ V.out.sigS
  go_wp2_with (first | ((with_reducible refine Lk.st w9.heap.size 18 [.int .i64 e, .int .i64 s] (.agg #[.int .i64 e, .int .i64 s]) B3.out ?_ ?_ ?_ ?_ ?_ ?_ ?_); exact Lk.infoG; exact rfl; (rw [U.out.len]; exact Nat.le_of_ble_eq_true rfl); (simp [Value.oneCell']); exact rfl; exact rfl) | fail)
  clear cB1_18 cB1_19
  intro w11 bN hb
  replace B1 := Lib.hid (B1.out.under hb LB1_B3.out)
  replace B2 := Lib.hid (B2.out.under hb LB2_B3.out)
  replace T := Lib.hid (T.out.under hb GB3.out)
  replace V := Lib.hid (V.out.under hb GV_B3.out)
  replace U := Lib.hid (U.out.under hb GU_B3.out)
  replace HZV := Lib.hid (HZV.out.under hb GHZV_B3.out)
  obtain ⟨cs11, hcs11⟩ : ∃ x : List Value, x = ds.take 18 ++ [.int .i64 e, .int .i64 s] ++ ds.drop (18 + ([.int .i64 e, .int .i64 s] : List Value).length) := ⟨_, rfl⟩
  have V11 := Lib.hid (show Av w11 W.heap.size cs11 a e s from by rw [hcs11]; exact U.out.put 18 [.int .i64 e, .int .i64 s] rfl rfl (fun _ _ _ _ _ _ => rfl))
  replace B3 := Lib.hid (show Lk.Bl w11 w9.heap.size cs11 29 from by rw [hcs11]; exact bN)
  clear bN hb hcs11
  have GV11_B3 := GU_B3
  go_wp2_with (first | fail)
  replace T := Lib.hid (T.out.drew)
  replace B1 := Lib.hid (B1.out.drew)
  replace B2 := Lib.hid (B2.out.drew)
  replace B3 := Lib.hid (B3.out.drew)
  replace V := Lib.hid (V.out.drew)
  replace U := Lib.hid (U.out.drew)
  replace HZV := Lib.hid (HZV.out.drew)
  replace V11 := Lib.hid (V11.out.drew)
  refine wp_region_held_drew (S := (fun w' => Lk.Bl w' W.heap.size cs 29 ∧ Lk.Bl w' (W.heap.size + 1) ds 29)) (by kernel_rfl) ⟨B1.out, B2.out⟩ (fun hHeld => ?_)
  refine wpAnyH_take (i := 0) (oi := ⟨_, _, _, _, _, _⟩) (v := .agg cs.toArray) rfl (by kernel_rfl) (by kernel_rfl) (by kernel_rfl) (fun _ _ _ h => h) (Or.inl ⟨by rfl, fun wz hSw => Lk.act_run _ rfl _ rfl hSw.1 V.out.len⟩) (by assumption) ?_
  try simp only [Act.put, List.setIfInBounds_toArray, List.set_cons_zero, List.set_cons_succ]
  refine wpAnyH_take (i := 2) (oi := ⟨_, _, _, _, _, _⟩) (v := .agg ds.toArray) rfl (by kernel_rfl) (by kernel_rfl) (by kernel_rfl) (fun _ _ _ h => h) (Or.inl ⟨by rfl, fun wz hSw => Lk.act_run _ rfl _ rfl hSw.2 U.out.len⟩) (by assumption) ?_
  try simp only [Act.put, List.setIfInBounds_toArray, List.set_cons_zero, List.set_cons_succ]
  refine wpAnyH_ready (rs := [1]) (by kernel_rfl) (by simp) ?_
  refine AllReadyH.cons (o := ⟨_, _, _, _, _, _⟩) rfl (fun K hK => ?_) AllReadyH.nil
  go_simp
  refine (KCa.out _ _ _ T.out.bel V.out).mono ?_
  rintro e w12 ⟨rfl, hb⟩
  replace T := Lib.hid (T.out.step hb)
  replace B1 := Lib.hid (B1.out.step hb)
  replace B2 := Lib.hid (B2.out.step hb)
  replace B3 := Lib.hid (B3.out.step hb)
  replace V := Lib.hid (V.out.step hb)
  replace U := Lib.hid (U.out.step hb)
  replace HZV := Lib.hid (HZV.out.step hb)
  replace V11 := Lib.hid (V11.out.step hb)
  clear hb hHeld
  refine hK.out _ _ ⟨B1.out, B2.out⟩ (fun hHeld => ?_)
  clear hK K
  try simp only [Act.put, List.setIfInBounds_toArray, List.set_cons_zero, List.set_cons_succ]
  refine wpAnyH_ready (rs := [3]) (by kernel_rfl) (by simp) ?_
  refine AllReadyH.cons (o := ⟨_, _, _, _, _, _⟩) rfl (fun K hK => ?_) AllReadyH.nil
  go_simp
  refine (KCb.out _ _ _ T.out.bel U.out).mono ?_
  rintro e w13 ⟨rfl, hb⟩
  replace T := Lib.hid (T.out.step hb)
  replace B1 := Lib.hid (B1.out.step hb)
  replace B2 := Lib.hid (B2.out.step hb)
  replace B3 := Lib.hid (B3.out.step hb)
  replace V := Lib.hid (V.out.step hb)
  replace U := Lib.hid (U.out.step hb)
  replace HZV := Lib.hid (HZV.out.step hb)
  replace V11 := Lib.hid (V11.out.step hb)
  clear hb hHeld
  refine hK.out _ _ ⟨B1.out, B2.out⟩ (fun hHeld => ?_)
  clear hK K
  try simp only [Act.put, List.setIfInBounds_toArray, List.set_cons_zero, List.set_cons_succ]
  refine wpAnyH_take (i := 4) (oi := ⟨_, _, _, _, _, _⟩) (v := ?_) rfl (by kernel_rfl) (by kernel_rfl) (by kernel_rfl) (fun _ _ _ h => h) (Or.inl ⟨by rfl, ?_⟩) (by assumption) ?_
  rotate_left
  · intro wz hSw
    try dsimp only at hSw
    go_simp
    try with_reducible rfl
  try simp only [Act.put, List.setIfInBounds_toArray, List.set_cons_zero, List.set_cons_succ]
  refine wpAnyH_take (i := 5) (oi := ⟨_, _, _, _, _, _⟩) (v := ?_) rfl (by kernel_rfl) (by kernel_rfl) (by kernel_rfl) (fun _ _ _ h => h) (Or.inl ⟨by rfl, ?_⟩) (by assumption) ?_
  rotate_left
  · intro wz hSw
    try dsimp only at hSw
    go_simp
    try with_reducible rfl
  try simp only [Act.put, List.setIfInBounds_toArray, List.set_cons_zero, List.set_cons_succ]
  refine wpAnyH_done (by kernel_rfl) ?_ _
  clear hHeld
  go_wp2_with (first | fail)
  replace T := Lib.hid (T.out.drew)
  replace B1 := Lib.hid (B1.out.drew)
  replace B2 := Lib.hid (B2.out.drew)
  replace B3 := Lib.hid (B3.out.drew)
  replace V := Lib.hid (V.out.drew)
  replace U := Lib.hid (U.out.drew)
  replace HZV := Lib.hid (HZV.out.drew)
  replace V11 := Lib.hid (V11.out.drew)
  refine wp_region_held_drew (S := (fun w' => Lk.Bl w' W.heap.size cs 29 ∧ Lk.Bl w' w9.heap.size cs11 29 ∧ w'.cell? ⟨W.heap.size, 18, none⟩ = some (.int .i64 e) ∧ w'.cell? ⟨W.heap.size, 19, none⟩ = some (.int .i64 s))) (by kernel_rfl) ⟨B1.out, B3.out, (B1.out.c 18 _ V.out.sigE), (B1.out.c 19 _ V.out.sigS)⟩ (fun hHeld => ?_)
  refine wpAnyH_take (i := 0) (oi := ⟨_, _, _, _, _, _⟩) (v := ?_) rfl (by kernel_rfl) (by kernel_rfl) (by kernel_rfl) (fun _ _ _ h => h) (Or.inl ⟨by rfl, ?_⟩) (by assumption) ?_
  rotate_left
  · intro wz hSw
    try dsimp only at hSw
    go_simp
    try with_reducible rfl
  try simp only [Act.put, List.setIfInBounds_toArray, List.set_cons_zero, List.set_cons_succ]
  refine wpAnyH_take (i := 1) (oi := ⟨_, _, _, _, _, _⟩) (v := ?_) rfl (by kernel_rfl) (by kernel_rfl) (by kernel_rfl) (fun _ _ _ h => h) (Or.inl ⟨by rfl, ?_⟩) (by assumption) ?_
  rotate_left
  · intro wz hSw
    try dsimp only at hSw
    go_simp
    try with_reducible rfl
  try simp only [Act.put, List.setIfInBounds_toArray, List.set_cons_zero, List.set_cons_succ]
  refine wpAnyH_take (i := 2) (oi := ⟨_, _, _, _, _, _⟩) (v := ?_) rfl (by kernel_rfl) (by kernel_rfl) (by kernel_rfl) (fun _ _ _ h => h) (Or.inl ⟨by rfl, ?_⟩) (by assumption) ?_
  rotate_left
  · intro wz hSw
    try dsimp only at hSw
    go_simp
    try with_reducible rfl
  try simp only [Act.put, List.setIfInBounds_toArray, List.set_cons_zero, List.set_cons_succ]
  refine wpAnyH_take (i := 3) (oi := ⟨_, _, _, _, _, _⟩) (v := .agg cs.toArray) rfl (by kernel_rfl) (by kernel_rfl) (by kernel_rfl) (fun _ _ _ h => h) (Or.inl ⟨by rfl, fun wz hSw => Lk.act_run _ rfl _ rfl hSw.1 V.out.len⟩) (by assumption) ?_
  try simp only [Act.put, List.setIfInBounds_toArray, List.set_cons_zero, List.set_cons_succ]
  refine wpAnyH_take (i := 4) (oi := ⟨_, _, _, _, _, _⟩) (v := .agg cs11.toArray) rfl (by kernel_rfl) (by kernel_rfl) (by kernel_rfl) (fun _ _ _ h => h) (Or.inl ⟨by rfl, fun wz hSw => Lk.act_run _ rfl _ rfl hSw.2.1 V11.out.len⟩) (by assumption) ?_
  try simp only [Act.put, List.setIfInBounds_toArray, List.set_cons_zero, List.set_cons_succ]
  refine wpAnyH_ready (rs := [5]) (by kernel_rfl) (by simp) ?_
  refine AllReadyH.cons (o := ⟨_, _, _, _, _, _⟩) rfl (fun K hK => ?_) AllReadyH.nil
  go_simp
  refine (KS2.out _ _ _ _ _ T.out.bel V.out V11.out).mono ?_
  rintro e w14 ⟨rfl, hb⟩
  replace T := Lib.hid (T.out.step hb)
  replace B1 := Lib.hid (B1.out.step hb)
  replace B2 := Lib.hid (B2.out.step hb)
  replace B3 := Lib.hid (B3.out.step hb)
  replace V := Lib.hid (V.out.step hb)
  replace U := Lib.hid (U.out.step hb)
  replace HZV := Lib.hid (HZV.out.step hb)
  replace V11 := Lib.hid (V11.out.step hb)
  clear hb hHeld
  refine hK.out _ _ ⟨B1.out, B3.out, (B1.out.c 18 _ V.out.sigE), (B1.out.c 19 _ V.out.sigS)⟩ (fun hHeld => ?_)
  clear hK K
  try simp only [Act.put, List.setIfInBounds_toArray, List.set_cons_zero, List.set_cons_succ]
  refine wpAnyH_take (i := 6) (oi := ⟨_, _, _, _, _, _⟩) (v := ?_) rfl (by kernel_rfl) (by kernel_rfl) (by kernel_rfl) (fun _ _ _ h => h) (Or.inl ⟨by rfl, ?_⟩) (by assumption) ?_
  rotate_left
  · intro wz hSw
    try dsimp only at hSw
    go_simp
    try with_reducible rfl
  try simp only [Act.put, List.setIfInBounds_toArray, List.set_cons_zero, List.set_cons_succ]
  refine wpAnyH_take (i := 7) (oi := ⟨_, _, _, _, _, _⟩) (v := ?_) rfl (by kernel_rfl) (by kernel_rfl) (by kernel_rfl) (fun _ _ _ h => h) (Or.inl ⟨by rfl, ?_⟩) (by assumption) ?_
  rotate_left
  · intro wz hSw
    try dsimp only at hSw
    go_simp
    try with_reducible rfl
  try simp only [Act.put, List.setIfInBounds_toArray, List.set_cons_zero, List.set_cons_succ]
  refine wpAnyH_take (i := 8) (oi := ⟨_, _, _, _, _, _⟩) (v := ?_) rfl (by kernel_rfl) (by kernel_rfl) (by kernel_rfl) (fun _ _ _ h => h) (Or.inl ⟨by rfl, ?_⟩) (by assumption) ?_
  rotate_left
  · intro wz hSw
    try dsimp only at hSw
    go_simp
    try with_reducible rfl
  try simp only [Act.put, List.setIfInBounds_toArray, List.set_cons_zero, List.set_cons_succ]
  refine wpAnyH_take (i := 9) (oi := ⟨_, _, _, _, _, _⟩) (v := ?_) rfl (by kernel_rfl) (by kernel_rfl) (by kernel_rfl) (fun _ _ _ h => h) (Or.inl ⟨by rfl, ?_⟩) (by assumption) ?_
  rotate_left
  · intro wz hSw
    try dsimp only at hSw
    go_simp
    try with_reducible rfl
  try simp only [Act.put, List.setIfInBounds_toArray, List.set_cons_zero, List.set_cons_succ]
  refine wpAnyH_take (i := 10) (oi := ⟨_, _, _, _, _, _⟩) (v := ?_) rfl (by kernel_rfl) (by kernel_rfl) (by kernel_rfl) (fun _ _ _ h => h) (Or.inl ⟨by rfl, ?_⟩) (by assumption) ?_
  rotate_left
  · intro wz hSw
    try dsimp only at hSw
    go_simp
    try with_reducible rfl
  try simp only [Act.put, List.setIfInBounds_toArray, List.set_cons_zero, List.set_cons_succ]
  refine wpAnyH_take (i := 11) (oi := ⟨_, _, _, _, _, _⟩) (v := ?_) rfl (by kernel_rfl) (by kernel_rfl) (by kernel_rfl) (fun _ _ _ h => h) (Or.inl ⟨by rfl, ?_⟩) (by assumption) ?_
  rotate_left
  · intro wz hSw
    try dsimp only at hSw
    go_simp
    try with_reducible rfl
  try simp only [Act.put, List.setIfInBounds_toArray, List.set_cons_zero, List.set_cons_succ]
  refine wpAnyH_take (i := 12) (oi := ⟨_, _, _, _, _, _⟩) (v := ?_) rfl (by kernel_rfl) (by kernel_rfl) (by kernel_rfl) (fun _ _ _ h => h) (Or.inl ⟨by rfl, ?_⟩) (by assumption) ?_
  rotate_left
  · intro wz hSw
    try dsimp only at hSw
    go_simp
    try with_reducible rfl
  try simp only [Act.put, List.setIfInBounds_toArray, List.set_cons_zero, List.set_cons_succ]
  refine wpAnyH_take (i := 13) (oi := ⟨_, _, _, _, _, _⟩) (v := .agg cs11.toArray) rfl (by kernel_rfl) (by kernel_rfl) (by kernel_rfl) (fun _ _ _ h => h) (Or.inl ⟨by rfl, fun wz hSw => Lk.act_run _ rfl _ rfl hSw.2.1 V11.out.len⟩) (by assumption) ?_
  try simp only [Act.put, List.setIfInBounds_toArray, List.set_cons_zero, List.set_cons_succ]
  refine wpAnyH_take (i := 15) (oi := ⟨_, _, _, _, _, _⟩) (v := ?_) rfl (by kernel_rfl) (by kernel_rfl) (by kernel_rfl) (fun _ _ _ h => h) (Or.inl ⟨by rfl, ?_⟩) (by assumption) ?_
  rotate_left
  · intro wz hSw
    try dsimp only at hSw
    go_simp
    try with_reducible rfl
  try simp only [Act.put, List.setIfInBounds_toArray, List.set_cons_zero, List.set_cons_succ]
  refine wpAnyH_take (i := 16) (oi := ⟨_, _, _, _, _, _⟩) (v := .agg cs.toArray) rfl (by kernel_rfl) (by kernel_rfl) (by kernel_rfl) (fun _ _ _ h => h) (Or.inl ⟨by rfl, fun wz hSw => Lk.act_run _ rfl _ rfl hSw.1 V.out.len⟩) (by assumption) ?_
  try simp only [Act.put, List.setIfInBounds_toArray, List.set_cons_zero, List.set_cons_succ]
  refine wpAnyH_ready (rs := [14]) (by kernel_rfl) (by simp) ?_
  refine AllReadyH.cons (o := ⟨_, _, _, _, _, _⟩) rfl (fun K hK => ?_) AllReadyH.nil
  go_simp
  refine (KVa.out _ _ _ T.out.bel V11.out).mono ?_
  rintro e w15 ⟨rfl, hb⟩
  replace T := Lib.hid (T.out.step hb)
  replace B1 := Lib.hid (B1.out.step hb)
  replace B2 := Lib.hid (B2.out.step hb)
  replace B3 := Lib.hid (B3.out.step hb)
  replace V := Lib.hid (V.out.step hb)
  replace U := Lib.hid (U.out.step hb)
  replace HZV := Lib.hid (HZV.out.step hb)
  replace V11 := Lib.hid (V11.out.step hb)
  clear hb hHeld
  refine hK.out _ _ ⟨B1.out, B3.out, (B1.out.c 18 _ V.out.sigE), (B1.out.c 19 _ V.out.sigS)⟩ (fun hHeld => ?_)
  clear hK K
  try simp only [Act.put, List.setIfInBounds_toArray, List.set_cons_zero, List.set_cons_succ]
  refine wpAnyH_ready (rs := [17]) (by kernel_rfl) (by simp) ?_
  refine AllReadyH.cons (o := ⟨_, _, _, _, _, _⟩) rfl (fun K hK => ?_) AllReadyH.nil
  go_simp
  refine (KVa.out _ _ _ T.out.bel V.out).mono ?_
  rintro e w16 ⟨rfl, hb⟩
  replace T := Lib.hid (T.out.step hb)
  replace B1 := Lib.hid (B1.out.step hb)
  replace B2 := Lib.hid (B2.out.step hb)
  replace B3 := Lib.hid (B3.out.step hb)
  replace V := Lib.hid (V.out.step hb)
  replace U := Lib.hid (U.out.step hb)
  replace HZV := Lib.hid (HZV.out.step hb)
  replace V11 := Lib.hid (V11.out.step hb)
  clear hb hHeld
  refine hK.out _ _ ⟨B1.out, B3.out, (B1.out.c 18 _ V.out.sigE), (B1.out.c 19 _ V.out.sigS)⟩ (fun hHeld => ?_)
  clear hK K
  try simp only [Act.put, List.setIfInBounds_toArray, List.set_cons_zero, List.set_cons_succ]
  refine wpAnyH_take (i := 18) (oi := ⟨_, _, _, _, _, _⟩) (v := ?_) rfl (by kernel_rfl) (by kernel_rfl) (by kernel_rfl) (fun _ _ _ h => h) (Or.inl ⟨by rfl, ?_⟩) (by assumption) ?_
  rotate_left
  · intro wz hSw
    try dsimp only at hSw
    go_simp
    try with_reducible rfl
  try simp only [Act.put, List.setIfInBounds_toArray, List.set_cons_zero, List.set_cons_succ]
  refine wpAnyH_take (i := 19) (oi := ⟨_, _, _, _, _, _⟩) (v := ?_) rfl (by kernel_rfl) (by kernel_rfl) (by kernel_rfl) (fun _ _ _ h => h) (Or.inl ⟨by rfl, ?_⟩) (by assumption) ?_
  rotate_left
  · intro wz hSw
    try dsimp only at hSw
    go_simp
    try with_reducible rfl
  try simp only [Act.put, List.setIfInBounds_toArray, List.set_cons_zero, List.set_cons_succ]
  refine wpAnyH_take (i := 20) (oi := ⟨_, _, _, _, _, _⟩) (v := ?_) rfl (by kernel_rfl) (by kernel_rfl) (by kernel_rfl) (fun _ _ _ h => h) (Or.inl ⟨by rfl, ?_⟩) (by assumption) ?_
  rotate_left
  · intro wz hSw
    try dsimp only at hSw
    go_simp
    try with_reducible rfl
  try simp only [Act.put, List.setIfInBounds_toArray, List.set_cons_zero, List.set_cons_succ]
  refine wpAnyH_take (i := 21) (oi := ⟨_, _, _, _, _, _⟩) (v := ?_) rfl (by kernel_rfl) (by kernel_rfl) (by kernel_rfl) (fun _ _ _ h => h) (Or.inl ⟨by rfl, ?_⟩) (by assumption) ?_
  rotate_left
  · intro wz hSw
    try dsimp only at hSw
    go_simp
    try with_reducible rfl
  try simp only [Act.put, List.setIfInBounds_toArray, List.set_cons_zero, List.set_cons_succ]
  refine wpAnyH_take (i := 22) (oi := ⟨_, _, _, _, _, _⟩) (v := ?_) rfl (by kernel_rfl) (by kernel_rfl) (by kernel_rfl) (fun _ _ _ h => h) (Or.inl ⟨by rfl, ?_⟩) (by assumption) ?_
  rotate_left
  · intro wz hSw
    try dsimp only at hSw
    go_simp
    try with_reducible rfl
  try simp only [Act.put, List.setIfInBounds_toArray, List.set_cons_zero, List.set_cons_succ]
  refine wpAnyH_take (i := 23) (oi := ⟨_, _, _, _, _, _⟩) (v := .agg cs.toArray) rfl (by kernel_rfl) (by kernel_rfl) (by kernel_rfl) (fun _ _ _ h => h) (Or.inl ⟨by rfl, fun wz hSw => Lk.act_run _ rfl _ rfl hSw.1 V.out.len⟩) (by assumption) ?_
  try simp only [Act.put, List.setIfInBounds_toArray, List.set_cons_zero, List.set_cons_succ]
  refine wpAnyH_take (i := 25) (oi := ⟨_, _, _, _, _, _⟩) (v := ?_) rfl (by kernel_rfl) (by kernel_rfl) (by kernel_rfl) (fun _ _ _ h => h) (Or.inl ⟨by rfl, ?_⟩) (by assumption) ?_
  rotate_left
  · intro wz hSw
    try dsimp only at hSw
    go_simp
    try with_reducible rfl
  try simp only [Act.put, List.setIfInBounds_toArray, List.set_cons_zero, List.set_cons_succ]
  refine wpAnyH_take (i := 26) (oi := ⟨_, _, _, _, _, _⟩) (v := .agg cs.toArray) rfl (by kernel_rfl) (by kernel_rfl) (by kernel_rfl) (fun _ _ _ h => h) (Or.inl ⟨by rfl, fun wz hSw => Lk.act_run _ rfl _ rfl hSw.1 V.out.len⟩) (by assumption) ?_
  try simp only [Act.put, List.setIfInBounds_toArray, List.set_cons_zero, List.set_cons_succ]
  refine wpAnyH_take (i := 28) (oi := ⟨_, _, _, _, _, _⟩) (v := ?_) rfl (by kernel_rfl) (by kernel_rfl) (by kernel_rfl) (fun _ _ _ h => h) (Or.inl ⟨by rfl, ?_⟩) (by assumption) ?_
  rotate_left
  · intro wz hSw
    try dsimp only at hSw
    go_simp
    try with_reducible rfl
  try simp only [Act.put, List.setIfInBounds_toArray, List.set_cons_zero, List.set_cons_succ]
  refine wpAnyH_take (i := 29) (oi := ⟨_, _, _, _, _, _⟩) (v := ?_) rfl (by kernel_rfl) (by kernel_rfl) (by kernel_rfl) (fun _ _ _ h => h) (Or.inl ⟨by rfl, ?_⟩) (by assumption) ?_
  rotate_left
  · intro wz hSw
    try dsimp only at hSw
    go_simp
    try with_reducible rfl
  try simp only [Act.put, List.setIfInBounds_toArray, List.set_cons_zero, List.set_cons_succ]
  refine wpAnyH_ready (rs := [24]) (by kernel_rfl) (by simp) ?_
  refine AllReadyH.cons (o := ⟨_, _, _, _, _, _⟩) rfl (fun K hK => ?_) AllReadyH.nil
  go_simp
  refine (KVa.out _ _ _ T.out.bel V.out).mono ?_
  rintro e w17 ⟨rfl, hb⟩
  replace T := Lib.hid (T.out.step hb)
  replace B1 := Lib.hid (B1.out.step hb)
  replace B2 := Lib.hid (B2.out.step hb)
  replace B3 := Lib.hid (B3.out.step hb)
  replace V := Lib.hid (V.out.step hb)
  replace U := Lib.hid (U.out.step hb)
  replace HZV := Lib.hid (HZV.out.step hb)
  replace V11 := Lib.hid (V11.out.step hb)
  clear hb hHeld
  refine hK.out _ _ ⟨B1.out, B3.out, (B1.out.c 18 _ V.out.sigE), (B1.out.c 19 _ V.out.sigS)⟩ (fun hHeld => ?_)
  clear hK K
  try simp only [Act.put, List.setIfInBounds_toArray, List.set_cons_zero, List.set_cons_succ]
  refine wpAnyH_ready (rs := [27]) (by kernel_rfl) (by simp) ?_
  refine AllReadyH.cons (o := ⟨_, _, _, _, _, _⟩) rfl (fun K hK => ?_) AllReadyH.nil
  go_simp
  refine (KCa.out _ _ _ T.out.bel V.out).mono ?_
  rintro e w18 ⟨rfl, hb⟩
  replace T := Lib.hid (T.out.step hb)
  replace B1 := Lib.hid (B1.out.step hb)
  replace B2 := Lib.hid (B2.out.step hb)
  replace B3 := Lib.hid (B3.out.step hb)
  replace V := Lib.hid (V.out.step hb)
  replace U := Lib.hid (U.out.step hb)
  replace HZV := Lib.hid (HZV.out.step hb)
  replace V11 := Lib.hid (V11.out.step hb)
  clear hb hHeld
  refine hK.out _ _ ⟨B1.out, B3.out, (B1.out.c 18 _ V.out.sigE), (B1.out.c 19 _ V.out.sigS)⟩ (fun hHeld => ?_)
  clear hK K
  try simp only [Act.put, List.setIfInBounds_toArray, List.set_cons_zero, List.set_cons_succ]
  refine wpAnyH_ready (rs := [30]) (by kernel_rfl) (by simp) ?_
  refine AllReadyH.cons (o := ⟨_, _, _, _, _, _⟩) rfl (fun K hK => ?_) AllReadyH.nil
  go_simp
  refine (KSV.out _ T.out.bel).mono ?_
  rintro e w19 ⟨rfl, hb⟩
  replace T := Lib.hid (T.out.step hb)
  replace B1 := Lib.hid (B1.out.step hb)
  replace B2 := Lib.hid (B2.out.step hb)
  replace B3 := Lib.hid (B3.out.step hb)
  replace V := Lib.hid (V.out.step hb)
  replace U := Lib.hid (U.out.step hb)
  replace HZV := Lib.hid (HZV.out.step hb)
  replace V11 := Lib.hid (V11.out.step hb)
  clear hb hHeld
  refine hK.out _ _ ⟨B1.out, B3.out, (B1.out.c 18 _ V.out.sigE), (B1.out.c 19 _ V.out.sigS)⟩ (fun hHeld => ?_)
  clear hK K
  try simp only [Act.put, List.setIfInBounds_toArray, List.set_cons_zero, List.set_cons_succ]
  refine wpAnyH_take (i := 31) (oi := ⟨_, _, _, _, _, _⟩) (v := ?_) rfl (by kernel_rfl) (by kernel_rfl) (by kernel_rfl) (fun _ _ _ h => h) (Or.inl ⟨by rfl, ?_⟩) (by assumption) ?_
  rotate_left
  · intro wz hSw
    try dsimp only at hSw
    go_simp
    try with_reducible rfl
  try simp only [Act.put, List.setIfInBounds_toArray, List.set_cons_zero, List.set_cons_succ]
  refine wpAnyH_take (i := 32) (oi := ⟨_, _, _, _, _, _⟩) (v := ?_) rfl (by kernel_rfl) (by kernel_rfl) (by kernel_rfl) (fun _ _ _ h => h) (Or.inl ⟨by rfl, ?_⟩) (by assumption) ?_
  rotate_left
  · intro wz hSw
    try dsimp only at hSw
    go_simp
    try with_reducible rfl
  try simp only [Act.put, List.setIfInBounds_toArray, List.set_cons_zero, List.set_cons_succ]
  refine wpAnyH_take (i := 33) (oi := ⟨_, _, _, _, _, _⟩) (v := ?_) rfl (by kernel_rfl) (by kernel_rfl) (by kernel_rfl) (fun _ _ _ h => h) (Or.inl ⟨by rfl, ?_⟩) (by assumption) ?_
  rotate_left
  · intro wz hSw
    try dsimp only at hSw
    go_simp
    try with_reducible rfl
  try simp only [Act.put, List.setIfInBounds_toArray, List.set_cons_zero, List.set_cons_succ]
  refine wpAnyH_done (by kernel_rfl) ?_ _
  clear hHeld
  go_wp2
  go_ret
  exact ⟨rfl, T.out.bel⟩
set_option maxHeartbeats 4000000 in
set_option maxRecDepth 100000 in
theorem binds_apart {keyOk : Int → Int → Bool} {sgn : Int → Int → Str → Int × Int} {ver : Int → Str → Int → Int → Bool} {W : World} (P : Pk keyOk sgn ver W) (hsm : Ok W 9 #[] (.bool true))
    (a b : Ac) (e s e' s' : Int) (cs ds : List Value) (p : Int) (hv0 : Av W W.heap.size cs a e s) (hv1 : Av W W.heap.size ds b e' s') (hz : Sz 281474976710656 140737488355328 a) (hz1 : Sz 281474976710656 140737488355328 b) (hp : -9223372036854775808 ≤ p ∧ p ≤ 9223372036854775807)
    (h : fewB a = true) (h2 : fewB b = true) (h3 : valid a e s = true) (h4 : valid b e' s' = true) (hne : ¬ a = b) :
    Calls Tryz.prog 5 #[.agg cs.toArray, .agg ds.toArray, .int .i64 p] W fun x w' => x = .returned (.bool true) ∧ Below W.heap.size W w' := by
  have KS := Lib.hid hsm
  have T := Lib.hid (Lk.At.start W)
  obtain ⟨zc, hzc⟩ : ∃ x, x = Lk.zc := ⟨_, rfl⟩
  have HZC := Lib.hid hzc
  have HZV := Lib.hid (show Av W 0 zc ac0 0 0 from hzc ▸ Av.zero W)
  clear hzc
  have V := Lib.hid hv0
  have U := Lib.hid hv1
  have KFa := fun (w : World) (b0 : Nat) (c0 : List Value) (hb : Below W.heap.size W w) (h0 : Av w b0 c0 a e s) => fewC h0 hz
  rw [h] at KFa
  replace KFa := Lib.hid KFa
  have KFb := fun (w : World) (b0 : Nat) (c0 : List Value) (hb : Below W.heap.size W w) (h0 : Av w b0 c0 b e' s') => fewC h0 hz1
  rw [h2] at KFb
  replace KFb := Lib.hid KFb
  have KRa := fun (w : World) (b0 : Nat) (c0 : List Value) (hb : Below W.heap.size W w) (h0 : Av w b0 c0 a e s) => P.rightC hb h0 (few_sz6 h)
  rw [h3] at KRa
  replace KRa := Lib.hid KRa
  have KRb := fun (w : World) (b0 : Nat) (c0 : List Value) (hb : Below W.heap.size W w) (h0 : Av w b0 c0 b e' s') => P.rightC hb h0 (few_sz6 h2)
  rw [h4] at KRb
  replace KRb := Lib.hid KRb
  have h7 := few_sz6 h2
  have h6 := few_sz6 h
  have hl := core_le (lim_of (valid_good h3))
  have KBa := fun (w : World) (b0 : Nat) (c0 : List Value) (hb : Below W.heap.size W w) (h0 : Av w b0 c0 a e s) => P.bytesC hb h0 h6
  rw [show bytes a e s = bytesB a e s from if_pos h3] at KBa
  have KCa := fun (w : World) (b0 : Nat) (c0 : List Value) (hb : Below W.heap.size W w) (h0 : Av w b0 c0 a e s) => P.coreC hb h0 h6
  rw [show core a e s = coreB a from if_pos h3] at KCa
  have KVa := fun (w : World) (b0 : Nat) (c0 : List Value) (hb : Below W.heap.size W w) (h0 : Av w b0 c0 a e s) => P.verifyC hp hb h0 h6
  rw [h3, Bool.true_and] at KVa
  have hsg : sigOk e s = true := by simp only [valid, Bool.and_eq_true] at h3; exact h3.1
  have KSV := P.verR p (coreB a) e s hp (by omega) hsg
  have KBb := fun (w : World) (b0 : Nat) (c0 : List Value) (hb : Below W.heap.size W w) (h0 : Av w b0 c0 b e' s') => P.bytesC hb h0 h7
  rw [show bytes b e' s' = bytesB b e' s' from if_pos h4] at KBb
  have KCb := fun (w : World) (b0 : Nat) (c0 : List Value) (hb : Below W.heap.size W w) (h0 : Av w b0 c0 b e' s') => P.coreC hb h0 h7
  rw [show core b e' s' = coreB b from if_pos h4] at KCb
  have KS1 := fun (w : World) (b0 : Nat) (c0 : List Value) (b1 : Nat) (c1 : List Value) (hb : Below W.heap.size W w) (h0 : Av w b0 c0 a e s) (h1 : Av w b1 c1 b e' s') => P.sameC (r := false) hb h0 h1 h6 h7 (by simp [hne])
  replace KS1 := Lib.hid KS1
  have KS2 := fun (w : World) (b0 : Nat) (c0 : List Value) (b1 : Nat) (c1 : List Value) (hb : Below W.heap.size W w) (h0 : Av w b0 c0 a e s) (h1 : Av w b1 c1 b e s) => P.sameC (r := false) hb h0 h1 h6 h7 (by simp [hne])
  replace KS2 := Lib.hid KS2
  obtain ⟨ca, hca⟩ : ∃ x, x = coreB a := ⟨_, rfl⟩
  obtain ⟨va, hva⟩ : ∃ x, x = ver p (coreB a) e s := ⟨_, rfl⟩
  rw [← hva] at KVa KSV
  have hbb : (bytesB a e s == bytesB b e' s') = false := beq_eq_false_iff_ne.2 fun hh => hne (bytes_inj h3 h4 hh).1
  have hcc : (coreB a == coreB b) = false := beq_eq_false_iff_ne.2 fun hh => hne (core_inj h3 h4 hh)
  obtain ⟨ba, hba⟩ : ∃ x, x = bytesB a e s := ⟨_, rfl⟩
  obtain ⟨bb, hbx⟩ : ∃ x, x = bytesB b e' s' := ⟨_, rfl⟩
  obtain ⟨cb, hcb⟩ : ∃ x, x = coreB b := ⟨_, rfl⟩
  rw [← hba] at KBa
  rw [← hbx] at KBb
  rw [← hba, ← hbx] at hbb
  rw [← hca] at KCa KSV
  rw [← hcb] at KCb
  rw [← hca, ← hcb] at hcc
  replace KBa := Lib.hid KBa
  replace KBb := Lib.hid KBb
  replace KCa := Lib.hid KCa
  replace KCb := Lib.hid KCb
  replace KVa := Lib.hid KVa
  replace KSV := Lib.hid KSV
  clear P hsm hv0 hv1 hz hz1 hp h h2 h3 h4 h6 h7 hl hsg hca hva hba hbx hcb hne
  go_enter Tryz.func5, Tryz.ntmps5
  go_wp2_with (first | fail)
  replace T := Lib.hid (T.out.alloc (.cells cs.toArray 29))
  replace V := Lib.hid (V.out.alloc (.cells cs.toArray 29))
  replace U := Lib.hid (U.out.alloc (.cells cs.toArray 29))
  replace HZV := Lib.hid (HZV.out.alloc (.cells cs.toArray 29))
  have B1 := Lib.hid (show Lk.Bl (W.alloc (.cells cs.toArray 29)) W.heap.size cs 29 from by have h := Lk.Bl.new W cs 29; simpa using h)
  replace T := Lib.hid (T.out.alloc (.cells ds.toArray 29))
  replace B1 := Lib.hid (B1.out.alloc (.cells ds.toArray 29))
  replace V := Lib.hid (V.out.alloc (.cells ds.toArray 29))
  replace U := Lib.hid (U.out.alloc (.cells ds.toArray 29))
  replace HZV := Lib.hid (HZV.out.alloc (.cells ds.toArray 29))
  have B2 := Lib.hid (show Lk.Bl ((W.alloc (.cells cs.toArray 29)).alloc (.cells ds.toArray 29)) (W.heap.size + 1) ds 29 from by have h := Lk.Bl.new (W.alloc (.cells cs.toArray 29)) ds 29; simpa using h)
  generalize (W.alloc (.cells cs.toArray 29)).alloc (.cells ds.toArray 29) = w1 at *
  refine (KS.out _ T.out.bel).mono ?_
  rintro e w2 ⟨rfl, hb⟩
  replace T := Lib.hid (T.out.step hb)
  replace B1 := Lib.hid (B1.out.step hb)
  replace B2 := Lib.hid (B2.out.step hb)
  replace V := Lib.hid (V.out.step hb)
  replace U := Lib.hid (U.out.step hb)
  replace HZV := Lib.hid (HZV.out.step hb)
  clear hb
  go_wp2_with (first | ((with_reducible refine Lk.ld (d := 12) W.heap.size B1.out V.out.len ?_ ?_ ?_); exact rfl; exact rfl) | fail)
  refine (KFa.out _ _ _ T.out.bel V.out).mono ?_
  rintro e w3 ⟨rfl, hb⟩
  replace T := Lib.hid (T.out.step hb)
  replace B1 := Lib.hid (B1.out.step hb)
  replace B2 := Lib.hid (B2.out.step hb)
  replace V := Lib.hid (V.out.step hb)
  replace U := Lib.hid (U.out.step hb)
  replace HZV := Lib.hid (HZV.out.step hb)
  clear hb
  go_wp2_with (first | ((with_reducible refine Lk.ld (d := 16) (W.heap.size + 1) B2.out U.out.len ?_ ?_ ?_); exact rfl; exact rfl) | fail)
  refine (KFb.out _ _ _ T.out.bel U.out).mono ?_
  rintro e w4 ⟨rfl, hb⟩
  replace T := Lib.hid (T.out.step hb)
  replace B1 := Lib.hid (B1.out.step hb)
  replace B2 := Lib.hid (B2.out.step hb)
  replace V := Lib.hid (V.out.step hb)
  replace U := Lib.hid (U.out.step hb)
  replace HZV := Lib.hid (HZV.out.step hb)
  clear hb
  go_wp2_with (first | ((with_reducible refine Lk.ld (d := 21) W.heap.size B1.out V.out.len ?_ ?_ ?_); exact rfl; exact rfl) | fail)
  refine (KRa.out _ _ _ T.out.bel V.out).mono ?_
  rintro e w5 ⟨rfl, hb⟩
  replace T := Lib.hid (T.out.step hb)
  replace B1 := Lib.hid (B1.out.step hb)
  replace B2 := Lib.hid (B2.out.step hb)
  replace V := Lib.hid (V.out.step hb)
  replace U := Lib.hid (U.out.step hb)
  replace HZV := Lib.hid (HZV.out.step hb)
  clear hb
  go_wp2_with (first | ((with_reducible refine Lk.ld (d := 26) (W.heap.size + 1) B2.out U.out.len ?_ ?_ ?_); exact rfl; exact rfl) | fail)
  refine (KRb.out _ _ _ T.out.bel U.out).mono ?_
  rintro e w6 ⟨rfl, hb⟩
  replace T := Lib.hid (T.out.step hb)
  replace B1 := Lib.hid (B1.out.step hb)
  replace B2 := Lib.hid (B2.out.step hb)
  replace V := Lib.hid (V.out.step hb)
  replace U := Lib.hid (U.out.step hb)
  replace HZV := Lib.hid (HZV.out.step hb)
  clear hb
  go_wp2_with (first | ((with_reducible refine Lk.ld (d := 31) W.heap.size B1.out V.out.len ?_ ?_ ?_); exact rfl; exact rfl) | ((with_reducible refine Lk.ld (d := 32) (W.heap.size + 1) B2.out U.out.len ?_ ?_ ?_); exact rfl; exact rfl) | fail)
  refine (KS1.out _ _ _ _ _ T.out.bel V.out U.out).mono ?_
  rintro e w7 ⟨rfl, hb⟩
  replace T := Lib.hid (T.out.step hb)
  replace B1 := Lib.hid (B1.out.step hb)
  replace B2 := Lib.hid (B2.out.step hb)
  replace V := Lib.hid (V.out.step hb)
  replace U := Lib.hid (U.out.step hb)
  replace HZV := Lib.hid (HZV.out.step hb)
  clear hb
  go_wp2_with (first | fail)
  replace T := Lib.hid (T.out.drew)
  replace B1 := Lib.hid (B1.out.drew)
  replace B2 := Lib.hid (B2.out.drew)
  replace V := Lib.hid (V.out.drew)
  replace U := Lib.hid (U.out.drew)
  replace HZV := Lib.hid (HZV.out.drew)
  refine wp_region_held_drew (S := (fun w' => Lk.Bl w' W.heap.size cs 29 ∧ Lk.Bl w' (W.heap.size + 1) ds 29)) (by kernel_rfl) ⟨B1.out, B2.out⟩ (fun hHeld => ?_)
  refine wpAnyH_take (i := 0) (oi := ⟨_, _, _, _, _, _⟩) (v := .agg cs.toArray) rfl (by kernel_rfl) (by kernel_rfl) (by kernel_rfl) (fun _ _ _ h => h) (Or.inl ⟨by rfl, fun wz hSw => Lk.act_run _ rfl _ rfl hSw.1 V.out.len⟩) (by assumption) ?_
  try simp only [Act.put, List.setIfInBounds_toArray, List.set_cons_zero, List.set_cons_succ]
  refine wpAnyH_take (i := 2) (oi := ⟨_, _, _, _, _, _⟩) (v := .agg ds.toArray) rfl (by kernel_rfl) (by kernel_rfl) (by kernel_rfl) (fun _ _ _ h => h) (Or.inl ⟨by rfl, fun wz hSw => Lk.act_run _ rfl _ rfl hSw.2 U.out.len⟩) (by assumption) ?_
  try simp only [Act.put, List.setIfInBounds_toArray, List.set_cons_zero, List.set_cons_succ]
  refine wpAnyH_take (i := 5) (oi := ⟨_, _, _, _, _, _⟩) (v := ?_) rfl (by kernel_rfl) (by kernel_rfl) (by kernel_rfl) (fun _ _ _ h => h) (Or.inl ⟨by rfl, ?_⟩) (by assumption) ?_
  rotate_left
  · intro wz hSw
    try dsimp only at hSw
    go_simp
    try with_reducible rfl
  try simp only [Act.put, List.setIfInBounds_toArray, List.set_cons_zero, List.set_cons_succ]
  refine wpAnyH_ready (rs := [1]) (by kernel_rfl) (by simp) ?_
  refine AllReadyH.cons (o := ⟨_, _, _, _, _, _⟩) rfl (fun K hK => ?_) AllReadyH.nil
  go_simp
  refine (KBa.out _ _ _ T.out.bel V.out).mono ?_
  rintro e w8 ⟨rfl, hb⟩
  replace T := Lib.hid (T.out.step hb)
  replace B1 := Lib.hid (B1.out.step hb)
  replace B2 := Lib.hid (B2.out.step hb)
  replace V := Lib.hid (V.out.step hb)
  replace U := Lib.hid (U.out.step hb)
  replace HZV := Lib.hid (HZV.out.step hb)
  clear hb hHeld
  refine hK.out _ _ ⟨B1.out, B2.out⟩ (fun hHeld => ?_)
  clear hK K
  try simp only [Act.put, List.setIfInBounds_toArray, List.set_cons_zero, List.set_cons_succ]
  refine wpAnyH_ready (rs := [3]) (by kernel_rfl) (by simp) ?_
  refine AllReadyH.cons (o := ⟨_, _, _, _, _, _⟩) rfl (fun K hK => ?_) AllReadyH.nil
  go_simp
  refine (KBb.out _ _ _ T.out.bel U.out).mono ?_
  rintro e w9 ⟨rfl, hb⟩
  replace T := Lib.hid (T.out.step hb)
  replace B1 := Lib.hid (B1.out.step hb)
  replace B2 := Lib.hid (B2.out.step hb)
  replace V := Lib.hid (V.out.step hb)
  replace U := Lib.hid (U.out.step hb)
  replace HZV := Lib.hid (HZV.out.step hb)
  clear hb hHeld
  refine hK.out _ _ ⟨B1.out, B2.out⟩ (fun hHeld => ?_)
  clear hK K
  try simp only [Act.put, List.setIfInBounds_toArray, List.set_cons_zero, List.set_cons_succ]
  refine wpAnyH_take (i := 4) (oi := ⟨_, _, _, _, _, _⟩) (v := ?_) rfl (by kernel_rfl) (by kernel_rfl) (by kernel_rfl) (fun _ _ _ h => h) (Or.inl ⟨by rfl, ?_⟩) (by assumption) ?_
  rotate_left
  · intro wz hSw
    try dsimp only at hSw
    go_simp
    try with_reducible rfl
  try simp only [Act.put, List.setIfInBounds_toArray, List.set_cons_zero, List.set_cons_succ]
  refine wpAnyH_take (i := 6) (oi := ⟨_, _, _, _, _, _⟩) (v := ?_) rfl (by kernel_rfl) (by kernel_rfl) (by kernel_rfl) (fun _ _ _ h => h) (Or.inl ⟨by rfl, ?_⟩) (by assumption) ?_
  rotate_left
  · intro wz hSw
    try dsimp only at hSw
    go_simp
    try with_reducible rfl
  try simp only [Act.put, List.setIfInBounds_toArray, List.set_cons_zero, List.set_cons_succ]
  refine wpAnyH_take (i := 7) (oi := ⟨_, _, _, _, _, _⟩) (v := ?_) rfl (by kernel_rfl) (by kernel_rfl) (by kernel_rfl) (fun _ _ _ h => h) (Or.inl ⟨by rfl, ?_⟩) (by assumption) ?_
  rotate_left
  · intro wz hSw
    try dsimp only at hSw
    go_simp
    try with_reducible rfl
  try simp only [Act.put, List.setIfInBounds_toArray, List.set_cons_zero, List.set_cons_succ]
  refine wpAnyH_take (i := 8) (oi := ⟨_, _, _, _, _, _⟩) (v := ?_) rfl (by kernel_rfl) (by kernel_rfl) (by kernel_rfl) (fun _ _ _ h => h) (Or.inl ⟨by rfl, ?_⟩) (by assumption) ?_
  rotate_left
  · intro wz hSw
    try dsimp only at hSw
    go_simp
    try with_reducible rfl
  try simp only [Act.put, List.setIfInBounds_toArray, List.set_cons_zero, List.set_cons_succ]
  refine wpAnyH_take (i := 9) (oi := ⟨_, _, _, _, _, _⟩) (v := ?_) rfl (by kernel_rfl) (by kernel_rfl) (by kernel_rfl) (fun _ _ _ h => h) (Or.inl ⟨by rfl, ?_⟩) (by assumption) ?_
  rotate_left
  · intro wz hSw
    try dsimp only at hSw
    go_simp
    try with_reducible rfl
  try simp only [Act.put, List.setIfInBounds_toArray, List.set_cons_zero, List.set_cons_succ]
  refine wpAnyH_take (i := 10) (oi := ⟨_, _, _, _, _, _⟩) (v := undef) rfl (by kernel_rfl) (by kernel_rfl) (by kernel_rfl) (fun _ _ _ h => h) (Or.inr ⟨by rfl, rfl⟩) (by assumption) ?_
  try simp only [Act.put, List.setIfInBounds_toArray, List.set_cons_zero, List.set_cons_succ]
  refine wpAnyH_take (i := 11) (oi := ⟨_, _, _, _, _, _⟩) (v := undef) rfl (by kernel_rfl) (by kernel_rfl) (by kernel_rfl) (fun _ _ _ h => h) (Or.inr ⟨by rfl, rfl⟩) (by assumption) ?_
  try simp only [Act.put, List.setIfInBounds_toArray, List.set_cons_zero, List.set_cons_succ]
  refine wpAnyH_take (i := 12) (oi := ⟨_, _, _, _, _, _⟩) (v := undef) rfl (by kernel_rfl) (by kernel_rfl) (by kernel_rfl) (fun _ _ _ h => h) (Or.inr ⟨by rfl, rfl⟩) (by assumption) ?_
  try simp only [Act.put, List.setIfInBounds_toArray, List.set_cons_zero, List.set_cons_succ]
  refine wpAnyH_take (i := 13) (oi := ⟨_, _, _, _, _, _⟩) (v := undef) rfl (by kernel_rfl) (by kernel_rfl) (by kernel_rfl) (fun _ _ _ h => h) (Or.inr ⟨by rfl, rfl⟩) (by assumption) ?_
  try simp only [Act.put, List.setIfInBounds_toArray, List.set_cons_zero, List.set_cons_succ]
  refine wpAnyH_take (i := 14) (oi := ⟨_, _, _, _, _, _⟩) (v := undef) rfl (by kernel_rfl) (by kernel_rfl) (by kernel_rfl) (fun _ _ _ h => h) (Or.inr ⟨by rfl, rfl⟩) (by assumption) ?_
  try simp only [Act.put, List.setIfInBounds_toArray, List.set_cons_zero, List.set_cons_succ]
  refine wpAnyH_take (i := 15) (oi := ⟨_, _, _, _, _, _⟩) (v := undef) rfl (by kernel_rfl) (by kernel_rfl) (by kernel_rfl) (fun _ _ _ h => h) (Or.inr ⟨by rfl, rfl⟩) (by assumption) ?_
  try simp only [Act.put, List.setIfInBounds_toArray, List.set_cons_zero, List.set_cons_succ]
  refine wpAnyH_take (i := 16) (oi := ⟨_, _, _, _, _, _⟩) (v := undef) rfl (by kernel_rfl) (by kernel_rfl) (by kernel_rfl) (fun _ _ _ h => h) (Or.inr ⟨by rfl, rfl⟩) (by assumption) ?_
  try simp only [Act.put, List.setIfInBounds_toArray, List.set_cons_zero, List.set_cons_succ]
  refine wpAnyH_take (i := 17) (oi := ⟨_, _, _, _, _, _⟩) (v := ?_) rfl (by kernel_rfl) (by kernel_rfl) (by kernel_rfl) (fun _ _ _ h => h) (Or.inl ⟨by rfl, ?_⟩) (by assumption) ?_
  rotate_left
  · intro wz hSw
    try dsimp only at hSw
    go_simp
    try with_reducible rfl
  try simp only [Act.put, List.setIfInBounds_toArray, List.set_cons_zero, List.set_cons_succ]
  refine wpAnyH_take (i := 18) (oi := ⟨_, _, _, _, _, _⟩) (v := ?_) rfl (by kernel_rfl) (by kernel_rfl) (by kernel_rfl) (fun _ _ _ h => h) (Or.inl ⟨by rfl, ?_⟩) (by assumption) ?_
  rotate_left
  · intro wz hSw
    try dsimp only at hSw
    go_simp
    try with_reducible rfl
  try simp only [Act.put, List.setIfInBounds_toArray, List.set_cons_zero, List.set_cons_succ]
  refine wpAnyH_done (by kernel_rfl) ?_ _
  clear hHeld
  go_wp2_with (first | ((with_reducible refine Lk.nw ds U.out.len U.out.one ?_ ?_ ?_ ?_); exact rfl; exact rfl; exact rfl) | ((with_reducible refine Lk.ld (d := 53) (W.heap.size + 1) B2.out U.out.len ?_ ?_ ?_); exact rfl; exact rfl) | fail)
  intro w10 bN hb
  have LB1_B3 := Lib.hid (show W.heap.size < w9.heap.size from B1.out.lt)
  have LB2_B3 := Lib.hid (show (W.heap.size + 1) < w9.heap.size from B2.out.lt)
  have GV_B3 := Lib.hid (show W.heap.size ≤ w9.heap.size from V.out.le)
  have GU_B3 := Lib.hid (show W.heap.size ≤ w9.heap.size from U.out.le)
  have GHZV_B3 := Lib.hid (show 0 ≤ w9.heap.size from HZV.out.le)
  have GB3 := Lib.hid (show W.heap.size ≤ w9.heap.size from T.out.bel.size)
  replace T := Lib.hid (T.out.step hb)
  replace B1 := Lib.hid (B1.out.step hb)
  replace B2 := Lib.hid (B2.out.step hb)
  replace V := Lib.hid (V.out.step hb)
  replace U := Lib.hid (U.out.step hb)
  replace HZV := Lib.hid (HZV.out.step hb)
  have B3 := Lib.hid (show Lk.Bl w10 w9.heap.size ds 29 from bN)
  clear bN hb
  have cB1_18 := B1.out.c 18 _ V.out.sigE
  have cB1_19 := B1.out.c 19 _ V.out.sigS
  go_wp2_with (first | ((with_reducible refine Lk.st w9.heap.size 18 [.int .i64 e, .int .i64 s] (.agg #[.int .i64 e, .int .i64 s]) B3.out ?_ ?_ ?_ ?_ ?_ ?_ ?_); exact Lk.infoG; exact rfl; (rw [U.out.len]; exact Nat.le_of_ble_eq_true rfl); (simp [Value.oneCell']); exact rfl; exact rfl) | fail)
  clear cB1_18 cB1_19
  intro w11 bN hb
  replace B1 := Lib.hid (B1.out.under hb LB1_B3.out)
  replace B2 := Lib.hid (B2.out.under hb LB2_B3.out)
  replace T := Lib.hid (T.out.under hb GB3.out)
  replace V := Lib.hid (V.out.under hb GV_B3.out)
  replace U := Lib.hid (U.out.under hb GU_B3.out)
  replace HZV := Lib.hid (HZV.out.under hb GHZV_B3.out)
  obtain ⟨cs11, hcs11⟩ : ∃ x : List Value, x = ds.take 18 ++ [.int .i64 e, .int .i64 s] ++ ds.drop (18 + ([.int .i64 e, .int .i64 s] : List Value).length) := ⟨_, rfl⟩
  have V11 := Lib.hid (show Av w11 W.heap.size cs11 b e s from by rw [hcs11]; exact U.out.put 18 [.int .i64 e, .int .i64 s] rfl rfl (fun _ _ _ _ _ _ => rfl))
  replace B3 := Lib.hid (show Lk.Bl w11 w9.heap.size cs11 29 from by rw [hcs11]; exact bN)
  clear bN hb hcs11
  have GV11_B3 := GU_B3
  go_wp2_with (first | fail)
  replace T := Lib.hid (T.out.drew)
  replace B1 := Lib.hid (B1.out.drew)
  replace B2 := Lib.hid (B2.out.drew)
  replace B3 := Lib.hid (B3.out.drew)
  replace V := Lib.hid (V.out.drew)
  replace U := Lib.hid (U.out.drew)
  replace HZV := Lib.hid (HZV.out.drew)
  replace V11 := Lib.hid (V11.out.drew)
  refine wp_region_held_drew (S := (fun w' => Lk.Bl w' W.heap.size cs 29 ∧ Lk.Bl w' (W.heap.size + 1) ds 29)) (by kernel_rfl) ⟨B1.out, B2.out⟩ (fun hHeld => ?_)
  refine wpAnyH_take (i := 0) (oi := ⟨_, _, _, _, _, _⟩) (v := .agg cs.toArray) rfl (by kernel_rfl) (by kernel_rfl) (by kernel_rfl) (fun _ _ _ h => h) (Or.inl ⟨by rfl, fun wz hSw => Lk.act_run _ rfl _ rfl hSw.1 V.out.len⟩) (by assumption) ?_
  try simp only [Act.put, List.setIfInBounds_toArray, List.set_cons_zero, List.set_cons_succ]
  refine wpAnyH_take (i := 2) (oi := ⟨_, _, _, _, _, _⟩) (v := .agg ds.toArray) rfl (by kernel_rfl) (by kernel_rfl) (by kernel_rfl) (fun _ _ _ h => h) (Or.inl ⟨by rfl, fun wz hSw => Lk.act_run _ rfl _ rfl hSw.2 U.out.len⟩) (by assumption) ?_
  try simp only [Act.put, List.setIfInBounds_toArray, List.set_cons_zero, List.set_cons_succ]
  refine wpAnyH_ready (rs := [1]) (by kernel_rfl) (by simp) ?_
  refine AllReadyH.cons (o := ⟨_, _, _, _, _, _⟩) rfl (fun K hK => ?_) AllReadyH.nil
  go_simp
  refine (KCa.out _ _ _ T.out.bel V.out).mono ?_
  rintro e w12 ⟨rfl, hb⟩
  replace T := Lib.hid (T.out.step hb)
  replace B1 := Lib.hid (B1.out.step hb)
  replace B2 := Lib.hid (B2.out.step hb)
  replace B3 := Lib.hid (B3.out.step hb)
  replace V := Lib.hid (V.out.step hb)
  replace U := Lib.hid (U.out.step hb)
  replace HZV := Lib.hid (HZV.out.step hb)
  replace V11 := Lib.hid (V11.out.step hb)
  clear hb hHeld
  refine hK.out _ _ ⟨B1.out, B2.out⟩ (fun hHeld => ?_)
  clear hK K
  try simp only [Act.put, List.setIfInBounds_toArray, List.set_cons_zero, List.set_cons_succ]
  refine wpAnyH_ready (rs := [3]) (by kernel_rfl) (by simp) ?_
  refine AllReadyH.cons (o := ⟨_, _, _, _, _, _⟩) rfl (fun K hK => ?_) AllReadyH.nil
  go_simp
  refine (KCb.out _ _ _ T.out.bel U.out).mono ?_
  rintro e w13 ⟨rfl, hb⟩
  replace T := Lib.hid (T.out.step hb)
  replace B1 := Lib.hid (B1.out.step hb)
  replace B2 := Lib.hid (B2.out.step hb)
  replace B3 := Lib.hid (B3.out.step hb)
  replace V := Lib.hid (V.out.step hb)
  replace U := Lib.hid (U.out.step hb)
  replace HZV := Lib.hid (HZV.out.step hb)
  replace V11 := Lib.hid (V11.out.step hb)
  clear hb hHeld
  refine hK.out _ _ ⟨B1.out, B2.out⟩ (fun hHeld => ?_)
  clear hK K
  try simp only [Act.put, List.setIfInBounds_toArray, List.set_cons_zero, List.set_cons_succ]
  refine wpAnyH_take (i := 4) (oi := ⟨_, _, _, _, _, _⟩) (v := ?_) rfl (by kernel_rfl) (by kernel_rfl) (by kernel_rfl) (fun _ _ _ h => h) (Or.inl ⟨by rfl, ?_⟩) (by assumption) ?_
  rotate_left
  · intro wz hSw
    try dsimp only at hSw
    go_simp
    try with_reducible rfl
  try simp only [Act.put, List.setIfInBounds_toArray, List.set_cons_zero, List.set_cons_succ]
  refine wpAnyH_take (i := 5) (oi := ⟨_, _, _, _, _, _⟩) (v := ?_) rfl (by kernel_rfl) (by kernel_rfl) (by kernel_rfl) (fun _ _ _ h => h) (Or.inl ⟨by rfl, ?_⟩) (by assumption) ?_
  rotate_left
  · intro wz hSw
    try dsimp only at hSw
    go_simp
    try with_reducible rfl
  try simp only [Act.put, List.setIfInBounds_toArray, List.set_cons_zero, List.set_cons_succ]
  refine wpAnyH_done (by kernel_rfl) ?_ _
  clear hHeld
  go_wp2_with (first | fail)
  replace T := Lib.hid (T.out.drew)
  replace B1 := Lib.hid (B1.out.drew)
  replace B2 := Lib.hid (B2.out.drew)
  replace B3 := Lib.hid (B3.out.drew)
  replace V := Lib.hid (V.out.drew)
  replace U := Lib.hid (U.out.drew)
  replace HZV := Lib.hid (HZV.out.drew)
  replace V11 := Lib.hid (V11.out.drew)
  refine wp_region_held_drew (S := (fun w' => Lk.Bl w' W.heap.size cs 29 ∧ Lk.Bl w' w9.heap.size cs11 29 ∧ w'.cell? ⟨W.heap.size, 18, none⟩ = some (.int .i64 e) ∧ w'.cell? ⟨W.heap.size, 19, none⟩ = some (.int .i64 s))) (by kernel_rfl) ⟨B1.out, B3.out, (B1.out.c 18 _ V.out.sigE), (B1.out.c 19 _ V.out.sigS)⟩ (fun hHeld => ?_)
  refine wpAnyH_take (i := 0) (oi := ⟨_, _, _, _, _, _⟩) (v := ?_) rfl (by kernel_rfl) (by kernel_rfl) (by kernel_rfl) (fun _ _ _ h => h) (Or.inl ⟨by rfl, ?_⟩) (by assumption) ?_
  rotate_left
  · intro wz hSw
    try dsimp only at hSw
    go_simp
    try with_reducible rfl
  try simp only [Act.put, List.setIfInBounds_toArray, List.set_cons_zero, List.set_cons_succ]
  refine wpAnyH_take (i := 1) (oi := ⟨_, _, _, _, _, _⟩) (v := ?_) rfl (by kernel_rfl) (by kernel_rfl) (by kernel_rfl) (fun _ _ _ h => h) (Or.inl ⟨by rfl, ?_⟩) (by assumption) ?_
  rotate_left
  · intro wz hSw
    try dsimp only at hSw
    go_simp
    try with_reducible rfl
  try simp only [Act.put, List.setIfInBounds_toArray, List.set_cons_zero, List.set_cons_succ]
  refine wpAnyH_take (i := 2) (oi := ⟨_, _, _, _, _, _⟩) (v := ?_) rfl (by kernel_rfl) (by kernel_rfl) (by kernel_rfl) (fun _ _ _ h => h) (Or.inl ⟨by rfl, ?_⟩) (by assumption) ?_
  rotate_left
  · intro wz hSw
    try dsimp only at hSw
    go_simp
    try with_reducible rfl
  try simp only [Act.put, List.setIfInBounds_toArray, List.set_cons_zero, List.set_cons_succ]
  refine wpAnyH_take (i := 3) (oi := ⟨_, _, _, _, _, _⟩) (v := .agg cs.toArray) rfl (by kernel_rfl) (by kernel_rfl) (by kernel_rfl) (fun _ _ _ h => h) (Or.inl ⟨by rfl, fun wz hSw => Lk.act_run _ rfl _ rfl hSw.1 V.out.len⟩) (by assumption) ?_
  try simp only [Act.put, List.setIfInBounds_toArray, List.set_cons_zero, List.set_cons_succ]
  refine wpAnyH_take (i := 4) (oi := ⟨_, _, _, _, _, _⟩) (v := .agg cs11.toArray) rfl (by kernel_rfl) (by kernel_rfl) (by kernel_rfl) (fun _ _ _ h => h) (Or.inl ⟨by rfl, fun wz hSw => Lk.act_run _ rfl _ rfl hSw.2.1 V11.out.len⟩) (by assumption) ?_
  try simp only [Act.put, List.setIfInBounds_toArray, List.set_cons_zero, List.set_cons_succ]
  refine wpAnyH_ready (rs := [5]) (by kernel_rfl) (by simp) ?_
  refine AllReadyH.cons (o := ⟨_, _, _, _, _, _⟩) rfl (fun K hK => ?_) AllReadyH.nil
  go_simp
  refine (KS2.out _ _ _ _ _ T.out.bel V.out V11.out).mono ?_
  rintro e w14 ⟨rfl, hb⟩
  replace T := Lib.hid (T.out.step hb)
  replace B1 := Lib.hid (B1.out.step hb)
  replace B2 := Lib.hid (B2.out.step hb)
  replace B3 := Lib.hid (B3.out.step hb)
  replace V := Lib.hid (V.out.step hb)
  replace U := Lib.hid (U.out.step hb)
  replace HZV := Lib.hid (HZV.out.step hb)
  replace V11 := Lib.hid (V11.out.step hb)
  clear hb hHeld
  refine hK.out _ _ ⟨B1.out, B3.out, (B1.out.c 18 _ V.out.sigE), (B1.out.c 19 _ V.out.sigS)⟩ (fun hHeld => ?_)
  clear hK K
  try simp only [Act.put, List.setIfInBounds_toArray, List.set_cons_zero, List.set_cons_succ]
  refine wpAnyH_take (i := 6) (oi := ⟨_, _, _, _, _, _⟩) (v := ?_) rfl (by kernel_rfl) (by kernel_rfl) (by kernel_rfl) (fun _ _ _ h => h) (Or.inl ⟨by rfl, ?_⟩) (by assumption) ?_
  rotate_left
  · intro wz hSw
    try dsimp only at hSw
    go_simp
    try with_reducible rfl
  try simp only [Act.put, List.setIfInBounds_toArray, List.set_cons_zero, List.set_cons_succ]
  refine wpAnyH_take (i := 7) (oi := ⟨_, _, _, _, _, _⟩) (v := ?_) rfl (by kernel_rfl) (by kernel_rfl) (by kernel_rfl) (fun _ _ _ h => h) (Or.inl ⟨by rfl, ?_⟩) (by assumption) ?_
  rotate_left
  · intro wz hSw
    try dsimp only at hSw
    go_simp
    try with_reducible rfl
  try simp only [Act.put, List.setIfInBounds_toArray, List.set_cons_zero, List.set_cons_succ]
  refine wpAnyH_take (i := 8) (oi := ⟨_, _, _, _, _, _⟩) (v := ?_) rfl (by kernel_rfl) (by kernel_rfl) (by kernel_rfl) (fun _ _ _ h => h) (Or.inl ⟨by rfl, ?_⟩) (by assumption) ?_
  rotate_left
  · intro wz hSw
    try dsimp only at hSw
    go_simp
    try with_reducible rfl
  try simp only [Act.put, List.setIfInBounds_toArray, List.set_cons_zero, List.set_cons_succ]
  refine wpAnyH_take (i := 9) (oi := ⟨_, _, _, _, _, _⟩) (v := ?_) rfl (by kernel_rfl) (by kernel_rfl) (by kernel_rfl) (fun _ _ _ h => h) (Or.inl ⟨by rfl, ?_⟩) (by assumption) ?_
  rotate_left
  · intro wz hSw
    try dsimp only at hSw
    go_simp
    try with_reducible rfl
  try simp only [Act.put, List.setIfInBounds_toArray, List.set_cons_zero, List.set_cons_succ]
  refine wpAnyH_take (i := 10) (oi := ⟨_, _, _, _, _, _⟩) (v := ?_) rfl (by kernel_rfl) (by kernel_rfl) (by kernel_rfl) (fun _ _ _ h => h) (Or.inl ⟨by rfl, ?_⟩) (by assumption) ?_
  rotate_left
  · intro wz hSw
    try dsimp only at hSw
    go_simp
    try with_reducible rfl
  try simp only [Act.put, List.setIfInBounds_toArray, List.set_cons_zero, List.set_cons_succ]
  refine wpAnyH_take (i := 11) (oi := ⟨_, _, _, _, _, _⟩) (v := ?_) rfl (by kernel_rfl) (by kernel_rfl) (by kernel_rfl) (fun _ _ _ h => h) (Or.inl ⟨by rfl, ?_⟩) (by assumption) ?_
  rotate_left
  · intro wz hSw
    try dsimp only at hSw
    go_simp
    try with_reducible rfl
  try simp only [Act.put, List.setIfInBounds_toArray, List.set_cons_zero, List.set_cons_succ]
  refine wpAnyH_take (i := 12) (oi := ⟨_, _, _, _, _, _⟩) (v := undef) rfl (by kernel_rfl) (by kernel_rfl) (by kernel_rfl) (fun _ _ _ h => h) (Or.inr ⟨by rfl, rfl⟩) (by assumption) ?_
  try simp only [Act.put, List.setIfInBounds_toArray, List.set_cons_zero, List.set_cons_succ]
  refine wpAnyH_take (i := 13) (oi := ⟨_, _, _, _, _, _⟩) (v := undef) rfl (by kernel_rfl) (by kernel_rfl) (by kernel_rfl) (fun _ _ _ h => h) (Or.inr ⟨by rfl, rfl⟩) (by assumption) ?_
  try simp only [Act.put, List.setIfInBounds_toArray, List.set_cons_zero, List.set_cons_succ]
  refine wpAnyH_take (i := 14) (oi := ⟨_, _, _, _, _, _⟩) (v := undef) rfl (by kernel_rfl) (by kernel_rfl) (by kernel_rfl) (fun _ _ _ h => h) (Or.inr ⟨by rfl, rfl⟩) (by assumption) ?_
  try simp only [Act.put, List.setIfInBounds_toArray, List.set_cons_zero, List.set_cons_succ]
  refine wpAnyH_take (i := 15) (oi := ⟨_, _, _, _, _, _⟩) (v := undef) rfl (by kernel_rfl) (by kernel_rfl) (by kernel_rfl) (fun _ _ _ h => h) (Or.inr ⟨by rfl, rfl⟩) (by assumption) ?_
  try simp only [Act.put, List.setIfInBounds_toArray, List.set_cons_zero, List.set_cons_succ]
  refine wpAnyH_take (i := 16) (oi := ⟨_, _, _, _, _, _⟩) (v := undef) rfl (by kernel_rfl) (by kernel_rfl) (by kernel_rfl) (fun _ _ _ h => h) (Or.inr ⟨by rfl, rfl⟩) (by assumption) ?_
  try simp only [Act.put, List.setIfInBounds_toArray, List.set_cons_zero, List.set_cons_succ]
  refine wpAnyH_take (i := 17) (oi := ⟨_, _, _, _, _, _⟩) (v := undef) rfl (by kernel_rfl) (by kernel_rfl) (by kernel_rfl) (fun _ _ _ h => h) (Or.inr ⟨by rfl, rfl⟩) (by assumption) ?_
  try simp only [Act.put, List.setIfInBounds_toArray, List.set_cons_zero, List.set_cons_succ]
  refine wpAnyH_take (i := 18) (oi := ⟨_, _, _, _, _, _⟩) (v := undef) rfl (by kernel_rfl) (by kernel_rfl) (by kernel_rfl) (fun _ _ _ h => h) (Or.inr ⟨by rfl, rfl⟩) (by assumption) ?_
  try simp only [Act.put, List.setIfInBounds_toArray, List.set_cons_zero, List.set_cons_succ]
  refine wpAnyH_take (i := 19) (oi := ⟨_, _, _, _, _, _⟩) (v := ?_) rfl (by kernel_rfl) (by kernel_rfl) (by kernel_rfl) (fun _ _ _ h => h) (Or.inl ⟨by rfl, ?_⟩) (by assumption) ?_
  rotate_left
  · intro wz hSw
    try dsimp only at hSw
    go_simp
    try with_reducible rfl
  try simp only [Act.put, List.setIfInBounds_toArray, List.set_cons_zero, List.set_cons_succ]
  refine wpAnyH_take (i := 20) (oi := ⟨_, _, _, _, _, _⟩) (v := ?_) rfl (by kernel_rfl) (by kernel_rfl) (by kernel_rfl) (fun _ _ _ h => h) (Or.inl ⟨by rfl, ?_⟩) (by assumption) ?_
  rotate_left
  · intro wz hSw
    try dsimp only at hSw
    go_simp
    try with_reducible rfl
  try simp only [Act.put, List.setIfInBounds_toArray, List.set_cons_zero, List.set_cons_succ]
  refine wpAnyH_take (i := 21) (oi := ⟨_, _, _, _, _, _⟩) (v := ?_) rfl (by kernel_rfl) (by kernel_rfl) (by kernel_rfl) (fun _ _ _ h => h) (Or.inl ⟨by rfl, ?_⟩) (by assumption) ?_
  rotate_left
  · intro wz hSw
    try dsimp only at hSw
    go_simp
    try with_reducible rfl
  try simp only [Act.put, List.setIfInBounds_toArray, List.set_cons_zero, List.set_cons_succ]
  refine wpAnyH_take (i := 22) (oi := ⟨_, _, _, _, _, _⟩) (v := ?_) rfl (by kernel_rfl) (by kernel_rfl) (by kernel_rfl) (fun _ _ _ h => h) (Or.inl ⟨by rfl, ?_⟩) (by assumption) ?_
  rotate_left
  · intro wz hSw
    try dsimp only at hSw
    go_simp
    try with_reducible rfl
  try simp only [Act.put, List.setIfInBounds_toArray, List.set_cons_zero, List.set_cons_succ]
  refine wpAnyH_take (i := 23) (oi := ⟨_, _, _, _, _, _⟩) (v := .agg cs.toArray) rfl (by kernel_rfl) (by kernel_rfl) (by kernel_rfl) (fun _ _ _ h => h) (Or.inl ⟨by rfl, fun wz hSw => Lk.act_run _ rfl _ rfl hSw.1 V.out.len⟩) (by assumption) ?_
  try simp only [Act.put, List.setIfInBounds_toArray, List.set_cons_zero, List.set_cons_succ]
  refine wpAnyH_take (i := 25) (oi := ⟨_, _, _, _, _, _⟩) (v := ?_) rfl (by kernel_rfl) (by kernel_rfl) (by kernel_rfl) (fun _ _ _ h => h) (Or.inl ⟨by rfl, ?_⟩) (by assumption) ?_
  rotate_left
  · intro wz hSw
    try dsimp only at hSw
    go_simp
    try with_reducible rfl
  try simp only [Act.put, List.setIfInBounds_toArray, List.set_cons_zero, List.set_cons_succ]
  refine wpAnyH_take (i := 26) (oi := ⟨_, _, _, _, _, _⟩) (v := .agg cs.toArray) rfl (by kernel_rfl) (by kernel_rfl) (by kernel_rfl) (fun _ _ _ h => h) (Or.inl ⟨by rfl, fun wz hSw => Lk.act_run _ rfl _ rfl hSw.1 V.out.len⟩) (by assumption) ?_
  try simp only [Act.put, List.setIfInBounds_toArray, List.set_cons_zero, List.set_cons_succ]
  refine wpAnyH_take (i := 28) (oi := ⟨_, _, _, _, _, _⟩) (v := ?_) rfl (by kernel_rfl) (by kernel_rfl) (by kernel_rfl) (fun _ _ _ h => h) (Or.inl ⟨by rfl, ?_⟩) (by assumption) ?_
  rotate_left
  · intro wz hSw
    try dsimp only at hSw
    go_simp
    try with_reducible rfl
  try simp only [Act.put, List.setIfInBounds_toArray, List.set_cons_zero, List.set_cons_succ]
  refine wpAnyH_take (i := 29) (oi := ⟨_, _, _, _, _, _⟩) (v := ?_) rfl (by kernel_rfl) (by kernel_rfl) (by kernel_rfl) (fun _ _ _ h => h) (Or.inl ⟨by rfl, ?_⟩) (by assumption) ?_
  rotate_left
  · intro wz hSw
    try dsimp only at hSw
    go_simp
    try with_reducible rfl
  try simp only [Act.put, List.setIfInBounds_toArray, List.set_cons_zero, List.set_cons_succ]
  refine wpAnyH_ready (rs := [24]) (by kernel_rfl) (by simp) ?_
  refine AllReadyH.cons (o := ⟨_, _, _, _, _, _⟩) rfl (fun K hK => ?_) AllReadyH.nil
  go_simp
  refine (KVa.out _ _ _ T.out.bel V.out).mono ?_
  rintro e w15 ⟨rfl, hb⟩
  replace T := Lib.hid (T.out.step hb)
  replace B1 := Lib.hid (B1.out.step hb)
  replace B2 := Lib.hid (B2.out.step hb)
  replace B3 := Lib.hid (B3.out.step hb)
  replace V := Lib.hid (V.out.step hb)
  replace U := Lib.hid (U.out.step hb)
  replace HZV := Lib.hid (HZV.out.step hb)
  replace V11 := Lib.hid (V11.out.step hb)
  clear hb hHeld
  refine hK.out _ _ ⟨B1.out, B3.out, (B1.out.c 18 _ V.out.sigE), (B1.out.c 19 _ V.out.sigS)⟩ (fun hHeld => ?_)
  clear hK K
  try simp only [Act.put, List.setIfInBounds_toArray, List.set_cons_zero, List.set_cons_succ]
  refine wpAnyH_ready (rs := [27]) (by kernel_rfl) (by simp) ?_
  refine AllReadyH.cons (o := ⟨_, _, _, _, _, _⟩) rfl (fun K hK => ?_) AllReadyH.nil
  go_simp
  refine (KCa.out _ _ _ T.out.bel V.out).mono ?_
  rintro e w16 ⟨rfl, hb⟩
  replace T := Lib.hid (T.out.step hb)
  replace B1 := Lib.hid (B1.out.step hb)
  replace B2 := Lib.hid (B2.out.step hb)
  replace B3 := Lib.hid (B3.out.step hb)
  replace V := Lib.hid (V.out.step hb)
  replace U := Lib.hid (U.out.step hb)
  replace HZV := Lib.hid (HZV.out.step hb)
  replace V11 := Lib.hid (V11.out.step hb)
  clear hb hHeld
  refine hK.out _ _ ⟨B1.out, B3.out, (B1.out.c 18 _ V.out.sigE), (B1.out.c 19 _ V.out.sigS)⟩ (fun hHeld => ?_)
  clear hK K
  try simp only [Act.put, List.setIfInBounds_toArray, List.set_cons_zero, List.set_cons_succ]
  refine wpAnyH_ready (rs := [30]) (by kernel_rfl) (by simp) ?_
  refine AllReadyH.cons (o := ⟨_, _, _, _, _, _⟩) rfl (fun K hK => ?_) AllReadyH.nil
  go_simp
  refine (KSV.out _ T.out.bel).mono ?_
  rintro e w17 ⟨rfl, hb⟩
  replace T := Lib.hid (T.out.step hb)
  replace B1 := Lib.hid (B1.out.step hb)
  replace B2 := Lib.hid (B2.out.step hb)
  replace B3 := Lib.hid (B3.out.step hb)
  replace V := Lib.hid (V.out.step hb)
  replace U := Lib.hid (U.out.step hb)
  replace HZV := Lib.hid (HZV.out.step hb)
  replace V11 := Lib.hid (V11.out.step hb)
  clear hb hHeld
  refine hK.out _ _ ⟨B1.out, B3.out, (B1.out.c 18 _ V.out.sigE), (B1.out.c 19 _ V.out.sigS)⟩ (fun hHeld => ?_)
  clear hK K
  try simp only [Act.put, List.setIfInBounds_toArray, List.set_cons_zero, List.set_cons_succ]
  refine wpAnyH_take (i := 31) (oi := ⟨_, _, _, _, _, _⟩) (v := ?_) rfl (by kernel_rfl) (by kernel_rfl) (by kernel_rfl) (fun _ _ _ h => h) (Or.inl ⟨by rfl, ?_⟩) (by assumption) ?_
  rotate_left
  · intro wz hSw
    try dsimp only at hSw
    go_simp
    try with_reducible rfl
  try simp only [Act.put, List.setIfInBounds_toArray, List.set_cons_zero, List.set_cons_succ]
  refine wpAnyH_take (i := 32) (oi := ⟨_, _, _, _, _, _⟩) (v := ?_) rfl (by kernel_rfl) (by kernel_rfl) (by kernel_rfl) (fun _ _ _ h => h) (Or.inl ⟨by rfl, ?_⟩) (by assumption) ?_
  rotate_left
  · intro wz hSw
    try dsimp only at hSw
    go_simp
    try with_reducible rfl
  try simp only [Act.put, List.setIfInBounds_toArray, List.set_cons_zero, List.set_cons_succ]
  refine wpAnyH_take (i := 33) (oi := ⟨_, _, _, _, _, _⟩) (v := ?_) rfl (by kernel_rfl) (by kernel_rfl) (by kernel_rfl) (fun _ _ _ h => h) (Or.inl ⟨by rfl, ?_⟩) (by assumption) ?_
  rotate_left
  · intro wz hSw
    try dsimp only at hSw
    go_simp
    try with_reducible rfl
  try simp only [Act.put, List.setIfInBounds_toArray, List.set_cons_zero, List.set_cons_succ]
  refine wpAnyH_done (by kernel_rfl) ?_ _
  clear hHeld
  go_wp2
  go_ret
  exact ⟨rfl, T.out.bel⟩
theorem binds_walk {keyOk : Int → Int → Bool} {sgn : Int → Int → Str → Int × Int} {ver : Int → Str → Int → Int → Bool} {W : World} (P : Pk keyOk sgn ver W) (hsm : Ok W 9 #[] (.bool true))
    (a b : Ac) (e s e' s' : Int) (A : Option Addr) (nA cA : Nat) (Q : Option Addr) (nQ cQ : Nat) (A' : Option Addr) (nA' cA' : Nat) (Q' : Option Addr) (nQ' cQ' : Nat) (p : Int) (hp : Ap W W.heap.size a A nA cA Q nQ cQ) (hp1 : Ap W W.heap.size b A' nA' cA' Q' nQ' cQ') (hz : Sz 281474976710656 140737488355328 a) (hz1 : Sz 281474976710656 140737488355328 b) (hpi : -9223372036854775808 ≤ p ∧ p ≤ 9223372036854775807) :
    Calls Tryz.prog 5 #[vA a e s A nA cA Q nQ cQ, vA b e' s' A' nA' cA' Q' nQ' cQ', .int .i64 p] W fun x w' => x = .returned (.bool true) ∧ Below W.heap.size W w' := by
  have hv0 : Av W W.heap.size (cellsA a e s A nA cA Q nQ cQ) a e s := Av.arg hp
  have hv1 : Av W W.heap.size (cellsA b e' s' A' nA' cA' Q' nQ' cQ') b e' s' := Av.arg hp1
  rw [vA_eq, vA_eq]
  cases h : fewB a with
  | false => exact binds_e1 P hsm a b e s e' s' _ _ p hv0 hv1 hz hz1 h
  | true =>
    cases h2 : fewB b with
    | false => exact binds_e2 P hsm a b e s e' s' _ _ p hv0 hv1 hz hz1 h h2
    | true =>
      cases h3 : valid a e s with
      | false => exact binds_e3 P hsm a b e s e' s' _ _ p hv0 hv1 hz hz1 h h2 h3
      | true =>
        cases h4 : valid b e' s' with
        | false => exact binds_e4 P hsm a b e s e' s' _ _ p hv0 hv1 hz hz1 h h2 h3 h4
        | true =>
          by_cases hne : a = b
          · subst hne
            by_cases hs : e = e' ∧ s = s'
            · obtain ⟨rfl, rfl⟩ := hs
              exact binds_same P hsm a e s _ _ p hv0 hv1 hz hpi h h3
            · exact binds_sig P hsm a e s e' s' _ _ p hv0 hv1 hz hpi h h3 h4 (fun h1 h2 => hs ⟨h1, h2⟩)
          · exact binds_apart P hsm a b e s e' s' _ _ p hv0 hv1 hz hz1 hpi h h2 h3 h4 hne
end Ax
end Go.Proofs.YtojbicpchjiplaaGreatDoor
