/-
  Layer 12: the landed package's small functions.
-/
import Derived.Test.YtojbicpchjiplaaGreatDoorActLv
import Derived.Test.YtojbicpchjiplaaGreatDoorActApp
import Derived.Test.YtojbicpchjiplaaGreatDoorIdentFunI
namespace Go.Proofs.YtojbicpchjiplaaGreatDoor
open Go.RowKit
namespace Ld
open Ax
open S11.Idt (Str isId isName ids)
attribute [local go_sem] S2.B_size S2.B_list S2.B_app S2.B_take litE
set_option maxHeartbeats 4000000 in
set_option maxRecDepth 100000 in
theorem within_any (n lo hi : Int) (w : World) :
    Calls Tryz.prog 51 #[.int .i64 n, .int .i64 lo, .int .i64 hi] w fun x w' => x = .returned (.bool (withL n lo hi)) ∧ Below w.heap.size w w' := by
  have T := Lib.hid (Lk.At.start w)
  obtain ⟨b1, hb1⟩ : ∃ b : Bool, b = (decide (lo ≤ n)) := ⟨_, rfl⟩
  obtain ⟨b2, hb2⟩ : ∃ b : Bool, b = (decide (n ≤ hi)) := ⟨_, rfl⟩
  have HR := Lib.hid (show (withL n lo hi) = (b1 && b2) by rw [hb1, hb2]; try (rfl))
  have tb1 : (decide (lo ≤ n)) = b1 := hb1.symm
  have tb2 : (decide (n ≤ hi)) = b2 := hb2.symm
  clear hb1 hb2
  go_enter Tryz.func51, Tryz.ntmps51
  cases b1 with
  | false =>
    go_wp2
    go_ret
    exact ⟨by rw [HR.out]; rfl, T.out.bel⟩
  | true =>
    go_wp2
    go_ret
    exact ⟨by rw [HR.out]; rfl, T.out.bel⟩
set_option maxHeartbeats 4000000 in
set_option maxRecDepth 100000 in
theorem isDigest_any (l : Str) (w : World) :
    Calls Tryz.prog 112 #[.string (S2.B l)] w fun x w' => x = .returned (.bool (digL l)) ∧ Below w.heap.size w w' := by
  have T := Lib.hid (Lk.At.start w)
  obtain ⟨b1, hb1⟩ : ∃ b : Bool, b = ((l.length : Int) == 32) := ⟨_, rfl⟩
  have HR := Lib.hid (show (digL l) = (b1) by rw [hb1]; try (rfl))
  have tb1 : ((l.length : Int) == 32) = b1 := hb1.symm
  clear hb1
  go_enter Tryz.func112, Tryz.ntmps112
  go_wp2
  go_ret
  exact ⟨by rw [HR.out]; rfl, T.out.bel⟩
set_option maxHeartbeats 4000000 in
set_option maxRecDepth 100000 in
theorem isShort_any (l : Str) (w : World) :
    Calls Tryz.prog 100 #[.string (S2.B l)] w fun x w' => x = .returned (.bool (shortL l)) ∧ Below w.heap.size w w' := by
  have T := Lib.hid (Lk.At.start w)
  obtain ⟨b1, hb1⟩ : ∃ b : Bool, b = (decide ((l.length : Int) ≤ 500)) := ⟨_, rfl⟩
  have HR := Lib.hid (show (shortL l) = (b1) by rw [hb1]; try (rfl))
  have tb1 : (decide ((l.length : Int) ≤ 500)) = b1 := hb1.symm
  clear hb1
  go_enter Tryz.func100, Tryz.ntmps100
  go_wp2
  go_ret
  exact ⟨by rw [HR.out]; rfl, T.out.bel⟩
set_option maxHeartbeats 4000000 in
set_option maxRecDepth 100000 in
theorem isPublic_any (n : Int) (w : World) :
    Calls Tryz.prog 143 #[.int .i64 n] w fun x w' => x = .returned (.bool (pubL n)) ∧ Below w.heap.size w w' := by
  have T := Lib.hid (Lk.At.start w)
  obtain ⟨b1, hb1⟩ : ∃ b : Bool, b = (withL n 1 2305843009213693950) := ⟨_, rfl⟩
  have K1 := fun (w : World) => within_any n 1 2305843009213693950 w
  rw [show (withL n 1 2305843009213693950) = b1 from hb1.symm] at K1
  replace K1 := Lib.hid K1
  have HR := Lib.hid (show (pubL n) = (b1) by rw [hb1]; try (rfl))
  clear hb1
  go_enter Tryz.func143, Tryz.ntmps143
  go_wp2_with (first | fail)
  refine (K1.out w).mono ?_
  rintro e w1 ⟨rfl, hb⟩
  replace T := Lib.hid (T.out.step hb)
  clear hb
  go_wp2
  go_ret
  exact ⟨by rw [HR.out]; rfl, T.out.bel⟩
set_option maxHeartbeats 4000000 in
set_option maxRecDepth 100000 in
theorem isBox_any (y1 y2 y3 : Str) (w : World) :
    Calls Tryz.prog 142 #[.agg #[.string (S2.B y1), .string (S2.B y2), .string (S2.B y3)]] w fun x w' => x = .returned (.bool (boxL ⟨y1, y2, y3⟩)) ∧ Below w.heap.size w w' := by
  have T := Lib.hid (Lk.At.start w)
  obtain ⟨b1, hb1⟩ : ∃ b : Bool, b = ((y1.length : Int) == 32) := ⟨_, rfl⟩
  obtain ⟨b2, hb2⟩ : ∃ b : Bool, b = ((y3.length : Int) == 16) := ⟨_, rfl⟩
  obtain ⟨b3, hb3⟩ : ∃ b : Bool, b = (shortL y2) := ⟨_, rfl⟩
  have K3 := fun (w : World) => isShort_any y2 w
  rw [show (shortL y2) = b3 from hb3.symm] at K3
  replace K3 := Lib.hid K3
  have HR := Lib.hid (show (boxL ⟨y1, y2, y3⟩) = (b1 && (b2 && b3)) by rw [hb1, hb2, hb3]; try (rfl))
  have tb1 : ((y1.length : Int) == 32) = b1 := hb1.symm
  have tb2 : ((y3.length : Int) == 16) = b2 := hb2.symm
  clear hb1 hb2 hb3
  go_enter Tryz.func142, Tryz.ntmps142
  replace T := Lib.hid (T.out.alloc (.cells #[.string (S2.B y1), .string (S2.B y2), .string (S2.B y3)] 24))
  have B1 := Lib.hid (show Lk.Bl (w.alloc (.cells #[.string (S2.B y1), .string (S2.B y2), .string (S2.B y3)] 24)) w.heap.size [.string (S2.B y1), .string (S2.B y2), .string (S2.B y3)] 24 from by have h := Lk.Bl.new w [.string (S2.B y1), .string (S2.B y2), .string (S2.B y3)] 24; simpa using h)
  cases b1 with
  | false =>
    have cB1_0 := B1.out.c 0 _ rfl
    go_wp2
    clear cB1_0
    generalize w.alloc (.cells #[.string (S2.B y1), .string (S2.B y2), .string (S2.B y3)] 24) = w1 at *
    go_ret
    exact ⟨by rw [HR.out]; rfl, T.out.bel⟩
  | true =>
    cases b2 with
    | false =>
      have cB1_0 := B1.out.c 0 _ rfl
      have cB1_2 := B1.out.c 2 _ rfl
      go_wp2
      clear cB1_0 cB1_2
      generalize w.alloc (.cells #[.string (S2.B y1), .string (S2.B y2), .string (S2.B y3)] 24) = w1 at *
      go_ret
      exact ⟨by rw [HR.out]; rfl, T.out.bel⟩
    | true =>
      have cB1_0 := B1.out.c 0 _ rfl
      have cB1_2 := B1.out.c 2 _ rfl
      have cB1_1 := B1.out.c 1 _ rfl
      go_wp2_with (first | fail)
      clear cB1_0 cB1_2 cB1_1
      generalize w.alloc (.cells #[.string (S2.B y1), .string (S2.B y2), .string (S2.B y3)] 24) = w1 at *
      refine (K3.out w1).mono ?_
      rintro e w2 ⟨rfl, hb⟩
      replace T := Lib.hid (T.out.step hb)
      replace B1 := Lib.hid (B1.out.step hb)
      clear hb
      go_wp2
      go_ret
      exact ⟨by rw [HR.out]; rfl, T.out.bel⟩
set_option maxHeartbeats 4000000 in
set_option maxRecDepth 100000 in
theorem hasObject_any {bd : Nat} {cs : List Value} {a : Ac} {e s : Int} (w : World) (hv0 : Av w bd cs a e s) (hz : Sz 1000000 1000000 a) :
    Calls Tryz.prog 95 #[.agg cs.toArray] w fun x w' => x = .returned (.bool (objL a)) ∧ Below w.heap.size w w' := by
  have T := Lib.hid (Lk.At.start w)
  have V := Lib.hid hv0
  have _hz := hz
  clear _hz
  obtain ⟨b1, hb1⟩ : ∃ b : Bool, b = (digL a.object) := ⟨_, rfl⟩
  have K1 := fun (w : World) => isDigest_any a.object w
  rw [show (digL a.object) = b1 from hb1.symm] at K1
  replace K1 := Lib.hid K1
  have HR := Lib.hid (show (objL a) = (b1) by rw [hb1]; try (rfl))
  clear hb1
  clear hv0 hz
  go_enter Tryz.func95, Tryz.ntmps95
  replace T := Lib.hid (T.out.alloc (.cells cs.toArray 29))
  replace V := Lib.hid (V.out.alloc (.cells cs.toArray 29))
  have B1 := Lib.hid (show Lk.Bl (w.alloc (.cells cs.toArray 29)) w.heap.size cs 29 from by have h := Lk.Bl.new w cs 29; simpa using h)
  have cB1_5 := B1.out.c 5 _ V.out.object
  go_wp2_with (first | fail)
  clear cB1_5
  generalize w.alloc (.cells cs.toArray 29) = w1 at *
  refine (K1.out w1).mono ?_
  rintro e w2 ⟨rfl, hb⟩
  replace T := Lib.hid (T.out.step hb)
  replace B1 := Lib.hid (B1.out.step hb)
  replace V := Lib.hid (V.out.step hb)
  clear hb
  go_wp2
  go_ret
  exact ⟨by rw [HR.out]; rfl, T.out.bel⟩
set_option maxHeartbeats 4000000 in
set_option maxRecDepth 100000 in
theorem hasTarget_any {bd : Nat} {cs : List Value} {a : Ac} {e s : Int} (w : World) (hv0 : Av w bd cs a e s) (hz : Sz 1000000 1000000 a) :
    Calls Tryz.prog 96 #[.agg cs.toArray] w fun x w' => x = .returned (.bool (tgtL a)) ∧ Below w.heap.size w w' := by
  have T := Lib.hid (Lk.At.start w)
  have V := Lib.hid hv0
  have _hz := hz
  clear _hz
  obtain ⟨b1, hb1⟩ : ∃ b : Bool, b = (isId a.target) := ⟨_, rfl⟩
  have K1 := fun (w : World) => S11.Idt.right_any a.target w (by have := hz.target; omega)
  rw [show (isId a.target) = b1 from hb1.symm] at K1
  replace K1 := Lib.hid K1
  have HR := Lib.hid (show (tgtL a) = (b1) by rw [hb1]; try (rfl))
  clear hb1
  clear hv0 hz
  go_enter Tryz.func96, Tryz.ntmps96
  replace T := Lib.hid (T.out.alloc (.cells cs.toArray 29))
  replace V := Lib.hid (V.out.alloc (.cells cs.toArray 29))
  have B1 := Lib.hid (show Lk.Bl (w.alloc (.cells cs.toArray 29)) w.heap.size cs 29 from by have h := Lk.Bl.new w cs 29; simpa using h)
  have cB1_6 := B1.out.c 6 _ V.out.target
  go_wp2_with (first | fail)
  clear cB1_6
  generalize w.alloc (.cells cs.toArray 29) = w1 at *
  refine (K1.out w1).mono ?_
  rintro e w2 ⟨rfl, hb⟩
  replace T := Lib.hid (T.out.step hb)
  replace B1 := Lib.hid (B1.out.step hb)
  replace V := Lib.hid (V.out.step hb)
  clear hb
  go_wp2
  go_ret
  exact ⟨by rw [HR.out]; rfl, T.out.bel⟩
set_option maxHeartbeats 4000000 in
set_option maxRecDepth 100000 in
theorem hasEither_any {bd : Nat} {cs : List Value} {a : Ac} {e s : Int} (w : World) (hv0 : Av w bd cs a e s) (hz : Sz 1000000 1000000 a) :
    Calls Tryz.prog 108 #[.agg cs.toArray] w fun x w' => x = .returned (.bool (eitherL a)) ∧ Below w.heap.size w w' := by
  have T := Lib.hid (Lk.At.start w)
  have V := Lib.hid hv0
  have _hz := hz
  clear _hz
  obtain ⟨b1, hb1⟩ : ∃ b : Bool, b = (a.target == []) := ⟨_, rfl⟩
  obtain ⟨b2, hb2⟩ : ∃ b : Bool, b = (objL a) := ⟨_, rfl⟩
  obtain ⟨b3, hb3⟩ : ∃ b : Bool, b = (a.object == []) := ⟨_, rfl⟩
  obtain ⟨b4, hb4⟩ : ∃ b : Bool, b = (tgtL a) := ⟨_, rfl⟩
  have K2 := fun (w : World) (bd : Nat) (hv : Av w bd cs a e s) => hasObject_any w hv hz
  rw [show (objL a) = b2 from hb2.symm] at K2
  replace K2 := Lib.hid K2
  have K4 := fun (w : World) (bd : Nat) (hv : Av w bd cs a e s) => hasTarget_any w hv hz
  rw [show (tgtL a) = b4 from hb4.symm] at K4
  replace K4 := Lib.hid K4
  have HR := Lib.hid (show (eitherL a) = ((b1 && b2) || (b3 && b4)) by rw [hb1, hb2, hb3, hb4]; try (rfl))
  have tb1 : (a.target == []) = b1 := hb1.symm
  have tb3 : (a.object == []) = b3 := hb3.symm
  clear hb1 hb2 hb3 hb4
  clear hv0 hz
  go_enter Tryz.func108, Tryz.ntmps108
  replace T := Lib.hid (T.out.alloc (.cells cs.toArray 29))
  replace V := Lib.hid (V.out.alloc (.cells cs.toArray 29))
  have B1 := Lib.hid (show Lk.Bl (w.alloc (.cells cs.toArray 29)) w.heap.size cs 29 from by have h := Lk.Bl.new w cs 29; simpa using h)
  cases b1 with
  | false =>
    cases b3 with
    | false =>
      have cB1_6 := B1.out.c 6 _ V.out.target
      have cB1_5 := B1.out.c 5 _ V.out.object
      go_wp2
      clear cB1_6 cB1_5
      generalize w.alloc (.cells cs.toArray 29) = w1 at *
      go_ret
      exact ⟨by rw [HR.out]; rfl, T.out.bel⟩
    | true =>
      have cB1_6 := B1.out.c 6 _ V.out.target
      have cB1_5 := B1.out.c 5 _ V.out.object
      go_wp2_with (first | ((with_reducible refine Lk.ld (d := 15) w.heap.size B1.out V.out.len ?_ ?_ ?_); exact rfl; exact rfl) | fail)
      clear cB1_6 cB1_5
      generalize w.alloc (.cells cs.toArray 29) = w1 at *
      refine (K4.out w1 _ V.out).mono ?_
      rintro e w2 ⟨rfl, hb⟩
      replace T := Lib.hid (T.out.step hb)
      replace B1 := Lib.hid (B1.out.step hb)
      replace V := Lib.hid (V.out.step hb)
      clear hb
      go_wp2
      go_ret
      exact ⟨by rw [HR.out]; rfl, T.out.bel⟩
  | true =>
    have cB1_6 := B1.out.c 6 _ V.out.target
    go_wp2_with (first | ((with_reducible refine Lk.ld (d := 7) w.heap.size B1.out V.out.len ?_ ?_ ?_); exact rfl; exact rfl) | fail)
    clear cB1_6
    generalize w.alloc (.cells cs.toArray 29) = w1 at *
    refine (K2.out w1 _ V.out).mono ?_
    rintro e w2 ⟨rfl, hb⟩
    replace T := Lib.hid (T.out.step hb)
    replace B1 := Lib.hid (B1.out.step hb)
    replace V := Lib.hid (V.out.step hb)
    clear hb
    cases b2 with
    | false =>
      cases b3 with
      | false =>
        have cB1_5 := B1.out.c 5 _ V.out.object
        go_wp2
        clear cB1_5
        go_ret
        exact ⟨by rw [HR.out]; rfl, T.out.bel⟩
      | true =>
        have cB1_5 := B1.out.c 5 _ V.out.object
        go_wp2_with (first | ((with_reducible refine Lk.ld (d := 15) w.heap.size B1.out V.out.len ?_ ?_ ?_); exact rfl; exact rfl) | fail)
        clear cB1_5
        refine (K4.out w2 _ V.out).mono ?_
        rintro e w3 ⟨rfl, hb⟩
        replace T := Lib.hid (T.out.step hb)
        replace B1 := Lib.hid (B1.out.step hb)
        replace V := Lib.hid (V.out.step hb)
        clear hb
        go_wp2
        go_ret
        exact ⟨by rw [HR.out]; rfl, T.out.bel⟩
    | true =>
      go_wp2
      go_ret
      exact ⟨by rw [HR.out]; rfl, T.out.bel⟩
set_option maxHeartbeats 4000000 in
set_option maxRecDepth 100000 in
theorem hasAccount_any {bd : Nat} {cs : List Value} {a : Ac} {e s : Int} (w : World) (hv0 : Av w bd cs a e s) (hz : Sz 1000000 1000000 a) :
    Calls Tryz.prog 102 #[.agg cs.toArray] w fun x w' => x = .returned (.bool (accL a)) ∧ Below w.heap.size w w' := by
  have T := Lib.hid (Lk.At.start w)
  have V := Lib.hid hv0
  have _hz := hz
  clear _hz
  obtain ⟨b1, hb1⟩ : ∃ b : Bool, b = (pubL a.n) := ⟨_, rfl⟩
  obtain ⟨b2, hb2⟩ : ∃ b : Bool, b = (withL a.m 0 19) := ⟨_, rfl⟩
  have K1 := fun (w : World) => isPublic_any a.n w
  rw [show (pubL a.n) = b1 from hb1.symm] at K1
  replace K1 := Lib.hid K1
  have K2 := fun (w : World) => within_any a.m 0 19 w
  rw [show (withL a.m 0 19) = b2 from hb2.symm] at K2
  replace K2 := Lib.hid K2
  have HR := Lib.hid (show (accL a) = (b1 && b2) by rw [hb1, hb2]; try (rfl))
  clear hb1 hb2
  clear hv0 hz
  go_enter Tryz.func102, Tryz.ntmps102
  replace T := Lib.hid (T.out.alloc (.cells cs.toArray 29))
  replace V := Lib.hid (V.out.alloc (.cells cs.toArray 29))
  have B1 := Lib.hid (show Lk.Bl (w.alloc (.cells cs.toArray 29)) w.heap.size cs 29 from by have h := Lk.Bl.new w cs 29; simpa using h)
  have cB1_16 := B1.out.c 16 _ V.out.n
  go_wp2_with (first | fail)
  clear cB1_16
  generalize w.alloc (.cells cs.toArray 29) = w1 at *
  refine (K1.out w1).mono ?_
  rintro e w2 ⟨rfl, hb⟩
  replace T := Lib.hid (T.out.step hb)
  replace B1 := Lib.hid (B1.out.step hb)
  replace V := Lib.hid (V.out.step hb)
  clear hb
  cases b1 with
  | false =>
    go_wp2
    go_ret
    exact ⟨by rw [HR.out]; rfl, T.out.bel⟩
  | true =>
    have cB1_17 := B1.out.c 17 _ V.out.m
    go_wp2_with (first | fail)
    clear cB1_17
    refine (K2.out w2).mono ?_
    rintro e w3 ⟨rfl, hb⟩
    replace T := Lib.hid (T.out.step hb)
    replace B1 := Lib.hid (B1.out.step hb)
    replace V := Lib.hid (V.out.step hb)
    clear hb
    go_wp2
    go_ret
    exact ⟨by rw [HR.out]; rfl, T.out.bel⟩
set_option maxHeartbeats 4000000 in
set_option maxRecDepth 100000 in
theorem hasEpoch_any {bd : Nat} {cs : List Value} {a : Ac} {e s : Int} (w : World) (hv0 : Av w bd cs a e s) (hz : Sz 1000000 1000000 a) :
    Calls Tryz.prog 105 #[.agg cs.toArray] w fun x w' => x = .returned (.bool (epochL a)) ∧ Below w.heap.size w w' := by
  have T := Lib.hid (Lk.At.start w)
  have V := Lib.hid hv0
  have _hz := hz
  clear _hz
  obtain ⟨b1, hb1⟩ : ∃ b : Bool, b = (a.scope == 1) := ⟨_, rfl⟩
  obtain ⟨b3, hb3⟩ : ∃ b : Bool, b = (a.scope == 3) := ⟨_, rfl⟩
  obtain ⟨b2, hb2⟩ : ∃ b : Bool, b = (a.scope == 2) := ⟨_, rfl⟩
  obtain ⟨b4, hb4⟩ : ∃ b : Bool, b = (a.group == []) := ⟨_, rfl⟩
  obtain ⟨b5, hb5⟩ : ∃ b : Bool, b = (withL a.epoch 0 1073741824) := ⟨_, rfl⟩
  obtain ⟨b6, hb6⟩ : ∃ b : Bool, b = (isName a.group) := ⟨_, rfl⟩
  have K5 := fun (w : World) => within_any a.epoch 0 1073741824 w
  rw [show (withL a.epoch 0 1073741824) = b5 from hb5.symm] at K5
  replace K5 := Lib.hid K5
  have K6 := fun (w : World) => S11.Idt.name_any a.group w (by have := hz.group; omega)
  rw [show (isName a.group) = b6 from hb6.symm] at K6
  replace K6 := Lib.hid K6
  have HR := Lib.hid (show (epochL a) = (cond (b1 || b3) (b4 && b5) (cond b2 (b6 && b5) false)) by rw [hb1, hb3, hb2, hb4, hb5, hb6]; try (rfl))
  have tb1 : (a.scope == 1) = b1 := hb1.symm
  have tb3 : (a.scope == 3) = b3 := hb3.symm
  have tb2 : (a.scope == 2) = b2 := hb2.symm
  have tb4 : (a.group == []) = b4 := hb4.symm
  clear hb1 hb3 hb2 hb4 hb5 hb6
  clear hv0 hz
  go_enter Tryz.func105, Tryz.ntmps105
  replace T := Lib.hid (T.out.alloc (.cells cs.toArray 29))
  replace V := Lib.hid (V.out.alloc (.cells cs.toArray 29))
  have B1 := Lib.hid (show Lk.Bl (w.alloc (.cells cs.toArray 29)) w.heap.size cs 29 from by have h := Lk.Bl.new w cs 29; simpa using h)
  cases b1 with
  | false =>
    cases b3 with
    | false =>
      cases b2 with
      | false =>
        have cB1_7 := B1.out.c 7 _ V.out.scope
        go_wp2
        clear cB1_7
        generalize w.alloc (.cells cs.toArray 29) = w1 at *
        go_ret
        exact ⟨by rw [HR.out]; rfl, T.out.bel⟩
      | true =>
        have cB1_7 := B1.out.c 7 _ V.out.scope
        have cB1_8 := B1.out.c 8 _ V.out.group
        go_wp2_with (first | fail)
        clear cB1_7 cB1_8
        generalize w.alloc (.cells cs.toArray 29) = w1 at *
        refine (K6.out w1).mono ?_
        rintro e w2 ⟨rfl, hb⟩
        replace T := Lib.hid (T.out.step hb)
        replace B1 := Lib.hid (B1.out.step hb)
        replace V := Lib.hid (V.out.step hb)
        clear hb
        cases b6 with
        | false =>
          go_wp2
          go_ret
          exact ⟨by rw [HR.out]; rfl, T.out.bel⟩
        | true =>
          have cB1_14 := B1.out.c 14 _ V.out.epoch
          go_wp2_with (first | fail)
          clear cB1_14
          refine (K5.out w2).mono ?_
          rintro e w3 ⟨rfl, hb⟩
          replace T := Lib.hid (T.out.step hb)
          replace B1 := Lib.hid (B1.out.step hb)
          replace V := Lib.hid (V.out.step hb)
          clear hb
          go_wp2
          go_ret
          exact ⟨by rw [HR.out]; rfl, T.out.bel⟩
    | true =>
      cases b4 with
      | false =>
        have cB1_7 := B1.out.c 7 _ V.out.scope
        have cB1_8 := B1.out.c 8 _ V.out.group
        go_wp2
        clear cB1_7 cB1_8
        generalize w.alloc (.cells cs.toArray 29) = w1 at *
        go_ret
        exact ⟨by rw [HR.out]; rfl, T.out.bel⟩
      | true =>
        have cB1_7 := B1.out.c 7 _ V.out.scope
        have cB1_8 := B1.out.c 8 _ V.out.group
        have cB1_14 := B1.out.c 14 _ V.out.epoch
        go_wp2_with (first | fail)
        clear cB1_7 cB1_8 cB1_14
        generalize w.alloc (.cells cs.toArray 29) = w1 at *
        refine (K5.out w1).mono ?_
        rintro e w2 ⟨rfl, hb⟩
        replace T := Lib.hid (T.out.step hb)
        replace B1 := Lib.hid (B1.out.step hb)
        replace V := Lib.hid (V.out.step hb)
        clear hb
        go_wp2
        go_ret
        exact ⟨by rw [HR.out]; rfl, T.out.bel⟩
  | true =>
    cases b4 with
    | false =>
      have cB1_7 := B1.out.c 7 _ V.out.scope
      have cB1_8 := B1.out.c 8 _ V.out.group
      go_wp2
      clear cB1_7 cB1_8
      generalize w.alloc (.cells cs.toArray 29) = w1 at *
      go_ret
      exact ⟨by rw [HR.out]; rfl, T.out.bel⟩
    | true =>
      have cB1_7 := B1.out.c 7 _ V.out.scope
      have cB1_8 := B1.out.c 8 _ V.out.group
      have cB1_14 := B1.out.c 14 _ V.out.epoch
      go_wp2_with (first | fail)
      clear cB1_7 cB1_8 cB1_14
      generalize w.alloc (.cells cs.toArray 29) = w1 at *
      refine (K5.out w1).mono ?_
      rintro e w2 ⟨rfl, hb⟩
      replace T := Lib.hid (T.out.step hb)
      replace B1 := Lib.hid (B1.out.step hb)
      replace V := Lib.hid (V.out.step hb)
      clear hb
      go_wp2
      go_ret
      exact ⟨by rw [HR.out]; rfl, T.out.bel⟩
set_option maxHeartbeats 4000000 in
set_option maxRecDepth 100000 in
theorem rule2_any {bd : Nat} {cs : List Value} {a : Ac} {e s : Int} (w : World) (hv0 : Av w bd cs a e s) (hz : Sz 1000000 1000000 a) :
    Calls Tryz.prog 99 #[.agg cs.toArray] w fun x w' => x = .returned (.bool (r2 a)) ∧ Below w.heap.size w w' := by
  have T := Lib.hid (Lk.At.start w)
  have V := Lib.hid hv0
  have _hz := hz
  clear _hz
  obtain ⟨b1, hb1⟩ : ∃ b : Bool, b = (objL a) := ⟨_, rfl⟩
  obtain ⟨b2, hb2⟩ : ∃ b : Bool, b = (shortL a.text) := ⟨_, rfl⟩
  have K1 := fun (w : World) (bd : Nat) (hv : Av w bd cs a e s) => hasObject_any w hv hz
  rw [show (objL a) = b1 from hb1.symm] at K1
  replace K1 := Lib.hid K1
  have K2 := fun (w : World) => isShort_any a.text w
  rw [show (shortL a.text) = b2 from hb2.symm] at K2
  replace K2 := Lib.hid K2
  have HR := Lib.hid (show (r2 a) = (b1 && b2) by rw [hb1, hb2]; try (rfl))
  clear hb1 hb2
  clear hv0 hz
  go_enter Tryz.func99, Tryz.ntmps99
  replace T := Lib.hid (T.out.alloc (.cells cs.toArray 29))
  replace V := Lib.hid (V.out.alloc (.cells cs.toArray 29))
  have B1 := Lib.hid (show Lk.Bl (w.alloc (.cells cs.toArray 29)) w.heap.size cs 29 from by have h := Lk.Bl.new w cs 29; simpa using h)
  go_wp2_with (first | ((with_reducible refine Lk.ld (d := 3) w.heap.size B1.out V.out.len ?_ ?_ ?_); exact rfl; exact rfl) | fail)
  generalize w.alloc (.cells cs.toArray 29) = w1 at *
  refine (K1.out w1 _ V.out).mono ?_
  rintro e w2 ⟨rfl, hb⟩
  replace T := Lib.hid (T.out.step hb)
  replace B1 := Lib.hid (B1.out.step hb)
  replace V := Lib.hid (V.out.step hb)
  clear hb
  cases b1 with
  | false =>
    go_wp2
    go_ret
    exact ⟨by rw [HR.out]; rfl, T.out.bel⟩
  | true =>
    have cB1_10 := B1.out.c 10 _ V.out.text
    go_wp2_with (first | fail)
    clear cB1_10
    refine (K2.out w2).mono ?_
    rintro e w3 ⟨rfl, hb⟩
    replace T := Lib.hid (T.out.step hb)
    replace B1 := Lib.hid (B1.out.step hb)
    replace V := Lib.hid (V.out.step hb)
    clear hb
    go_wp2
    go_ret
    exact ⟨by rw [HR.out]; rfl, T.out.bel⟩
set_option maxHeartbeats 4000000 in
set_option maxRecDepth 100000 in
theorem rule3_any {bd : Nat} {cs : List Value} {a : Ac} {e s : Int} (w : World) (hv0 : Av w bd cs a e s) (hz : Sz 1000000 1000000 a) :
    Calls Tryz.prog 101 #[.agg cs.toArray] w fun x w' => x = .returned (.bool (r3 a)) ∧ Below w.heap.size w w' := by
  have T := Lib.hid (Lk.At.start w)
  have V := Lib.hid hv0
  have _hz := hz
  clear _hz
  obtain ⟨b1, hb1⟩ : ∃ b : Bool, b = (isName a.text) := ⟨_, rfl⟩
  obtain ⟨b2, hb2⟩ : ∃ b : Bool, b = (accL a) := ⟨_, rfl⟩
  have K1 := fun (w : World) => S11.Idt.name_any a.text w (by have := hz.text; omega)
  rw [show (isName a.text) = b1 from hb1.symm] at K1
  replace K1 := Lib.hid K1
  have K2 := fun (w : World) (bd : Nat) (hv : Av w bd cs a e s) => hasAccount_any w hv hz
  rw [show (accL a) = b2 from hb2.symm] at K2
  replace K2 := Lib.hid K2
  have HR := Lib.hid (show (r3 a) = (b1 && b2) by rw [hb1, hb2]; try (rfl))
  clear hb1 hb2
  clear hv0 hz
  go_enter Tryz.func101, Tryz.ntmps101
  replace T := Lib.hid (T.out.alloc (.cells cs.toArray 29))
  replace V := Lib.hid (V.out.alloc (.cells cs.toArray 29))
  have B1 := Lib.hid (show Lk.Bl (w.alloc (.cells cs.toArray 29)) w.heap.size cs 29 from by have h := Lk.Bl.new w cs 29; simpa using h)
  have cB1_10 := B1.out.c 10 _ V.out.text
  go_wp2_with (first | fail)
  clear cB1_10
  generalize w.alloc (.cells cs.toArray 29) = w1 at *
  refine (K1.out w1).mono ?_
  rintro e w2 ⟨rfl, hb⟩
  replace T := Lib.hid (T.out.step hb)
  replace B1 := Lib.hid (B1.out.step hb)
  replace V := Lib.hid (V.out.step hb)
  clear hb
  cases b1 with
  | false =>
    go_wp2
    go_ret
    exact ⟨by rw [HR.out]; rfl, T.out.bel⟩
  | true =>
    go_wp2_with (first | ((with_reducible refine Lk.ld (d := 7) w.heap.size B1.out V.out.len ?_ ?_ ?_); exact rfl; exact rfl) | fail)
    refine (K2.out w2 _ V.out).mono ?_
    rintro e w3 ⟨rfl, hb⟩
    replace T := Lib.hid (T.out.step hb)
    replace B1 := Lib.hid (B1.out.step hb)
    replace V := Lib.hid (V.out.step hb)
    clear hb
    go_wp2
    go_ret
    exact ⟨by rw [HR.out]; rfl, T.out.bel⟩
set_option maxHeartbeats 4000000 in
set_option maxRecDepth 100000 in
theorem rule6_any {bd : Nat} {cs : List Value} {a : Ac} {e s : Int} (w : World) (hv0 : Av w bd cs a e s) (hz : Sz 1000000 1000000 a) :
    Calls Tryz.prog 107 #[.agg cs.toArray] w fun x w' => x = .returned (.bool (r6 a)) ∧ Below w.heap.size w w' := by
  have T := Lib.hid (Lk.At.start w)
  have V := Lib.hid hv0
  have _hz := hz
  clear _hz
  obtain ⟨b1, hb1⟩ : ∃ b : Bool, b = (isName a.text) := ⟨_, rfl⟩
  obtain ⟨b2, hb2⟩ : ∃ b : Bool, b = (eitherL a) := ⟨_, rfl⟩
  have K1 := fun (w : World) => S11.Idt.name_any a.text w (by have := hz.text; omega)
  rw [show (isName a.text) = b1 from hb1.symm] at K1
  replace K1 := Lib.hid K1
  have K2 := fun (w : World) (bd : Nat) (hv : Av w bd cs a e s) => hasEither_any w hv hz
  rw [show (eitherL a) = b2 from hb2.symm] at K2
  replace K2 := Lib.hid K2
  have HR := Lib.hid (show (r6 a) = (b1 && b2) by rw [hb1, hb2]; try (rfl))
  clear hb1 hb2
  clear hv0 hz
  go_enter Tryz.func107, Tryz.ntmps107
  replace T := Lib.hid (T.out.alloc (.cells cs.toArray 29))
  replace V := Lib.hid (V.out.alloc (.cells cs.toArray 29))
  have B1 := Lib.hid (show Lk.Bl (w.alloc (.cells cs.toArray 29)) w.heap.size cs 29 from by have h := Lk.Bl.new w cs 29; simpa using h)
  have cB1_10 := B1.out.c 10 _ V.out.text
  go_wp2_with (first | fail)
  clear cB1_10
  generalize w.alloc (.cells cs.toArray 29) = w1 at *
  refine (K1.out w1).mono ?_
  rintro e w2 ⟨rfl, hb⟩
  replace T := Lib.hid (T.out.step hb)
  replace B1 := Lib.hid (B1.out.step hb)
  replace V := Lib.hid (V.out.step hb)
  clear hb
  cases b1 with
  | false =>
    go_wp2
    go_ret
    exact ⟨by rw [HR.out]; rfl, T.out.bel⟩
  | true =>
    go_wp2_with (first | ((with_reducible refine Lk.ld (d := 7) w.heap.size B1.out V.out.len ?_ ?_ ?_); exact rfl; exact rfl) | fail)
    refine (K2.out w2 _ V.out).mono ?_
    rintro e w3 ⟨rfl, hb⟩
    replace T := Lib.hid (T.out.step hb)
    replace B1 := Lib.hid (B1.out.step hb)
    replace V := Lib.hid (V.out.step hb)
    clear hb
    go_wp2
    go_ret
    exact ⟨by rw [HR.out]; rfl, T.out.bel⟩
set_option maxHeartbeats 4000000 in
set_option maxRecDepth 100000 in
theorem rule7_any {bd : Nat} {cs : List Value} {a : Ac} {e s : Int} (w : World) (hv0 : Av w bd cs a e s) (hz : Sz 1000000 1000000 a) :
    Calls Tryz.prog 110 #[.agg cs.toArray] w fun x w' => x = .returned (.bool (r7 a)) ∧ Below w.heap.size w w' := by
  have T := Lib.hid (Lk.At.start w)
  have V := Lib.hid hv0
  have _hz := hz
  clear _hz
  obtain ⟨b1, hb1⟩ : ∃ b : Bool, b = (objL a) := ⟨_, rfl⟩
  obtain ⟨b2, hb2⟩ : ∃ b : Bool, b = (withL a.n 0 1) := ⟨_, rfl⟩
  have K1 := fun (w : World) (bd : Nat) (hv : Av w bd cs a e s) => hasObject_any w hv hz
  rw [show (objL a) = b1 from hb1.symm] at K1
  replace K1 := Lib.hid K1
  have K2 := fun (w : World) => within_any a.n 0 1 w
  rw [show (withL a.n 0 1) = b2 from hb2.symm] at K2
  replace K2 := Lib.hid K2
  have HR := Lib.hid (show (r7 a) = (b1 && b2) by rw [hb1, hb2]; try (rfl))
  clear hb1 hb2
  clear hv0 hz
  go_enter Tryz.func110, Tryz.ntmps110
  replace T := Lib.hid (T.out.alloc (.cells cs.toArray 29))
  replace V := Lib.hid (V.out.alloc (.cells cs.toArray 29))
  have B1 := Lib.hid (show Lk.Bl (w.alloc (.cells cs.toArray 29)) w.heap.size cs 29 from by have h := Lk.Bl.new w cs 29; simpa using h)
  go_wp2_with (first | ((with_reducible refine Lk.ld (d := 3) w.heap.size B1.out V.out.len ?_ ?_ ?_); exact rfl; exact rfl) | fail)
  generalize w.alloc (.cells cs.toArray 29) = w1 at *
  refine (K1.out w1 _ V.out).mono ?_
  rintro e w2 ⟨rfl, hb⟩
  replace T := Lib.hid (T.out.step hb)
  replace B1 := Lib.hid (B1.out.step hb)
  replace V := Lib.hid (V.out.step hb)
  clear hb
  cases b1 with
  | false =>
    go_wp2
    go_ret
    exact ⟨by rw [HR.out]; rfl, T.out.bel⟩
  | true =>
    have cB1_16 := B1.out.c 16 _ V.out.n
    go_wp2_with (first | fail)
    clear cB1_16
    refine (K2.out w2).mono ?_
    rintro e w3 ⟨rfl, hb⟩
    replace T := Lib.hid (T.out.step hb)
    replace B1 := Lib.hid (B1.out.step hb)
    replace V := Lib.hid (V.out.step hb)
    clear hb
    go_wp2
    go_ret
    exact ⟨by rw [HR.out]; rfl, T.out.bel⟩
set_option maxHeartbeats 4000000 in
set_option maxRecDepth 100000 in
theorem rule8_any {bd : Nat} {cs : List Value} {a : Ac} {e s : Int} (w : World) (hv0 : Av w bd cs a e s) (hz : Sz 1000000 1000000 a) :
    Calls Tryz.prog 111 #[.agg cs.toArray] w fun x w' => x = .returned (.bool (r8 a)) ∧ Below w.heap.size w w' := by
  have T := Lib.hid (Lk.At.start w)
  have V := Lib.hid hv0
  have _hz := hz
  clear _hz
  obtain ⟨b1, hb1⟩ : ∃ b : Bool, b = (tgtL a) := ⟨_, rfl⟩
  obtain ⟨b2, hb2⟩ : ∃ b : Bool, b = (shortL a.text) := ⟨_, rfl⟩
  obtain ⟨b3, hb3⟩ : ∃ b : Bool, b = (withL a.n 0 1099511627776) := ⟨_, rfl⟩
  have K1 := fun (w : World) (bd : Nat) (hv : Av w bd cs a e s) => hasTarget_any w hv hz
  rw [show (tgtL a) = b1 from hb1.symm] at K1
  replace K1 := Lib.hid K1
  have K2 := fun (w : World) => isShort_any a.text w
  rw [show (shortL a.text) = b2 from hb2.symm] at K2
  replace K2 := Lib.hid K2
  have K3 := fun (w : World) => within_any a.n 0 1099511627776 w
  rw [show (withL a.n 0 1099511627776) = b3 from hb3.symm] at K3
  replace K3 := Lib.hid K3
  have HR := Lib.hid (show (r8 a) = (b1 && (b2 && b3)) by rw [hb1, hb2, hb3]; try (rfl))
  clear hb1 hb2 hb3
  clear hv0 hz
  go_enter Tryz.func111, Tryz.ntmps111
  replace T := Lib.hid (T.out.alloc (.cells cs.toArray 29))
  replace V := Lib.hid (V.out.alloc (.cells cs.toArray 29))
  have B1 := Lib.hid (show Lk.Bl (w.alloc (.cells cs.toArray 29)) w.heap.size cs 29 from by have h := Lk.Bl.new w cs 29; simpa using h)
  go_wp2_with (first | ((with_reducible refine Lk.ld (d := 3) w.heap.size B1.out V.out.len ?_ ?_ ?_); exact rfl; exact rfl) | fail)
  generalize w.alloc (.cells cs.toArray 29) = w1 at *
  refine (K1.out w1 _ V.out).mono ?_
  rintro e w2 ⟨rfl, hb⟩
  replace T := Lib.hid (T.out.step hb)
  replace B1 := Lib.hid (B1.out.step hb)
  replace V := Lib.hid (V.out.step hb)
  clear hb
  cases b1 with
  | false =>
    go_wp2
    go_ret
    exact ⟨by rw [HR.out]; rfl, T.out.bel⟩
  | true =>
    have cB1_10 := B1.out.c 10 _ V.out.text
    go_wp2_with (first | fail)
    clear cB1_10
    refine (K2.out w2).mono ?_
    rintro e w3 ⟨rfl, hb⟩
    replace T := Lib.hid (T.out.step hb)
    replace B1 := Lib.hid (B1.out.step hb)
    replace V := Lib.hid (V.out.step hb)
    clear hb
    cases b2 with
    | false =>
      go_wp2
      go_ret
      exact ⟨by rw [HR.out]; rfl, T.out.bel⟩
    | true =>
      have cB1_16 := B1.out.c 16 _ V.out.n
      go_wp2_with (first | fail)
      clear cB1_16
      refine (K3.out w3).mono ?_
      rintro e w4 ⟨rfl, hb⟩
      replace T := Lib.hid (T.out.step hb)
      replace B1 := Lib.hid (B1.out.step hb)
      replace V := Lib.hid (V.out.step hb)
      clear hb
      go_wp2
      go_ret
      exact ⟨by rw [HR.out]; rfl, T.out.bel⟩
set_option maxHeartbeats 4000000 in
set_option maxRecDepth 100000 in
theorem hasPlace_any {bd : Nat} {cs : List Value} {a : Ac} {e s : Int} (w : World) (hv0 : Av w bd cs a e s) (hz : Sz 1000000 1000000 a) :
    Calls Tryz.prog 50 #[.agg cs.toArray] w fun x w' => x = .returned (.bool (placeL a)) ∧ Below w.heap.size w w' := by
  have T := Lib.hid (Lk.At.start w)
  have V := Lib.hid hv0
  have _hz := hz
  clear _hz
  obtain ⟨b1, hb1⟩ : ∃ b : Bool, b = (a.kind == 0) := ⟨_, rfl⟩
  obtain ⟨b2, hb2⟩ : ∃ b : Bool, b = (a.seq == 0) := ⟨_, rfl⟩
  obtain ⟨b3, hb3⟩ : ∃ b : Bool, b = (a.prev == []) := ⟨_, rfl⟩
  obtain ⟨b4, hb4⟩ : ∃ b : Bool, b = (withL a.seq 1 1073741824) := ⟨_, rfl⟩
  obtain ⟨b5, hb5⟩ : ∃ b : Bool, b = (digL a.prev) := ⟨_, rfl⟩
  have K4 := fun (w : World) => within_any a.seq 1 1073741824 w
  rw [show (withL a.seq 1 1073741824) = b4 from hb4.symm] at K4
  replace K4 := Lib.hid K4
  have K5 := fun (w : World) => isDigest_any a.prev w
  rw [show (digL a.prev) = b5 from hb5.symm] at K5
  replace K5 := Lib.hid K5
  have HR := Lib.hid (show (placeL a) = (cond b1 (b2 && b3) (b4 && b5)) by rw [hb1, hb2, hb3, hb4, hb5]; try (rfl))
  have tb1 : (a.kind == 0) = b1 := hb1.symm
  have tb2 : (a.seq == 0) = b2 := hb2.symm
  have tb3 : (a.prev == []) = b3 := hb3.symm
  clear hb1 hb2 hb3 hb4 hb5
  clear hv0 hz
  go_enter Tryz.func50, Tryz.ntmps50
  replace T := Lib.hid (T.out.alloc (.cells cs.toArray 29))
  replace V := Lib.hid (V.out.alloc (.cells cs.toArray 29))
  have B1 := Lib.hid (show Lk.Bl (w.alloc (.cells cs.toArray 29)) w.heap.size cs 29 from by have h := Lk.Bl.new w cs 29; simpa using h)
  cases b1 with
  | false =>
    have cB1_3 := B1.out.c 3 _ V.out.kind
    have cB1_1 := B1.out.c 1 _ V.out.seq
    go_wp2_with (first | fail)
    clear cB1_3 cB1_1
    generalize w.alloc (.cells cs.toArray 29) = w1 at *
    refine (K4.out w1).mono ?_
    rintro e w2 ⟨rfl, hb⟩
    replace T := Lib.hid (T.out.step hb)
    replace B1 := Lib.hid (B1.out.step hb)
    replace V := Lib.hid (V.out.step hb)
    clear hb
    cases b4 with
    | false =>
      go_wp2
      go_ret
      exact ⟨by rw [HR.out]; rfl, T.out.bel⟩
    | true =>
      have cB1_2 := B1.out.c 2 _ V.out.prev
      go_wp2_with (first | fail)
      clear cB1_2
      refine (K5.out w2).mono ?_
      rintro e w3 ⟨rfl, hb⟩
      replace T := Lib.hid (T.out.step hb)
      replace B1 := Lib.hid (B1.out.step hb)
      replace V := Lib.hid (V.out.step hb)
      clear hb
      go_wp2
      go_ret
      exact ⟨by rw [HR.out]; rfl, T.out.bel⟩
  | true =>
    cases b2 with
    | false =>
      have cB1_3 := B1.out.c 3 _ V.out.kind
      have cB1_1 := B1.out.c 1 _ V.out.seq
      go_wp2
      clear cB1_3 cB1_1
      generalize w.alloc (.cells cs.toArray 29) = w1 at *
      go_ret
      exact ⟨by rw [HR.out]; rfl, T.out.bel⟩
    | true =>
      have cB1_3 := B1.out.c 3 _ V.out.kind
      have cB1_1 := B1.out.c 1 _ V.out.seq
      have cB1_2 := B1.out.c 2 _ V.out.prev
      go_wp2
      clear cB1_3 cB1_1 cB1_2
      generalize w.alloc (.cells cs.toArray 29) = w1 at *
      go_ret
      exact ⟨by rw [HR.out]; rfl, T.out.bel⟩
set_option maxHeartbeats 4000000 in
set_option maxRecDepth 100000 in
theorem rule4_any {bd : Nat} {cs : List Value} {a : Ac} {e s : Int} (w : World) (hv0 : Av w bd cs a e s) (hz : Sz 1000000 1000000 a) :
    Calls Tryz.prog 103 #[.agg cs.toArray] w fun x w' => x = .returned (.bool (r4 a)) ∧ Below w.heap.size w w' := by
  have T := Lib.hid (Lk.At.start w)
  have V := Lib.hid hv0
  have _hz := hz
  clear _hz
  obtain ⟨A, nA, cA, h9, hn9, hc9, hr9⟩ := hv0.to
  have hnI : (nA : Int) = (a.to.length : Int) := by omega
  have H9 := Lib.hid h9
  have HN9 := Lib.hid hn9
  obtain ⟨b1, hb1⟩ : ∃ b : Bool, b = (isName a.group) := ⟨_, rfl⟩
  obtain ⟨b2, hb2⟩ : ∃ b : Bool, b = (ids a.to) := ⟨_, rfl⟩
  have K1 := fun (w : World) => S11.Idt.name_any a.group w (by have := hz.group; omega)
  rw [show (isName a.group) = b1 from hb1.symm] at K1
  replace K1 := Lib.hid K1
  have K2 := fun (w : World) (bd : Nat) (hv : Av w bd cs a e s) => S11.Idt.ids_any A a.to nA cA w (hv.toAt h9).1 ((hv.toAt h9).2.2.more hv.le) (by have := hz.to; have := (hv.toAt h9).1; omega) (fun s hs => by have := hz.tos s hs; omega)
  rw [show (ids a.to) = b2 from hb2.symm] at K2
  replace K2 := Lib.hid K2
  have HR := Lib.hid (show (r4 a) = (b1 && b2) by rw [hb1, hb2]; try (rfl))
  clear hb1 hb2
  clear hv0 hz h9 hn9 hc9 hr9 hnI
  go_enter Tryz.func103, Tryz.ntmps103
  replace T := Lib.hid (T.out.alloc (.cells cs.toArray 29))
  replace V := Lib.hid (V.out.alloc (.cells cs.toArray 29))
  have B1 := Lib.hid (show Lk.Bl (w.alloc (.cells cs.toArray 29)) w.heap.size cs 29 from by have h := Lk.Bl.new w cs 29; simpa using h)
  have cB1_8 := B1.out.c 8 _ V.out.group
  go_wp2_with (first | fail)
  clear cB1_8
  generalize w.alloc (.cells cs.toArray 29) = w1 at *
  refine (K1.out w1).mono ?_
  rintro e w2 ⟨rfl, hb⟩
  replace T := Lib.hid (T.out.step hb)
  replace B1 := Lib.hid (B1.out.step hb)
  replace V := Lib.hid (V.out.step hb)
  clear hb
  cases b1 with
  | false =>
    go_wp2
    go_ret
    exact ⟨by rw [HR.out]; rfl, T.out.bel⟩
  | true =>
    have cB1_9 := B1.out.c 9 _ H9.out
    go_wp2_with (first | fail)
    clear cB1_9
    refine (K2.out w2 _ V.out).mono ?_
    rintro e w3 ⟨rfl, hb⟩
    replace T := Lib.hid (T.out.step hb)
    replace B1 := Lib.hid (B1.out.step hb)
    replace V := Lib.hid (V.out.step hb)
    clear hb
    go_wp2
    go_ret
    exact ⟨by rw [HR.out]; rfl, T.out.bel⟩
set_option maxHeartbeats 4000000 in
set_option maxRecDepth 100000 in
theorem hasAudience_any {bd : Nat} {cs : List Value} {a : Ac} {e s : Int} (w : World) (hv0 : Av w bd cs a e s) (hz : Sz 1000000 1000000 a) :
    Calls Tryz.prog 98 #[.agg cs.toArray] w fun x w' => x = .returned (.bool (audL a)) ∧ Below w.heap.size w w' := by
  have T := Lib.hid (Lk.At.start w)
  have V := Lib.hid hv0
  have _hz := hz
  clear _hz
  obtain ⟨A, nA, cA, h9, hn9, hc9, hr9⟩ := hv0.to
  have hnI : (nA : Int) = (a.to.length : Int) := by omega
  have H9 := Lib.hid h9
  have HN9 := Lib.hid hn9
  obtain ⟨b1, hb1⟩ : ∃ b : Bool, b = (a.scope == 0) := ⟨_, rfl⟩
  obtain ⟨b2, hb2⟩ : ∃ b : Bool, b = (a.group == []) := ⟨_, rfl⟩
  obtain ⟨b3, hb3⟩ : ∃ b : Bool, b = (a.epoch == 0) := ⟨_, rfl⟩
  obtain ⟨b4, hb4⟩ : ∃ b : Bool, b = (ids a.to) := ⟨_, rfl⟩
  obtain ⟨b5, hb5⟩ : ∃ b : Bool, b = (shortL a.text) := ⟨_, rfl⟩
  obtain ⟨b7, hb7⟩ : ∃ b : Bool, b = (epochL a) := ⟨_, rfl⟩
  obtain ⟨b8, hb8⟩ : ∃ b : Bool, b = (a.scope == 3) := ⟨_, rfl⟩
  obtain ⟨b9, hb9⟩ : ∃ b : Bool, b = ((a.to.length : Int) == 0) := ⟨_, rfl⟩
  obtain ⟨b10, hb10⟩ : ∃ b : Bool, b = (a.text == []) := ⟨_, rfl⟩
  obtain ⟨b11, hb11⟩ : ∃ b : Bool, b = (boxL a.body) := ⟨_, rfl⟩
  have K4 := fun (w : World) (bd : Nat) (hv : Av w bd cs a e s) => S11.Idt.ids_any A a.to nA cA w (hv.toAt h9).1 ((hv.toAt h9).2.2.more hv.le) (by have := hz.to; have := (hv.toAt h9).1; omega) (fun s hs => by have := hz.tos s hs; omega)
  rw [show (ids a.to) = b4 from hb4.symm] at K4
  replace K4 := Lib.hid K4
  have K5 := fun (w : World) => isShort_any a.text w
  rw [show (shortL a.text) = b5 from hb5.symm] at K5
  replace K5 := Lib.hid K5
  have K7 := fun (w : World) (bd : Nat) (hv : Av w bd cs a e s) => hasEpoch_any w hv hz
  rw [show (epochL a) = b7 from hb7.symm] at K7
  replace K7 := Lib.hid K7
  have K11 := fun (w : World) => isBox_any a.body.nonce a.body.data a.body.tag w
  rw [show (boxL a.body) = b11 from hb11.symm] at K11
  replace K11 := Lib.hid K11
  have HR := Lib.hid (show (audL a) = (cond b1 (b2 && (b3 && (b4 && (b5 && boxzL a.body)))) (b7 && (b4 && ((b8 || b9) && (b10 && b11))))) by rw [hb1, hb2, hb3, hb4, hb5, hb7, hb8, hb9, hb10, hb11]; try (rfl))
  have tb1 : (a.scope == 0) = b1 := hb1.symm
  have tb2 : (a.group == []) = b2 := hb2.symm
  have tb3 : (a.epoch == 0) = b3 := hb3.symm
  have tb8 : (a.scope == 3) = b8 := hb8.symm
  have tb9 : ((a.to.length : Int) == 0) = b9 := hb9.symm
  have tb10 : (a.text == []) = b10 := hb10.symm
  clear hb1 hb2 hb3 hb4 hb5 hb7 hb8 hb9 hb10 hb11
  clear hv0 hz h9 hn9 hc9 hr9
  go_enter Tryz.func98, Tryz.ntmps98
  replace T := Lib.hid (T.out.alloc (.cells cs.toArray 29))
  replace V := Lib.hid (V.out.alloc (.cells cs.toArray 29))
  have B1 := Lib.hid (show Lk.Bl (w.alloc (.cells cs.toArray 29)) w.heap.size cs 29 from by have h := Lk.Bl.new w cs 29; simpa using h)
  cases b1 with
  | false =>
    have cB1_7 := B1.out.c 7 _ V.out.scope
    go_wp2_with (first | ((with_reducible refine Lk.ld (d := 30) w.heap.size B1.out V.out.len ?_ ?_ ?_); exact rfl; exact rfl) | fail)
    clear cB1_7
    generalize w.alloc (.cells cs.toArray 29) = w1 at *
    refine (K7.out w1 _ V.out).mono ?_
    rintro e w2 ⟨rfl, hb⟩
    replace T := Lib.hid (T.out.step hb)
    replace B1 := Lib.hid (B1.out.step hb)
    replace V := Lib.hid (V.out.step hb)
    clear hb
    cases b7 with
    | false =>
      go_wp2
      go_ret
      exact ⟨by rw [HR.out]; rfl, T.out.bel⟩
    | true =>
      have cB1_9 := B1.out.c 9 _ H9.out
      go_wp2_with (first | fail)
      clear cB1_9
      refine (K4.out w2 _ V.out).mono ?_
      rintro e w3 ⟨rfl, hb⟩
      replace T := Lib.hid (T.out.step hb)
      replace B1 := Lib.hid (B1.out.step hb)
      replace V := Lib.hid (V.out.step hb)
      clear hb
      cases b4 with
      | false =>
        go_wp2
        go_ret
        exact ⟨by rw [HR.out]; rfl, T.out.bel⟩
      | true =>
        cases b8 with
        | false =>
          cases b9 with
          | false =>
            have cB1_7 := B1.out.c 7 _ V.out.scope
            have cB1_9 := B1.out.c 9 _ H9.out
            go_wp2
            clear cB1_7 cB1_9
            go_ret
            exact ⟨by rw [HR.out]; rfl, T.out.bel⟩
          | true =>
            cases b10 with
            | false =>
              have cB1_7 := B1.out.c 7 _ V.out.scope
              have cB1_9 := B1.out.c 9 _ H9.out
              have cB1_10 := B1.out.c 10 _ V.out.text
              go_wp2
              clear cB1_7 cB1_9 cB1_10
              go_ret
              exact ⟨by rw [HR.out]; rfl, T.out.bel⟩
            | true =>
              have cB1_7 := B1.out.c 7 _ V.out.scope
              have cB1_9 := B1.out.c 9 _ H9.out
              have cB1_10 := B1.out.c 10 _ V.out.text
              have cB1_11 := B1.out.c 11 _ V.out.nonce
              have cB1_12 := B1.out.c 12 _ V.out.data
              have cB1_13 := B1.out.c 13 _ V.out.tag
              go_wp2_with (first | fail)
              clear cB1_7 cB1_9 cB1_10 cB1_11 cB1_12 cB1_13
              refine (K11.out w3).mono ?_
              rintro e w4 ⟨rfl, hb⟩
              replace T := Lib.hid (T.out.step hb)
              replace B1 := Lib.hid (B1.out.step hb)
              replace V := Lib.hid (V.out.step hb)
              clear hb
              go_wp2
              go_ret
              exact ⟨by rw [HR.out]; rfl, T.out.bel⟩
        | true =>
          cases b10 with
          | false =>
            have cB1_7 := B1.out.c 7 _ V.out.scope
            have cB1_10 := B1.out.c 10 _ V.out.text
            go_wp2
            clear cB1_7 cB1_10
            go_ret
            exact ⟨by rw [HR.out]; rfl, T.out.bel⟩
          | true =>
            have cB1_7 := B1.out.c 7 _ V.out.scope
            have cB1_10 := B1.out.c 10 _ V.out.text
            have cB1_11 := B1.out.c 11 _ V.out.nonce
            have cB1_12 := B1.out.c 12 _ V.out.data
            have cB1_13 := B1.out.c 13 _ V.out.tag
            go_wp2_with (first | fail)
            clear cB1_7 cB1_10 cB1_11 cB1_12 cB1_13
            refine (K11.out w3).mono ?_
            rintro e w4 ⟨rfl, hb⟩
            replace T := Lib.hid (T.out.step hb)
            replace B1 := Lib.hid (B1.out.step hb)
            replace V := Lib.hid (V.out.step hb)
            clear hb
            go_wp2
            go_ret
            exact ⟨by rw [HR.out]; rfl, T.out.bel⟩
  | true =>
    cases b2 with
    | false =>
      have cB1_7 := B1.out.c 7 _ V.out.scope
      have cB1_8 := B1.out.c 8 _ V.out.group
      go_wp2
      clear cB1_7 cB1_8
      generalize w.alloc (.cells cs.toArray 29) = w1 at *
      go_ret
      exact ⟨by rw [HR.out]; rfl, T.out.bel⟩
    | true =>
      cases b3 with
      | false =>
        have cB1_7 := B1.out.c 7 _ V.out.scope
        have cB1_8 := B1.out.c 8 _ V.out.group
        have cB1_14 := B1.out.c 14 _ V.out.epoch
        go_wp2
        clear cB1_7 cB1_8 cB1_14
        generalize w.alloc (.cells cs.toArray 29) = w1 at *
        go_ret
        exact ⟨by rw [HR.out]; rfl, T.out.bel⟩
      | true =>
        have cB1_7 := B1.out.c 7 _ V.out.scope
        have cB1_8 := B1.out.c 8 _ V.out.group
        have cB1_14 := B1.out.c 14 _ V.out.epoch
        have cB1_9 := B1.out.c 9 _ H9.out
        go_wp2_with (first | fail)
        clear cB1_7 cB1_8 cB1_14 cB1_9
        generalize w.alloc (.cells cs.toArray 29) = w1 at *
        refine (K4.out w1 _ V.out).mono ?_
        rintro e w2 ⟨rfl, hb⟩
        replace T := Lib.hid (T.out.step hb)
        replace B1 := Lib.hid (B1.out.step hb)
        replace V := Lib.hid (V.out.step hb)
        clear hb
        cases b4 with
        | false =>
          go_wp2
          go_ret
          exact ⟨by rw [HR.out]; rfl, T.out.bel⟩
        | true =>
          have cB1_10 := B1.out.c 10 _ V.out.text
          go_wp2_with (first | fail)
          clear cB1_10
          refine (K5.out w2).mono ?_
          rintro e w3 ⟨rfl, hb⟩
          replace T := Lib.hid (T.out.step hb)
          replace B1 := Lib.hid (B1.out.step hb)
          replace V := Lib.hid (V.out.step hb)
          clear hb
          cases b5 with
          | false =>
            go_wp2
            go_ret
            exact ⟨by rw [HR.out]; rfl, T.out.bel⟩
          | true =>
            have cB1_11 := B1.out.c 11 _ V.out.nonce
            have cB1_12 := B1.out.c 12 _ V.out.data
            have cB1_13 := B1.out.c 13 _ V.out.tag
            go_wp2 <;> (go_ret; exact ⟨by rw [HR.out]; simp [boxzL, *], T.out.bel⟩)
set_option maxHeartbeats 4000000 in
set_option maxRecDepth 100000 in
theorem rule1_any {bd : Nat} {cs : List Value} {a : Ac} {e s : Int} (w : World) (hv0 : Av w bd cs a e s) (hz : Sz 1000000 1000000 a) :
    Calls Tryz.prog 97 #[.agg cs.toArray] w fun x w' => x = .returned (.bool (r1 a)) ∧ Below w.heap.size w w' := by
  have T := Lib.hid (Lk.At.start w)
  have V := Lib.hid hv0
  have _hz := hz
  clear _hz
  obtain ⟨b1, hb1⟩ : ∃ b : Bool, b = (objL a) := ⟨_, rfl⟩
  obtain ⟨b2, hb2⟩ : ∃ b : Bool, b = (audL a) := ⟨_, rfl⟩
  have K1 := fun (w : World) (bd : Nat) (hv : Av w bd cs a e s) => hasObject_any w hv hz
  rw [show (objL a) = b1 from hb1.symm] at K1
  replace K1 := Lib.hid K1
  have K2 := fun (w : World) (bd : Nat) (hv : Av w bd cs a e s) => hasAudience_any w hv hz
  rw [show (audL a) = b2 from hb2.symm] at K2
  replace K2 := Lib.hid K2
  have HR := Lib.hid (show (r1 a) = (b1 && b2) by rw [hb1, hb2]; try (rfl))
  clear hb1 hb2
  clear hv0 hz
  go_enter Tryz.func97, Tryz.ntmps97
  replace T := Lib.hid (T.out.alloc (.cells cs.toArray 29))
  replace V := Lib.hid (V.out.alloc (.cells cs.toArray 29))
  have B1 := Lib.hid (show Lk.Bl (w.alloc (.cells cs.toArray 29)) w.heap.size cs 29 from by have h := Lk.Bl.new w cs 29; simpa using h)
  go_wp2_with (first | ((with_reducible refine Lk.ld (d := 3) w.heap.size B1.out V.out.len ?_ ?_ ?_); exact rfl; exact rfl) | fail)
  generalize w.alloc (.cells cs.toArray 29) = w1 at *
  refine (K1.out w1 _ V.out).mono ?_
  rintro e w2 ⟨rfl, hb⟩
  replace T := Lib.hid (T.out.step hb)
  replace B1 := Lib.hid (B1.out.step hb)
  replace V := Lib.hid (V.out.step hb)
  clear hb
  cases b1 with
  | false =>
    go_wp2
    go_ret
    exact ⟨by rw [HR.out]; rfl, T.out.bel⟩
  | true =>
    go_wp2_with (first | ((with_reducible refine Lk.ld (d := 6) w.heap.size B1.out V.out.len ?_ ?_ ?_); exact rfl; exact rfl) | fail)
    refine (K2.out w2 _ V.out).mono ?_
    rintro e w3 ⟨rfl, hb⟩
    replace T := Lib.hid (T.out.step hb)
    replace B1 := Lib.hid (B1.out.step hb)
    replace V := Lib.hid (V.out.step hb)
    clear hb
    go_wp2
    go_ret
    exact ⟨by rw [HR.out]; rfl, T.out.bel⟩
set_option maxHeartbeats 4000000 in
set_option maxRecDepth 100000 in
theorem hasWraps_any {bd : Nat} {cs : List Value} {a : Ac} {e s : Int} (w : World) (hv0 : Av w bd cs a e s) (hz : Sz 1000000 1000000 a) :
    Calls Tryz.prog 106 #[.agg cs.toArray] w fun x w' => x = .returned (.bool (wrapsL a)) ∧ Below w.heap.size w w' := by
  have T := Lib.hid (Lk.At.start w)
  have V := Lib.hid hv0
  have _hz := hz
  clear _hz
  obtain ⟨A, nA, cA, h9, hn9, hc9, hr9⟩ := hv0.to
  obtain ⟨Q, nQ, cQ, h15, hn15, hc15, hr15⟩ := hv0.wraps
  have H9 := Lib.hid h9
  have H15 := Lib.hid h15
  have HN15 := Lib.hid hn15
  have hqb : (nQ : Int) ≤ 1000000 := by have := hz.wraps; omega
  obtain ⟨b1, hb1⟩ : ∃ b : Bool, b = (ids a.to) := ⟨_, rfl⟩
  obtain ⟨b2, hb2⟩ : ∃ b : Bool, b = ((nQ : Int) == (nA : Int)) := ⟨_, rfl⟩
  have K1 := fun (w : World) (bd : Nat) (hv : Av w bd cs a e s) => S11.Idt.ids_any A a.to nA cA w (hv.toAt h9).1 ((hv.toAt h9).2.2.more hv.le) (by have := hz.to; have := (hv.toAt h9).1; omega) (fun s hs => by have := hz.tos s hs; omega)
  rw [show (ids a.to) = b1 from hb1.symm] at K1
  replace K1 := Lib.hid K1
  have HR := Lib.hid (show (wrapsL a) = (b1 && (b2 && a.wraps.all wrL)) by rw [hb1, hb2]; try (rw [hn9, hn15]; rfl))
  have tb2 : ((nQ : Int) == (nA : Int)) = b2 := hb2.symm
  have nb2 : ((nQ : Int) != (nA : Int)) = !b2 := by rw [bne, tb2]
  clear hb1 hb2
  clear hv0 hz h9 hn9 hc9 hr9 h15 hn15 hc15 hr15
  go_enter Tryz.func106, Tryz.ntmps106
  replace T := Lib.hid (T.out.alloc (.cells cs.toArray 29))
  replace V := Lib.hid (V.out.alloc (.cells cs.toArray 29))
  have B1 := Lib.hid (show Lk.Bl (w.alloc (.cells cs.toArray 29)) w.heap.size cs 29 from by have h := Lk.Bl.new w cs 29; simpa using h)
  have cB1_9 := B1.out.c 9 _ H9.out
  go_wp2_with (first | fail)
  clear cB1_9
  generalize w.alloc (.cells cs.toArray 29) = w1 at *
  refine (K1.out w1 _ V.out).mono ?_
  rintro e w2 ⟨rfl, hb⟩
  replace T := Lib.hid (T.out.step hb)
  replace B1 := Lib.hid (B1.out.step hb)
  replace V := Lib.hid (V.out.step hb)
  clear hb
  cases b1 with
  | false =>
    go_wp2
    go_ret
    exact ⟨by rw [HR.out]; rfl, T.out.bel⟩
  | true =>
    cases b2 with
    | false =>
      have cB1_15 := B1.out.c 15 _ H15.out
      have cB1_9 := B1.out.c 9 _ H9.out
      go_wp2
      clear cB1_15 cB1_9
      go_ret
      exact ⟨by rw [HR.out]; rfl, T.out.bel⟩
    | true =>
      have cB1_15 := B1.out.c 15 _ H15.out
      have cB1_9 := B1.out.c 9 _ H9.out
      go_wp2_with (first | fail)
      clear cB1_15 cB1_9
      go_loopw [21] (fun i wr => ∃ k : Nat, i = .int .i64 (k : Int) ∧ k ≤ nQ ∧ (a.wraps.take k).all wrL = true ∧ Below w2.heap.size w2 wr) (fun i _ => nQ - (intOf i).toNat)
      case atStart => exact ⟨0, rfl, Nat.zero_le _, rfl, Below.refl _ _⟩
      case round =>
        obtain ⟨k, rfl, hk, ha, hbw⟩ := hrel
        replace T := Lib.hid (T.out.step hbw)
        replace B1 := Lib.hid (B1.out.step hbw)
        replace V := Lib.hid (V.out.step hbw)
        have L := Lib.hid (show Lk.At w2 wr from ⟨hbw⟩)
        have HA := Lib.hid ha
        clear ha hbw
        by_cases hc : k < nQ
        · have hcI : (k : Int) < (nQ : Int) := by omega
          have hkl : k < a.wraps.length := by have := HN15.out; omega
          obtain ⟨ad, rfl, _, hcell⟩ := wr_at (V.out.wrAt H15.out).2.2 hkl
          obtain ⟨x, hx⟩ : ∃ x, x = a.wraps[k] := ⟨_, rfl⟩
          rw [← hx] at hcell
          have hno : wrL x = false → wrapsL a = false := fun h => by
            have : a.wraps.all wrL = false := List.all_eq_false.2 ⟨x, by rw [hx]; exact List.getElem_mem hkl, by simp [h]⟩
            rw [HR.out, this]; simp
          have hyes : wrL x = true → (a.wraps.take (k + 1)).all wrL = true := fun h => by
            rw [List.take_succ_eq_append_getElem hkl, List.all_append, HA.out, ← hx]; simp [h]
          obtain ⟨xt, xe, ⟨x1, x2, x3⟩⟩ := x
          have k0 : World.cell? _ (ad.add (k * 5)) = some (.int .i64 xt) := hcell 0 _ rfl
          have k1 : World.cell? _ ⟨(ad.add (k * 5)).block, (ad.add (k * 5)).off + 1, none⟩ = some (.int .i64 xe) := hcell 1 _ rfl
          have k2 : World.cell? _ ⟨(ad.add (k * 5)).block, (ad.add (k * 5)).off + 2, none⟩ = some (.string (S2.B x1)) := hcell 2 _ rfl
          have k3 : World.cell? _ ⟨(ad.add (k * 5)).block, (ad.add (k * 5)).off + 3, none⟩ = some (.string (S2.B x2)) := hcell 3 _ rfl
          have k4 : World.cell? _ ⟨(ad.add (k * 5)).block, (ad.add (k * 5)).off + 4, none⟩ = some (.string (S2.B x3)) := hcell 4 _ rfl
          obtain ⟨c1, hc1⟩ : ∃ b : Bool, b = pubL xt := ⟨_, rfl⟩
          obtain ⟨c2, hc2⟩ : ∃ b : Bool, b = pubL xe := ⟨_, rfl⟩
          obtain ⟨c3, hc3⟩ : ∃ b : Bool, b = boxL ⟨x1, x2, x3⟩ := ⟨_, rfl⟩
          have hw : wrL ⟨xt, xe, ⟨x1, x2, x3⟩⟩ = (c1 && (c2 && c3)) := by rw [hc1, hc2, hc3]; rfl
          rw [hw] at hno hyes
          have KX1 := fun w => isPublic_any xt w
          rw [← hc1] at KX1
          have KX2 := fun w => isPublic_any xe w
          rw [← hc2] at KX2
          have KX3 := fun w => isBox_any x1 x2 x3 w
          rw [← hc3] at KX3
          replace KX1 := Lib.hid KX1
          replace KX2 := Lib.hid KX2
          replace KX3 := Lib.hid KX3
          have HNO := Lib.hid hno
          have HYES := Lib.hid hyes
          clear hno hyes hc1 hc2 hc3 hw hx hcell hk
          replace T := Lib.hid (T.out.alloc (.cells #[.int .i64 xt, .int .i64 xe, .string (S2.B x1), .string (S2.B x2), .string (S2.B x3)] 50))
          replace B1 := Lib.hid (B1.out.alloc (.cells #[.int .i64 xt, .int .i64 xe, .string (S2.B x1), .string (S2.B x2), .string (S2.B x3)] 50))
          replace V := Lib.hid (V.out.alloc (.cells #[.int .i64 xt, .int .i64 xe, .string (S2.B x1), .string (S2.B x2), .string (S2.B x3)] 50))
          replace L := Lib.hid (L.out.alloc (.cells #[.int .i64 xt, .int .i64 xe, .string (S2.B x1), .string (S2.B x2), .string (S2.B x3)] 50))
          have B2 := Lib.hid (show Lk.Bl (wr.alloc (.cells #[.int .i64 xt, .int .i64 xe, .string (S2.B x1), .string (S2.B x2), .string (S2.B x3)] 50)) wr.heap.size [.int .i64 xt, .int .i64 xe, .string (S2.B x1), .string (S2.B x2), .string (S2.B x3)] 50 from by have h := Lk.Bl.new wr [.int .i64 xt, .int .i64 xe, .string (S2.B x1), .string (S2.B x2), .string (S2.B x3)] 50; simpa using h)
          have cB2_0 := B2.out.c 0 _ rfl
          go_wp2_with (first | fail)
          clear cB2_0
          generalize wr.alloc (.cells #[.int .i64 xt, .int .i64 xe, .string (S2.B x1), .string (S2.B x2), .string (S2.B x3)] 50) = w3 at *
          refine (KX1.out w3).mono ?_
          rintro e w4 ⟨rfl, hb⟩
          replace T := Lib.hid (T.out.step hb)
          replace B1 := Lib.hid (B1.out.step hb)
          replace B2 := Lib.hid (B2.out.step hb)
          replace V := Lib.hid (V.out.step hb)
          replace L := Lib.hid (L.out.step hb)
          clear hb
          cases c1 with
          | false =>
            go_wp2
            go_ret
            exact ⟨by rw [HNO.out rfl]; rfl, T.out.bel⟩
          | true =>
            have cB2_1 := B2.out.c 1 _ rfl
            go_wp2_with (first | fail)
            clear cB2_1
            refine (KX2.out w4).mono ?_
            rintro e w5 ⟨rfl, hb⟩
            replace T := Lib.hid (T.out.step hb)
            replace B1 := Lib.hid (B1.out.step hb)
            replace B2 := Lib.hid (B2.out.step hb)
            replace V := Lib.hid (V.out.step hb)
            replace L := Lib.hid (L.out.step hb)
            clear hb
            cases c2 with
            | false =>
              go_wp2
              go_ret
              exact ⟨by rw [HNO.out rfl]; rfl, T.out.bel⟩
            | true =>
              have cB2_2 := B2.out.c 2 _ rfl
              have cB2_3 := B2.out.c 3 _ rfl
              have cB2_4 := B2.out.c 4 _ rfl
              go_wp2_with (first | fail)
              clear cB2_2 cB2_3 cB2_4
              refine (KX3.out w5).mono ?_
              rintro e w6 ⟨rfl, hb⟩
              replace T := Lib.hid (T.out.step hb)
              replace B1 := Lib.hid (B1.out.step hb)
              replace B2 := Lib.hid (B2.out.step hb)
              replace V := Lib.hid (V.out.step hb)
              replace L := Lib.hid (L.out.step hb)
              clear hb
              cases c3 with
              | false =>
                go_wp2
                go_ret
                exact ⟨by rw [HNO.out rfl]; rfl, T.out.bel⟩
              | true =>
                go_wp2
                go_roundw
                case rel => exact ⟨k + 1, by go_num, by omega, HYES.out rfl, L.out.bel⟩
                case measure => simp [intOf]; omega
        · have hcI : ¬ (k : Int) < (nQ : Int) := by omega
          have hall : a.wraps.all wrL = true := by have := HA.out; rwa [List.take_of_length_le (by have := HN15.out; omega)] at this
          replace HR := Lib.hid (show wrapsL a = true by rw [HR.out, hall]; rfl)
          clear hall hk HA
          go_wp2
          go_ret
          exact ⟨by rw [HR.out]; rfl, T.out.bel⟩
set_option maxHeartbeats 4000000 in
set_option maxRecDepth 100000 in
theorem hasFriends_any {bd : Nat} {cs : List Value} {a : Ac} {e s : Int} (w : World) (hv0 : Av w bd cs a e s) (hz : Sz 1000000 1000000 a) :
    Calls Tryz.prog 109 #[.agg cs.toArray] w fun x w' => x = .returned (.bool (friendsL a)) ∧ Below w.heap.size w w' := by
  have T := Lib.hid (Lk.At.start w)
  have V := Lib.hid hv0
  have _hz := hz
  clear _hz
  obtain ⟨A, nA, cA, h9, hn9, hc9, hr9⟩ := hv0.to
  have H9 := Lib.hid h9
  have HN9 := Lib.hid hn9
  obtain ⟨b1, hb1⟩ : ∃ b : Bool, b = (wrapsL a) := ⟨_, rfl⟩
  obtain ⟨b2, hb2⟩ : ∃ b : Bool, b = (withL a.n 1 (nA : Int)) := ⟨_, rfl⟩
  obtain ⟨b3, hb3⟩ : ∃ b : Bool, b = (pubL a.m) := ⟨_, rfl⟩
  have K1 := fun (w : World) (bd : Nat) (hv : Av w bd cs a e s) => hasWraps_any w hv hz
  rw [show (wrapsL a) = b1 from hb1.symm] at K1
  replace K1 := Lib.hid K1
  have K2 := fun (w : World) => within_any a.n 1 (nA : Int) w
  rw [show (withL a.n 1 (nA : Int)) = b2 from hb2.symm] at K2
  replace K2 := Lib.hid K2
  have K3 := fun (w : World) => isPublic_any a.m w
  rw [show (pubL a.m) = b3 from hb3.symm] at K3
  replace K3 := Lib.hid K3
  have HR := Lib.hid (show (friendsL a) = (b1 && (b2 && b3)) by rw [hb1, hb2, hb3]; try (rw [hn9]; rfl))
  clear hb1 hb2 hb3
  clear hv0 hz h9 hn9 hc9 hr9
  go_enter Tryz.func109, Tryz.ntmps109
  replace T := Lib.hid (T.out.alloc (.cells cs.toArray 29))
  replace V := Lib.hid (V.out.alloc (.cells cs.toArray 29))
  have B1 := Lib.hid (show Lk.Bl (w.alloc (.cells cs.toArray 29)) w.heap.size cs 29 from by have h := Lk.Bl.new w cs 29; simpa using h)
  go_wp2_with (first | ((with_reducible refine Lk.ld (d := 3) w.heap.size B1.out V.out.len ?_ ?_ ?_); exact rfl; exact rfl) | fail)
  generalize w.alloc (.cells cs.toArray 29) = w1 at *
  refine (K1.out w1 _ V.out).mono ?_
  rintro e w2 ⟨rfl, hb⟩
  replace T := Lib.hid (T.out.step hb)
  replace B1 := Lib.hid (B1.out.step hb)
  replace V := Lib.hid (V.out.step hb)
  clear hb
  cases b1 with
  | false =>
    go_wp2
    go_ret
    exact ⟨by rw [HR.out]; rfl, T.out.bel⟩
  | true =>
    have cB1_16 := B1.out.c 16 _ V.out.n
    have cB1_9 := B1.out.c 9 _ H9.out
    go_wp2_with (first | fail)
    clear cB1_16 cB1_9
    refine (K2.out w2).mono ?_
    rintro e w3 ⟨rfl, hb⟩
    replace T := Lib.hid (T.out.step hb)
    replace B1 := Lib.hid (B1.out.step hb)
    replace V := Lib.hid (V.out.step hb)
    clear hb
    cases b2 with
    | false =>
      go_wp2
      go_ret
      exact ⟨by rw [HR.out]; rfl, T.out.bel⟩
    | true =>
      have cB1_17 := B1.out.c 17 _ V.out.m
      go_wp2_with (first | fail)
      clear cB1_17
      refine (K3.out w3).mono ?_
      rintro e w4 ⟨rfl, hb⟩
      replace T := Lib.hid (T.out.step hb)
      replace B1 := Lib.hid (B1.out.step hb)
      replace V := Lib.hid (V.out.step hb)
      clear hb
      go_wp2
      go_ret
      exact ⟨by rw [HR.out]; rfl, T.out.bel⟩
set_option maxHeartbeats 4000000 in
set_option maxRecDepth 100000 in
theorem rule5_any {bd : Nat} {cs : List Value} {a : Ac} {e s : Int} (w : World) (hv0 : Av w bd cs a e s) (hz : Sz 1000000 1000000 a) :
    Calls Tryz.prog 104 #[.agg cs.toArray] w fun x w' => x = .returned (.bool (r5 a)) ∧ Below w.heap.size w w' := by
  have T := Lib.hid (Lk.At.start w)
  have V := Lib.hid hv0
  have _hz := hz
  clear _hz
  obtain ⟨b1, hb1⟩ : ∃ b : Bool, b = (epochL a) := ⟨_, rfl⟩
  obtain ⟨b2, hb2⟩ : ∃ b : Bool, b = (wrapsL a) := ⟨_, rfl⟩
  have K1 := fun (w : World) (bd : Nat) (hv : Av w bd cs a e s) => hasEpoch_any w hv hz
  rw [show (epochL a) = b1 from hb1.symm] at K1
  replace K1 := Lib.hid K1
  have K2 := fun (w : World) (bd : Nat) (hv : Av w bd cs a e s) => hasWraps_any w hv hz
  rw [show (wrapsL a) = b2 from hb2.symm] at K2
  replace K2 := Lib.hid K2
  have HR := Lib.hid (show (r5 a) = (b1 && b2) by rw [hb1, hb2]; try (rfl))
  clear hb1 hb2
  clear hv0 hz
  go_enter Tryz.func104, Tryz.ntmps104
  replace T := Lib.hid (T.out.alloc (.cells cs.toArray 29))
  replace V := Lib.hid (V.out.alloc (.cells cs.toArray 29))
  have B1 := Lib.hid (show Lk.Bl (w.alloc (.cells cs.toArray 29)) w.heap.size cs 29 from by have h := Lk.Bl.new w cs 29; simpa using h)
  go_wp2_with (first | ((with_reducible refine Lk.ld (d := 3) w.heap.size B1.out V.out.len ?_ ?_ ?_); exact rfl; exact rfl) | fail)
  generalize w.alloc (.cells cs.toArray 29) = w1 at *
  refine (K1.out w1 _ V.out).mono ?_
  rintro e w2 ⟨rfl, hb⟩
  replace T := Lib.hid (T.out.step hb)
  replace B1 := Lib.hid (B1.out.step hb)
  replace V := Lib.hid (V.out.step hb)
  clear hb
  cases b1 with
  | false =>
    go_wp2
    go_ret
    exact ⟨by rw [HR.out]; rfl, T.out.bel⟩
  | true =>
    go_wp2_with (first | ((with_reducible refine Lk.ld (d := 6) w.heap.size B1.out V.out.len ?_ ?_ ?_); exact rfl; exact rfl) | fail)
    refine (K2.out w2 _ V.out).mono ?_
    rintro e w3 ⟨rfl, hb⟩
    replace T := Lib.hid (T.out.step hb)
    replace B1 := Lib.hid (B1.out.step hb)
    replace V := Lib.hid (V.out.step hb)
    clear hb
    go_wp2
    go_ret
    exact ⟨by rw [HR.out]; rfl, T.out.bel⟩
end Ld
end Go.Proofs.YtojbicpchjiplaaGreatDoor
