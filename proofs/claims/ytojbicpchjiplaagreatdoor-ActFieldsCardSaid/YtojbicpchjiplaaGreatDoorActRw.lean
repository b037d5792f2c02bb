/-
  Layer 12: the landed Same.
-/
import Derived.Test.YtojbicpchjiplaaGreatDoorActRe
import Derived.Test.YtojbicpchjiplaaGreatDoorSignFun
namespace Go.Proofs.YtojbicpchjiplaaGreatDoor
open Go.RowKit
namespace Ld
open Ax
open S11.Idt (Str isId isName ids)
attribute [local go_sem] S2.B_size S2.B_list S2.B_app S2.B_take litE
set_option maxHeartbeats 60000000 in
set_option maxRecDepth 100000 in
theorem same_any {bd bd' : Nat} {cs ds : List Value} {a b : Ac} {e s e' s' : Int} (r : Bool) (w : World) (hv0 : Av w bd cs a e s) (hv1 : Av w bd' ds b e' s') (hz : Sz 1000000 1000000 a) (hz1 : Sz 1000000 1000000 b) (hr : r = true ↔ a = b ∧ e = e' ∧ s = s') :
    Calls Tryz.prog 26 #[.agg cs.toArray, .agg ds.toArray] w fun x w' => x = .returned (.bool r) ∧ Below w.heap.size w w' := by
  have T := Lib.hid (Lk.At.start w)
  have V := Lib.hid hv0
  have U := Lib.hid hv1
  obtain ⟨A, nA, cA, h9, hn9, hc9, hr9⟩ := hv0.to
  obtain ⟨Q, nQ, cQ, h15, hn15, hc15, hr15⟩ := hv0.wraps
  obtain ⟨A', nA', cA', h9', hn9', hc9', hr9'⟩ := hv1.to
  obtain ⟨Q', nQ', cQ', h15', hn15', hc15', hr15'⟩ := hv1.wraps
  have H9 := Lib.hid h9
  have H15 := Lib.hid h15
  have H9' := Lib.hid h9'
  have H15' := Lib.hid h15'
  obtain ⟨b0, hb0⟩ : ∃ x : Bool, x = (a.author == b.author) := ⟨_, rfl⟩
  have tb0 : (a.author == b.author) = b0 := hb0.symm
  have ib0 : b0 = true ↔ a.author = b.author := by rw [hb0]; exact beq_iff_eq
  obtain ⟨b1, hb1⟩ : ∃ x : Bool, x = (a.seq == b.seq) := ⟨_, rfl⟩
  have tb1 : (a.seq == b.seq) = b1 := hb1.symm
  have ib1 : b1 = true ↔ a.seq = b.seq := by rw [hb1]; exact beq_iff_eq
  obtain ⟨b2, hb2⟩ : ∃ x : Bool, x = (a.prev == b.prev) := ⟨_, rfl⟩
  have tb2 : (a.prev == b.prev) = b2 := hb2.symm
  have ib2 : b2 = true ↔ a.prev = b.prev := by rw [hb2]; exact beq_iff_eq
  obtain ⟨b3, hb3⟩ : ∃ x : Bool, x = (a.kind == b.kind) := ⟨_, rfl⟩
  have tb3 : (a.kind == b.kind) = b3 := hb3.symm
  have ib3 : b3 = true ↔ a.kind = b.kind := by rw [hb3]; exact beq_iff_eq
  obtain ⟨b4, hb4⟩ : ∃ x : Bool, x = (a.time == b.time) := ⟨_, rfl⟩
  have tb4 : (a.time == b.time) = b4 := hb4.symm
  have ib4 : b4 = true ↔ a.time = b.time := by rw [hb4]; exact beq_iff_eq
  obtain ⟨b5, hb5⟩ : ∃ x : Bool, x = (a.object == b.object) := ⟨_, rfl⟩
  have tb5 : (a.object == b.object) = b5 := hb5.symm
  have ib5 : b5 = true ↔ a.object = b.object := by rw [hb5]; exact beq_iff_eq
  obtain ⟨b6, hb6⟩ : ∃ x : Bool, x = (a.target == b.target) := ⟨_, rfl⟩
  have tb6 : (a.target == b.target) = b6 := hb6.symm
  have ib6 : b6 = true ↔ a.target = b.target := by rw [hb6]; exact beq_iff_eq
  obtain ⟨b7, hb7⟩ : ∃ x : Bool, x = (a.scope == b.scope) := ⟨_, rfl⟩
  have tb7 : (a.scope == b.scope) = b7 := hb7.symm
  have ib7 : b7 = true ↔ a.scope = b.scope := by rw [hb7]; exact beq_iff_eq
  obtain ⟨b8, hb8⟩ : ∃ x : Bool, x = (a.group == b.group) := ⟨_, rfl⟩
  have tb8 : (a.group == b.group) = b8 := hb8.symm
  have ib8 : b8 = true ↔ a.group = b.group := by rw [hb8]; exact beq_iff_eq
  obtain ⟨b9, ib9⟩ : ∃ x : Bool, x = true ↔ a.to = b.to := by
    by_cases h : a.to = b.to
    · exact ⟨true, by simp [h]⟩
    · exact ⟨false, by simp [h]⟩
  obtain ⟨b10, hb10⟩ : ∃ x : Bool, x = (a.text == b.text) := ⟨_, rfl⟩
  have tb10 : (a.text == b.text) = b10 := hb10.symm
  have ib10 : b10 = true ↔ a.text = b.text := by rw [hb10]; exact beq_iff_eq
  obtain ⟨b11, hb11⟩ : ∃ x : Bool, x = (a.body.nonce == b.body.nonce) := ⟨_, rfl⟩
  have tb11 : (a.body.nonce == b.body.nonce) = b11 := hb11.symm
  have ib11 : b11 = true ↔ a.body.nonce = b.body.nonce := by rw [hb11]; exact beq_iff_eq
  obtain ⟨b12, hb12⟩ : ∃ x : Bool, x = (a.body.data == b.body.data) := ⟨_, rfl⟩
  have tb12 : (a.body.data == b.body.data) = b12 := hb12.symm
  have ib12 : b12 = true ↔ a.body.data = b.body.data := by rw [hb12]; exact beq_iff_eq
  obtain ⟨b13, hb13⟩ : ∃ x : Bool, x = (a.body.tag == b.body.tag) := ⟨_, rfl⟩
  have tb13 : (a.body.tag == b.body.tag) = b13 := hb13.symm
  have ib13 : b13 = true ↔ a.body.tag = b.body.tag := by rw [hb13]; exact beq_iff_eq
  obtain ⟨b14, hb14⟩ : ∃ x : Bool, x = (a.epoch == b.epoch) := ⟨_, rfl⟩
  have tb14 : (a.epoch == b.epoch) = b14 := hb14.symm
  have ib14 : b14 = true ↔ a.epoch = b.epoch := by rw [hb14]; exact beq_iff_eq
  obtain ⟨b15, ib15⟩ : ∃ x : Bool, x = true ↔ a.wraps = b.wraps := by
    by_cases h : a.wraps = b.wraps
    · exact ⟨true, by simp [h]⟩
    · exact ⟨false, by simp [h]⟩
  obtain ⟨b16, hb16⟩ : ∃ x : Bool, x = (a.n == b.n) := ⟨_, rfl⟩
  have tb16 : (a.n == b.n) = b16 := hb16.symm
  have ib16 : b16 = true ↔ a.n = b.n := by rw [hb16]; exact beq_iff_eq
  obtain ⟨b17, hb17⟩ : ∃ x : Bool, x = (a.m == b.m) := ⟨_, rfl⟩
  have tb17 : (a.m == b.m) = b17 := hb17.symm
  have ib17 : b17 = true ↔ a.m = b.m := by rw [hb17]; exact beq_iff_eq
  obtain ⟨b18, hb18⟩ : ∃ x : Bool, x = (e == e') := ⟨_, rfl⟩
  have tb18 : (e == e') = b18 := hb18.symm
  have ib18 : b18 = true ↔ e = e' := by rw [hb18]; exact beq_iff_eq
  obtain ⟨b19, hb19⟩ : ∃ x : Bool, x = (s == s') := ⟨_, rfl⟩
  have tb19 : (s == s') = b19 := hb19.symm
  have ib19 : b19 = true ↔ s = s' := by rw [hb19]; exact beq_iff_eq
  have hR : r = (b0 && (b1 && (b2 && (b3 && (b4 && (b5 && (b6 && (b7 && (b8 && (b9 && (b10 && (b11 && (b12 && (b13 && (b14 && (b15 && (b16 && (b17 && (b18 && (b19)))))))))))))))))))) := by
    rw [Bool.eq_iff_iff, hr]
    simp only [Bool.and_eq_true, ib0, ib1, ib2, ib3, ib4, ib5, ib6, ib7, ib8, ib9, ib10, ib11, ib12, ib13, ib14, ib15, ib16, ib17, ib18, ib19]
    obtain ⟨a1, a2, a3, a4, a5, a6, a7, a8, a9, a10, a11, ⟨a12, a13, a14⟩, a15, a16, a17, a18⟩ := a
    obtain ⟨c1, c2, c3, c4, c5, c6, c7, c8, c9, c10, c11, ⟨c12, c13, c14⟩, c15, c16, c17, c18⟩ := b
    simp only [Ac.mk.injEq, Bx.mk.injEq, and_assoc]
  have HR := Lib.hid hR
  have KT := fun (w : World) (bd bd' : Nat) (h : Av w bd cs a e s) (h' : Av w bd' ds b e' s') => eqS_any A A' a.to b.to nA cA nA' cA' b9 w hn9 hn9' ((h.toAt h9).2.2.more h.le) ((h'.toAt h9').2.2.more h'.le) (by rw [hn9]; exact hz.to) (by rw [hn9']; exact hz1.to) ib9
  have KW := fun (w : World) (bd bd' : Nat) (h : Av w bd cs a e s) (h' : Av w bd' ds b e' s') => eqW_any Q Q' a.wraps b.wraps nQ cQ nQ' cQ' b15 w hn15 hn15' ((h.wrAt h15).2.2.more h.le) ((h'.wrAt h15').2.2.more h'.le) (by rw [hn15]; exact hz.wraps) (by rw [hn15']; exact hz1.wraps) ib15
  replace KT := Lib.hid KT
  replace KW := Lib.hid KW
  clear hv0 hv1 hz hz1 hr hR h9 hn9 hc9 hr9 h15 hn15 hc15 hr15 h9' hn9' hc9' hr9' h15' hn15' hc15' hr15' ib0 ib1 ib2 ib3 ib4 ib5 ib6 ib7 ib8 ib9 ib10 ib11 ib12 ib13 ib14 ib15 ib16 ib17 ib18 ib19 hb0 hb1 hb2 hb3 hb4 hb5 hb6 hb7 hb8 hb10 hb11 hb12 hb13 hb14 hb16 hb17 hb18 hb19
  go_enter Tryz.func26, Tryz.ntmps26
  replace T := Lib.hid (T.out.alloc (.cells cs.toArray 29))
  replace V := Lib.hid (V.out.alloc (.cells cs.toArray 29))
  replace U := Lib.hid (U.out.alloc (.cells cs.toArray 29))
  have B1 := Lib.hid (show Lk.Bl (w.alloc (.cells cs.toArray 29)) w.heap.size cs 29 from by have h := Lk.Bl.new w cs 29; simpa using h)
  replace T := Lib.hid (T.out.alloc (.cells ds.toArray 29))
  replace B1 := Lib.hid (B1.out.alloc (.cells ds.toArray 29))
  replace V := Lib.hid (V.out.alloc (.cells ds.toArray 29))
  replace U := Lib.hid (U.out.alloc (.cells ds.toArray 29))
  have B2 := Lib.hid (show Lk.Bl ((w.alloc (.cells cs.toArray 29)).alloc (.cells ds.toArray 29)) (w.heap.size + 1) ds 29 from by have h := Lk.Bl.new (w.alloc (.cells cs.toArray 29)) ds 29; simpa using h)
  cases b0 with
  | false =>
    have cB1_0 := B1.out.c 0 _ V.out.author
    have cB2_0 := B2.out.c 0 _ U.out.author
    go_wp2
    clear cB1_0 cB2_0
    generalize (w.alloc (.cells cs.toArray 29)).alloc (.cells ds.toArray 29) = w1 at *
    go_ret
    exact ⟨by rw [HR.out]; rfl, T.out.bel⟩
  | true =>
    cases b1 with
    | false =>
      have cB1_0 := B1.out.c 0 _ V.out.author
      have cB2_0 := B2.out.c 0 _ U.out.author
      have cB1_1 := B1.out.c 1 _ V.out.seq
      have cB2_1 := B2.out.c 1 _ U.out.seq
      go_wp2
      clear cB1_0 cB2_0 cB1_1 cB2_1
      generalize (w.alloc (.cells cs.toArray 29)).alloc (.cells ds.toArray 29) = w1 at *
      go_ret
      exact ⟨by rw [HR.out]; rfl, T.out.bel⟩
    | true =>
      cases b2 with
      | false =>
        have cB1_0 := B1.out.c 0 _ V.out.author
        have cB2_0 := B2.out.c 0 _ U.out.author
        have cB1_1 := B1.out.c 1 _ V.out.seq
        have cB2_1 := B2.out.c 1 _ U.out.seq
        have cB1_2 := B1.out.c 2 _ V.out.prev
        have cB2_2 := B2.out.c 2 _ U.out.prev
        go_wp2
        clear cB1_0 cB2_0 cB1_1 cB2_1 cB1_2 cB2_2
        generalize (w.alloc (.cells cs.toArray 29)).alloc (.cells ds.toArray 29) = w1 at *
        go_ret
        exact ⟨by rw [HR.out]; rfl, T.out.bel⟩
      | true =>
        cases b3 with
        | false =>
          have cB1_0 := B1.out.c 0 _ V.out.author
          have cB2_0 := B2.out.c 0 _ U.out.author
          have cB1_1 := B1.out.c 1 _ V.out.seq
          have cB2_1 := B2.out.c 1 _ U.out.seq
          have cB1_2 := B1.out.c 2 _ V.out.prev
          have cB2_2 := B2.out.c 2 _ U.out.prev
          have cB1_3 := B1.out.c 3 _ V.out.kind
          have cB2_3 := B2.out.c 3 _ U.out.kind
          go_wp2
          clear cB1_0 cB2_0 cB1_1 cB2_1 cB1_2 cB2_2 cB1_3 cB2_3
          generalize (w.alloc (.cells cs.toArray 29)).alloc (.cells ds.toArray 29) = w1 at *
          go_ret
          exact ⟨by rw [HR.out]; rfl, T.out.bel⟩
        | true =>
          cases b4 with
          | false =>
            have cB1_0 := B1.out.c 0 _ V.out.author
            have cB2_0 := B2.out.c 0 _ U.out.author
            have cB1_1 := B1.out.c 1 _ V.out.seq
            have cB2_1 := B2.out.c 1 _ U.out.seq
            have cB1_2 := B1.out.c 2 _ V.out.prev
            have cB2_2 := B2.out.c 2 _ U.out.prev
            have cB1_3 := B1.out.c 3 _ V.out.kind
            have cB2_3 := B2.out.c 3 _ U.out.kind
            have cB1_4 := B1.out.c 4 _ V.out.time
            have cB2_4 := B2.out.c 4 _ U.out.time
            go_wp2
            clear cB1_0 cB2_0 cB1_1 cB2_1 cB1_2 cB2_2 cB1_3 cB2_3 cB1_4 cB2_4
            generalize (w.alloc (.cells cs.toArray 29)).alloc (.cells ds.toArray 29) = w1 at *
            go_ret
            exact ⟨by rw [HR.out]; rfl, T.out.bel⟩
          | true =>
            cases b5 with
            | false =>
              have cB1_0 := B1.out.c 0 _ V.out.author
              have cB2_0 := B2.out.c 0 _ U.out.author
              have cB1_1 := B1.out.c 1 _ V.out.seq
              have cB2_1 := B2.out.c 1 _ U.out.seq
              have cB1_2 := B1.out.c 2 _ V.out.prev
              have cB2_2 := B2.out.c 2 _ U.out.prev
              have cB1_3 := B1.out.c 3 _ V.out.kind
              have cB2_3 := B2.out.c 3 _ U.out.kind
              have cB1_4 := B1.out.c 4 _ V.out.time
              have cB2_4 := B2.out.c 4 _ U.out.time
              have cB1_5 := B1.out.c 5 _ V.out.object
              have cB2_5 := B2.out.c 5 _ U.out.object
              go_wp2
              clear cB1_0 cB2_0 cB1_1 cB2_1 cB1_2 cB2_2 cB1_3 cB2_3 cB1_4 cB2_4 cB1_5 cB2_5
              generalize (w.alloc (.cells cs.toArray 29)).alloc (.cells ds.toArray 29) = w1 at *
              go_ret
              exact ⟨by rw [HR.out]; rfl, T.out.bel⟩
            | true =>
              cases b6 with
              | false =>
                have cB1_0 := B1.out.c 0 _ V.out.author
                have cB2_0 := B2.out.c 0 _ U.out.author
                have cB1_1 := B1.out.c 1 _ V.out.seq
                have cB2_1 := B2.out.c 1 _ U.out.seq
                have cB1_2 := B1.out.c 2 _ V.out.prev
                have cB2_2 := B2.out.c 2 _ U.out.prev
                have cB1_3 := B1.out.c 3 _ V.out.kind
                have cB2_3 := B2.out.c 3 _ U.out.kind
                have cB1_4 := B1.out.c 4 _ V.out.time
                have cB2_4 := B2.out.c 4 _ U.out.time
                have cB1_5 := B1.out.c 5 _ V.out.object
                have cB2_5 := B2.out.c 5 _ U.out.object
                have cB1_6 := B1.out.c 6 _ V.out.target
                have cB2_6 := B2.out.c 6 _ U.out.target
                go_wp2
                clear cB1_0 cB2_0 cB1_1 cB2_1 cB1_2 cB2_2 cB1_3 cB2_3 cB1_4 cB2_4 cB1_5 cB2_5 cB1_6 cB2_6
                generalize (w.alloc (.cells cs.toArray 29)).alloc (.cells ds.toArray 29) = w1 at *
                go_ret
                exact ⟨by rw [HR.out]; rfl, T.out.bel⟩
              | true =>
                cases b7 with
                | false =>
                  have cB1_0 := B1.out.c 0 _ V.out.author
                  have cB2_0 := B2.out.c 0 _ U.out.author
                  have cB1_1 := B1.out.c 1 _ V.out.seq
                  have cB2_1 := B2.out.c 1 _ U.out.seq
                  have cB1_2 := B1.out.c 2 _ V.out.prev
                  have cB2_2 := B2.out.c 2 _ U.out.prev
                  have cB1_3 := B1.out.c 3 _ V.out.kind
                  have cB2_3 := B2.out.c 3 _ U.out.kind
                  have cB1_4 := B1.out.c 4 _ V.out.time
                  have cB2_4 := B2.out.c 4 _ U.out.time
                  have cB1_5 := B1.out.c 5 _ V.out.object
                  have cB2_5 := B2.out.c 5 _ U.out.object
                  have cB1_6 := B1.out.c 6 _ V.out.target
                  have cB2_6 := B2.out.c 6 _ U.out.target
                  have cB1_7 := B1.out.c 7 _ V.out.scope
                  have cB2_7 := B2.out.c 7 _ U.out.scope
                  go_wp2
                  clear cB1_0 cB2_0 cB1_1 cB2_1 cB1_2 cB2_2 cB1_3 cB2_3 cB1_4 cB2_4 cB1_5 cB2_5 cB1_6 cB2_6 cB1_7 cB2_7
                  generalize (w.alloc (.cells cs.toArray 29)).alloc (.cells ds.toArray 29) = w1 at *
                  go_ret
                  exact ⟨by rw [HR.out]; rfl, T.out.bel⟩
                | true =>
                  cases b8 with
                  | false =>
                    have cB1_0 := B1.out.c 0 _ V.out.author
                    have cB2_0 := B2.out.c 0 _ U.out.author
                    have cB1_1 := B1.out.c 1 _ V.out.seq
                    have cB2_1 := B2.out.c 1 _ U.out.seq
                    have cB1_2 := B1.out.c 2 _ V.out.prev
                    have cB2_2 := B2.out.c 2 _ U.out.prev
                    have cB1_3 := B1.out.c 3 _ V.out.kind
                    have cB2_3 := B2.out.c 3 _ U.out.kind
                    have cB1_4 := B1.out.c 4 _ V.out.time
                    have cB2_4 := B2.out.c 4 _ U.out.time
                    have cB1_5 := B1.out.c 5 _ V.out.object
                    have cB2_5 := B2.out.c 5 _ U.out.object
                    have cB1_6 := B1.out.c 6 _ V.out.target
                    have cB2_6 := B2.out.c 6 _ U.out.target
                    have cB1_7 := B1.out.c 7 _ V.out.scope
                    have cB2_7 := B2.out.c 7 _ U.out.scope
                    have cB1_8 := B1.out.c 8 _ V.out.group
                    have cB2_8 := B2.out.c 8 _ U.out.group
                    go_wp2
                    clear cB1_0 cB2_0 cB1_1 cB2_1 cB1_2 cB2_2 cB1_3 cB2_3 cB1_4 cB2_4 cB1_5 cB2_5 cB1_6 cB2_6 cB1_7 cB2_7 cB1_8 cB2_8
                    generalize (w.alloc (.cells cs.toArray 29)).alloc (.cells ds.toArray 29) = w1 at *
                    go_ret
                    exact ⟨by rw [HR.out]; rfl, T.out.bel⟩
                  | true =>
                    have cB1_0 := B1.out.c 0 _ V.out.author
                    have cB2_0 := B2.out.c 0 _ U.out.author
                    have cB1_1 := B1.out.c 1 _ V.out.seq
                    have cB2_1 := B2.out.c 1 _ U.out.seq
                    have cB1_2 := B1.out.c 2 _ V.out.prev
                    have cB2_2 := B2.out.c 2 _ U.out.prev
                    have cB1_3 := B1.out.c 3 _ V.out.kind
                    have cB2_3 := B2.out.c 3 _ U.out.kind
                    have cB1_4 := B1.out.c 4 _ V.out.time
                    have cB2_4 := B2.out.c 4 _ U.out.time
                    have cB1_5 := B1.out.c 5 _ V.out.object
                    have cB2_5 := B2.out.c 5 _ U.out.object
                    have cB1_6 := B1.out.c 6 _ V.out.target
                    have cB2_6 := B2.out.c 6 _ U.out.target
                    have cB1_7 := B1.out.c 7 _ V.out.scope
                    have cB2_7 := B2.out.c 7 _ U.out.scope
                    have cB1_8 := B1.out.c 8 _ V.out.group
                    have cB2_8 := B2.out.c 8 _ U.out.group
                    have cB1_9 := B1.out.c 9 _ H9.out
                    have cB2_9 := B2.out.c 9 _ H9'.out
                    go_wp2_with (first | fail)
                    clear cB1_0 cB2_0 cB1_1 cB2_1 cB1_2 cB2_2 cB1_3 cB2_3 cB1_4 cB2_4 cB1_5 cB2_5 cB1_6 cB2_6 cB1_7 cB2_7 cB1_8 cB2_8 cB1_9 cB2_9
                    generalize (w.alloc (.cells cs.toArray 29)).alloc (.cells ds.toArray 29) = w1 at *
                    refine (KT.out _ _ _ V.out U.out).mono ?_
                    rintro e w2 ⟨rfl, hb⟩
                    replace T := Lib.hid (T.out.step hb)
                    replace B1 := Lib.hid (B1.out.step hb)
                    replace B2 := Lib.hid (B2.out.step hb)
                    replace V := Lib.hid (V.out.step hb)
                    replace U := Lib.hid (U.out.step hb)
                    clear hb
                    cases b9 with
                    | false =>
                      go_wp2
                      go_ret
                      exact ⟨by rw [HR.out]; rfl, T.out.bel⟩
                    | true =>
                      cases b10 with
                      | false =>
                        have cB1_10 := B1.out.c 10 _ V.out.text
                        have cB2_10 := B2.out.c 10 _ U.out.text
                        go_wp2
                        clear cB1_10 cB2_10
                        go_ret
                        exact ⟨by rw [HR.out]; rfl, T.out.bel⟩
                      | true =>
                        cases b11 with
                        | false =>
                          have pb11 : ¬ a.body.nonce = b.body.nonce := by simpa using tb11
                          clear tb11
                          have cB1_10 := B1.out.c 10 _ V.out.text
                          have cB2_10 := B2.out.c 10 _ U.out.text
                          have cB1_11 := B1.out.c 11 _ V.out.nonce
                          have cB1_12 := B1.out.c 12 _ V.out.data
                          have cB1_13 := B1.out.c 13 _ V.out.tag
                          have cB2_11 := B2.out.c 11 _ U.out.nonce
                          have cB2_12 := B2.out.c 12 _ U.out.data
                          have cB2_13 := B2.out.c 13 _ U.out.tag
                          go_wp2
                          clear cB1_10 cB2_10 cB1_11 cB1_12 cB1_13 cB2_11 cB2_12 cB2_13
                          go_ret
                          exact ⟨by rw [HR.out]; rfl, T.out.bel⟩
                        | true =>
                          have pb11 : a.body.nonce = b.body.nonce := by simpa using tb11
                          clear tb11
                          cases b12 with
                          | false =>
                            have pb12 : ¬ a.body.data = b.body.data := by simpa using tb12
                            clear tb12
                            have cB1_10 := B1.out.c 10 _ V.out.text
                            have cB2_10 := B2.out.c 10 _ U.out.text
                            have cB1_11 := B1.out.c 11 _ V.out.nonce
                            have cB1_12 := B1.out.c 12 _ V.out.data
                            have cB1_13 := B1.out.c 13 _ V.out.tag
                            have cB2_11 := B2.out.c 11 _ U.out.nonce
                            have cB2_12 := B2.out.c 12 _ U.out.data
                            have cB2_13 := B2.out.c 13 _ U.out.tag
                            go_wp2
                            clear cB1_10 cB2_10 cB1_11 cB1_12 cB1_13 cB2_11 cB2_12 cB2_13
                            go_ret
                            exact ⟨by rw [HR.out]; rfl, T.out.bel⟩
                          | true =>
                            have pb12 : a.body.data = b.body.data := by simpa using tb12
                            clear tb12
                            cases b13 with
                            | false =>
                              have pb13 : ¬ a.body.tag = b.body.tag := by simpa using tb13
                              clear tb13
                              have cB1_10 := B1.out.c 10 _ V.out.text
                              have cB2_10 := B2.out.c 10 _ U.out.text
                              have cB1_11 := B1.out.c 11 _ V.out.nonce
                              have cB1_12 := B1.out.c 12 _ V.out.data
                              have cB1_13 := B1.out.c 13 _ V.out.tag
                              have cB2_11 := B2.out.c 11 _ U.out.nonce
                              have cB2_12 := B2.out.c 12 _ U.out.data
                              have cB2_13 := B2.out.c 13 _ U.out.tag
                              go_wp2
                              clear cB1_10 cB2_10 cB1_11 cB1_12 cB1_13 cB2_11 cB2_12 cB2_13
                              go_ret
                              exact ⟨by rw [HR.out]; rfl, T.out.bel⟩
                            | true =>
                              have pb13 : a.body.tag = b.body.tag := by simpa using tb13
                              clear tb13
                              cases b14 with
                              | false =>
                                have cB1_10 := B1.out.c 10 _ V.out.text
                                have cB2_10 := B2.out.c 10 _ U.out.text
                                have cB1_11 := B1.out.c 11 _ V.out.nonce
                                have cB1_12 := B1.out.c 12 _ V.out.data
                                have cB1_13 := B1.out.c 13 _ V.out.tag
                                have cB2_11 := B2.out.c 11 _ U.out.nonce
                                have cB2_12 := B2.out.c 12 _ U.out.data
                                have cB2_13 := B2.out.c 13 _ U.out.tag
                                have cB1_14 := B1.out.c 14 _ V.out.epoch
                                have cB2_14 := B2.out.c 14 _ U.out.epoch
                                go_wp2
                                clear cB1_10 cB2_10 cB1_11 cB1_12 cB1_13 cB2_11 cB2_12 cB2_13 cB1_14 cB2_14
                                go_ret
                                exact ⟨by rw [HR.out]; rfl, T.out.bel⟩
                              | true =>
                                have cB1_10 := B1.out.c 10 _ V.out.text
                                have cB2_10 := B2.out.c 10 _ U.out.text
                                have cB1_11 := B1.out.c 11 _ V.out.nonce
                                have cB1_12 := B1.out.c 12 _ V.out.data
                                have cB1_13 := B1.out.c 13 _ V.out.tag
                                have cB2_11 := B2.out.c 11 _ U.out.nonce
                                have cB2_12 := B2.out.c 12 _ U.out.data
                                have cB2_13 := B2.out.c 13 _ U.out.tag
                                have cB1_14 := B1.out.c 14 _ V.out.epoch
                                have cB2_14 := B2.out.c 14 _ U.out.epoch
                                have cB1_15 := B1.out.c 15 _ H15.out
                                have cB2_15 := B2.out.c 15 _ H15'.out
                                go_wp2_with (first | fail)
                                clear cB1_10 cB2_10 cB1_11 cB1_12 cB1_13 cB2_11 cB2_12 cB2_13 cB1_14 cB2_14 cB1_15 cB2_15
                                refine (KW.out _ _ _ V.out U.out).mono ?_
                                rintro e w3 ⟨rfl, hb⟩
                                replace T := Lib.hid (T.out.step hb)
                                replace B1 := Lib.hid (B1.out.step hb)
                                replace B2 := Lib.hid (B2.out.step hb)
                                replace V := Lib.hid (V.out.step hb)
                                replace U := Lib.hid (U.out.step hb)
                                clear hb
                                cases b15 with
                                | false =>
                                  go_wp2
                                  go_ret
                                  exact ⟨by rw [HR.out]; rfl, T.out.bel⟩
                                | true =>
                                  cases b16 with
                                  | false =>
                                    have cB1_16 := B1.out.c 16 _ V.out.n
                                    have cB2_16 := B2.out.c 16 _ U.out.n
                                    go_wp2
                                    clear cB1_16 cB2_16
                                    go_ret
                                    exact ⟨by rw [HR.out]; rfl, T.out.bel⟩
                                  | true =>
                                    cases b17 with
                                    | false =>
                                      have cB1_16 := B1.out.c 16 _ V.out.n
                                      have cB2_16 := B2.out.c 16 _ U.out.n
                                      have cB1_17 := B1.out.c 17 _ V.out.m
                                      have cB2_17 := B2.out.c 17 _ U.out.m
                                      go_wp2
                                      clear cB1_16 cB2_16 cB1_17 cB2_17
                                      go_ret
                                      exact ⟨by rw [HR.out]; rfl, T.out.bel⟩
                                    | true =>
                                      cases b18 with
                                      | false =>
                                        have pb18 : ¬ e = e' := by simpa using tb18
                                        clear tb18
                                        have cB1_16 := B1.out.c 16 _ V.out.n
                                        have cB2_16 := B2.out.c 16 _ U.out.n
                                        have cB1_17 := B1.out.c 17 _ V.out.m
                                        have cB2_17 := B2.out.c 17 _ U.out.m
                                        have cB1_18 := B1.out.c 18 _ V.out.sigE
                                        have cB1_19 := B1.out.c 19 _ V.out.sigS
                                        have cB2_18 := B2.out.c 18 _ U.out.sigE
                                        have cB2_19 := B2.out.c 19 _ U.out.sigS
                                        go_wp2
                                        clear cB1_16 cB2_16 cB1_17 cB2_17 cB1_18 cB1_19 cB2_18 cB2_19
                                        go_ret
                                        exact ⟨by rw [HR.out]; rfl, T.out.bel⟩
                                      | true =>
                                        have pb18 : e = e' := by simpa using tb18
                                        clear tb18
                                        cases b19 with
                                        | false =>
                                          have pb19 : ¬ s = s' := by simpa using tb19
                                          clear tb19
                                          have cB1_16 := B1.out.c 16 _ V.out.n
                                          have cB2_16 := B2.out.c 16 _ U.out.n
                                          have cB1_17 := B1.out.c 17 _ V.out.m
                                          have cB2_17 := B2.out.c 17 _ U.out.m
                                          have cB1_18 := B1.out.c 18 _ V.out.sigE
                                          have cB1_19 := B1.out.c 19 _ V.out.sigS
                                          have cB2_18 := B2.out.c 18 _ U.out.sigE
                                          have cB2_19 := B2.out.c 19 _ U.out.sigS
                                          go_wp2
                                          clear cB1_16 cB2_16 cB1_17 cB2_17 cB1_18 cB1_19 cB2_18 cB2_19
                                          go_ret
                                          exact ⟨by rw [HR.out]; rfl, T.out.bel⟩
                                        | true =>
                                          have pb19 : s = s' := by simpa using tb19
                                          clear tb19
                                          have cB1_16 := B1.out.c 16 _ V.out.n
                                          have cB2_16 := B2.out.c 16 _ U.out.n
                                          have cB1_17 := B1.out.c 17 _ V.out.m
                                          have cB2_17 := B2.out.c 17 _ U.out.m
                                          have cB1_18 := B1.out.c 18 _ V.out.sigE
                                          have cB1_19 := B1.out.c 19 _ V.out.sigS
                                          have cB2_18 := B2.out.c 18 _ U.out.sigE
                                          have cB2_19 := B2.out.c 19 _ U.out.sigS
                                          go_wp2
                                          clear cB1_16 cB2_16 cB1_17 cB2_17 cB1_18 cB1_19 cB2_18 cB2_19
                                          go_ret
                                          exact ⟨by rw [HR.out]; rfl, T.out.bel⟩
end Ld
end Go.Proofs.YtojbicpchjiplaaGreatDoor
