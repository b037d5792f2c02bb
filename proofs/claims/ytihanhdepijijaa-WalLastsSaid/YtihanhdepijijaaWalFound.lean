/-
  Layer 10: found: what an opened log holds behind a crash.
-/
import Derived.Test.YtihanhdepijijaaWalAftK
namespace Go.Proofs.Ytihanhdepijijaa
open Go.RowKit
namespace Wl
open S9.Dk (Dk Fr MD isI Rz)
attribute [local go_sem] S2.B_size S2.B_list
theorem begins_of2 {a b : List Str} (h : b <+: a) : begins a b = true := decide_eq_true h
theorem okInt (z : Int) (h : -1000 ≤ z ∧ z ≤ 1000) : isI z := by unfold isI; omega
set_option maxHeartbeats 4000000 in
set_option maxRecDepth 100000 in
theorem found_any (X : Nat → Prop) (p : Nat) (D : MD) (A1 A2 A3 : Option Addr) (n1 c1 n2 c2 n3 c3 : Nat) (t : Bool) (al sf fr : List Str) (w : World) (hh : Hope c4 D 2 al sf) (hd : Dk X w p D) (h1 : Sl X w A1 n1 c1 al) (h2 : Sl X w A2 n2 c2 sf) (h3 : Sl X w A3 n3 c3 fr) :
    Calls Try.prog 15 #[ptr p, .agg #[.slice A1 n1 c1, .slice A2 n2 c2, .slice A3 n3 c3, .bool t]] w fun e w' => e = .returned (.bool true) ∧ Fr X w w' := by
  obtain ⟨now, D', he, hp1, hp2, hpe⟩ := open_hope (f := 2) c4_len hh (by omega)
  replace he : lopen c4 (((D.start).lose 0).arm 0 []) 2 = ((some now, 0), D') := he
  have hnl : now.length ≤ 2000 := Nat.le_trans hp1.length_le h1.small
  have T1 := Lib.hid (begins_of2 hp1)
  have T2 := Lib.hid (begins_of2 hp2)
  have HE := Lib.hid he
  have HNL := Lib.hid hnl
  have hlt := hd.lt
  -- the box
  obtain ⟨w1, hw1⟩ : ∃ w1, w1 = w.alloc (.cells #[.slice A1 n1 c1, .slice A2 n2 c2, .slice A3 n3 c3, .bool t] 34) := ⟨_, rfl⟩
  have hb : Below w.heap.size w w1 := by rw [hw1]; exact alloc_below _ _
  obtain ⟨b, hbn⟩ : ∃ b, b = w.heap.size := ⟨_, rfl⟩
  have hbox : w1.heap[b]? = some (.cells #[.slice A1 n1 c1, .slice A2 n2 c2, .slice A3 n3 c3, .bool t] 34 (0, 0)) := by rw [hw1, hbn]; exact heap_alloc_new w _
  obtain ⟨Y, hY⟩ : ∃ Y : Nat → Prop, Y = fun k => X k ∨ k = b := ⟨_, rfl⟩
  have hXY : ∀ k, X k → Y k := fun k hk => by rw [hY]; exact .inl hk
  have hYb : Y b := by rw [hY]; exact .inr rfl
  have hbl := S2.blk_lt hbox
  have hdY : Dk Y w1 p D := hd.more hb fun k hk => by
    rw [hY] at hk
    rcases hk with hk | rfl
    · exact .inl hk
    · exact .inr ⟨by omega, hbl⟩
  have f1 : Fr X w w1 := Fr.of_below hb hlt
  have L := Lib.hid hdY
  have F := Lib.hid f1
  have S1 := Lib.hid ((h1.fr f1).mono hXY)
  have S2' := Lib.hid ((h2.fr f1).mono hXY)
  have S3' := Lib.hid ((h3.fr f1).mono hXY)
  have BX := Lib.hid hbox
  have HXY := Lib.hid hXY
  have HYB := Lib.hid hYb
  have HW1 := Lib.hid hw1
  have HBN := Lib.hid hbn
  clear hh hd h1 h2 h3 hp1 hp2 hpe he hnl hlt hb hbox hXY hYb hbl hdY f1 hw1 hY hbn
  go_enter Try.func15, Try.ntmps15
  go_wp2_with fail
  rw [← HW1.out, ← HBN.out]
  refine (S9.Dk.start_any Y p D w1 L.out).mono ?_
  rintro e w2 ⟨rfl, h, f⟩
  replace L := Lib.hid h
  replace BX := Lib.hid ((f.block b HYB.out).trans BX.out)
  replace F := Lib.hid (F.out.trans (f.weaken HXY.out))
  replace S1 := Lib.hid (S1.out.fr f)
  replace S2' := Lib.hid (S2'.out.fr f)
  replace S3' := Lib.hid (S3'.out.fr f)
  clear h f
  go_wp2_with fail
  refine (S9.Dk.lose_any Y p D.start 0 (okInt 0 (by decide)) w2 L.out).mono ?_
  rintro e w3 ⟨rfl, h, f⟩
  replace L := Lib.hid h
  replace BX := Lib.hid ((f.block b HYB.out).trans BX.out)
  replace F := Lib.hid (F.out.trans (f.weaken HXY.out))
  replace S1 := Lib.hid (S1.out.fr f)
  replace S2' := Lib.hid (S2'.out.fr f)
  replace S3' := Lib.hid (S3'.out.fr f)
  clear h f
  go_wp2_with fail
  refine (S9.Dk.Arm_any Y p (D.start.lose 0) 0 (okInt 0 (by decide)) [] none 0 0 rfl (fun x hx => by cases hx) w3 (.inl rfl) L.out).mono ?_
  rintro e w4 ⟨rfl, h, f⟩
  replace L := Lib.hid h
  replace BX := Lib.hid ((f.block b HYB.out).trans BX.out)
  replace F := Lib.hid (F.out.trans (f.weaken HXY.out))
  replace S1 := Lib.hid (S1.out.fr f)
  replace S2' := Lib.hid (S2'.out.fr f)
  replace S3' := Lib.hid (S3'.out.fr f)
  clear h f
  go_wp2_with fail
  refine (Open_ok (f := 2) L.out HE.out).mono ?_
  rintro e w5 ⟨x, rfl, h, f⟩
  have LG := Lib.hid h
  replace BX := Lib.hid ((f.block b HYB.out).trans BX.out)
  replace F := Lib.hid (F.out.trans (f.weaken HXY.out))
  replace S1 := Lib.hid (S1.out.fr f)
  replace S2' := Lib.hid (S2'.out.fr f)
  replace S3' := Lib.hid (S3'.out.fr f)
  clear h f L
  go_wp2_with fail
  refine (All_new LG.out (by have := HNL.out; omega)).mono ?_
  rintro e w6 ⟨An, nn, cn, rfl, hn, hc, hr, ho, hnew, h, hb⟩
  have hlt := LG.out.lt
  have f := Fr.of_below hb hlt
  have hr6 := hr.row (fun k hk => hk.2)
  replace BX := Lib.hid ((f.block b HYB.out).trans BX.out)
  replace F := Lib.hid (F.out.trans (f.weaken HXY.out))
  have lt6 : ∀ k, Y k → k < w6.heap.size := fun k hk => Nat.lt_of_lt_of_le (hlt k hk) hb.size
  have R1 := Lib.hid ((S1.out.fr f).row.row lt6)
  have R2 := Lib.hid ((S2'.out.fr f).row.row lt6)
  have R3 := Lib.hid ((S3'.out.fr f).row.row lt6)
  have RN := Lib.hid hr6
  have N1 := Lib.hid S1.out.len
  have N2 := Lib.hid S2'.out.len
  have N3 := Lib.hid S3'.out.len
  have B1 := Lib.hid S1.out.small
  have B2 := Lib.hid S2'.out.small
  have B3 := Lib.hid S3'.out.small
  have NN := Lib.hid hn
  have HX6 := Lib.hid (show ∀ k, X k → k < w6.heap.size from fun k hk => lt6 k (HXY.out k hk))
  have q0 := S2.cell_at BX.out 0
  have q1 := S2.cell_at BX.out 1
  have q2 := S2.cell_at BX.out 2
  have q3 := S2.cell_at BX.out 3
  clear hn hc hr ho hnew h hb hlt f hr6 lt6 S1 S2' S3' LG
  cases t with
  | false =>
    go_wp2_with fail
    refine (begins_any A1 An al now c1 cn n1 nn w6 N1.out NN.out R1.out RN.out (by have := B1.out; omega) (by have := HNL.out; omega)).mono ?_
    rintro e w7 ⟨rfl, hb⟩
    rw [T1.out]
    replace RN := Lib.hid ((RN.out.below hb).more hb.size)
    replace R2 := Lib.hid ((R2.out.below hb).more hb.size)
    have f7 := Fr.of_below hb HX6.out
    have F7 := Lib.hid (F.out.trans f7)
    have HX7 := Lib.hid (show ∀ k, X k → k < w7.heap.size from fun k hk => Nat.lt_of_lt_of_le (HX6.out k hk) hb.size)
    have g2 : w7.cell? ⟨b, 2, none⟩ = some _ := (World.cell?_of_block (hb.block b (S2.blk_lt BX.out))).trans q2
    have g1 : w7.cell? ⟨b, 1, none⟩ = some _ := (World.cell?_of_block (hb.block b (S2.blk_lt BX.out))).trans q1
    clear hb f7 q0 q1 q2 q3
    go_wp2_with fail
    refine (begins_any An A2 now sf cn c2 nn n2 w7 NN.out N2.out RN.out R2.out (by have := HNL.out; omega) (by have := B2.out; omega)).mono ?_
    rintro e w8 ⟨rfl, hb⟩
    rw [T2.out]
    have F8 := Lib.hid (F7.out.trans (Fr.of_below hb HX7.out))
    clear hb g1 g2
    go_wp2
    go_ret
    exact ⟨rfl, F8.out⟩
  | true =>
    go_wp2_with fail
    refine (same_any An A3 now fr cn c3 nn n3 w6 NN.out N3.out RN.out R3.out (by have := HNL.out; omega) (by have := B3.out; omega)).mono ?_
    rintro e w7 ⟨rfl, hb⟩
    replace RN := Lib.hid ((RN.out.below hb).more hb.size)
    replace R1 := Lib.hid ((R1.out.below hb).more hb.size)
    replace R2 := Lib.hid ((R2.out.below hb).more hb.size)
    have f7 := Fr.of_below hb HX6.out
    have F7 := Lib.hid (F.out.trans f7)
    have HX7 := Lib.hid (show ∀ k, X k → k < w7.heap.size from fun k hk => Nat.lt_of_lt_of_le (HX6.out k hk) hb.size)
    have BX7 := Lib.hid ((hb.block b (S2.blk_lt BX.out)).trans BX.out)
    clear hb f7 q0 q1 q2 q3
    have q0 := S2.cell_at BX7.out 0
    have q1 := S2.cell_at BX7.out 1
    cases hsm : same now fr with
    | true =>
      clear q0 q1 hsm
      go_wp2
      go_ret
      exact ⟨rfl, F7.out⟩
    | false =>
      clear hsm
      go_wp2_with fail
      refine (begins_any A1 An al now c1 cn n1 nn w7 N1.out NN.out R1.out RN.out (by have := B1.out; omega) (by have := HNL.out; omega)).mono ?_
      rintro e w8 ⟨rfl, hb⟩
      rw [T1.out]
      replace RN := Lib.hid ((RN.out.below hb).more hb.size)
      replace R2 := Lib.hid ((R2.out.below hb).more hb.size)
      have F8 := Lib.hid (F7.out.trans (Fr.of_below hb HX7.out))
      have HX8 := Lib.hid (show ∀ k, X k → k < w8.heap.size from fun k hk => Nat.lt_of_lt_of_le (HX7.out k hk) hb.size)
      have g1 : w8.cell? ⟨b, 1, none⟩ = some _ := (World.cell?_of_block (hb.block b (S2.blk_lt BX7.out))).trans q1
      clear hb q0 q1
      go_wp2_with fail
      refine (begins_any An A2 now sf cn c2 nn n2 w8 NN.out N2.out RN.out R2.out (by have := HNL.out; omega) (by have := B2.out; omega)).mono ?_
      rintro e w9 ⟨rfl, hb⟩
      rw [T2.out]
      have F9 := Lib.hid (F8.out.trans (Fr.of_below hb HX8.out))
      clear hb g1
      go_wp2
      go_ret
      exact ⟨rfl, F9.out⟩
end Wl
end Go.Proofs.Ytihanhdepijijaa
