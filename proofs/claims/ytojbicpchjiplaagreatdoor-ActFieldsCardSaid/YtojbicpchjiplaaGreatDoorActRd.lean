/-
  Layer 12: the landed Read.
-/
import Derived.Test.YtojbicpchjiplaaGreatDoorActRm
import Derived.Test.YtojbicpchjiplaaGreatDoorActLc
import Derived.Test.YtojbicpchjiplaaGreatDoorCodeRd2
namespace Go.Proofs.YtojbicpchjiplaaGreatDoor
open Go.RowKit
namespace Ld
open Ax
open S11.Idt (Str isId isName ids)
open S2 (Rd lft)
open S2.Cd (St)
attribute [local go_sem] S2.B_size S2.B_list S2.B_app S2.B_take litE litAct
theorem Rd_al {T : TypeId} {w : World} {g : Nat} {s : St} (h : Rd T w g s) (o : Obj) : Rd T (w.alloc o) g s := (heap_alloc_old w o (S2.blk_lt h)).trans h
theorem grown_row {a w : World} {row : Option Nat} (h : a.grownBy w row) (g : Nat) (cs : Array Value) (hg : a.heap.size ≤ g) : a.grownBy (w.setRow g cs) row :=
  ⟨h.os, h.tape, h.output, Nat.le_trans h.size (by simp [World.setRow]), fun i hi hne => (setRow_other w g i _ (by omega)).trans (h.block i hi hne)⟩
theorem grown_below {a w w' : World} {row : Option Nat} {B : Nat} (h : a.grownBy w row) (hb : Below B w w') (hB : a.heap.size ≤ B) : a.grownBy w' row :=
  ⟨hb.os.trans h.os, hb.tape.trans h.tape, hb.output.trans h.output, Nat.le_trans h.size hb.size, fun i hi hne => (hb.block i (by omega)).trans (h.block i hi hne)⟩
theorem _root_.Go.Proofs.YtojbicpchjiplaaGreatDoor.Ax.OwnW.by {w w' : World} {base g : Nat} {v : Value} {l : List Wr} (h : OwnW w base v l) (hg : w.grownBy w' (some g)) (hlt : g < base) : OwnW w' base v l :=
  ⟨h.own.kept hg (by
    cases hv : v.ownBlock with
    | none => exact .inl rfl
    | some k => exact .inr (by have := (h.own.lt k hv).1; simp; omega)), Nat.le_trans h.le hg.size⟩
theorem _root_.Go.Proofs.YtojbicpchjiplaaGreatDoor.Ax.OwnW.low {w : World} {base b : Nat} {v : Value} {l : List Wr} (h : OwnW w base v l) (hb : b ≤ base) : OwnW w b v l := by
  refine ⟨⟨h.own.1, ?_⟩, Nat.le_trans hb h.le⟩
  rcases h.own.2 with h0 | ⟨g, cap, cur, h1, h2, h3⟩
  · exact .inl h0
  · exact .inr ⟨g, cap, cur, h1, Nat.le_trans hb h2, h3⟩
theorem own_by {w w' : World} {base g n : Nat} {v : Value} {xs : List Value} (h : w.ownsRow base 9 1 v n xs) (hg : w.grownBy w' (some g)) (hlt : g < base) : w'.ownsRow base 9 1 v n xs :=
  h.kept hg (by
    cases hv : v.ownBlock with
    | none => exact .inl rfl
    | some k => exact .inr (by have := (h.lt k hv).1; simp; omega))
theorem lT {s : St} (h : (lft s).length ≤ 1099511627776) : (lft (tT s).2).length ≤ 1099511627776 := Nat.le_trans (S2.lft_rest S2.Cd.codecT s) h
theorem lN {s : St} (h : (lft s).length ≤ 1099511627776) : (lft (tN s).2).length ≤ 1099511627776 := Nat.le_trans (S2.lft_rest S2.Cd.codecN s) h
theorem lL {s : St} (h : (lft s).length ≤ 1099511627776) : (lft (tL s).2).length ≤ 1099511627776 := Nat.le_trans (S2.lft_rest S2.Cd.codecTs s) h
theorem lB {s : St} (h : (lft s).length ≤ 1099511627776) : (lft (tB s).2).length ≤ 1099511627776 := lT (lT (lT h))
theorem lWs : ∀ (k : Nat) {s : St}, (lft s).length ≤ 1099511627776 → (lft (tWs k s).2).length ≤ 1099511627776
  | 0, _, h => h
  | k + 1, s, h => lWs k (s := (tW s).2) (lB (lN (lN h)))
theorem lQ {s : St} (h : (lft s).length ≤ 1099511627776) : (lft (tQ s).2).length ≤ 1099511627776 := lWs _ (lN h)
theorem rtext (g : Nat) (s : St) (w : World) (h : Rd 87 w g s) (hl : (lft s).length ≤ 1099511627776) :
    Calls Tryz.prog 33 #[.pointer (some ⟨g, 0, none⟩)] w fun x w' => x = .returned (.string (S2.B (tT s).1)) ∧ Rd 87 w' g (tT s).2 ∧ w.grownBy w' (some g) := S2.text_any g s w h hl
theorem rnum (g : Nat) (s : St) (w : World) (h : Rd 87 w g s) (hl : (lft s).length ≤ 1099511627776) :
    Calls Tryz.prog 74 #[.pointer (some ⟨g, 0, none⟩)] w fun x w' => x = .returned (.int .i64 (tN s).1) ∧ Rd 87 w' g (tN s).2 ∧ w.grownBy w' (some g) := S2.num_any g s w h hl
theorem rlist (g : Nat) (s : St) (w : World) (h : Rd 87 w g s) (hl : (lft s).length ≤ 1099511627776) :
    Calls Tryz.prog 75 #[.pointer (some ⟨g, 0, none⟩)] w fun x w' => ∃ A n c, x = .returned (.slice A n c) ∧ w'.ownsRow w.heap.size 9 1 (.slice A n c) n (S2.Ss (tL s).1) ∧ n = (tL s).1.length ∧ Rd 87 w' g (tL s).2 ∧ w.grownBy w' (some g) :=
  (S2.list_any g s w h hl).mono fun x w' ⟨A, c, h1, h2, h3, h4⟩ => ⟨A, _, c, h1, h2, by simp [tL], h3, h4⟩
theorem infoBx (a b c : Value) : (Tryz.prog.info? 24).map (·.size) = some (#[a, b, c] : Array Value).size := by kernel_rfl
set_option maxHeartbeats 4000000 in
set_option maxRecDepth 100000 in
theorem takeBox_any (g : Nat) (s : St) (w : World) (h : Rd 87 w g s) (hl : (lft s).length ≤ 1099511627776) :
    Calls Tryz.prog 76 #[.pointer (some ⟨g, 0, none⟩)] w fun x w' => x = .returned (.agg #[.string (S2.B (tB s).1.nonce), .string (S2.B (tB s).1.data), .string (S2.B (tB s).1.tag)]) ∧ Rd 87 w' g (tB s).2 ∧ w.grownBy w' (some g) := by
  have K1 := fun w h => rtext g s w h hl
  have K2 := fun w h => rtext g (tT s).2 w h (lT hl)
  have K3 := fun w h => rtext g (tT (tT s).2).2 w h (lT (lT hl))
  rw [show (tB s).2 = (tT (tT (tT s).2).2).2 from rfl, show (tB s).1.nonce = (tT s).1 from rfl, show (tB s).1.data = (tT (tT s).2).1 from rfl, show (tB s).1.tag = (tT (tT (tT s).2).2).1 from rfl]
  generalize (tT s).1 = x1 at *
  generalize (tT s).2 = s1 at *
  generalize (tT s1).1 = x2 at *
  generalize (tT s1).2 = s2 at *
  generalize (tT s2).1 = x3 at *
  generalize (tT s2).2 = s3 at *
  replace K1 := Lib.hid K1
  replace K2 := Lib.hid K2
  replace K3 := Lib.hid K3
  have NZ := Lib.hid (show some w.heap.size ≠ some g from fun e => by have := S2.blk_lt h; simp at e; omega)
  have D := Lib.hid (Rd_al h (.cells #[.string (S2.B []), .string (S2.B []), .string (S2.B [])] 24))
  have Z := Lib.hid (Lk.Bl.new w [.string (S2.B []), .string (S2.B []), .string (S2.B [])] 24)
  have GR := Lib.hid (S2.grown_alloc (World.grownBy.refl w (some g)) (.cells #[.string (S2.B []), .string (S2.B []), .string (S2.B [])] 24))
  clear h hl
  go_enter Tryz.func76, Tryz.ntmps76
  go_wp2_with fail
  generalize w.alloc (.cells #[.string (S2.B []), .string (S2.B []), .string (S2.B [])] 24) = w0 at *
  refine (K1.out _ D.out).mono ?_
  rintro e w1 ⟨rfl, hd, hg⟩
  replace D := Lib.hid hd
  replace GR := Lib.hid (S2.grown_trans GR.out hg)
  replace Z := Lib.hid (Bl_grown Z.out hg NZ.out)
  clear hd hg
  go_wp2_with fail
  refine (K2.out _ D.out).mono ?_
  rintro e w2 ⟨rfl, hd, hg⟩
  replace D := Lib.hid hd
  replace GR := Lib.hid (S2.grown_trans GR.out hg)
  replace Z := Lib.hid (Bl_grown Z.out hg NZ.out)
  clear hd hg
  go_wp2_with fail
  refine (K3.out _ D.out).mono ?_
  rintro e w3 ⟨rfl, hd, hg⟩
  replace D := Lib.hid hd
  replace GR := Lib.hid (S2.grown_trans GR.out hg)
  replace Z := Lib.hid (Bl_grown Z.out hg NZ.out)
  clear hd hg
  go_wp2_with (refine wpList_store_row rfl 24 _ _ rfl w.heap.size _ rfl rfl 24 _ Z.out.row (infoBx _ _ _) rfl (by simp [Value.oneCell']) ?_)
  exact bodyPost_ret (v := .agg #[.string (S2.B x1), .string (S2.B x2), .string (S2.B x3)]) (results_cell_row Tryz.results76 _ _ w.heap.size 24 _ (0, 0) _ rfl (setRow_heap _ _ _ _ _ _ Z.out.row) Tryz.underlying24 rfl (infoBx _ _ _)) rfl
    ⟨rfl, (setRow_other _ _ _ _ (fun e => NZ.out (by rw [e]))).trans D.out, grown_row GR.out _ _ (Nat.le_refl _)⟩
set_option maxHeartbeats 4000000 in
set_option maxRecDepth 100000 in
theorem takeWraps_le (g : Nat) (s : St) (w : World) (h : Rd 87 w g s) (hl : (lft s).length ≤ 1099511627776) (hm : S2.Cd.val 0 (s.bind S2.Cd.decN) ≤ 65) :
    Calls Tryz.prog 77 #[.pointer (some ⟨g, 0, none⟩)] w fun x w' => ∃ Q n c, x = .returned (.slice Q n c) ∧ OwnW w' w.heap.size (.slice Q n c) (tQ s).1 ∧ Rd 87 w' g (tQ s).2 ∧ w.grownBy w' (some g) := by
  have hgw := S2.blk_lt h
  have K0 := fun w h => rnum g s w h hl
  obtain ⟨n, hn⟩ : ∃ n : Nat, n = S2.Cd.val 0 (s.bind S2.Cd.decN) := ⟨_, rfl⟩
  rw [← hn] at hm
  have hq : tQ s = tWs n (tN s).2 := by
    unfold tQ
    rw [← hn, Nat.min_eq_left (by omega)]
    rfl
  rw [show (tN s).1 = (n : Int) by rw [hn]; rfl] at K0
  have hl1 := lN hl
  obtain ⟨s1, hs1⟩ : ∃ x, x = (tN s).2 := ⟨_, rfl⟩
  rw [← hs1] at K0 hq hl1
  have hmI : (n : Int) ≤ 65 := by omega
  replace K0 := Lib.hid K0
  have HQ := Lib.hid hq
  have HL1 := Lib.hid hl1
  have D := Lib.hid h
  have HG := Lib.hid hgw
  clear h hl hn hq hs1 hl1 hgw 
  go_enter Tryz.func77, Tryz.ntmps77
  go_wp2_with fail
  refine (K0.out _ D.out).mono ?_
  rintro e w1 ⟨rfl, hd, hg⟩
  replace D := Lib.hid hd
  have GR := Lib.hid hg
  have LE := Lib.hid hg.size
  clear hd hg K0
  go_wp2_with fail
  go_loopw [3, 7] (fun sl i wr => ∃ (k : Nat) (acc : List Wr) (st : St), i = .int .i64 (k : Int) ∧ k ≤ n ∧ acc.length = k ∧ tQ s = (acc ++ (tWs (n - k) st).1, (tWs (n - k) st).2) ∧ OwnW wr w1.heap.size sl acc ∧ Rd 87 wr g st ∧ w1.grownBy wr (some g) ∧ (lft st).length ≤ 1099511627776) (fun _ i _ => n - (intOf i).toNat)
  case atStart => exact ⟨0, [], s1, rfl, Nat.zero_le _, rfl, HQ.out, OwnW.nil w1, D.out, World.grownBy.refl _ _, HL1.out⟩
  case round =>
    obtain ⟨k, acc, st, rfl, hk, hac, hq, ho, hd, hg, hl⟩ := hrel
    have HK := Lib.hid hk
    have HAC := Lib.hid hac
    have HQ2 := Lib.hid hq
    have D2 := Lib.hid hd
    have G2 := Lib.hid hg
    have HL2 := Lib.hid hl
    obtain ⟨A3, n3, c3, rfl, hn3, hc3⟩ := ho.sl3
    have OW := Lib.hid ho
    have LB := Lib.hid (show g < w1.heap.size by have := HG.out; have := LE.out; omega)
    clear hk hac hq ho hd hg hl hn3 hc3 HQ HL1
    by_cases hc : k < n
    · have hcI : (k : Int) < (n : Int) := by omega
      have hkI : (k : Int) ≤ 65 := by omega
      have hnx : tWs (n - k) st = ((tW st).1 :: (tWs (n - (k + 1)) (tW st).2).1, (tWs (n - (k + 1)) (tW st).2).2) := by
        rw [show n - k = (n - (k + 1)) + 1 by omega]
        rfl
      have K1 := fun w h => rnum g st w h HL2.out
      have K2 := fun w h => rnum g (tN st).2 w h (lN HL2.out)
      have K3 := fun w h => takeBox_any g (tN (tN st).2).2 w h (lN (lN HL2.out))
      have hl4 : (lft (tW st).2).length ≤ 1099511627776 := lB (lN (lN HL2.out))
      have hw : tW st = (⟨(tN st).1, (tN (tN st).2).1, (tB (tN (tN st).2).2).1⟩, (tB (tN (tN st).2).2).2) := rfl
      obtain ⟨y1, hy1⟩ : ∃ x, x = (tN st).1 := ⟨_, rfl⟩
      obtain ⟨z1, hz1⟩ : ∃ x, x = (tN st).2 := ⟨_, rfl⟩
      rw [← hy1, ← hz1] at hw
      rw [← hz1] at K2 K3
      rw [← hy1, ← hz1] at K1
      obtain ⟨y2, hy2⟩ : ∃ x, x = (tN z1).1 := ⟨_, rfl⟩
      obtain ⟨z2, hz2⟩ : ∃ x, x = (tN z1).2 := ⟨_, rfl⟩
      rw [← hy2, ← hz2] at hw
      rw [← hz2] at K3
      rw [← hy2, ← hz2] at K2
      obtain ⟨⟨b1, b2, b3⟩, hb⟩ : ∃ x, x = (tB z2).1 := ⟨_, rfl⟩
      obtain ⟨z3, hz3⟩ : ∃ x, x = (tB z2).2 := ⟨_, rfl⟩
      rw [← hb, ← hz3] at hw
      rw [← hb, ← hz3] at K3
      simp only at K3
      rw [hw] at hnx hl4
      simp only at hnx hl4
      have HQ3 := Lib.hid (show tQ s = ((acc ++ [⟨y1, y2, ⟨b1, b2, b3⟩⟩]) ++ (tWs (n - (k + 1)) z3).1, (tWs (n - (k + 1)) z3).2) by rw [HQ2.out, hnx]; simp)
      have HL4 := Lib.hid hl4
      replace K1 := Lib.hid K1
      replace K2 := Lib.hid K2
      replace K3 := Lib.hid K3
      clear hnx hl4 hw hy1 hz1 hy2 hz2 hb hz3 HQ2 HL2
      go_wp2_with fail
      refine (K1.out _ D2.out).mono ?_
      rintro e v1 ⟨rfl, hd, hg⟩
      replace D2 := Lib.hid hd
      replace G2 := Lib.hid (S2.grown_trans G2.out hg)
      replace OW := Lib.hid (OW.out.by hg LB.out)
      clear hd hg K1
      go_wp2_with fail
      refine (K2.out _ D2.out).mono ?_
      rintro e v2 ⟨rfl, hd, hg⟩
      replace D2 := Lib.hid hd
      replace G2 := Lib.hid (S2.grown_trans G2.out hg)
      replace OW := Lib.hid (OW.out.by hg LB.out)
      clear hd hg K2
      go_wp2_with fail
      refine (K3.out _ D2.out).mono ?_
      rintro e v3 ⟨rfl, hd, hg⟩
      replace D2 := Lib.hid hd
      replace G2 := Lib.hid (S2.grown_trans G2.out hg)
      replace OW := Lib.hid (OW.out.by hg LB.out)
      clear hd hg K3
      have OL := Lib.hid (OwnW.lit v3 [⟨y1, y2, ⟨b1, b2, b3⟩⟩] (by simp))
      have OA := Lib.hid (show OwnW (v3.alloc (.cells #[.int .i64 y1, .int .i64 y2, .string (S2.B b1), .string (S2.B b2), .string (S2.B b3)] 50)) w1.heap.size (.slice A3 n3 c3) acc from OW.out.step ((Below.refl _ _).alloc (Nat.le_refl _) _))
      have SR := Lib.hid (show S2.Row (v3.alloc (.cells #[.int .i64 y1, .int .i64 y2, .string (S2.B b1), .string (S2.B b2), .string (S2.B b3)] 50)) (v3.alloc (.cells #[.int .i64 y1, .int .i64 y2, .string (S2.B b1), .string (S2.B b2), .string (S2.B b3)] 50)).heap.size (some ⟨v3.heap.size, 0, none⟩) (Ws [⟨y1, y2, ⟨b1, b2, b3⟩⟩]) from OL.out.row)
      have DA := Lib.hid (Rd_al D2.out (.cells #[.int .i64 y1, .int .i64 y2, .string (S2.B b1), .string (S2.B b2), .string (S2.B b3)] 50))
      have GA := Lib.hid (S2.grown_alloc G2.out (.cells #[.int .i64 y1, .int .i64 y2, .string (S2.B b1), .string (S2.B b2), .string (S2.B b3)] 50))
      have HN1 := Lib.hid (show acc.length + ([⟨y1, y2, ⟨b1, b2, b3⟩⟩] : List Wr).length ≤ 100000 by have := HAC.out; simp; omega)
      clear OL OW D2 G2
      go_wp2_with (first | (at_builtin; refine wpList_appW rfl _ _ rfl OA.out SR.out rfl rfl rfl HN1.out ?_; intro v' w4 ho hb) | fail)
      obtain ⟨A4, n4, c4, rfl, hn4, hc4⟩ := ho.sl3
      have HO := Lib.hid ho
      have HD := Lib.hid (show Rd 87 w4 g z3 from (hb.block g LB.out).trans DA.out)
      have HGR := Lib.hid (grown_below GA.out hb (Nat.le_refl _))
      clear ho hb hn4 hc4 OA SR DA GA HN1
      go_roundw
      case rel => exact ⟨k + 1, _, z3, by go_num, by omega, by simp [HAC.out], HQ3.out, HO.out, HD.out, HGR.out, HL4.out⟩
      case measure => simp [intOf]; omega
    · have hcI : ¬ (k : Int) < (n : Int) := by omega
      have hk2 : n - k = 0 := by omega
      have HF := Lib.hid (show tQ s = (acc, st) by rw [HQ2.out, hk2]; simp [tWs])
      clear hk2 HQ2
      go_wp2
      go_ret
      refine ⟨A3, n3, c3, rfl, ?_, ?_, S2.grown_trans GR.out ?_⟩
      · rw [HF.out]; exact OW.out.low LE.out
      · rw [HF.out]; exact D2.out
      · exact G2.out
set_option maxHeartbeats 4000000 in
set_option maxRecDepth 100000 in
theorem takeWraps_gt (g : Nat) (s : St) (w : World) (h : Rd 87 w g s) (hl : (lft s).length ≤ 1099511627776) (hm : 65 < S2.Cd.val 0 (s.bind S2.Cd.decN)) :
    Calls Tryz.prog 77 #[.pointer (some ⟨g, 0, none⟩)] w fun x w' => ∃ Q n c, x = .returned (.slice Q n c) ∧ OwnW w' w.heap.size (.slice Q n c) (tQ s).1 ∧ Rd 87 w' g (tQ s).2 ∧ w.grownBy w' (some g) := by
  have hgw := S2.blk_lt h
  have K0 := fun w h => rnum g s w h hl
  obtain ⟨n, hn⟩ : ∃ n : Nat, n = S2.Cd.val 0 (s.bind S2.Cd.decN) := ⟨_, rfl⟩
  rw [← hn] at hm
  have hq : tQ s = tWs 65 (tN s).2 := by
    unfold tQ
    rw [← hn, Nat.min_eq_right (by omega)]
    rfl
  rw [show (tN s).1 = (n : Int) by rw [hn]; rfl] at K0
  have hl1 := lN hl
  obtain ⟨s1, hs1⟩ : ∃ x, x = (tN s).2 := ⟨_, rfl⟩
  rw [← hs1] at K0 hq hl1
  have hmI : 65 < (n : Int) := by omega
  replace K0 := Lib.hid K0
  have HQ := Lib.hid hq
  have HL1 := Lib.hid hl1
  have D := Lib.hid h
  have HG := Lib.hid hgw
  clear h hl hn hq hs1 hl1 hgw 
  go_enter Tryz.func77, Tryz.ntmps77
  go_wp2_with fail
  refine (K0.out _ D.out).mono ?_
  rintro e w1 ⟨rfl, hd, hg⟩
  replace D := Lib.hid hd
  have GR := Lib.hid hg
  have LE := Lib.hid hg.size
  clear hd hg K0
  go_wp2_with fail
  go_loopw [3, 7] (fun sl i wr => ∃ (k : Nat) (acc : List Wr) (st : St), i = .int .i64 (k : Int) ∧ k ≤ 65 ∧ acc.length = k ∧ tQ s = (acc ++ (tWs (65 - k) st).1, (tWs (65 - k) st).2) ∧ OwnW wr w1.heap.size sl acc ∧ Rd 87 wr g st ∧ w1.grownBy wr (some g) ∧ (lft st).length ≤ 1099511627776) (fun _ i _ => 65 - (intOf i).toNat)
  case atStart => exact ⟨0, [], s1, rfl, Nat.zero_le _, rfl, HQ.out, OwnW.nil w1, D.out, World.grownBy.refl _ _, HL1.out⟩
  case round =>
    obtain ⟨k, acc, st, rfl, hk, hac, hq, ho, hd, hg, hl⟩ := hrel
    have HK := Lib.hid hk
    have HAC := Lib.hid hac
    have HQ2 := Lib.hid hq
    have D2 := Lib.hid hd
    have G2 := Lib.hid hg
    have HL2 := Lib.hid hl
    obtain ⟨A3, n3, c3, rfl, hn3, hc3⟩ := ho.sl3
    have OW := Lib.hid ho
    have LB := Lib.hid (show g < w1.heap.size by have := HG.out; have := LE.out; omega)
    clear hk hac hq ho hd hg hl hn3 hc3 HQ HL1
    by_cases hc : k < 65
    · have hcI : (k : Int) < 65 := by omega
      have hkI : (k : Int) ≤ 65 := by omega
      have hnx : tWs (65 - k) st = ((tW st).1 :: (tWs (65 - (k + 1)) (tW st).2).1, (tWs (65 - (k + 1)) (tW st).2).2) := by
        rw [show 65 - k = (65 - (k + 1)) + 1 by omega]
        rfl
      have K1 := fun w h => rnum g st w h HL2.out
      have K2 := fun w h => rnum g (tN st).2 w h (lN HL2.out)
      have K3 := fun w h => takeBox_any g (tN (tN st).2).2 w h (lN (lN HL2.out))
      have hl4 : (lft (tW st).2).length ≤ 1099511627776 := lB (lN (lN HL2.out))
      have hw : tW st = (⟨(tN st).1, (tN (tN st).2).1, (tB (tN (tN st).2).2).1⟩, (tB (tN (tN st).2).2).2) := rfl
      obtain ⟨y1, hy1⟩ : ∃ x, x = (tN st).1 := ⟨_, rfl⟩
      obtain ⟨z1, hz1⟩ : ∃ x, x = (tN st).2 := ⟨_, rfl⟩
      rw [← hy1, ← hz1] at hw
      rw [← hz1] at K2 K3
      rw [← hy1, ← hz1] at K1
      obtain ⟨y2, hy2⟩ : ∃ x, x = (tN z1).1 := ⟨_, rfl⟩
      obtain ⟨z2, hz2⟩ : ∃ x, x = (tN z1).2 := ⟨_, rfl⟩
      rw [← hy2, ← hz2] at hw
      rw [← hz2] at K3
      rw [← hy2, ← hz2] at K2
      obtain ⟨⟨b1, b2, b3⟩, hb⟩ : ∃ x, x = (tB z2).1 := ⟨_, rfl⟩
      obtain ⟨z3, hz3⟩ : ∃ x, x = (tB z2).2 := ⟨_, rfl⟩
      rw [← hb, ← hz3] at hw
      rw [← hb, ← hz3] at K3
      simp only at K3
      rw [hw] at hnx hl4
      simp only at hnx hl4
      have HQ3 := Lib.hid (show tQ s = ((acc ++ [⟨y1, y2, ⟨b1, b2, b3⟩⟩]) ++ (tWs (65 - (k + 1)) z3).1, (tWs (65 - (k + 1)) z3).2) by rw [HQ2.out, hnx]; simp)
      have HL4 := Lib.hid hl4
      replace K1 := Lib.hid K1
      replace K2 := Lib.hid K2
      replace K3 := Lib.hid K3
      clear hnx hl4 hw hy1 hz1 hy2 hz2 hb hz3 HQ2 HL2
      go_wp2_with fail
      refine (K1.out _ D2.out).mono ?_
      rintro e v1 ⟨rfl, hd, hg⟩
      replace D2 := Lib.hid hd
      replace G2 := Lib.hid (S2.grown_trans G2.out hg)
      replace OW := Lib.hid (OW.out.by hg LB.out)
      clear hd hg K1
      go_wp2_with fail
      refine (K2.out _ D2.out).mono ?_
      rintro e v2 ⟨rfl, hd, hg⟩
      replace D2 := Lib.hid hd
      replace G2 := Lib.hid (S2.grown_trans G2.out hg)
      replace OW := Lib.hid (OW.out.by hg LB.out)
      clear hd hg K2
      go_wp2_with fail
      refine (K3.out _ D2.out).mono ?_
      rintro e v3 ⟨rfl, hd, hg⟩
      replace D2 := Lib.hid hd
      replace G2 := Lib.hid (S2.grown_trans G2.out hg)
      replace OW := Lib.hid (OW.out.by hg LB.out)
      clear hd hg K3
      have OL := Lib.hid (OwnW.lit v3 [⟨y1, y2, ⟨b1, b2, b3⟩⟩] (by simp))
      have OA := Lib.hid (show OwnW (v3.alloc (.cells #[.int .i64 y1, .int .i64 y2, .string (S2.B b1), .string (S2.B b2), .string (S2.B b3)] 50)) w1.heap.size (.slice A3 n3 c3) acc from OW.out.step ((Below.refl _ _).alloc (Nat.le_refl _) _))
      have SR := Lib.hid (show S2.Row (v3.alloc (.cells #[.int .i64 y1, .int .i64 y2, .string (S2.B b1), .string (S2.B b2), .string (S2.B b3)] 50)) (v3.alloc (.cells #[.int .i64 y1, .int .i64 y2, .string (S2.B b1), .string (S2.B b2), .string (S2.B b3)] 50)).heap.size (some ⟨v3.heap.size, 0, none⟩) (Ws [⟨y1, y2, ⟨b1, b2, b3⟩⟩]) from OL.out.row)
      have DA := Lib.hid (Rd_al D2.out (.cells #[.int .i64 y1, .int .i64 y2, .string (S2.B b1), .string (S2.B b2), .string (S2.B b3)] 50))
      have GA := Lib.hid (S2.grown_alloc G2.out (.cells #[.int .i64 y1, .int .i64 y2, .string (S2.B b1), .string (S2.B b2), .string (S2.B b3)] 50))
      have HN1 := Lib.hid (show acc.length + ([⟨y1, y2, ⟨b1, b2, b3⟩⟩] : List Wr).length ≤ 100000 by have := HAC.out; simp; omega)
      clear OL OW D2 G2
      go_wp2_with (first | (at_builtin; refine wpList_appW rfl _ _ rfl OA.out SR.out rfl rfl rfl HN1.out ?_; intro v' w4 ho hb) | fail)
      obtain ⟨A4, n4, c4, rfl, hn4, hc4⟩ := ho.sl3
      have HO := Lib.hid ho
      have HD := Lib.hid (show Rd 87 w4 g z3 from (hb.block g LB.out).trans DA.out)
      have HGR := Lib.hid (grown_below GA.out hb (Nat.le_refl _))
      clear ho hb hn4 hc4 OA SR DA GA HN1
      go_roundw
      case rel => exact ⟨k + 1, _, z3, by go_num, by omega, by simp [HAC.out], HQ3.out, HO.out, HD.out, HGR.out, HL4.out⟩
      case measure => simp [intOf]; omega
    · have hcI : ¬ (k : Int) < 65 := by omega
      have hk2 : 65 - k = 0 := by omega
      have HF := Lib.hid (show tQ s = (acc, st) by rw [HQ2.out, hk2]; simp [tWs])
      clear hk2 HQ2
      go_wp2
      go_ret
      refine ⟨A3, n3, c3, rfl, ?_, ?_, S2.grown_trans GR.out ?_⟩
      · rw [HF.out]; exact OW.out.low LE.out
      · rw [HF.out]; exact D2.out
      · exact G2.out
theorem takeWraps_any (g : Nat) (s : St) (w : World) (h : Rd 87 w g s) (hl : (lft s).length ≤ 1099511627776) :
    Calls Tryz.prog 77 #[.pointer (some ⟨g, 0, none⟩)] w fun x w' => ∃ Q n c, x = .returned (.slice Q n c) ∧ OwnW w' w.heap.size (.slice Q n c) (tQ s).1 ∧ Rd 87 w' g (tQ s).2 ∧ w.grownBy w' (some g) := by
  by_cases hm : S2.Cd.val 0 (s.bind S2.Cd.decN) ≤ 65
  · exact takeWraps_le g s w h hl hm
  · exact takeWraps_gt g s w h hl (by omega)
set_option maxHeartbeats 4000000 in
set_option maxRecDepth 100000 in
theorem takeAct_any (g : Nat) (s0 : St) (w : World) (h : Rd 87 w g s0) (hl0 : (lft s0).length ≤ 1099511627776) :
    Calls Tryz.prog 34 #[.pointer (some ⟨g, 0, none⟩)] w fun x w' => ∃ A nA cA Q nQ cQ, x = .returned (.agg (cellsA (tA s0).1.1 (tA s0).1.2.1 (tA s0).1.2.2 A nA cA Q nQ cQ).toArray) ∧ Ap w' w'.heap.size (tA s0).1.1 A nA cA Q nQ cQ ∧ Rd 87 w' g (tA s0).2 ∧ w.grownBy w' (some g) ∧ (∀ a, A = some a → w.heap.size ≤ a.block) ∧ (∀ a, Q = some a → w.heap.size ≤ a.block) := by
  have NZ := Lib.hid (show some w.heap.size ≠ some g from fun e => by have := S2.blk_lt h; simp at e; omega)
  have HG := Lib.hid (S2.blk_lt h)
  have D := Lib.hid (Rd_al h (.cells #[.string (S2.B []), .int .i64 0, .string (S2.B []), .int .i64 0, .int .i64 0, .string (S2.B []), .string (S2.B []), .int .i64 0, .string (S2.B []), .slice none 0 0, .string (S2.B []), .string (S2.B []), .string (S2.B []), .string (S2.B []), .int .i64 0, .slice none 0 0, .int .i64 0, .int .i64 0, .int .i64 0, .int .i64 0] 29))
  have Z := Lib.hid (Lk.Bl.new w [.string (S2.B []), .int .i64 0, .string (S2.B []), .int .i64 0, .int .i64 0, .string (S2.B []), .string (S2.B []), .int .i64 0, .string (S2.B []), .slice none 0 0, .string (S2.B []), .string (S2.B []), .string (S2.B []), .string (S2.B []), .int .i64 0, .slice none 0 0, .int .i64 0, .int .i64 0, .int .i64 0, .int .i64 0] 29)
  have GR := Lib.hid (S2.grown_alloc (World.grownBy.refl w (some g)) (.cells #[.string (S2.B []), .int .i64 0, .string (S2.B []), .int .i64 0, .int .i64 0, .string (S2.B []), .string (S2.B []), .int .i64 0, .string (S2.B []), .slice none 0 0, .string (S2.B []), .string (S2.B []), .string (S2.B []), .string (S2.B []), .int .i64 0, .slice none 0 0, .int .i64 0, .int .i64 0, .int .i64 0, .int .i64 0] 29))
  have K0 := fun w h => rtext g s0 w h hl0
  obtain ⟨x0, hx0⟩ : ∃ x, x = (tT s0).1 := ⟨_, rfl⟩
  obtain ⟨s1, hs1⟩ : ∃ x, x = (tT s0).2 := ⟨_, rfl⟩
  rw [← hx0, ← hs1] at K0
  have hl1 : (lft s1).length ≤ 1099511627776 := by rw [hs1]; exact lT hl0
  have K1 := fun w h => rnum g s1 w h hl1
  obtain ⟨x1, hx1⟩ : ∃ x, x = (tN s1).1 := ⟨_, rfl⟩
  obtain ⟨s2, hs2⟩ : ∃ x, x = (tN s1).2 := ⟨_, rfl⟩
  rw [← hx1, ← hs2] at K1
  have hl2 : (lft s2).length ≤ 1099511627776 := by rw [hs2]; exact lN hl1
  have K2 := fun w h => rtext g s2 w h hl2
  obtain ⟨x2, hx2⟩ : ∃ x, x = (tT s2).1 := ⟨_, rfl⟩
  obtain ⟨s3, hs3⟩ : ∃ x, x = (tT s2).2 := ⟨_, rfl⟩
  rw [← hx2, ← hs3] at K2
  have hl3 : (lft s3).length ≤ 1099511627776 := by rw [hs3]; exact lT hl2
  have K3 := fun w h => rnum g s3 w h hl3
  obtain ⟨x3, hx3⟩ : ∃ x, x = (tN s3).1 := ⟨_, rfl⟩
  obtain ⟨s4, hs4⟩ : ∃ x, x = (tN s3).2 := ⟨_, rfl⟩
  rw [← hx3, ← hs4] at K3
  have hl4 : (lft s4).length ≤ 1099511627776 := by rw [hs4]; exact lN hl3
  have K4 := fun w h => rnum g s4 w h hl4
  obtain ⟨x4, hx4⟩ : ∃ x, x = (tN s4).1 := ⟨_, rfl⟩
  obtain ⟨s5, hs5⟩ : ∃ x, x = (tN s4).2 := ⟨_, rfl⟩
  rw [← hx4, ← hs5] at K4
  have hl5 : (lft s5).length ≤ 1099511627776 := by rw [hs5]; exact lN hl4
  have K5 := fun w h => rtext g s5 w h hl5
  obtain ⟨x5, hx5⟩ : ∃ x, x = (tT s5).1 := ⟨_, rfl⟩
  obtain ⟨s6, hs6⟩ : ∃ x, x = (tT s5).2 := ⟨_, rfl⟩
  rw [← hx5, ← hs6] at K5
  have hl6 : (lft s6).length ≤ 1099511627776 := by rw [hs6]; exact lT hl5
  have K6 := fun w h => rtext g s6 w h hl6
  obtain ⟨x6, hx6⟩ : ∃ x, x = (tT s6).1 := ⟨_, rfl⟩
  obtain ⟨s7, hs7⟩ : ∃ x, x = (tT s6).2 := ⟨_, rfl⟩
  rw [← hx6, ← hs7] at K6
  have hl7 : (lft s7).length ≤ 1099511627776 := by rw [hs7]; exact lT hl6
  have K7 := fun w h => rnum g s7 w h hl7
  obtain ⟨x7, hx7⟩ : ∃ x, x = (tN s7).1 := ⟨_, rfl⟩
  obtain ⟨s8, hs8⟩ : ∃ x, x = (tN s7).2 := ⟨_, rfl⟩
  rw [← hx7, ← hs8] at K7
  have hl8 : (lft s8).length ≤ 1099511627776 := by rw [hs8]; exact lN hl7
  have K8 := fun w h => rtext g s8 w h hl8
  obtain ⟨x8, hx8⟩ : ∃ x, x = (tT s8).1 := ⟨_, rfl⟩
  obtain ⟨s9, hs9⟩ : ∃ x, x = (tT s8).2 := ⟨_, rfl⟩
  rw [← hx8, ← hs9] at K8
  have hl9 : (lft s9).length ≤ 1099511627776 := by rw [hs9]; exact lT hl8
  have K9 := fun w h => rlist g s9 w h hl9
  obtain ⟨x9, hx9⟩ : ∃ x, x = (tL s9).1 := ⟨_, rfl⟩
  obtain ⟨s10, hs10⟩ : ∃ x, x = (tL s9).2 := ⟨_, rfl⟩
  rw [← hx9, ← hs10] at K9
  have hl10 : (lft s10).length ≤ 1099511627776 := by rw [hs10]; exact lL hl9
  have K10 := fun w h => rtext g s10 w h hl10
  obtain ⟨x10, hx10⟩ : ∃ x, x = (tT s10).1 := ⟨_, rfl⟩
  obtain ⟨s11, hs11⟩ : ∃ x, x = (tT s10).2 := ⟨_, rfl⟩
  rw [← hx10, ← hs11] at K10
  have hl11 : (lft s11).length ≤ 1099511627776 := by rw [hs11]; exact lT hl10
  have K11 := fun w h => takeBox_any g s11 w h hl11
  obtain ⟨⟨x11a, x11b, x11c⟩, hx11⟩ : ∃ x, x = (tB s11).1 := ⟨_, rfl⟩
  obtain ⟨s12, hs12⟩ : ∃ x, x = (tB s11).2 := ⟨_, rfl⟩
  rw [← hx11, ← hs12] at K11
  simp only at K11
  have hl12 : (lft s12).length ≤ 1099511627776 := by rw [hs12]; exact lB hl11
  have K12 := fun w h => rnum g s12 w h hl12
  obtain ⟨x12, hx12⟩ : ∃ x, x = (tN s12).1 := ⟨_, rfl⟩
  obtain ⟨s13, hs13⟩ : ∃ x, x = (tN s12).2 := ⟨_, rfl⟩
  rw [← hx12, ← hs13] at K12
  have hl13 : (lft s13).length ≤ 1099511627776 := by rw [hs13]; exact lN hl12
  have K13 := fun w h => takeWraps_any g s13 w h hl13
  obtain ⟨x13, hx13⟩ : ∃ x, x = (tQ s13).1 := ⟨_, rfl⟩
  obtain ⟨s14, hs14⟩ : ∃ x, x = (tQ s13).2 := ⟨_, rfl⟩
  rw [← hx13, ← hs14] at K13
  have hl14 : (lft s14).length ≤ 1099511627776 := by rw [hs14]; exact lQ hl13
  have K14 := fun w h => rnum g s14 w h hl14
  obtain ⟨x14, hx14⟩ : ∃ x, x = (tN s14).1 := ⟨_, rfl⟩
  obtain ⟨s15, hs15⟩ : ∃ x, x = (tN s14).2 := ⟨_, rfl⟩
  rw [← hx14, ← hs15] at K14
  have hl15 : (lft s15).length ≤ 1099511627776 := by rw [hs15]; exact lN hl14
  have K15 := fun w h => rnum g s15 w h hl15
  obtain ⟨x15, hx15⟩ : ∃ x, x = (tN s15).1 := ⟨_, rfl⟩
  obtain ⟨s16, hs16⟩ : ∃ x, x = (tN s15).2 := ⟨_, rfl⟩
  rw [← hx15, ← hs16] at K15
  have hl16 : (lft s16).length ≤ 1099511627776 := by rw [hs16]; exact lN hl15
  have K16 := fun w h => rnum g s16 w h hl16
  obtain ⟨x16, hx16⟩ : ∃ x, x = (tN s16).1 := ⟨_, rfl⟩
  obtain ⟨s17, hs17⟩ : ∃ x, x = (tN s16).2 := ⟨_, rfl⟩
  rw [← hx16, ← hs17] at K16
  have hl17 : (lft s17).length ≤ 1099511627776 := by rw [hs17]; exact lN hl16
  have K17 := fun w h => rnum g s17 w h hl17
  obtain ⟨x17, hx17⟩ : ∃ x, x = (tN s17).1 := ⟨_, rfl⟩
  obtain ⟨s18, hs18⟩ : ∃ x, x = (tN s17).2 := ⟨_, rfl⟩
  rw [← hx17, ← hs18] at K17
  have ht : tA s0 = ((⟨x0, x1, x2, x3, x4, x5, x6, x7, x8, x9, x10, ⟨x11a, x11b, x11c⟩, x12, x13, x14, x15⟩, x16, x17), s18) := by
    unfold tA
    simp only [← hx0, ← hs1, ← hx1, ← hs2, ← hx2, ← hs3, ← hx3, ← hs4, ← hx4, ← hs5, ← hx5, ← hs6, ← hx6, ← hs7, ← hx7, ← hs8, ← hx8, ← hs9, ← hx9, ← hs10, ← hx10, ← hs11, ← hx11, ← hs12, ← hx12, ← hs13, ← hx13, ← hs14, ← hx14, ← hs15, ← hx15, ← hs16, ← hx16, ← hs17, ← hx17, ← hs18]
  rw [ht]
  clear ht hx0 hs1 hx1 hs2 hx2 hs3 hx3 hs4 hx4 hs5 hx5 hs6 hx6 hs7 hx7 hs8 hx8 hs9 hx9 hs10 hx10 hs11 hx11 hs12 hx12 hs13 hx13 hs14 hx14 hs15 hx15 hs16 hx16 hs17 hx17 hs18 h hl0 hl1 hl2 hl3 hl4 hl5 hl6 hl7 hl8 hl9 hl10 hl11 hl12 hl13 hl14 hl15 hl16 hl17
  simp only
  replace K0 := Lib.hid K0
  replace K1 := Lib.hid K1
  replace K2 := Lib.hid K2
  replace K3 := Lib.hid K3
  replace K4 := Lib.hid K4
  replace K5 := Lib.hid K5
  replace K6 := Lib.hid K6
  replace K7 := Lib.hid K7
  replace K8 := Lib.hid K8
  replace K9 := Lib.hid K9
  replace K10 := Lib.hid K10
  replace K11 := Lib.hid K11
  replace K12 := Lib.hid K12
  replace K13 := Lib.hid K13
  replace K14 := Lib.hid K14
  replace K15 := Lib.hid K15
  replace K16 := Lib.hid K16
  replace K17 := Lib.hid K17
  go_enter Tryz.func34, Tryz.ntmps34
  go_wp2_with fail
  generalize w.alloc (.cells #[.string (S2.B []), .int .i64 0, .string (S2.B []), .int .i64 0, .int .i64 0, .string (S2.B []), .string (S2.B []), .int .i64 0, .string (S2.B []), .slice none 0 0, .string (S2.B []), .string (S2.B []), .string (S2.B []), .string (S2.B []), .int .i64 0, .slice none 0 0, .int .i64 0, .int .i64 0, .int .i64 0, .int .i64 0] 29) = v0 at *
  refine (K0.out _ D.out).mono ?_
  rintro e v1 ⟨rfl, hd, hg⟩
  replace D := Lib.hid hd
  replace GR := Lib.hid (S2.grown_trans GR.out hg)
  replace Z := Lib.hid (Bl_grown Z.out hg NZ.out)
  clear hd hg K0
  go_wp2_with fail
  refine (K1.out _ D.out).mono ?_
  rintro e v2 ⟨rfl, hd, hg⟩
  replace D := Lib.hid hd
  replace GR := Lib.hid (S2.grown_trans GR.out hg)
  replace Z := Lib.hid (Bl_grown Z.out hg NZ.out)
  clear hd hg K1
  go_wp2_with fail
  refine (K2.out _ D.out).mono ?_
  rintro e v3 ⟨rfl, hd, hg⟩
  replace D := Lib.hid hd
  replace GR := Lib.hid (S2.grown_trans GR.out hg)
  replace Z := Lib.hid (Bl_grown Z.out hg NZ.out)
  clear hd hg K2
  go_wp2_with fail
  refine (K3.out _ D.out).mono ?_
  rintro e v4 ⟨rfl, hd, hg⟩
  replace D := Lib.hid hd
  replace GR := Lib.hid (S2.grown_trans GR.out hg)
  replace Z := Lib.hid (Bl_grown Z.out hg NZ.out)
  clear hd hg K3
  go_wp2_with fail
  refine (K4.out _ D.out).mono ?_
  rintro e v5 ⟨rfl, hd, hg⟩
  replace D := Lib.hid hd
  replace GR := Lib.hid (S2.grown_trans GR.out hg)
  replace Z := Lib.hid (Bl_grown Z.out hg NZ.out)
  clear hd hg K4
  go_wp2_with fail
  refine (K5.out _ D.out).mono ?_
  rintro e v6 ⟨rfl, hd, hg⟩
  replace D := Lib.hid hd
  replace GR := Lib.hid (S2.grown_trans GR.out hg)
  replace Z := Lib.hid (Bl_grown Z.out hg NZ.out)
  clear hd hg K5
  go_wp2_with fail
  refine (K6.out _ D.out).mono ?_
  rintro e v7 ⟨rfl, hd, hg⟩
  replace D := Lib.hid hd
  replace GR := Lib.hid (S2.grown_trans GR.out hg)
  replace Z := Lib.hid (Bl_grown Z.out hg NZ.out)
  clear hd hg K6
  go_wp2_with fail
  refine (K7.out _ D.out).mono ?_
  rintro e v8 ⟨rfl, hd, hg⟩
  replace D := Lib.hid hd
  replace GR := Lib.hid (S2.grown_trans GR.out hg)
  replace Z := Lib.hid (Bl_grown Z.out hg NZ.out)
  clear hd hg K7
  go_wp2_with fail
  refine (K8.out _ D.out).mono ?_
  rintro e v9 ⟨rfl, hd, hg⟩
  replace D := Lib.hid hd
  replace GR := Lib.hid (S2.grown_trans GR.out hg)
  replace Z := Lib.hid (Bl_grown Z.out hg NZ.out)
  clear hd hg K8
  go_wp2_with fail
  refine (K9.out _ D.out).mono ?_
  rintro e v10 ⟨A, nA, cA, rfl, ho, hnA, hd, hg⟩
  have LBL := Lib.hid (show g < v9.heap.size by have := HG.out; have := GR.out.size; omega)
  have LWL := Lib.hid (show w.heap.size < v9.heap.size from Z.out.lt)
  replace D := Lib.hid hd
  replace GR := Lib.hid (S2.grown_trans GR.out hg)
  replace Z := Lib.hid (Bl_grown Z.out hg NZ.out)
  have OA := Lib.hid ho
  have HNA := Lib.hid hnA
  clear ho hnA
  clear hd hg K9
  go_wp2_with fail
  refine (K10.out _ D.out).mono ?_
  rintro e v11 ⟨rfl, hd, hg⟩
  replace OA := Lib.hid (own_by OA.out hg LBL.out)
  replace D := Lib.hid hd
  replace GR := Lib.hid (S2.grown_trans GR.out hg)
  replace Z := Lib.hid (Bl_grown Z.out hg NZ.out)
  clear hd hg K10
  go_wp2_with fail
  refine (K11.out _ D.out).mono ?_
  rintro e v12 ⟨rfl, hd, hg⟩
  replace OA := Lib.hid (own_by OA.out hg LBL.out)
  replace D := Lib.hid hd
  replace GR := Lib.hid (S2.grown_trans GR.out hg)
  replace Z := Lib.hid (Bl_grown Z.out hg NZ.out)
  clear hd hg K11
  go_wp2_with fail
  refine (K12.out _ D.out).mono ?_
  rintro e v13 ⟨rfl, hd, hg⟩
  replace OA := Lib.hid (own_by OA.out hg LBL.out)
  replace D := Lib.hid hd
  replace GR := Lib.hid (S2.grown_trans GR.out hg)
  replace Z := Lib.hid (Bl_grown Z.out hg NZ.out)
  clear hd hg K12
  go_wp2_with fail
  refine (K13.out _ D.out).mono ?_
  rintro e v14 ⟨Q, nQ, cQ, rfl, ho, hd, hg⟩
  have LBQ := Lib.hid (show g < v13.heap.size by have := HG.out; have := GR.out.size; omega)
  have LWQ := Lib.hid (show w.heap.size < v13.heap.size from Z.out.lt)
  replace OA := Lib.hid (own_by OA.out hg LBL.out)
  replace D := Lib.hid hd
  replace GR := Lib.hid (S2.grown_trans GR.out hg)
  replace Z := Lib.hid (Bl_grown Z.out hg NZ.out)
  have OQ := Lib.hid ho
  clear ho
  clear hd hg K13
  go_wp2_with fail
  refine (K14.out _ D.out).mono ?_
  rintro e v15 ⟨rfl, hd, hg⟩
  replace OA := Lib.hid (own_by OA.out hg LBL.out)
  replace OQ := Lib.hid (OQ.out.by hg LBQ.out)
  replace D := Lib.hid hd
  replace GR := Lib.hid (S2.grown_trans GR.out hg)
  replace Z := Lib.hid (Bl_grown Z.out hg NZ.out)
  clear hd hg K14
  go_wp2_with fail
  refine (K15.out _ D.out).mono ?_
  rintro e v16 ⟨rfl, hd, hg⟩
  replace OA := Lib.hid (own_by OA.out hg LBL.out)
  replace OQ := Lib.hid (OQ.out.by hg LBQ.out)
  replace D := Lib.hid hd
  replace GR := Lib.hid (S2.grown_trans GR.out hg)
  replace Z := Lib.hid (Bl_grown Z.out hg NZ.out)
  clear hd hg K15
  go_wp2_with fail
  refine (K16.out _ D.out).mono ?_
  rintro e v17 ⟨rfl, hd, hg⟩
  replace OA := Lib.hid (own_by OA.out hg LBL.out)
  replace OQ := Lib.hid (OQ.out.by hg LBQ.out)
  replace D := Lib.hid hd
  replace GR := Lib.hid (S2.grown_trans GR.out hg)
  replace Z := Lib.hid (Bl_grown Z.out hg NZ.out)
  clear hd hg K16
  go_wp2_with fail
  refine (K17.out _ D.out).mono ?_
  rintro e v18 ⟨rfl, hd, hg⟩
  replace OA := Lib.hid (own_by OA.out hg LBL.out)
  replace OQ := Lib.hid (OQ.out.by hg LBQ.out)
  replace D := Lib.hid hd
  replace GR := Lib.hid (S2.grown_trans GR.out hg)
  replace Z := Lib.hid (Bl_grown Z.out hg NZ.out)
  clear hd hg K17
  obtain ⟨csN, hcsN⟩ : ∃ x, x = cellsA ⟨x0, x1, x2, x3, x4, x5, x6, x7, x8, x9, x10, ⟨x11a, x11b, x11c⟩, x12, x13, x14, x15⟩ x16 x17 A nA cA Q nQ cQ := ⟨_, rfl⟩
  have HN := Lib.hid hcsN
  have hlen : csN.length = 20 := by rw [hcsN]; rfl
  have HI := Lib.hid (show (Tryz.prog.info? 29).map (·.size) = some csN.toArray.size by rw [Lk.info20, List.size_toArray, hlen])
  have HS := Lib.hid (show (20 : Nat) = csN.toArray.size by rw [List.size_toArray, hlen])
  have HO := Lib.hid (show csN.toArray.all (·.oneCell') = true by rw [hcsN]; simp [cellsA, Value.oneCell'])
  clear hcsN hlen
  go_wp2_with (first | ((with_reducible refine Lk.bu (d := 40) csN ?_ ?_ ?_); (rw [HN.out]; kernel_rfl); exact rfl) | (refine wpList_store_row rfl 29 _ _ rfl w.heap.size csN.toArray rfl rfl 29 _ Z.out.row HI.out HS.out HO.out ?_) | fail)
  obtain ⟨_, _, _, hv, hnQ, hcQ⟩ := OQ.out.sl3
  injection hv with hv1 hv2 hv3
  subst hv1 hv2 hv3
  have hcA : nA ≤ cA := by
    rcases OA.out.2 with ⟨h1, h2⟩ | ⟨_, _, _, h1, _, _, h2, _⟩
    · injection h1; omega
    · injection h1; omega
  have hbA : ∀ a, A = some a → w.heap.size + 1 ≤ a.block := by
    rintro a rfl
    have h1 := (OA.out.lt a.block rfl).1
    have h2 := LWL.out
    omega
  have hbQ : ∀ a, Q = some a → w.heap.size + 1 ≤ a.block := by
    rintro a rfl
    have h1 := OQ.out.addr a rfl
    have h2 := LWQ.out
    omega
  have hon : Only w.heap.size v18 (v18.setRow w.heap.size csN.toArray) := ⟨by simp [World.setRow], fun k hk => setRow_other v18 w.heap.size k _ hk⟩
  have hle : v18.heap.size ≤ (v18.setRow w.heap.size csN.toArray).heap.size := by rw [hon.size]; exact Nat.le_refl _
  exact bodyPost_ret (v := .agg csN.toArray) (results_cell_row Tryz.results34 _ _ w.heap.size 29 _ (0, 0) _ rfl (setRow_heap _ _ _ _ _ _ Z.out.row) Tryz.underlying29 rfl HI.out) rfl
    ⟨A, nA, cA, Q, nQ, cQ, by rw [HN.out], ⟨HNA.out, hcA, (row_only (S2.Row.of_own OA.out) hon hbA (Nat.lt_succ_self _)).more hle, hnQ, hcQ, (row_only OQ.out.row hon hbQ (Nat.lt_succ_self _)).more hle, Nat.le_refl _⟩,
      (setRow_other _ _ _ _ (fun e => NZ.out (by rw [e]))).trans D.out, grown_row GR.out _ _ (Nat.le_refl _), fun a e => Nat.le_of_succ_le (hbA a e), fun a e => Nat.le_of_succ_le (hbQ a e)⟩
end Ld
end Go.Proofs.YtojbicpchjiplaaGreatDoor
