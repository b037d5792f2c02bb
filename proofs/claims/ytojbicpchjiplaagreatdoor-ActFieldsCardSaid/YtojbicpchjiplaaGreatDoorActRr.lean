/-
  Layer 12: the landed Read.
-/
import Derived.Test.YtojbicpchjiplaaGreatDoorActRd
namespace Go.Proofs.YtojbicpchjiplaaGreatDoor
open Go.RowKit
namespace Ld
open Ax
open S11.Idt (Str isId isName ids)
open S2 (Rd lft)
open S2.Cd (St)
attribute [local go_sem] S2.B_size S2.B_list S2.B_app S2.B_take litE litAct
theorem results_row_tmp {P : Program} {fn : Func} {p u : Tmp} {ty : TypeId} (h : fn.results = #[.cell p ty, .tmp u]) (tmps : Array Value) (w : World) (g : Nat) (t : TypeId) (cs : Array Value) (fr : Nat × Nat) (d : TypeDesc)
    (hp : tmps.getD p undef = .pointer (some ⟨g, 0, none⟩)) (hg : w.heap[g]? = some (.cells cs t fr))
    (hu : P.underlying ty = some d) (hd : (match d with | .struct _ | .array _ _ => true | _ => false) = true) (hi : (P.info? ty).map (·.size) = some cs.size) :
    (results fn tmps).run P w = .ok (.tuple #[.agg cs, tmps.getD u undef]) w := by
  rw [results_cell_tmp h, hp]
  simp [asAddr, run_loadVar_row w g t ty cs fr d hg hu hd hi]
theorem below_by {B : Nat} {W w w' : World} {g : Nat} (h : Below B W w) (hg : w.grownBy w' (some g)) (hB : B ≤ g) (hs : B ≤ w.heap.size) : Below B W w' :=
  h.trans ⟨hg.os, hg.tape, hg.output, hg.size, fun k hk => hg.block k (by omega) (by simp; omega)⟩
theorem below_row {b : Nat} {W w : World} (h : Below b W w) (g : Nat) (hg : b ≤ g) (cs : Array Value) : Below b W (w.setRow g cs) :=
  h.trans ⟨rfl, rfl, rfl, by simp [World.setRow], fun k hk => setRow_other _ _ _ _ (by omega)⟩
set_option maxHeartbeats 4000000 in
set_option maxRecDepth 100000 in
theorem read_closed (t : Str) (w : World) (ht : t.length ≤ 1000000) (HO : ((tT (some t)).1 == [97, 99, 116]) = false) :
    Calls Tryz.prog 11 #[.string (S2.B t)] w (GivesT ac0 0 0 false w) := by
  have hlt : (lft (some t)).length ≤ 1099511627776 := by show t.length ≤ _; omega
  have K1 := fun w g h => rtext g (some t) w h hlt
  have hl1 := lT hlt
  have hz := A_sz (tT (some t)).2 (N := 1000000) (by have := (T_le (some t)).2; have e : (lft (some t)).length = t.length := rfl; omega) (by decide)
  have K2 := fun w g h => takeAct_any g (tT (some t)).2 w h hl1
  have HA : True := trivial
  obtain ⟨x1, hx1⟩ : ∃ x, x = (tT (some t)).1 := ⟨_, rfl⟩
  obtain ⟨s1, hs1⟩ : ∃ x, x = (tT (some t)).2 := ⟨_, rfl⟩
  rw [← hx1, ← hs1] at K1
  rw [← hs1] at K2 hz
  obtain ⟨⟨⟨a', e', g'⟩, sE⟩, hA⟩ : ∃ x, x = tA s1 := ⟨_, rfl⟩
  rw [← hA] at K2 hz
  simp only at K2 hz
  have hb1 : (x1 == [97, 99, 116]) = false := by rw [hx1]; exact HO
  replace K1 := Lib.hid K1
  replace K2 := Lib.hid K2
  clear hlt hl1 hz HA HO hx1 hs1 hA ht
  obtain ⟨zc, hzc⟩ : ∃ x, x = Lk.zc := ⟨_, rfl⟩
  have HZC := Lib.hid hzc
  clear hzc
  have T := Lib.hid ((Lk.At.start w).alloc (.cells #[.string (S2.B []), .int .i64 0, .string (S2.B []), .int .i64 0, .int .i64 0, .string (S2.B []), .string (S2.B []), .int .i64 0, .string (S2.B []), .slice none 0 0, .string (S2.B []), .string (S2.B []), .string (S2.B []), .string (S2.B []), .int .i64 0, .slice none 0 0, .int .i64 0, .int .i64 0, .int .i64 0, .int .i64 0] 29))
  have Z := Lib.hid (Lk.Bl.new w [.string (S2.B []), .int .i64 0, .string (S2.B []), .int .i64 0, .int .i64 0, .string (S2.B []), .string (S2.B []), .int .i64 0, .string (S2.B []), .slice none 0 0, .string (S2.B []), .string (S2.B []), .string (S2.B []), .string (S2.B []), .int .i64 0, .slice none 0 0, .int .i64 0, .int .i64 0, .int .i64 0, .int .i64 0] 29)
  go_enter Tryz.func11, Tryz.ntmps11
  go_wp2_with fail
  generalize w.alloc (.cells #[.string (S2.B []), .int .i64 0, .string (S2.B []), .int .i64 0, .int .i64 0, .string (S2.B []), .string (S2.B []), .int .i64 0, .string (S2.B []), .slice none 0 0, .string (S2.B []), .string (S2.B []), .string (S2.B []), .string (S2.B []), .int .i64 0, .slice none 0 0, .int .i64 0, .int .i64 0, .int .i64 0, .int .i64 0] 29) = w0 at *
  refine (S2.open_any t w0).mono ?_
  rintro e w1 ⟨rfl, rfl⟩
  have D := Lib.hid (show Rd 87 (w0.alloc (.cells (S2.rc (some t)) 87)) w0.heap.size (some t) from heap_alloc_new _ _)
  have LZ := Lib.hid (show w.heap.size < w0.heap.size from Z.out.lt)
  have NZ := Lib.hid (show some w.heap.size ≠ some w0.heap.size from fun h => by have := LZ.out; simp at h; omega)
  replace T := Lib.hid (T.out.alloc (.cells (S2.rc (some t)) 87))
  replace Z := Lib.hid (Z.out.alloc (.cells (S2.rc (some t)) 87))
  generalize w0.alloc (.cells (S2.rc (some t)) 87) = w1 at *
  go_wp2_with fail
  refine (K1.out _ _ D.out).mono ?_
  rintro e w2 ⟨rfl, hd, hg⟩
  replace D := Lib.hid hd
  replace T := Lib.hid (Lk.At.mk (below_by T.out.bel hg (Nat.le_of_lt LZ.out) T.out.bel.size))
  replace Z := Lib.hid (Bl_grown Z.out hg NZ.out)
  clear hd hg K1
  go_wp2_with fail
  refine (K2.out _ _ D.out).mono ?_
  rintro e w3 ⟨A, nA, cA, Q, nQ, cQ, rfl, hp, hd, hg, ha, hq⟩
  have LW := Lib.hid (show w.heap.size < w2.heap.size from Z.out.lt)
  replace D := Lib.hid hd
  replace T := Lib.hid (Lk.At.mk (below_by T.out.bel hg (Nat.le_of_lt LZ.out) T.out.bel.size))
  replace Z := Lib.hid (Bl_grown Z.out hg NZ.out)
  obtain ⟨csR, hcs⟩ : ∃ x, x = cellsA a' e' g' A nA cA Q nQ cQ := ⟨_, rfl⟩
  rw [← hcs]
  have HCS := Lib.hid hcs
  have V := Lib.hid (show Av w3 w3.heap.size csR a' e' g' from ⟨A, nA, cA, Q, nQ, cQ, hcs, hp⟩)
  have AP := Lib.hid hp
  have HQA := Lib.hid ha
  have HQQ := Lib.hid hq
  clear hd hg K2 hcs hp ha hq
  go_wp2_with (first | ((with_reducible refine Lk.nw csR V.out.len V.out.one ?_ ?_ ?_ ?_); exact rfl; exact rfl; exact rfl) | fail)
  intro w4 bN hb
  have DL := Lib.hid (S2.blk_lt D.out)
  replace D := Lib.hid (show Rd 87 w4 w0.heap.size sE from (hb.block _ DL.out).trans D.out)
  replace T := Lib.hid (T.out.step hb)
  replace Z := Lib.hid (Z.out.step hb)
  replace V := Lib.hid (V.out.step hb)
  replace AP := Lib.hid (AP.out.step hb)
  have B := Lib.hid bN
  clear bN hb DL
  have HI := Lib.hid (show (Tryz.prog.info? 29).map (·.size) = some zc.toArray.size by rw [Lk.info20, List.size_toArray, (show zc.length = 20 by rw [HZC.out]; rfl)])
  have HS := Lib.hid (show (20 : Nat) = zc.toArray.size by rw [List.size_toArray, (show zc.length = 20 by rw [HZC.out]; rfl)])
  have HO := Lib.hid (show zc.toArray.all (·.oneCell') = true by rw [HZC.out]; simp [Lk.zc, Value.oneCell'])
  go_wp2_with (first | ((with_reducible refine Lk.zr (d := 26) HZC.out ?_ ?_); exact rfl) | (refine wpList_store_row rfl 29 _ _ rfl w.heap.size zc.toArray rfl rfl 29 _ Z.out.row HI.out HS.out HO.out ?_) | fail)
  exact bodyPost_ret (v := .tuple #[.agg zc.toArray, .bool false]) (results_row_tmp Tryz.results11 _ _ w.heap.size 29 _ (0, 0) _ rfl (setRow_heap _ _ _ _ _ _ Z.out.row) Tryz.underlying29 rfl HI.out) rfl
    ⟨zc, rfl, (by rw [HZC.out]; exact (Av.zero _).now), below_row T.out.bel _ (Nat.le_refl _) _⟩
set_option maxHeartbeats 4000000 in
set_option maxRecDepth 100000 in
theorem read_undone (t : Str) (w : World) (ht : t.length ≤ 1000000) (HO : ((tT (some t)).1 == [97, 99, 116]) = true) (HA : S2.dn (tA (tT (some t)).2).2 = false ∧ True) :
    Calls Tryz.prog 11 #[.string (S2.B t)] w (GivesT ac0 0 0 false w) := by
  have hlt : (lft (some t)).length ≤ 1099511627776 := by show t.length ≤ _; omega
  have K1 := fun w g h => rtext g (some t) w h hlt
  have hl1 := lT hlt
  have hz := A_sz (tT (some t)).2 (N := 1000000) (by have := (T_le (some t)).2; have e : (lft (some t)).length = t.length := rfl; omega) (by decide)
  have K2 := fun w g h => takeAct_any g (tT (some t)).2 w h hl1
  obtain ⟨x1, hx1⟩ : ∃ x, x = (tT (some t)).1 := ⟨_, rfl⟩
  obtain ⟨s1, hs1⟩ : ∃ x, x = (tT (some t)).2 := ⟨_, rfl⟩
  rw [← hx1, ← hs1] at K1
  rw [← hs1] at K2 hz HA
  obtain ⟨⟨⟨a', e', g'⟩, sE⟩, hA⟩ : ∃ x, x = tA s1 := ⟨_, rfl⟩
  rw [← hA] at K2 hz HA
  simp only at K2 hz HA
  have hb1 : (x1 == [97, 99, 116]) = true := by rw [hx1]; exact HO
  have hdn : S2.dn sE = false := HA.1
  have K3 := fun w g h => S2.done_any g sE w h
  rw [hdn] at K3
  replace K3 := Lib.hid K3
  replace K1 := Lib.hid K1
  replace K2 := Lib.hid K2
  clear hlt hl1 hz HA HO hx1 hs1 hA ht hdn
  obtain ⟨zc, hzc⟩ : ∃ x, x = Lk.zc := ⟨_, rfl⟩
  have HZC := Lib.hid hzc
  clear hzc
  have T := Lib.hid ((Lk.At.start w).alloc (.cells #[.string (S2.B []), .int .i64 0, .string (S2.B []), .int .i64 0, .int .i64 0, .string (S2.B []), .string (S2.B []), .int .i64 0, .string (S2.B []), .slice none 0 0, .string (S2.B []), .string (S2.B []), .string (S2.B []), .string (S2.B []), .int .i64 0, .slice none 0 0, .int .i64 0, .int .i64 0, .int .i64 0, .int .i64 0] 29))
  have Z := Lib.hid (Lk.Bl.new w [.string (S2.B []), .int .i64 0, .string (S2.B []), .int .i64 0, .int .i64 0, .string (S2.B []), .string (S2.B []), .int .i64 0, .string (S2.B []), .slice none 0 0, .string (S2.B []), .string (S2.B []), .string (S2.B []), .string (S2.B []), .int .i64 0, .slice none 0 0, .int .i64 0, .int .i64 0, .int .i64 0, .int .i64 0] 29)
  go_enter Tryz.func11, Tryz.ntmps11
  go_wp2_with fail
  generalize w.alloc (.cells #[.string (S2.B []), .int .i64 0, .string (S2.B []), .int .i64 0, .int .i64 0, .string (S2.B []), .string (S2.B []), .int .i64 0, .string (S2.B []), .slice none 0 0, .string (S2.B []), .string (S2.B []), .string (S2.B []), .string (S2.B []), .int .i64 0, .slice none 0 0, .int .i64 0, .int .i64 0, .int .i64 0, .int .i64 0] 29) = w0 at *
  refine (S2.open_any t w0).mono ?_
  rintro e w1 ⟨rfl, rfl⟩
  have D := Lib.hid (show Rd 87 (w0.alloc (.cells (S2.rc (some t)) 87)) w0.heap.size (some t) from heap_alloc_new _ _)
  have LZ := Lib.hid (show w.heap.size < w0.heap.size from Z.out.lt)
  have NZ := Lib.hid (show some w.heap.size ≠ some w0.heap.size from fun h => by have := LZ.out; simp at h; omega)
  replace T := Lib.hid (T.out.alloc (.cells (S2.rc (some t)) 87))
  replace Z := Lib.hid (Z.out.alloc (.cells (S2.rc (some t)) 87))
  generalize w0.alloc (.cells (S2.rc (some t)) 87) = w1 at *
  go_wp2_with fail
  refine (K1.out _ _ D.out).mono ?_
  rintro e w2 ⟨rfl, hd, hg⟩
  replace D := Lib.hid hd
  replace T := Lib.hid (Lk.At.mk (below_by T.out.bel hg (Nat.le_of_lt LZ.out) T.out.bel.size))
  replace Z := Lib.hid (Bl_grown Z.out hg NZ.out)
  clear hd hg K1
  go_wp2_with fail
  refine (K2.out _ _ D.out).mono ?_
  rintro e w3 ⟨A, nA, cA, Q, nQ, cQ, rfl, hp, hd, hg, ha, hq⟩
  have LW := Lib.hid (show w.heap.size < w2.heap.size from Z.out.lt)
  replace D := Lib.hid hd
  replace T := Lib.hid (Lk.At.mk (below_by T.out.bel hg (Nat.le_of_lt LZ.out) T.out.bel.size))
  replace Z := Lib.hid (Bl_grown Z.out hg NZ.out)
  obtain ⟨csR, hcs⟩ : ∃ x, x = cellsA a' e' g' A nA cA Q nQ cQ := ⟨_, rfl⟩
  rw [← hcs]
  have HCS := Lib.hid hcs
  have V := Lib.hid (show Av w3 w3.heap.size csR a' e' g' from ⟨A, nA, cA, Q, nQ, cQ, hcs, hp⟩)
  have AP := Lib.hid hp
  have HQA := Lib.hid ha
  have HQQ := Lib.hid hq
  clear hd hg K2 hcs hp ha hq
  go_wp2_with (first | ((with_reducible refine Lk.nw csR V.out.len V.out.one ?_ ?_ ?_ ?_); exact rfl; exact rfl; exact rfl) | fail)
  intro w4 bN hb
  have DL := Lib.hid (S2.blk_lt D.out)
  replace D := Lib.hid (show Rd 87 w4 w0.heap.size sE from (hb.block _ DL.out).trans D.out)
  replace T := Lib.hid (T.out.step hb)
  replace Z := Lib.hid (Z.out.step hb)
  replace V := Lib.hid (V.out.step hb)
  replace AP := Lib.hid (AP.out.step hb)
  have B := Lib.hid bN
  clear bN hb DL
  go_wp2_with fail
  refine (K3.out _ _ D.out).mono ?_
  rintro e w5 ⟨rfl, hq5⟩
  obtain rfl := hq5.symm
  clear K3
  have HI := Lib.hid (show (Tryz.prog.info? 29).map (·.size) = some zc.toArray.size by rw [Lk.info20, List.size_toArray, (show zc.length = 20 by rw [HZC.out]; rfl)])
  have HS := Lib.hid (show (20 : Nat) = zc.toArray.size by rw [List.size_toArray, (show zc.length = 20 by rw [HZC.out]; rfl)])
  have HO := Lib.hid (show zc.toArray.all (·.oneCell') = true by rw [HZC.out]; simp [Lk.zc, Value.oneCell'])
  go_wp2_with (first | ((with_reducible refine Lk.zr (d := 26) HZC.out ?_ ?_); exact rfl) | (refine wpList_store_row rfl 29 _ _ rfl w.heap.size zc.toArray rfl rfl 29 _ Z.out.row HI.out HS.out HO.out ?_) | fail)
  exact bodyPost_ret (v := .tuple #[.agg zc.toArray, .bool false]) (results_row_tmp Tryz.results11 _ _ w.heap.size 29 _ (0, 0) _ rfl (setRow_heap _ _ _ _ _ _ Z.out.row) Tryz.underlying29 rfl HI.out) rfl
    ⟨zc, rfl, (by rw [HZC.out]; exact (Av.zero _).now), below_row T.out.bel _ (Nat.le_refl _) _⟩
set_option maxHeartbeats 4000000 in
set_option maxRecDepth 100000 in
theorem read_invalid (t : Str) (w : World) (ht : t.length ≤ 1000000) (HO : ((tT (some t)).1 == [97, 99, 116]) = true) (HA : S2.dn (tA (tT (some t)).2).2 = true ∧ valid (tA (tT (some t)).2).1.1 (tA (tT (some t)).2).1.2.1 (tA (tT (some t)).2).1.2.2 = false) :
    Calls Tryz.prog 11 #[.string (S2.B t)] w (GivesT ac0 0 0 false w) := by
  have hlt : (lft (some t)).length ≤ 1099511627776 := by show t.length ≤ _; omega
  have K1 := fun w g h => rtext g (some t) w h hlt
  have hl1 := lT hlt
  have hz := A_sz (tT (some t)).2 (N := 1000000) (by have := (T_le (some t)).2; have e : (lft (some t)).length = t.length := rfl; omega) (by decide)
  have K2 := fun w g h => takeAct_any g (tT (some t)).2 w h hl1
  obtain ⟨x1, hx1⟩ : ∃ x, x = (tT (some t)).1 := ⟨_, rfl⟩
  obtain ⟨s1, hs1⟩ : ∃ x, x = (tT (some t)).2 := ⟨_, rfl⟩
  rw [← hx1, ← hs1] at K1
  rw [← hs1] at K2 hz HA
  obtain ⟨⟨⟨a', e', g'⟩, sE⟩, hA⟩ : ∃ x, x = tA s1 := ⟨_, rfl⟩
  rw [← hA] at K2 hz HA
  simp only at K2 hz HA
  have hb1 : (x1 == [97, 99, 116]) = true := by rw [hx1]; exact HO
  have hdn : S2.dn sE = true := HA.1
  have K3 := fun w g h => S2.done_any g sE w h
  rw [hdn] at K3
  replace K3 := Lib.hid K3
  have K4 := fun (w : World) (bd : Nat) (cs : List Value) (h : Av w bd cs a' e' g') => right_any w h hz
  rw [show valid a' e' g' = false from HA.2] at K4
  replace K4 := Lib.hid K4
  replace K1 := Lib.hid K1
  replace K2 := Lib.hid K2
  clear hlt hl1 hz HA HO hx1 hs1 hA ht hdn
  obtain ⟨zc, hzc⟩ : ∃ x, x = Lk.zc := ⟨_, rfl⟩
  have HZC := Lib.hid hzc
  clear hzc
  have T := Lib.hid ((Lk.At.start w).alloc (.cells #[.string (S2.B []), .int .i64 0, .string (S2.B []), .int .i64 0, .int .i64 0, .string (S2.B []), .string (S2.B []), .int .i64 0, .string (S2.B []), .slice none 0 0, .string (S2.B []), .string (S2.B []), .string (S2.B []), .string (S2.B []), .int .i64 0, .slice none 0 0, .int .i64 0, .int .i64 0, .int .i64 0, .int .i64 0] 29))
  have Z := Lib.hid (Lk.Bl.new w [.string (S2.B []), .int .i64 0, .string (S2.B []), .int .i64 0, .int .i64 0, .string (S2.B []), .string (S2.B []), .int .i64 0, .string (S2.B []), .slice none 0 0, .string (S2.B []), .string (S2.B []), .string (S2.B []), .string (S2.B []), .int .i64 0, .slice none 0 0, .int .i64 0, .int .i64 0, .int .i64 0, .int .i64 0] 29)
  go_enter Tryz.func11, Tryz.ntmps11
  go_wp2_with fail
  generalize w.alloc (.cells #[.string (S2.B []), .int .i64 0, .string (S2.B []), .int .i64 0, .int .i64 0, .string (S2.B []), .string (S2.B []), .int .i64 0, .string (S2.B []), .slice none 0 0, .string (S2.B []), .string (S2.B []), .string (S2.B []), .string (S2.B []), .int .i64 0, .slice none 0 0, .int .i64 0, .int .i64 0, .int .i64 0, .int .i64 0] 29) = w0 at *
  refine (S2.open_any t w0).mono ?_
  rintro e w1 ⟨rfl, rfl⟩
  have D := Lib.hid (show Rd 87 (w0.alloc (.cells (S2.rc (some t)) 87)) w0.heap.size (some t) from heap_alloc_new _ _)
  have LZ := Lib.hid (show w.heap.size < w0.heap.size from Z.out.lt)
  have NZ := Lib.hid (show some w.heap.size ≠ some w0.heap.size from fun h => by have := LZ.out; simp at h; omega)
  replace T := Lib.hid (T.out.alloc (.cells (S2.rc (some t)) 87))
  replace Z := Lib.hid (Z.out.alloc (.cells (S2.rc (some t)) 87))
  generalize w0.alloc (.cells (S2.rc (some t)) 87) = w1 at *
  go_wp2_with fail
  refine (K1.out _ _ D.out).mono ?_
  rintro e w2 ⟨rfl, hd, hg⟩
  replace D := Lib.hid hd
  replace T := Lib.hid (Lk.At.mk (below_by T.out.bel hg (Nat.le_of_lt LZ.out) T.out.bel.size))
  replace Z := Lib.hid (Bl_grown Z.out hg NZ.out)
  clear hd hg K1
  go_wp2_with fail
  refine (K2.out _ _ D.out).mono ?_
  rintro e w3 ⟨A, nA, cA, Q, nQ, cQ, rfl, hp, hd, hg, ha, hq⟩
  have LW := Lib.hid (show w.heap.size < w2.heap.size from Z.out.lt)
  replace D := Lib.hid hd
  replace T := Lib.hid (Lk.At.mk (below_by T.out.bel hg (Nat.le_of_lt LZ.out) T.out.bel.size))
  replace Z := Lib.hid (Bl_grown Z.out hg NZ.out)
  obtain ⟨csR, hcs⟩ : ∃ x, x = cellsA a' e' g' A nA cA Q nQ cQ := ⟨_, rfl⟩
  rw [← hcs]
  have HCS := Lib.hid hcs
  have V := Lib.hid (show Av w3 w3.heap.size csR a' e' g' from ⟨A, nA, cA, Q, nQ, cQ, hcs, hp⟩)
  have AP := Lib.hid hp
  have HQA := Lib.hid ha
  have HQQ := Lib.hid hq
  clear hd hg K2 hcs hp ha hq
  go_wp2_with (first | ((with_reducible refine Lk.nw csR V.out.len V.out.one ?_ ?_ ?_ ?_); exact rfl; exact rfl; exact rfl) | fail)
  intro w4 bN hb
  have DL := Lib.hid (S2.blk_lt D.out)
  replace D := Lib.hid (show Rd 87 w4 w0.heap.size sE from (hb.block _ DL.out).trans D.out)
  replace T := Lib.hid (T.out.step hb)
  replace Z := Lib.hid (Z.out.step hb)
  replace V := Lib.hid (V.out.step hb)
  replace AP := Lib.hid (AP.out.step hb)
  have B := Lib.hid bN
  clear bN hb DL
  go_wp2_with fail
  refine (K3.out _ _ D.out).mono ?_
  rintro e w5 ⟨rfl, hq5⟩
  obtain rfl := hq5.symm
  clear K3
  go_wp2_with (first | ((with_reducible refine Lk.ld (d := 22) w3.heap.size B.out V.out.len ?_ ?_ ?_); exact rfl; exact rfl) | fail)
  refine (K4.out _ _ _ V.out).mono ?_
  rintro e w6 ⟨rfl, hb⟩
  replace T := Lib.hid (T.out.step hb)
  replace Z := Lib.hid (Z.out.step hb)
  replace V := Lib.hid (V.out.step hb)
  replace AP := Lib.hid (AP.out.step hb)
  replace B := Lib.hid (B.out.step hb)
  clear hb K4 D
  have HI := Lib.hid (show (Tryz.prog.info? 29).map (·.size) = some zc.toArray.size by rw [Lk.info20, List.size_toArray, (show zc.length = 20 by rw [HZC.out]; rfl)])
  have HS := Lib.hid (show (20 : Nat) = zc.toArray.size by rw [List.size_toArray, (show zc.length = 20 by rw [HZC.out]; rfl)])
  have HO := Lib.hid (show zc.toArray.all (·.oneCell') = true by rw [HZC.out]; simp [Lk.zc, Value.oneCell'])
  go_wp2_with (first | ((with_reducible refine Lk.zr (d := 26) HZC.out ?_ ?_); exact rfl) | (refine wpList_store_row rfl 29 _ _ rfl w.heap.size zc.toArray rfl rfl 29 _ Z.out.row HI.out HS.out HO.out ?_) | fail)
  exact bodyPost_ret (v := .tuple #[.agg zc.toArray, .bool false]) (results_row_tmp Tryz.results11 _ _ w.heap.size 29 _ (0, 0) _ rfl (setRow_heap _ _ _ _ _ _ Z.out.row) Tryz.underlying29 rfl HI.out) rfl
    ⟨zc, rfl, (by rw [HZC.out]; exact (Av.zero _).now), below_row T.out.bel _ (Nat.le_refl _) _⟩
set_option maxHeartbeats 4000000 in
set_option maxRecDepth 100000 in
theorem read_good (t : Str) (w : World) (ht : t.length ≤ 1000000) {a : Ac} {e s : Int} (HO : ((tT (some t)).1 == [97, 99, 116]) = true) (HA : S2.dn (tA (tT (some t)).2).2 = true ∧ valid (tA (tT (some t)).2).1.1 (tA (tT (some t)).2).1.2.1 (tA (tT (some t)).2).1.2.2 = true) (HA3 : (tA (tT (some t)).2).1 = (a, e, s)) :
    Calls Tryz.prog 11 #[.string (S2.B t)] w (GivesT a e s true w) := by
  have hlt : (lft (some t)).length ≤ 1099511627776 := by show t.length ≤ _; omega
  have K1 := fun w g h => rtext g (some t) w h hlt
  have hl1 := lT hlt
  have hz := A_sz (tT (some t)).2 (N := 1000000) (by have := (T_le (some t)).2; have e : (lft (some t)).length = t.length := rfl; omega) (by decide)
  have K2 := fun w g h => takeAct_any g (tT (some t)).2 w h hl1
  obtain ⟨x1, hx1⟩ : ∃ x, x = (tT (some t)).1 := ⟨_, rfl⟩
  obtain ⟨s1, hs1⟩ : ∃ x, x = (tT (some t)).2 := ⟨_, rfl⟩
  rw [← hx1, ← hs1] at K1
  rw [← hs1] at K2 hz HA HA3
  obtain ⟨⟨⟨a', e', g'⟩, sE⟩, hA⟩ : ∃ x, x = tA s1 := ⟨_, rfl⟩
  rw [← hA] at K2 hz HA HA3
  simp only at K2 hz HA
  simp only [Prod.mk.injEq] at HA3
  have hb1 : (x1 == [97, 99, 116]) = true := by rw [hx1]; exact HO
  have hdn : S2.dn sE = true := HA.1
  have K3 := fun w g h => S2.done_any g sE w h
  rw [hdn] at K3
  replace K3 := Lib.hid K3
  have K4 := fun (w : World) (bd : Nat) (cs : List Value) (h : Av w bd cs a' e' g') => right_any w h hz
  rw [show valid a' e' g' = true from HA.2] at K4
  replace K4 := Lib.hid K4
  have HV := Lib.hid HA3
  replace K1 := Lib.hid K1
  replace K2 := Lib.hid K2
  clear hlt hl1 hz HA HO hx1 hs1 hA ht HA3 hdn
  obtain ⟨zc, hzc⟩ : ∃ x, x = Lk.zc := ⟨_, rfl⟩
  have HZC := Lib.hid hzc
  clear hzc
  have T := Lib.hid ((Lk.At.start w).alloc (.cells #[.string (S2.B []), .int .i64 0, .string (S2.B []), .int .i64 0, .int .i64 0, .string (S2.B []), .string (S2.B []), .int .i64 0, .string (S2.B []), .slice none 0 0, .string (S2.B []), .string (S2.B []), .string (S2.B []), .string (S2.B []), .int .i64 0, .slice none 0 0, .int .i64 0, .int .i64 0, .int .i64 0, .int .i64 0] 29))
  have Z := Lib.hid (Lk.Bl.new w [.string (S2.B []), .int .i64 0, .string (S2.B []), .int .i64 0, .int .i64 0, .string (S2.B []), .string (S2.B []), .int .i64 0, .string (S2.B []), .slice none 0 0, .string (S2.B []), .string (S2.B []), .string (S2.B []), .string (S2.B []), .int .i64 0, .slice none 0 0, .int .i64 0, .int .i64 0, .int .i64 0, .int .i64 0] 29)
  go_enter Tryz.func11, Tryz.ntmps11
  go_wp2_with fail
  generalize w.alloc (.cells #[.string (S2.B []), .int .i64 0, .string (S2.B []), .int .i64 0, .int .i64 0, .string (S2.B []), .string (S2.B []), .int .i64 0, .string (S2.B []), .slice none 0 0, .string (S2.B []), .string (S2.B []), .string (S2.B []), .string (S2.B []), .int .i64 0, .slice none 0 0, .int .i64 0, .int .i64 0, .int .i64 0, .int .i64 0] 29) = w0 at *
  refine (S2.open_any t w0).mono ?_
  rintro e w1 ⟨rfl, rfl⟩
  have D := Lib.hid (show Rd 87 (w0.alloc (.cells (S2.rc (some t)) 87)) w0.heap.size (some t) from heap_alloc_new _ _)
  have LZ := Lib.hid (show w.heap.size < w0.heap.size from Z.out.lt)
  have NZ := Lib.hid (show some w.heap.size ≠ some w0.heap.size from fun h => by have := LZ.out; simp at h; omega)
  replace T := Lib.hid (T.out.alloc (.cells (S2.rc (some t)) 87))
  replace Z := Lib.hid (Z.out.alloc (.cells (S2.rc (some t)) 87))
  generalize w0.alloc (.cells (S2.rc (some t)) 87) = w1 at *
  go_wp2_with fail
  refine (K1.out _ _ D.out).mono ?_
  rintro e w2 ⟨rfl, hd, hg⟩
  replace D := Lib.hid hd
  replace T := Lib.hid (Lk.At.mk (below_by T.out.bel hg (Nat.le_of_lt LZ.out) T.out.bel.size))
  replace Z := Lib.hid (Bl_grown Z.out hg NZ.out)
  clear hd hg K1
  go_wp2_with fail
  refine (K2.out _ _ D.out).mono ?_
  rintro e w3 ⟨A, nA, cA, Q, nQ, cQ, rfl, hp, hd, hg, ha, hq⟩
  have LW := Lib.hid (show w.heap.size < w2.heap.size from Z.out.lt)
  replace D := Lib.hid hd
  replace T := Lib.hid (Lk.At.mk (below_by T.out.bel hg (Nat.le_of_lt LZ.out) T.out.bel.size))
  replace Z := Lib.hid (Bl_grown Z.out hg NZ.out)
  obtain ⟨csR, hcs⟩ : ∃ x, x = cellsA a' e' g' A nA cA Q nQ cQ := ⟨_, rfl⟩
  rw [← hcs]
  have HCS := Lib.hid hcs
  have V := Lib.hid (show Av w3 w3.heap.size csR a' e' g' from ⟨A, nA, cA, Q, nQ, cQ, hcs, hp⟩)
  have AP := Lib.hid hp
  have HQA := Lib.hid ha
  have HQQ := Lib.hid hq
  clear hd hg K2 hcs hp ha hq
  go_wp2_with (first | ((with_reducible refine Lk.nw csR V.out.len V.out.one ?_ ?_ ?_ ?_); exact rfl; exact rfl; exact rfl) | fail)
  intro w4 bN hb
  have DL := Lib.hid (S2.blk_lt D.out)
  replace D := Lib.hid (show Rd 87 w4 w0.heap.size sE from (hb.block _ DL.out).trans D.out)
  replace T := Lib.hid (T.out.step hb)
  replace Z := Lib.hid (Z.out.step hb)
  replace V := Lib.hid (V.out.step hb)
  replace AP := Lib.hid (AP.out.step hb)
  have B := Lib.hid bN
  clear bN hb DL
  go_wp2_with fail
  refine (K3.out _ _ D.out).mono ?_
  rintro e w5 ⟨rfl, hq5⟩
  obtain rfl := hq5.symm
  clear K3
  go_wp2_with (first | ((with_reducible refine Lk.ld (d := 22) w3.heap.size B.out V.out.len ?_ ?_ ?_); exact rfl; exact rfl) | fail)
  refine (K4.out _ _ _ V.out).mono ?_
  rintro e w6 ⟨rfl, hb⟩
  replace T := Lib.hid (T.out.step hb)
  replace Z := Lib.hid (Z.out.step hb)
  replace V := Lib.hid (V.out.step hb)
  replace AP := Lib.hid (AP.out.step hb)
  replace B := Lib.hid (B.out.step hb)
  clear hb K4 D
  have HI := Lib.hid (show (Tryz.prog.info? 29).map (·.size) = some csR.toArray.size by rw [Lk.info20, List.size_toArray, V.out.len])
  have HS := Lib.hid (show (20 : Nat) = csR.toArray.size by rw [List.size_toArray, V.out.len])
  have HO := Lib.hid V.out.one
  go_wp2_with (first | ((with_reducible refine Lk.ld (d := 27) w3.heap.size B.out V.out.len ?_ ?_ ?_); exact rfl; exact rfl) | (refine wpList_store_row rfl 29 _ _ rfl w.heap.size csR.toArray rfl rfl 29 _ Z.out.row HI.out HS.out HO.out ?_) | fail)
  have hon : Only w.heap.size w6 (w6.setRow w.heap.size csR.toArray) := ⟨by simp [World.setRow], fun k hk => setRow_other w6 w.heap.size k _ hk⟩
  have hle : w6.heap.size ≤ (w6.setRow w.heap.size csR.toArray).heap.size := by rw [hon.size]; exact Nat.le_refl _
  have hbA : ∀ a, A = some a → w.heap.size + 1 ≤ a.block := fun a h => by have h1 := HQA.out a h; have h2 := LW.out; omega
  have hbQ : ∀ a, Q = some a → w.heap.size + 1 ≤ a.block := fun a h => by have h1 := HQQ.out a h; have h2 := LW.out; omega
  have AVF : Av (w6.setRow w.heap.size csR.toArray) (w6.setRow w.heap.size csR.toArray).heap.size csR a e s := by
    obtain ⟨q1, q2, q3⟩ := HV.out
    rw [← q1, ← q2, ← q3]
    exact ⟨A, nA, cA, Q, nQ, cQ, HCS.out, ⟨AP.out.hn, AP.out.hc, (row_only AP.out.rowA hon hbA (Nat.lt_succ_self _)).more (Nat.le_trans AP.out.le hle), AP.out.hm, AP.out.hd, (row_only AP.out.rowQ hon hbQ (Nat.lt_succ_self _)).more (Nat.le_trans AP.out.le hle), Nat.le_refl _⟩⟩
  exact bodyPost_ret (v := .tuple #[.agg csR.toArray, .bool true]) (results_row_tmp Tryz.results11 _ _ w.heap.size 29 _ (0, 0) _ rfl (setRow_heap _ _ _ _ _ _ Z.out.row) Tryz.underlying29 rfl HI.out) rfl
    ⟨csR, rfl, AVF, below_row T.out.bel _ (Nat.le_refl _) _⟩
theorem dn_iff (s : St) : S2.dn s = true ↔ s = some [] := by
  rcases s with _ | l
  · simp [S2.dn]
  · cases l <;> simp [S2.dn]
theorem read_any {t : Str} {a : Ac} {e s : Int} {ok : Bool} (hr : IsRead t a e s ok) (w : World) (ht : t.length ≤ 1000000) :
    Calls Tryz.prog 11 #[.string (S2.B t)] w (GivesT a e s ok w) := by
  rcases hr with ⟨rfl, hv, rfl⟩ | ⟨rfl, rfl, rfl, rfl, hno⟩
  · obtain ⟨h1, h2⟩ := A_back hv
    exact read_good _ w ht (by rw [h1]; rfl) ⟨by rw [h2]; rfl, by rw [h2]; exact hv⟩ (by rw [h2])
  · cases hO : ((tT (some t)).1 == [97, 99, 116]) with
    | false => exact read_closed t w ht hO
    | true =>
      cases hD : S2.dn (tA (tT (some t)).2).2 with
      | false => exact read_undone t w ht hO ⟨hD, trivial⟩
      | true =>
        cases hV : valid (tA (tT (some t)).2).1.1 (tA (tT (some t)).2).1.2.1 (tA (tT (some t)).2).1.2.2 with
        | false => exact read_invalid t w ht hO ⟨hD, hV⟩
        | true =>
          refine absurd (A_again (by simpa using hO) ?_ hV) (hno _ _ _ hV)
          rw [← (dn_iff _).1 hD]
end Ld
end Go.Proofs.YtojbicpchjiplaaGreatDoor
