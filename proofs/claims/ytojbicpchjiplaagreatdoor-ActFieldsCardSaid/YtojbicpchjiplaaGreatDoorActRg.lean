/-
  Layer 12: the landed Sign.
-/
import Derived.Test.YtojbicpchjiplaaGreatDoorActRe
import Derived.Test.YtojbicpchjiplaaGreatDoorActRr
import Derived.Test.YtojbicpchjiplaaGreatDoorSignFun
namespace Go.Proofs.YtojbicpchjiplaaGreatDoor
open Go.RowKit
namespace Ax
open S11.Idt (Str)
theorem Row_of_Own {w : World} {base n c : Nat} {A : Option Addr} {l : List Str} (h : S11.Idt.Own w base (.slice A n c) l) : S2.Row w w.heap.size A (S2.Ss l) ∧ (∀ a, A = some a → base ≤ a.block) ∧ n = l.length ∧ n ≤ c := by
  have hn : n = l.length ∧ n ≤ c := by
    obtain ⟨_, _, _, e, h1, h2⟩ := h.sl3
    simp only [Value.slice.injEq] at e
    obtain ⟨_, rfl, rfl⟩ := e
    exact ⟨h1, h2⟩
  refine ⟨(h.sl hn.1).row, ?_, hn.1, hn.2⟩
  rintro a rfl
  exact h.ge a.block rfl
theorem Row_of_OwnW {w : World} {base n c : Nat} {A : Option Addr} {l : List Wr} (h : OwnW w base (.slice A n c) l) : S2.Row w w.heap.size A (Ws l) ∧ (∀ a, A = some a → base ≤ a.block) ∧ n = l.length ∧ n ≤ c := by
  have hn : n = l.length ∧ n ≤ c := by
    obtain ⟨_, _, _, e, h1, h2⟩ := h.sl3
    simp only [Value.slice.injEq] at e
    obtain ⟨_, rfl, rfl⟩ := e
    exact ⟨h1, h2⟩
  exact ⟨h.row, h.addr, hn.1, hn.2⟩
end Ax
namespace Lk
theorem infoLS : (Tryz.prog.info? 22).map (·.size) = some 1 := by kernel_rfl
theorem infoLW : (Tryz.prog.info? 25).map (·.size) = some 1 := by kernel_rfl
/-- A part of an activity's block is stored, in a region that draws. -/
theorem step_stA {o : Oper} {a : _root_.Go.Act} {w : World} {ops : Array Oper} {K : _root_.Go.Act → World → Prop} {Q : Exit → _root_.Go.Act → World → Prop} {E : Prop} (hg : o.guard = none) (t : TypeId) (x y : Operand) (ho : o.op = .store t x y) (g k : Nat) (new : List Value) (v : Value) {cs : List Value} (hb : Bl w g cs 29)
    (hi : (Tryz.prog.info? t).map (·.size) = some new.length) (hv : v.cells = new.toArray) (hfit : k + new.length ≤ cs.length) (h1 : new.toArray.all (·.oneCell') = true)
    (hx : a.eval x = .pointer (some ⟨g, k, none⟩)) (hy : a.eval y = v)
    (h : ∀ w', Bl w' g (cs.take k ++ new ++ cs.drop (k + new.length)) 29 → Below g w w' → Ax.Only g w w' → K (a.put o.dst undef) w') :
    if Region.wanted o (yielded ops a.tmps) = true then Oper.wp Tryz.prog o a w K Q else E := by
  have hw : Region.wanted o (yielded ops a.tmps) = true := by simp [Region.wanted, hg]
  rw [if_pos hw]
  have hst := run_storeCells_at Tryz.prog g k 29 new 0 cs.toArray w hb.row (by simpa using hfit) (fun v hv => (Array.all_eq_true_iff_forall_mem.1 h1) v (by simpa using hv))
  have hrun : (storeVar t ⟨g, k, none⟩ v).run Tryz.prog w = .ok () (w.setRow g (cs.take k ++ new ++ cs.drop (k + new.length)).toArray) := by
    cases hq : Tryz.prog.info? t with
    | none => simp [hq] at hi
    | some i =>
      have hs : new.length = i.size := by simp [hq] at hi; omega
      simp only [Nat.add_zero] at hst
      simp [storeVar, sizeOf, typeInfo, hq, hv, hs] at hst ⊢
      exact hst
  unfold Oper.wp execOp
  simp only [ho, hx, hy, Instr.storeAt, Instr.sureAddr, Sem.run_bind, Sem.run_pure, Result.andThen_ok, hrun]
  exact h _ ⟨setRow_heap w g _ _ _ _ hb.row⟩ ⟨rfl, rfl, rfl, by simp [World.setRow], fun k hk => setRow_other w g k _ (by omega)⟩ ⟨by simp [World.setRow], fun k hk => setRow_other w g k _ hk⟩
end Lk
namespace Ld
open Ax
open S11.Idt (Str isId isName ids)
attribute [local go_sem] S2.B_size S2.B_list S2.B_app S2.B_take litE
set_option maxHeartbeats 8000000 in
set_option maxRecDepth 100000 in
theorem sign_bad {bd : Nat} {cs : List Value} {a : Ac} {e s : Int} (k p : Int) (w : World) (hv0 : Av w bd cs a e s) (hz : Sz 1000000 1000000 a) (hg : good a = false) :
    Calls Tryz.prog 13 #[.agg #[.int .i64 k, .int .i64 p], .agg cs.toArray] w (GivesC ac0 0 0 w) := by
  have T := Lib.hid ((((Lk.At.start w).alloc (.cells #[.int .i64 k, .int .i64 p] 31)).alloc (.cells cs.toArray 29)).alloc (.cells #[.string (S2.B []), .int .i64 0, .string (S2.B []), .int .i64 0, .int .i64 0, .string (S2.B []), .string (S2.B []), .int .i64 0, .string (S2.B []), .slice none 0 0, .string (S2.B []), .string (S2.B []), .string (S2.B []), .string (S2.B []), .int .i64 0, .slice none 0 0, .int .i64 0, .int .i64 0, .int .i64 0, .int .i64 0] 29))
  have V := Lib.hid (((hv0.alloc (.cells #[.int .i64 k, .int .i64 p] 31)).alloc (.cells cs.toArray 29)).alloc (.cells #[.string (S2.B []), .int .i64 0, .string (S2.B []), .int .i64 0, .int .i64 0, .string (S2.B []), .string (S2.B []), .int .i64 0, .string (S2.B []), .slice none 0 0, .string (S2.B []), .string (S2.B []), .string (S2.B []), .string (S2.B []), .int .i64 0, .slice none 0 0, .int .i64 0, .int .i64 0, .int .i64 0, .int .i64 0] 29))
  have K0 := Lib.hid (((show Lk.Bl (w.alloc (.cells #[.int .i64 k, .int .i64 p] 31)) w.heap.size [.int .i64 k, .int .i64 p] 31 from Lk.Bl.new w [.int .i64 k, .int .i64 p] 31).alloc (.cells cs.toArray 29)).alloc (.cells #[.string (S2.B []), .int .i64 0, .string (S2.B []), .int .i64 0, .int .i64 0, .string (S2.B []), .string (S2.B []), .int .i64 0, .string (S2.B []), .slice none 0 0, .string (S2.B []), .string (S2.B []), .string (S2.B []), .string (S2.B []), .int .i64 0, .slice none 0 0, .int .i64 0, .int .i64 0, .int .i64 0, .int .i64 0] 29))
  have B1 := Lib.hid ((show Lk.Bl ((w.alloc (.cells #[.int .i64 k, .int .i64 p] 31)).alloc (.cells cs.toArray 29)) (w.heap.size + 1) cs 29 from by have h := Lk.Bl.new (w.alloc (.cells #[.int .i64 k, .int .i64 p] 31)) cs 29; simpa using h).alloc (.cells #[.string (S2.B []), .int .i64 0, .string (S2.B []), .int .i64 0, .int .i64 0, .string (S2.B []), .string (S2.B []), .int .i64 0, .string (S2.B []), .slice none 0 0, .string (S2.B []), .string (S2.B []), .string (S2.B []), .string (S2.B []), .int .i64 0, .slice none 0 0, .int .i64 0, .int .i64 0, .int .i64 0, .int .i64 0] 29))
  have Z := Lib.hid (show Lk.Bl (((w.alloc (.cells #[.int .i64 k, .int .i64 p] 31)).alloc (.cells cs.toArray 29)).alloc (.cells #[.string (S2.B []), .int .i64 0, .string (S2.B []), .int .i64 0, .int .i64 0, .string (S2.B []), .string (S2.B []), .int .i64 0, .string (S2.B []), .slice none 0 0, .string (S2.B []), .string (S2.B []), .string (S2.B []), .string (S2.B []), .int .i64 0, .slice none 0 0, .int .i64 0, .int .i64 0, .int .i64 0, .int .i64 0] 29)) (w.heap.size + 2) [.string (S2.B []), .int .i64 0, .string (S2.B []), .int .i64 0, .int .i64 0, .string (S2.B []), .string (S2.B []), .int .i64 0, .string (S2.B []), .slice none 0 0, .string (S2.B []), .string (S2.B []), .string (S2.B []), .string (S2.B []), .int .i64 0, .slice none 0 0, .int .i64 0, .int .i64 0, .int .i64 0, .int .i64 0] 29 from by have h := Lk.Bl.new ((w.alloc (.cells #[.int .i64 k, .int .i64 p] 31)).alloc (.cells cs.toArray 29)) [.string (S2.B []), .int .i64 0, .string (S2.B []), .int .i64 0, .int .i64 0, .string (S2.B []), .string (S2.B []), .int .i64 0, .string (S2.B []), .slice none 0 0, .string (S2.B []), .string (S2.B []), .string (S2.B []), .string (S2.B []), .int .i64 0, .slice none 0 0, .int .i64 0, .int .i64 0, .int .i64 0, .int .i64 0] 29; simpa using h)
  have GW := Lib.hid (show w.heap.size ≤ (w.heap.size + 1) by omega)
  have GK := Lib.hid (show w.heap.size < (w.heap.size + 1) by omega)
  have GV := Lib.hid (show bd ≤ (w.heap.size + 1) from Nat.le_trans hv0.le (by omega))
  have NE := Lib.hid (show (w.heap.size + 2) ≠ (w.heap.size + 1) by omega)
  have KC := fun (w : World) (bd : Nat) (cs : List Value) (h : Av w bd cs a 0 0) => core_any w h hz
  rw [show core a 0 0 = [] from if_neg (by unfold valid; rw [hg]; simp)] at KC
  replace KC := Lib.hid KC
  clear hv0 hz hg
  obtain ⟨zc, hzc⟩ : ∃ x, x = Lk.zc := ⟨_, rfl⟩
  have HZC := Lib.hid hzc
  clear hzc
  have HI := Lib.hid (show (Tryz.prog.info? 29).map (·.size) = some zc.toArray.size by rw [Lk.info20, List.size_toArray, (show zc.length = 20 by rw [HZC.out]; rfl)])
  have HS := Lib.hid (show (20 : Nat) = zc.toArray.size by rw [List.size_toArray, (show zc.length = 20 by rw [HZC.out]; rfl)])
  have HO := Lib.hid (show zc.toArray.all (·.oneCell') = true by rw [HZC.out]; simp [Lk.zc, Value.oneCell'])
  go_enter Tryz.func13, Tryz.ntmps13
  go_wp2_with (first | ((with_reducible refine Lk.stX (w.heap.size + 1) 18 [.int .i64 0, .int .i64 0] (.agg #[.int .i64 0, .int .i64 0]) B1.out ?_ ?_ ?_ ?_ ?_ ?_ ?_); exact Lk.infoG; exact rfl; (rw [V.out.len]; exact Nat.le_of_ble_eq_true rfl); (simp [Value.oneCell']); exact rfl; exact rfl) | fail)
  intro w1 bN hb ho
  replace T := Lib.hid (T.out.under hb GW.out)
  replace K0 := Lib.hid (K0.out.under hb GK.out)
  replace V := Lib.hid (V.out.under hb GV.out)
  replace Z := Lib.hid (show Lk.Bl w1 (w.heap.size + 2) [.string (S2.B []), .int .i64 0, .string (S2.B []), .int .i64 0, .int .i64 0, .string (S2.B []), .string (S2.B []), .int .i64 0, .string (S2.B []), .slice none 0 0, .string (S2.B []), .string (S2.B []), .string (S2.B []), .string (S2.B []), .int .i64 0, .slice none 0 0, .int .i64 0, .int .i64 0, .int .i64 0, .int .i64 0] 29 from ⟨(ho.blk _ NE.out).trans Z.out.row⟩)
  obtain ⟨cs1, hcs1⟩ : ∃ x : List Value, x = cs.take 18 ++ [.int .i64 0, .int .i64 0] ++ cs.drop (18 + ([.int .i64 0, .int .i64 0] : List Value).length) := ⟨_, rfl⟩
  replace V := Lib.hid (show Av w1 bd cs1 a 0 0 from by rw [hcs1]; exact V.out.put 18 [.int .i64 0, .int .i64 0] rfl rfl (fun _ _ _ _ _ _ => rfl))
  replace B1 := Lib.hid (show Lk.Bl w1 (w.heap.size + 1) cs1 29 from by rw [hcs1]; exact bN)
  clear bN hb ho hcs1
  go_wp2_with (first | ((with_reducible refine Lk.ld (d := 8) (w.heap.size + 1) B1.out V.out.len ?_ ?_ ?_); exact rfl; exact rfl) | fail)
  refine (KC.out _ _ _ V.out).mono ?_
  rintro e w2 ⟨rfl, hb⟩
  replace T := Lib.hid (T.out.step hb)
  replace V := Lib.hid (V.out.step hb)
  replace K0 := Lib.hid (K0.out.step hb)
  replace B1 := Lib.hid (B1.out.step hb)
  replace Z := Lib.hid (Z.out.step hb)
  clear hb KC
  go_wp2_with (first | ((with_reducible refine Lk.zr (d := 17) HZC.out ?_ ?_); exact rfl) | (refine wpList_store_row rfl 29 _ _ rfl (w.heap.size + 2) zc.toArray rfl rfl 29 _ Z.out.row HI.out HS.out HO.out ?_) | fail)
  exact bodyPost_ret (v := .agg zc.toArray) (results_cell_row Tryz.results13 _ _ (w.heap.size + 2) 29 _ (0, 0) _ rfl (setRow_heap _ _ _ _ _ _ Z.out.row) Tryz.underlying29 rfl HI.out) rfl
    ⟨zc, rfl, (by rw [HZC.out]; exact (Av.zero _).now), below_row T.out.bel _ (by omega) _⟩
set_option maxHeartbeats 8000000 in
set_option maxRecDepth 100000 in
theorem sign_key {bd : Nat} {cs : List Value} {a : Ac} {e s : Int} (k p : Int) (w : World) (hk : S4.isI64 k) (hv0 : Av w bd cs a e s) (hg : good a = true) (hr : ¬ S5.Sg.Rt k p) :
    Calls Tryz.prog 13 #[.agg #[.int .i64 k, .int .i64 p], .agg cs.toArray] w (GivesC ac0 0 0 w) := by
  have T := Lib.hid ((((Lk.At.start w).alloc (.cells #[.int .i64 k, .int .i64 p] 31)).alloc (.cells cs.toArray 29)).alloc (.cells #[.string (S2.B []), .int .i64 0, .string (S2.B []), .int .i64 0, .int .i64 0, .string (S2.B []), .string (S2.B []), .int .i64 0, .string (S2.B []), .slice none 0 0, .string (S2.B []), .string (S2.B []), .string (S2.B []), .string (S2.B []), .int .i64 0, .slice none 0 0, .int .i64 0, .int .i64 0, .int .i64 0, .int .i64 0] 29))
  have V := Lib.hid (((hv0.alloc (.cells #[.int .i64 k, .int .i64 p] 31)).alloc (.cells cs.toArray 29)).alloc (.cells #[.string (S2.B []), .int .i64 0, .string (S2.B []), .int .i64 0, .int .i64 0, .string (S2.B []), .string (S2.B []), .int .i64 0, .string (S2.B []), .slice none 0 0, .string (S2.B []), .string (S2.B []), .string (S2.B []), .string (S2.B []), .int .i64 0, .slice none 0 0, .int .i64 0, .int .i64 0, .int .i64 0, .int .i64 0] 29))
  have K0 := Lib.hid (((show Lk.Bl (w.alloc (.cells #[.int .i64 k, .int .i64 p] 31)) w.heap.size [.int .i64 k, .int .i64 p] 31 from Lk.Bl.new w [.int .i64 k, .int .i64 p] 31).alloc (.cells cs.toArray 29)).alloc (.cells #[.string (S2.B []), .int .i64 0, .string (S2.B []), .int .i64 0, .int .i64 0, .string (S2.B []), .string (S2.B []), .int .i64 0, .string (S2.B []), .slice none 0 0, .string (S2.B []), .string (S2.B []), .string (S2.B []), .string (S2.B []), .int .i64 0, .slice none 0 0, .int .i64 0, .int .i64 0, .int .i64 0, .int .i64 0] 29))
  have B1 := Lib.hid ((show Lk.Bl ((w.alloc (.cells #[.int .i64 k, .int .i64 p] 31)).alloc (.cells cs.toArray 29)) (w.heap.size + 1) cs 29 from by have h := Lk.Bl.new (w.alloc (.cells #[.int .i64 k, .int .i64 p] 31)) cs 29; simpa using h).alloc (.cells #[.string (S2.B []), .int .i64 0, .string (S2.B []), .int .i64 0, .int .i64 0, .string (S2.B []), .string (S2.B []), .int .i64 0, .string (S2.B []), .slice none 0 0, .string (S2.B []), .string (S2.B []), .string (S2.B []), .string (S2.B []), .int .i64 0, .slice none 0 0, .int .i64 0, .int .i64 0, .int .i64 0, .int .i64 0] 29))
  have Z := Lib.hid (show Lk.Bl (((w.alloc (.cells #[.int .i64 k, .int .i64 p] 31)).alloc (.cells cs.toArray 29)).alloc (.cells #[.string (S2.B []), .int .i64 0, .string (S2.B []), .int .i64 0, .int .i64 0, .string (S2.B []), .string (S2.B []), .int .i64 0, .string (S2.B []), .slice none 0 0, .string (S2.B []), .string (S2.B []), .string (S2.B []), .string (S2.B []), .int .i64 0, .slice none 0 0, .int .i64 0, .int .i64 0, .int .i64 0, .int .i64 0] 29)) (w.heap.size + 2) [.string (S2.B []), .int .i64 0, .string (S2.B []), .int .i64 0, .int .i64 0, .string (S2.B []), .string (S2.B []), .int .i64 0, .string (S2.B []), .slice none 0 0, .string (S2.B []), .string (S2.B []), .string (S2.B []), .string (S2.B []), .int .i64 0, .slice none 0 0, .int .i64 0, .int .i64 0, .int .i64 0, .int .i64 0] 29 from by have h := Lk.Bl.new ((w.alloc (.cells #[.int .i64 k, .int .i64 p] 31)).alloc (.cells cs.toArray 29)) [.string (S2.B []), .int .i64 0, .string (S2.B []), .int .i64 0, .int .i64 0, .string (S2.B []), .string (S2.B []), .int .i64 0, .string (S2.B []), .slice none 0 0, .string (S2.B []), .string (S2.B []), .string (S2.B []), .string (S2.B []), .int .i64 0, .slice none 0 0, .int .i64 0, .int .i64 0, .int .i64 0, .int .i64 0] 29; simpa using h)
  have GW := Lib.hid (show w.heap.size ≤ (w.heap.size + 1) by omega)
  have GK := Lib.hid (show w.heap.size < (w.heap.size + 1) by omega)
  have GV := Lib.hid (show bd ≤ (w.heap.size + 1) from Nat.le_trans hv0.le (by omega))
  have NE := Lib.hid (show (w.heap.size + 2) ≠ (w.heap.size + 1) by omega)
  have hv : valid a 0 0 = true := by unfold valid; rw [hg]; rfl
  have hcl := core_le (lim_of hg)
  have hcp := core_pos a
  have KC := fun (w : World) (bd : Nat) (cs : List Value) (h : Av w bd cs a 0 0) => core_yes w h hv
  rw [show core a 0 0 = coreB a from if_pos hv] at KC
  have KR := fun (W : World) => S5.Sg.pright_ok W k p hk W (Below.refl _ _)
  obtain ⟨c, hc⟩ : ∃ x : Str, x = coreB a := ⟨_, rfl⟩
  rw [← hc] at KC hcp
  have hne : (c == []) = false := by
    cases c with
    | nil => simp at hcp
    | cons => rfl
  have hne2 : (c != []) = true := by rw [bne, hne]; rfl
  replace KC := Lib.hid KC
  rw [decide_eq_false hr] at KR
  replace KR := Lib.hid KR
  clear hv0 hk hg hr hv hcl hcp hc
  obtain ⟨zc, hzc⟩ : ∃ x, x = Lk.zc := ⟨_, rfl⟩
  have HZC := Lib.hid hzc
  clear hzc
  have HI := Lib.hid (show (Tryz.prog.info? 29).map (·.size) = some zc.toArray.size by rw [Lk.info20, List.size_toArray, (show zc.length = 20 by rw [HZC.out]; rfl)])
  have HS := Lib.hid (show (20 : Nat) = zc.toArray.size by rw [List.size_toArray, (show zc.length = 20 by rw [HZC.out]; rfl)])
  have HO := Lib.hid (show zc.toArray.all (·.oneCell') = true by rw [HZC.out]; simp [Lk.zc, Value.oneCell'])
  go_enter Tryz.func13, Tryz.ntmps13
  go_wp2_with (first | ((with_reducible refine Lk.stX (w.heap.size + 1) 18 [.int .i64 0, .int .i64 0] (.agg #[.int .i64 0, .int .i64 0]) B1.out ?_ ?_ ?_ ?_ ?_ ?_ ?_); exact Lk.infoG; exact rfl; (rw [V.out.len]; exact Nat.le_of_ble_eq_true rfl); (simp [Value.oneCell']); exact rfl; exact rfl) | fail)
  intro w1 bN hb ho
  replace T := Lib.hid (T.out.under hb GW.out)
  replace K0 := Lib.hid (K0.out.under hb GK.out)
  replace V := Lib.hid (V.out.under hb GV.out)
  replace Z := Lib.hid (show Lk.Bl w1 (w.heap.size + 2) [.string (S2.B []), .int .i64 0, .string (S2.B []), .int .i64 0, .int .i64 0, .string (S2.B []), .string (S2.B []), .int .i64 0, .string (S2.B []), .slice none 0 0, .string (S2.B []), .string (S2.B []), .string (S2.B []), .string (S2.B []), .int .i64 0, .slice none 0 0, .int .i64 0, .int .i64 0, .int .i64 0, .int .i64 0] 29 from ⟨(ho.blk _ NE.out).trans Z.out.row⟩)
  obtain ⟨cs1, hcs1⟩ : ∃ x : List Value, x = cs.take 18 ++ [.int .i64 0, .int .i64 0] ++ cs.drop (18 + ([.int .i64 0, .int .i64 0] : List Value).length) := ⟨_, rfl⟩
  replace V := Lib.hid (show Av w1 bd cs1 a 0 0 from by rw [hcs1]; exact V.out.put 18 [.int .i64 0, .int .i64 0] rfl rfl (fun _ _ _ _ _ _ => rfl))
  replace B1 := Lib.hid (show Lk.Bl w1 (w.heap.size + 1) cs1 29 from by rw [hcs1]; exact bN)
  clear bN hb ho hcs1
  go_wp2_with (first | ((with_reducible refine Lk.ld (d := 8) (w.heap.size + 1) B1.out V.out.len ?_ ?_ ?_); exact rfl; exact rfl) | fail)
  refine (KC.out _ _ _ V.out).mono ?_
  rintro e w2 ⟨rfl, hb⟩
  replace T := Lib.hid (T.out.step hb)
  replace V := Lib.hid (V.out.step hb)
  replace K0 := Lib.hid (K0.out.step hb)
  replace B1 := Lib.hid (B1.out.step hb)
  replace Z := Lib.hid (Z.out.step hb)
  clear hb KC
  have cK0 := K0.out.c 0 _ rfl
  have cK1 := K0.out.c 1 _ rfl
  go_wp2_with fail
  clear cK0 cK1
  refine (KR.out _).mono ?_
  rintro e w3 ⟨rfl, hb⟩
  replace T := Lib.hid (T.out.step hb)
  replace V := Lib.hid (V.out.step hb)
  replace K0 := Lib.hid (K0.out.step hb)
  replace B1 := Lib.hid (B1.out.step hb)
  replace Z := Lib.hid (Z.out.step hb)
  clear hb KR
  go_wp2_with (first | ((with_reducible refine Lk.zr (d := 17) HZC.out ?_ ?_); exact rfl) | (refine wpList_store_row rfl 29 _ _ rfl (w.heap.size + 2) zc.toArray rfl rfl 29 _ Z.out.row HI.out HS.out HO.out ?_) | fail)
  exact bodyPost_ret (v := .agg zc.toArray) (results_cell_row Tryz.results13 _ _ (w.heap.size + 2) 29 _ (0, 0) _ rfl (setRow_heap _ _ _ _ _ _ Z.out.row) Tryz.underlying29 rfl HI.out) rfl
    ⟨zc, rfl, (by rw [HZC.out]; exact (Av.zero _).now), below_row T.out.bel _ (by omega) _⟩
set_option maxHeartbeats 8000000 in
set_option maxRecDepth 100000 in
theorem sign_yes {bd : Nat} {cs : List Value} {a : Ac} {e s : Int} (k p : Int) (w : World) (hk : S4.isI64 k) (hv0 : Av w bd cs a e s) (hL : S3.Laid w) (hq : S4.isI64 p) (hg : good a = true) (hr : S5.Sg.Rt k p) :
    Calls Tryz.prog 13 #[.agg #[.int .i64 k, .int .i64 p], .agg cs.toArray] w (GivesC a (S5.Sg.signV k p (coreB a)).1 (S5.Sg.signV k p (coreB a)).2 w) := by
  have T := Lib.hid ((((Lk.At.start w).alloc (.cells #[.int .i64 k, .int .i64 p] 31)).alloc (.cells cs.toArray 29)).alloc (.cells #[.string (S2.B []), .int .i64 0, .string (S2.B []), .int .i64 0, .int .i64 0, .string (S2.B []), .string (S2.B []), .int .i64 0, .string (S2.B []), .slice none 0 0, .string (S2.B []), .string (S2.B []), .string (S2.B []), .string (S2.B []), .int .i64 0, .slice none 0 0, .int .i64 0, .int .i64 0, .int .i64 0, .int .i64 0] 29))
  have V := Lib.hid (((hv0.alloc (.cells #[.int .i64 k, .int .i64 p] 31)).alloc (.cells cs.toArray 29)).alloc (.cells #[.string (S2.B []), .int .i64 0, .string (S2.B []), .int .i64 0, .int .i64 0, .string (S2.B []), .string (S2.B []), .int .i64 0, .string (S2.B []), .slice none 0 0, .string (S2.B []), .string (S2.B []), .string (S2.B []), .string (S2.B []), .int .i64 0, .slice none 0 0, .int .i64 0, .int .i64 0, .int .i64 0, .int .i64 0] 29))
  have K0 := Lib.hid (((show Lk.Bl (w.alloc (.cells #[.int .i64 k, .int .i64 p] 31)) w.heap.size [.int .i64 k, .int .i64 p] 31 from Lk.Bl.new w [.int .i64 k, .int .i64 p] 31).alloc (.cells cs.toArray 29)).alloc (.cells #[.string (S2.B []), .int .i64 0, .string (S2.B []), .int .i64 0, .int .i64 0, .string (S2.B []), .string (S2.B []), .int .i64 0, .string (S2.B []), .slice none 0 0, .string (S2.B []), .string (S2.B []), .string (S2.B []), .string (S2.B []), .int .i64 0, .slice none 0 0, .int .i64 0, .int .i64 0, .int .i64 0, .int .i64 0] 29))
  have B1 := Lib.hid ((show Lk.Bl ((w.alloc (.cells #[.int .i64 k, .int .i64 p] 31)).alloc (.cells cs.toArray 29)) (w.heap.size + 1) cs 29 from by have h := Lk.Bl.new (w.alloc (.cells #[.int .i64 k, .int .i64 p] 31)) cs 29; simpa using h).alloc (.cells #[.string (S2.B []), .int .i64 0, .string (S2.B []), .int .i64 0, .int .i64 0, .string (S2.B []), .string (S2.B []), .int .i64 0, .string (S2.B []), .slice none 0 0, .string (S2.B []), .string (S2.B []), .string (S2.B []), .string (S2.B []), .int .i64 0, .slice none 0 0, .int .i64 0, .int .i64 0, .int .i64 0, .int .i64 0] 29))
  have Z := Lib.hid (show Lk.Bl (((w.alloc (.cells #[.int .i64 k, .int .i64 p] 31)).alloc (.cells cs.toArray 29)).alloc (.cells #[.string (S2.B []), .int .i64 0, .string (S2.B []), .int .i64 0, .int .i64 0, .string (S2.B []), .string (S2.B []), .int .i64 0, .string (S2.B []), .slice none 0 0, .string (S2.B []), .string (S2.B []), .string (S2.B []), .string (S2.B []), .int .i64 0, .slice none 0 0, .int .i64 0, .int .i64 0, .int .i64 0, .int .i64 0] 29)) (w.heap.size + 2) [.string (S2.B []), .int .i64 0, .string (S2.B []), .int .i64 0, .int .i64 0, .string (S2.B []), .string (S2.B []), .int .i64 0, .string (S2.B []), .slice none 0 0, .string (S2.B []), .string (S2.B []), .string (S2.B []), .string (S2.B []), .int .i64 0, .slice none 0 0, .int .i64 0, .int .i64 0, .int .i64 0, .int .i64 0] 29 from by have h := Lk.Bl.new ((w.alloc (.cells #[.int .i64 k, .int .i64 p] 31)).alloc (.cells cs.toArray 29)) [.string (S2.B []), .int .i64 0, .string (S2.B []), .int .i64 0, .int .i64 0, .string (S2.B []), .string (S2.B []), .int .i64 0, .string (S2.B []), .slice none 0 0, .string (S2.B []), .string (S2.B []), .string (S2.B []), .string (S2.B []), .int .i64 0, .slice none 0 0, .int .i64 0, .int .i64 0, .int .i64 0, .int .i64 0] 29; simpa using h)
  have GW := Lib.hid (show w.heap.size ≤ (w.heap.size + 1) by omega)
  have GK := Lib.hid (show w.heap.size < (w.heap.size + 1) by omega)
  have GV := Lib.hid (show bd ≤ (w.heap.size + 1) from Nat.le_trans hv0.le (by omega))
  have NE := Lib.hid (show (w.heap.size + 2) ≠ (w.heap.size + 1) by omega)
  have hv : valid a 0 0 = true := by unfold valid; rw [hg]; rfl
  have hcl := core_le (lim_of hg)
  have hcp := core_pos a
  have KC := fun (w : World) (bd : Nat) (cs : List Value) (h : Av w bd cs a 0 0) => core_yes w h hv
  rw [show core a 0 0 = coreB a from if_pos hv] at KC
  have KR := fun (W : World) => S5.Sg.pright_ok W k p hk W (Below.refl _ _)
  have KS := fun (W : World) (hW : S3.Laid W) => S5.Sg.psign_ok W hW k p (coreB a) hk hq (by omega) W (Below.refl _ _)
  obtain ⟨E, hE⟩ : ∃ x, x = (S5.Sg.signV k p (coreB a)).1 := ⟨_, rfl⟩
  obtain ⟨S, hS⟩ : ∃ x, x = (S5.Sg.signV k p (coreB a)).2 := ⟨_, rfl⟩
  replace KS := fun (W : World) (hW : S3.Laid W) => (show Calls Tryz.prog 43 #[.agg #[.int .i64 k, .int .i64 p], .string (S2.B (coreB a))] W fun x w' => x = .returned (.agg #[.int .i64 (S5.Sg.signV k p (coreB a)).1, .int .i64 (S5.Sg.signV k p (coreB a)).2]) ∧ Below W.heap.size W w' from KS W hW)
  rw [← hE, ← hS] at KS
  rw [← hE, ← hS]
  have HN9 := Lib.hid (show a.to.length ≤ 90000 by have := (S11.Idt.ids_iff.1 (lim_of hg).to).len; omega)
  have HN15 := Lib.hid (show a.wraps.length ≤ 90000 by have := (lim_of hg).wraps.2; omega)
  obtain ⟨c, hc⟩ : ∃ x : Str, x = coreB a := ⟨_, rfl⟩
  rw [← hc] at KC hcp KS
  have hne : (c == []) = false := by
    cases c with
    | nil => simp at hcp
    | cons => rfl
  have hne2 : (c != []) = true := by rw [bne, hne]; rfl
  replace KC := Lib.hid KC
  rw [decide_eq_true hr] at KR
  replace KR := Lib.hid KR
  replace KS := Lib.hid KS
  have HL := Lib.hid hL
  clear hv0 hk hg hr hv hcl hcp hc hq hE hS hL
  go_enter Tryz.func13, Tryz.ntmps13
  go_wp2_with (first | ((with_reducible refine Lk.stX (w.heap.size + 1) 18 [.int .i64 0, .int .i64 0] (.agg #[.int .i64 0, .int .i64 0]) B1.out ?_ ?_ ?_ ?_ ?_ ?_ ?_); exact Lk.infoG; exact rfl; (rw [V.out.len]; exact Nat.le_of_ble_eq_true rfl); (simp [Value.oneCell']); exact rfl; exact rfl) | fail)
  intro w1 bN hb ho
  replace T := Lib.hid (T.out.under hb GW.out)
  replace K0 := Lib.hid (K0.out.under hb GK.out)
  replace V := Lib.hid (V.out.under hb GV.out)
  replace Z := Lib.hid (show Lk.Bl w1 (w.heap.size + 2) [.string (S2.B []), .int .i64 0, .string (S2.B []), .int .i64 0, .int .i64 0, .string (S2.B []), .string (S2.B []), .int .i64 0, .string (S2.B []), .slice none 0 0, .string (S2.B []), .string (S2.B []), .string (S2.B []), .string (S2.B []), .int .i64 0, .slice none 0 0, .int .i64 0, .int .i64 0, .int .i64 0, .int .i64 0] 29 from ⟨(ho.blk _ NE.out).trans Z.out.row⟩)
  obtain ⟨cs1, hcs1⟩ : ∃ x : List Value, x = cs.take 18 ++ [.int .i64 0, .int .i64 0] ++ cs.drop (18 + ([.int .i64 0, .int .i64 0] : List Value).length) := ⟨_, rfl⟩
  replace V := Lib.hid (show Av w1 bd cs1 a 0 0 from by rw [hcs1]; exact V.out.put 18 [.int .i64 0, .int .i64 0] rfl rfl (fun _ _ _ _ _ _ => rfl))
  replace B1 := Lib.hid (show Lk.Bl w1 (w.heap.size + 1) cs1 29 from by rw [hcs1]; exact bN)
  clear bN hb ho hcs1
  go_wp2_with (first | ((with_reducible refine Lk.ld (d := 8) (w.heap.size + 1) B1.out V.out.len ?_ ?_ ?_); exact rfl; exact rfl) | fail)
  refine (KC.out _ _ _ V.out).mono ?_
  rintro e w2 ⟨rfl, hb⟩
  replace T := Lib.hid (T.out.step hb)
  replace V := Lib.hid (V.out.step hb)
  replace K0 := Lib.hid (K0.out.step hb)
  replace B1 := Lib.hid (B1.out.step hb)
  replace Z := Lib.hid (Z.out.step hb)
  clear hb KC
  have cK0 := K0.out.c 0 _ rfl
  have cK1 := K0.out.c 1 _ rfl
  go_wp2_with fail
  clear cK0 cK1
  refine (KR.out _).mono ?_
  rintro e w3 ⟨rfl, hb⟩
  replace T := Lib.hid (T.out.step hb)
  replace V := Lib.hid (V.out.step hb)
  replace K0 := Lib.hid (K0.out.step hb)
  replace B1 := Lib.hid (B1.out.step hb)
  replace Z := Lib.hid (Z.out.step hb)
  clear hb KR
  have cK0 := K0.out.c 0 _ rfl
  have cK1 := K0.out.c 1 _ rfl
  go_wp2_with fail
  clear cK0 cK1
  refine (KS.out _ (S5.Sg.laid_below HL.out T.out.bel)).mono ?_
  rintro e w4 ⟨rfl, hb⟩
  replace T := Lib.hid (T.out.step hb)
  replace V := Lib.hid (V.out.step hb)
  replace K0 := Lib.hid (K0.out.step hb)
  replace B1 := Lib.hid (B1.out.step hb)
  replace Z := Lib.hid (Z.out.step hb)
  clear hb KS
  go_wp2_with (first | ((with_reducible refine Lk.stX (w.heap.size + 1) 18 [.int .i64 E, .int .i64 S] (.agg #[.int .i64 E, .int .i64 S]) B1.out ?_ ?_ ?_ ?_ ?_ ?_ ?_); exact Lk.infoG; exact rfl; (rw [V.out.len]; exact Nat.le_of_ble_eq_true rfl); (simp [Value.oneCell']); exact rfl; exact rfl) | fail)
  intro w5 bN hb ho
  replace T := Lib.hid (T.out.under hb GW.out)
  replace K0 := Lib.hid (K0.out.under hb GK.out)
  replace V := Lib.hid (V.out.under hb GV.out)
  replace Z := Lib.hid (show Lk.Bl w5 (w.heap.size + 2) [.string (S2.B []), .int .i64 0, .string (S2.B []), .int .i64 0, .int .i64 0, .string (S2.B []), .string (S2.B []), .int .i64 0, .string (S2.B []), .slice none 0 0, .string (S2.B []), .string (S2.B []), .string (S2.B []), .string (S2.B []), .int .i64 0, .slice none 0 0, .int .i64 0, .int .i64 0, .int .i64 0, .int .i64 0] 29 from ⟨(ho.blk _ NE.out).trans Z.out.row⟩)
  obtain ⟨cs2, hcs2⟩ : ∃ x : List Value, x = cs1.take 18 ++ [.int .i64 E, .int .i64 S] ++ cs1.drop (18 + ([.int .i64 E, .int .i64 S] : List Value).length) := ⟨_, rfl⟩
  replace V := Lib.hid (show Av w5 bd cs2 a E S from by rw [hcs2]; exact V.out.put 18 [.int .i64 E, .int .i64 S] rfl rfl (fun _ _ _ _ _ _ => rfl))
  replace B1 := Lib.hid (show Lk.Bl w5 (w.heap.size + 1) cs2 29 from by rw [hcs2]; exact bN)
  clear bN hb ho hcs2
  clear hne hne2
  obtain ⟨A, nA, cA, h9, hn9, hc9, hr9⟩ := V.out.to
  obtain ⟨Q, nQ, cQ, h15, hn15, hc15, hr15⟩ := V.out.wraps
  have KT := Lib.hid fun (w : World) (h : Av w bd cs2 a E S) => cloneS_any A a.to nA cA w hn9 ((h.toAt h9).2.2.more h.le) (by rw [hn9]; exact HN9.out)
  have KW := Lib.hid fun (w : World) (h : Av w bd cs2 a E S) => cloneW_any Q a.wraps nQ cQ w hn15 ((h.wrAt h15).2.2.more h.le) (by rw [hn15]; exact HN15.out)
  have H9 := Lib.hid h9
  have H15 := Lib.hid h15
  clear h9 hn9 hc9 hr9 h15 hn15 hc15 hr15
  go_wp2_with fail
  replace T := Lib.hid (T.out.drew)
  replace V := Lib.hid (V.out.drew)
  replace K0 := Lib.hid (K0.out.drew)
  replace B1 := Lib.hid (B1.out.drew)
  replace Z := Lib.hid (Z.out.drew)
  refine wp_region_held_drew (S := (fun _ => True)) (by kernel_rfl) trivial (fun hHeld => ?_)
  generalize w5.drew = w6 at *
  refine wpAnyH_take (i := 0) (oi := ⟨_, _, _, _, _, _⟩) (v := ?_) rfl (by kernel_rfl) (by kernel_rfl) (by kernel_rfl) (fun _ _ _ h => h) (Or.inl ⟨by rfl, ?_⟩) (by assumption) ?_
  rotate_left
  · intro wz hSw
    try dsimp only at hSw
    go_simp
    try with_reducible rfl
  try simp only [Act.put, List.setIfInBounds_toArray, List.set_cons_zero, List.set_cons_succ]
  refine wpAnyH_take (i := 3) (oi := ⟨_, _, _, _, _, _⟩) (v := ?_) rfl (by kernel_rfl) (by kernel_rfl) (by kernel_rfl) (fun _ _ _ h => h) (Or.inl ⟨by rfl, ?_⟩) (by assumption) ?_
  rotate_left
  · intro wz hSw
    try dsimp only at hSw
    go_simp
    try with_reducible rfl
  try simp only [Act.put, List.setIfInBounds_toArray, List.set_cons_zero, List.set_cons_succ]
  refine wpAnyH_ready (rs := [1, 4]) (by kernel_rfl) (by simp) ?_
  refine AllReadyH.cons (o := ⟨_, _, _, _, _, _⟩) rfl (fun K hK => ?_) (AllReadyH.cons (o := ⟨_, _, _, _, _, _⟩) rfl (fun K hK => ?_) AllReadyH.nil)
  · have q := B1.out.c 9 _ H9.out
    go_simp
    clear q hHeld
    refine hK.out _ _ trivial (fun hHeld => ?_)
    clear hK K
    try simp only [Act.put, List.setIfInBounds_toArray, List.set_cons_zero, List.set_cons_succ]
    refine wpAnyH_ready (rs := [2, 4]) (by kernel_rfl) (by simp) ?_
    refine AllReadyH.cons (o := ⟨_, _, _, _, _, _⟩) rfl (fun K hK => ?_) (AllReadyH.cons (o := ⟨_, _, _, _, _, _⟩) rfl (fun K hK => ?_) AllReadyH.nil)
    · go_simp
      refine (KT.out _ V.out).mono ?_
      rintro e w7 ⟨B, m, d, rfl, ho, hb⟩
      obtain ⟨r1, r2, r3, r4⟩ := Row_of_Own ho
      have LZ := Z.out.lt
      have AT := Lib.hid (show ∀ x, B = some x → w.heap.size + 3 ≤ x.block from fun x hx => Nat.le_trans LZ (r2 x hx))
      have NT := Lib.hid (show m = _ ∧ m ≤ d from ⟨r3, r4⟩)
      replace T := Lib.hid (T.out.step hb)
      replace V := Lib.hid (V.out.step hb)
      replace K0 := Lib.hid (K0.out.step hb)
      replace B1 := Lib.hid (B1.out.step hb)
      replace Z := Lib.hid (Z.out.step hb)
      have RT := Lib.hid r1
      clear ho hb r1 r2 r3 r4 LZ hHeld
      refine hK.out _ _ trivial (fun hHeld => ?_)
      clear hK K
      try simp only [Act.put, List.setIfInBounds_toArray, List.set_cons_zero, List.set_cons_succ]
      refine wpAnyH_ready (rs := [4]) (by kernel_rfl) (by simp) ?_
      refine AllReadyH.cons (o := ⟨_, _, _, _, _, _⟩) rfl (fun K hK => ?_) AllReadyH.nil
      have q := B1.out.c 15 _ H15.out
      go_simp
      clear q hHeld
      refine hK.out _ _ trivial (fun hHeld => ?_)
      clear hK K
      try simp only [Act.put, List.setIfInBounds_toArray, List.set_cons_zero, List.set_cons_succ]
      refine wpAnyH_take (i := 6) (oi := ⟨_, _, _, _, _, _⟩) (v := ?_) rfl (by kernel_rfl) (by kernel_rfl) (by kernel_rfl) (fun _ _ _ h => h) (Or.inl ⟨by rfl, ?_⟩) (by assumption) ?_
      rotate_left
      · intro wz hSw
        try dsimp only at hSw
        go_simp
        try with_reducible rfl
      try simp only [Act.put, List.setIfInBounds_toArray, List.set_cons_zero, List.set_cons_succ]
      refine wpAnyH_ready (rs := [5]) (by kernel_rfl) (by simp) ?_
      refine AllReadyH.cons (o := ⟨_, _, _, _, _, _⟩) rfl (fun K hK => ?_) AllReadyH.nil
      go_simp
      refine (KW.out _ V.out).mono ?_
      rintro e w8 ⟨D, l, c, rfl, ho, hb⟩
      obtain ⟨r1, r2, r3, r4⟩ := Row_of_OwnW ho
      have LZ := Z.out.lt
      have AW := Lib.hid (show ∀ x, D = some x → w.heap.size + 3 ≤ x.block from fun x hx => Nat.le_trans LZ (r2 x hx))
      have NW := Lib.hid (show l = _ ∧ l ≤ c from ⟨r3, r4⟩)
      replace T := Lib.hid (T.out.step hb)
      replace V := Lib.hid (V.out.step hb)
      replace K0 := Lib.hid (K0.out.step hb)
      replace B1 := Lib.hid (B1.out.step hb)
      replace Z := Lib.hid (Z.out.step hb)
      replace RT := Lib.hid ((RT.out.below hb).more hb.size)
      have RW := Lib.hid r1
      clear ho hb r1 r2 r3 r4 LZ hHeld
      refine hK.out _ _ trivial (fun hHeld => ?_)
      clear hK K
      try simp only [Act.put, List.setIfInBounds_toArray, List.set_cons_zero, List.set_cons_succ]
      refine wpAnyH_ready (rs := [7]) (by kernel_rfl) (by simp) ?_
      refine AllReadyH.cons (o := ⟨_, _, _, _, _, _⟩) rfl (fun K hK => ?_) AllReadyH.nil
      refine Lk.step_stA rfl _ _ _ rfl (w.heap.size + 1) 9 [.slice B m d] (.slice B m d) B1.out Lk.infoLS rfl (by rw [V.out.len]; exact Nat.le_of_ble_eq_true rfl) (by simp [Value.oneCell']) rfl rfl ?_
      intro w9 bN hb ho
      replace T := Lib.hid (T.out.under hb GW.out)
      replace V := Lib.hid (V.out.under hb GV.out)
      replace K0 := Lib.hid (K0.out.under hb GK.out)
      replace Z := Lib.hid (show Lk.Bl w9 (w.heap.size + 2) [.string (S2.B []), .int .i64 0, .string (S2.B []), .int .i64 0, .int .i64 0, .string (S2.B []), .string (S2.B []), .int .i64 0, .string (S2.B []), .slice none 0 0, .string (S2.B []), .string (S2.B []), .string (S2.B []), .string (S2.B []), .int .i64 0, .slice none 0 0, .int .i64 0, .int .i64 0, .int .i64 0, .int .i64 0] 29 from ⟨(ho.blk _ NE.out).trans Z.out.row⟩)
      replace RT := Lib.hid ((row_only RT.out ho AT.out (by omega)).more (Nat.le_of_eq ho.size.symm))
      replace RW := Lib.hid ((row_only RW.out ho AW.out (by omega)).more (Nat.le_of_eq ho.size.symm))
      obtain ⟨cs3, hcs3⟩ : ∃ x : List Value, x = cs2.take 9 ++ [.slice B m d] ++ cs2.drop (9 + ([.slice B m d] : List Value).length) := ⟨_, rfl⟩
      have L3 := Lib.hid (show cs3.length = 20 from by rw [hcs3]; simp [V.out.len])
      replace B1 := Lib.hid (show Lk.Bl w9 (w.heap.size + 1) cs3 29 from by rw [hcs3]; exact bN)
      have E3 := Lib.hid hcs3
      clear bN hb ho hcs3 hHeld
      refine hK.out _ _ trivial (fun hHeld => ?_)
      clear hK K
      try simp only [Act.put]
      refine wpAnyH_take (i := 8) (oi := ⟨_, _, _, _, _, _⟩) (v := ?_) rfl (by kernel_rfl) (by kernel_rfl) (by kernel_rfl) (fun _ _ _ h => h) (Or.inl ⟨by rfl, ?_⟩) (by assumption) ?_
      rotate_left
      · intro wz hSw
        try dsimp only at hSw
        go_simp
        try with_reducible rfl
      try simp only [Act.put, List.setIfInBounds_toArray, List.set_cons_zero, List.set_cons_succ]
      refine wpAnyH_ready (rs := [9]) (by kernel_rfl) (by simp) ?_
      refine AllReadyH.cons (o := ⟨_, _, _, _, _, _⟩) rfl (fun K hK => ?_) AllReadyH.nil
      refine Lk.step_stA rfl _ _ _ rfl (w.heap.size + 1) 15 [.slice D l c] (.slice D l c) B1.out Lk.infoLW rfl (by rw [L3.out]; exact Nat.le_of_ble_eq_true rfl) (by simp [Value.oneCell']) rfl rfl ?_
      intro w10 bN hb ho
      replace T := Lib.hid (T.out.under hb GW.out)
      replace V := Lib.hid (V.out.under hb GV.out)
      replace K0 := Lib.hid (K0.out.under hb GK.out)
      replace Z := Lib.hid (show Lk.Bl w10 (w.heap.size + 2) [.string (S2.B []), .int .i64 0, .string (S2.B []), .int .i64 0, .int .i64 0, .string (S2.B []), .string (S2.B []), .int .i64 0, .string (S2.B []), .slice none 0 0, .string (S2.B []), .string (S2.B []), .string (S2.B []), .string (S2.B []), .int .i64 0, .slice none 0 0, .int .i64 0, .int .i64 0, .int .i64 0, .int .i64 0] 29 from ⟨(ho.blk _ NE.out).trans Z.out.row⟩)
      replace RT := Lib.hid ((row_only RT.out ho AT.out (by omega)).more (Nat.le_of_eq ho.size.symm))
      replace RW := Lib.hid ((row_only RW.out ho AW.out (by omega)).more (Nat.le_of_eq ho.size.symm))
      obtain ⟨cs4, hcs4⟩ : ∃ x : List Value, x = cs3.take 15 ++ [.slice D l c] ++ cs3.drop (15 + ([.slice D l c] : List Value).length) := ⟨_, rfl⟩
      have L4 := Lib.hid (show cs4.length = 20 from by rw [hcs4]; simp [L3.out])
      replace B1 := Lib.hid (show Lk.Bl w10 (w.heap.size + 1) cs4 29 from by rw [hcs4]; exact bN)
      have E4 := Lib.hid hcs4
      clear bN hb ho hcs4 hHeld
      refine hK.out _ _ trivial (fun hHeld => ?_)
      clear hK K
      try simp only [Act.put]
      refine wpAnyH_done (by kernel_rfl) ?_ _
      clear hHeld
      have V4 := Lib.hid (show ∀ w' : World, S2.Row w' w'.heap.size B (S2.Ss a.to) → S2.Row w' w'.heap.size D (Ws a.wraps) → Av w' w'.heap.size cs4 a E S from by
        intro w' r1 r2
        rw [E4.out, E3.out]
        obtain ⟨A', nA', cA', Q', nQ', cQ', e2, hp⟩ := V.out
        rw [e2]
        exact ⟨B, m, d, D, l, c, rfl, ⟨NT.out.1, NT.out.2, r1, NW.out.1, NW.out.2, r2, Nat.le_refl _⟩⟩)
      have HI := Lib.hid (show (Tryz.prog.info? 29).map (·.size) = some cs4.toArray.size by rw [Lk.info20, List.size_toArray, L4.out])
      have HS := Lib.hid (show (20 : Nat) = cs4.toArray.size by rw [List.size_toArray, L4.out])
      have HO := Lib.hid (show cs4.toArray.all (·.oneCell') = true by exact (V4.out _ RT.out RW.out).one)
      go_wp2_with (first | ((with_reducible refine Lk.ld (d := 30) (w.heap.size + 1) B1.out L4.out ?_ ?_ ?_); exact rfl; exact rfl) | (refine wpList_store_row rfl 29 _ _ rfl (w.heap.size + 2) cs4.toArray rfl rfl 29 _ Z.out.row HI.out HS.out HO.out ?_) | fail)
      have hon : Only (w.heap.size + 2) w10 (w10.setRow (w.heap.size + 2) cs4.toArray) := ⟨by simp [World.setRow], fun k hk => setRow_other _ _ _ _ hk⟩
      exact bodyPost_ret (v := .agg cs4.toArray) (results_cell_row Tryz.results13 _ _ (w.heap.size + 2) 29 _ (0, 0) _ rfl (setRow_heap _ _ _ _ _ _ Z.out.row) Tryz.underlying29 rfl HI.out) rfl
        ⟨cs4, rfl, V4.out _ ((row_only RT.out hon AT.out (by omega)).more (Nat.le_of_eq hon.size.symm)) ((row_only RW.out hon AW.out (by omega)).more (Nat.le_of_eq hon.size.symm)), below_row T.out.bel _ (by omega) _⟩
    · have q := B1.out.c 15 _ H15.out
      go_simp
      clear q hHeld
      refine hK.out _ _ trivial (fun hHeld => ?_)
      clear hK K
      try simp only [Act.put, List.setIfInBounds_toArray, List.set_cons_zero, List.set_cons_succ]
      refine wpAnyH_ready (rs := [2]) (by kernel_rfl) (by simp) ?_
      refine AllReadyH.cons (o := ⟨_, _, _, _, _, _⟩) rfl (fun K hK => ?_) AllReadyH.nil
      go_simp
      refine (KT.out _ V.out).mono ?_
      rintro e w7 ⟨B, m, d, rfl, ho, hb⟩
      obtain ⟨r1, r2, r3, r4⟩ := Row_of_Own ho
      have LZ := Z.out.lt
      have AT := Lib.hid (show ∀ x, B = some x → w.heap.size + 3 ≤ x.block from fun x hx => Nat.le_trans LZ (r2 x hx))
      have NT := Lib.hid (show m = _ ∧ m ≤ d from ⟨r3, r4⟩)
      replace T := Lib.hid (T.out.step hb)
      replace V := Lib.hid (V.out.step hb)
      replace K0 := Lib.hid (K0.out.step hb)
      replace B1 := Lib.hid (B1.out.step hb)
      replace Z := Lib.hid (Z.out.step hb)
      have RT := Lib.hid r1
      clear ho hb r1 r2 r3 r4 LZ hHeld
      refine hK.out _ _ trivial (fun hHeld => ?_)
      clear hK K
      try simp only [Act.put, List.setIfInBounds_toArray, List.set_cons_zero, List.set_cons_succ]
      refine wpAnyH_take (i := 6) (oi := ⟨_, _, _, _, _, _⟩) (v := ?_) rfl (by kernel_rfl) (by kernel_rfl) (by kernel_rfl) (fun _ _ _ h => h) (Or.inl ⟨by rfl, ?_⟩) (by assumption) ?_
      rotate_left
      · intro wz hSw
        try dsimp only at hSw
        go_simp
        try with_reducible rfl
      try simp only [Act.put, List.setIfInBounds_toArray, List.set_cons_zero, List.set_cons_succ]
      refine wpAnyH_ready (rs := [5]) (by kernel_rfl) (by simp) ?_
      refine AllReadyH.cons (o := ⟨_, _, _, _, _, _⟩) rfl (fun K hK => ?_) AllReadyH.nil
      go_simp
      refine (KW.out _ V.out).mono ?_
      rintro e w8 ⟨D, l, c, rfl, ho, hb⟩
      obtain ⟨r1, r2, r3, r4⟩ := Row_of_OwnW ho
      have LZ := Z.out.lt
      have AW := Lib.hid (show ∀ x, D = some x → w.heap.size + 3 ≤ x.block from fun x hx => Nat.le_trans LZ (r2 x hx))
      have NW := Lib.hid (show l = _ ∧ l ≤ c from ⟨r3, r4⟩)
      replace T := Lib.hid (T.out.step hb)
      replace V := Lib.hid (V.out.step hb)
      replace K0 := Lib.hid (K0.out.step hb)
      replace B1 := Lib.hid (B1.out.step hb)
      replace Z := Lib.hid (Z.out.step hb)
      replace RT := Lib.hid ((RT.out.below hb).more hb.size)
      have RW := Lib.hid r1
      clear ho hb r1 r2 r3 r4 LZ hHeld
      refine hK.out _ _ trivial (fun hHeld => ?_)
      clear hK K
      try simp only [Act.put, List.setIfInBounds_toArray, List.set_cons_zero, List.set_cons_succ]
      refine wpAnyH_ready (rs := [7]) (by kernel_rfl) (by simp) ?_
      refine AllReadyH.cons (o := ⟨_, _, _, _, _, _⟩) rfl (fun K hK => ?_) AllReadyH.nil
      refine Lk.step_stA rfl _ _ _ rfl (w.heap.size + 1) 9 [.slice B m d] (.slice B m d) B1.out Lk.infoLS rfl (by rw [V.out.len]; exact Nat.le_of_ble_eq_true rfl) (by simp [Value.oneCell']) rfl rfl ?_
      intro w9 bN hb ho
      replace T := Lib.hid (T.out.under hb GW.out)
      replace V := Lib.hid (V.out.under hb GV.out)
      replace K0 := Lib.hid (K0.out.under hb GK.out)
      replace Z := Lib.hid (show Lk.Bl w9 (w.heap.size + 2) [.string (S2.B []), .int .i64 0, .string (S2.B []), .int .i64 0, .int .i64 0, .string (S2.B []), .string (S2.B []), .int .i64 0, .string (S2.B []), .slice none 0 0, .string (S2.B []), .string (S2.B []), .string (S2.B []), .string (S2.B []), .int .i64 0, .slice none 0 0, .int .i64 0, .int .i64 0, .int .i64 0, .int .i64 0] 29 from ⟨(ho.blk _ NE.out).trans Z.out.row⟩)
      replace RT := Lib.hid ((row_only RT.out ho AT.out (by omega)).more (Nat.le_of_eq ho.size.symm))
      replace RW := Lib.hid ((row_only RW.out ho AW.out (by omega)).more (Nat.le_of_eq ho.size.symm))
      obtain ⟨cs3, hcs3⟩ : ∃ x : List Value, x = cs2.take 9 ++ [.slice B m d] ++ cs2.drop (9 + ([.slice B m d] : List Value).length) := ⟨_, rfl⟩
      have L3 := Lib.hid (show cs3.length = 20 from by rw [hcs3]; simp [V.out.len])
      replace B1 := Lib.hid (show Lk.Bl w9 (w.heap.size + 1) cs3 29 from by rw [hcs3]; exact bN)
      have E3 := Lib.hid hcs3
      clear bN hb ho hcs3 hHeld
      refine hK.out _ _ trivial (fun hHeld => ?_)
      clear hK K
      try simp only [Act.put]
      refine wpAnyH_take (i := 8) (oi := ⟨_, _, _, _, _, _⟩) (v := ?_) rfl (by kernel_rfl) (by kernel_rfl) (by kernel_rfl) (fun _ _ _ h => h) (Or.inl ⟨by rfl, ?_⟩) (by assumption) ?_
      rotate_left
      · intro wz hSw
        try dsimp only at hSw
        go_simp
        try with_reducible rfl
      try simp only [Act.put, List.setIfInBounds_toArray, List.set_cons_zero, List.set_cons_succ]
      refine wpAnyH_ready (rs := [9]) (by kernel_rfl) (by simp) ?_
      refine AllReadyH.cons (o := ⟨_, _, _, _, _, _⟩) rfl (fun K hK => ?_) AllReadyH.nil
      refine Lk.step_stA rfl _ _ _ rfl (w.heap.size + 1) 15 [.slice D l c] (.slice D l c) B1.out Lk.infoLW rfl (by rw [L3.out]; exact Nat.le_of_ble_eq_true rfl) (by simp [Value.oneCell']) rfl rfl ?_
      intro w10 bN hb ho
      replace T := Lib.hid (T.out.under hb GW.out)
      replace V := Lib.hid (V.out.under hb GV.out)
      replace K0 := Lib.hid (K0.out.under hb GK.out)
      replace Z := Lib.hid (show Lk.Bl w10 (w.heap.size + 2) [.string (S2.B []), .int .i64 0, .string (S2.B []), .int .i64 0, .int .i64 0, .string (S2.B []), .string (S2.B []), .int .i64 0, .string (S2.B []), .slice none 0 0, .string (S2.B []), .string (S2.B []), .string (S2.B []), .string (S2.B []), .int .i64 0, .slice none 0 0, .int .i64 0, .int .i64 0, .int .i64 0, .int .i64 0] 29 from ⟨(ho.blk _ NE.out).trans Z.out.row⟩)
      replace RT := Lib.hid ((row_only RT.out ho AT.out (by omega)).more (Nat.le_of_eq ho.size.symm))
      replace RW := Lib.hid ((row_only RW.out ho AW.out (by omega)).more (Nat.le_of_eq ho.size.symm))
      obtain ⟨cs4, hcs4⟩ : ∃ x : List Value, x = cs3.take 15 ++ [.slice D l c] ++ cs3.drop (15 + ([.slice D l c] : List Value).length) := ⟨_, rfl⟩
      have L4 := Lib.hid (show cs4.length = 20 from by rw [hcs4]; simp [L3.out])
      replace B1 := Lib.hid (show Lk.Bl w10 (w.heap.size + 1) cs4 29 from by rw [hcs4]; exact bN)
      have E4 := Lib.hid hcs4
      clear bN hb ho hcs4 hHeld
      refine hK.out _ _ trivial (fun hHeld => ?_)
      clear hK K
      try simp only [Act.put]
      refine wpAnyH_done (by kernel_rfl) ?_ _
      clear hHeld
      have V4 := Lib.hid (show ∀ w' : World, S2.Row w' w'.heap.size B (S2.Ss a.to) → S2.Row w' w'.heap.size D (Ws a.wraps) → Av w' w'.heap.size cs4 a E S from by
        intro w' r1 r2
        rw [E4.out, E3.out]
        obtain ⟨A', nA', cA', Q', nQ', cQ', e2, hp⟩ := V.out
        rw [e2]
        exact ⟨B, m, d, D, l, c, rfl, ⟨NT.out.1, NT.out.2, r1, NW.out.1, NW.out.2, r2, Nat.le_refl _⟩⟩)
      have HI := Lib.hid (show (Tryz.prog.info? 29).map (·.size) = some cs4.toArray.size by rw [Lk.info20, List.size_toArray, L4.out])
      have HS := Lib.hid (show (20 : Nat) = cs4.toArray.size by rw [List.size_toArray, L4.out])
      have HO := Lib.hid (show cs4.toArray.all (·.oneCell') = true by exact (V4.out _ RT.out RW.out).one)
      go_wp2_with (first | ((with_reducible refine Lk.ld (d := 30) (w.heap.size + 1) B1.out L4.out ?_ ?_ ?_); exact rfl; exact rfl) | (refine wpList_store_row rfl 29 _ _ rfl (w.heap.size + 2) cs4.toArray rfl rfl 29 _ Z.out.row HI.out HS.out HO.out ?_) | fail)
      have hon : Only (w.heap.size + 2) w10 (w10.setRow (w.heap.size + 2) cs4.toArray) := ⟨by simp [World.setRow], fun k hk => setRow_other _ _ _ _ hk⟩
      exact bodyPost_ret (v := .agg cs4.toArray) (results_cell_row Tryz.results13 _ _ (w.heap.size + 2) 29 _ (0, 0) _ rfl (setRow_heap _ _ _ _ _ _ Z.out.row) Tryz.underlying29 rfl HI.out) rfl
        ⟨cs4, rfl, V4.out _ ((row_only RT.out hon AT.out (by omega)).more (Nat.le_of_eq hon.size.symm)) ((row_only RW.out hon AW.out (by omega)).more (Nat.le_of_eq hon.size.symm)), below_row T.out.bel _ (by omega) _⟩
  · have q := B1.out.c 15 _ H15.out
    go_simp
    clear q hHeld
    refine hK.out _ _ trivial (fun hHeld => ?_)
    clear hK K
    try simp only [Act.put, List.setIfInBounds_toArray, List.set_cons_zero, List.set_cons_succ]
    refine wpAnyH_ready (rs := [1]) (by kernel_rfl) (by simp) ?_
    refine AllReadyH.cons (o := ⟨_, _, _, _, _, _⟩) rfl (fun K hK => ?_) AllReadyH.nil
    have q := B1.out.c 9 _ H9.out
    go_simp
    clear q hHeld
    refine hK.out _ _ trivial (fun hHeld => ?_)
    clear hK K
    try simp only [Act.put, List.setIfInBounds_toArray, List.set_cons_zero, List.set_cons_succ]
    refine wpAnyH_ready (rs := [2]) (by kernel_rfl) (by simp) ?_
    refine AllReadyH.cons (o := ⟨_, _, _, _, _, _⟩) rfl (fun K hK => ?_) AllReadyH.nil
    go_simp
    refine (KT.out _ V.out).mono ?_
    rintro e w7 ⟨B, m, d, rfl, ho, hb⟩
    obtain ⟨r1, r2, r3, r4⟩ := Row_of_Own ho
    have LZ := Z.out.lt
    have AT := Lib.hid (show ∀ x, B = some x → w.heap.size + 3 ≤ x.block from fun x hx => Nat.le_trans LZ (r2 x hx))
    have NT := Lib.hid (show m = _ ∧ m ≤ d from ⟨r3, r4⟩)
    replace T := Lib.hid (T.out.step hb)
    replace V := Lib.hid (V.out.step hb)
    replace K0 := Lib.hid (K0.out.step hb)
    replace B1 := Lib.hid (B1.out.step hb)
    replace Z := Lib.hid (Z.out.step hb)
    have RT := Lib.hid r1
    clear ho hb r1 r2 r3 r4 LZ hHeld
    refine hK.out _ _ trivial (fun hHeld => ?_)
    clear hK K
    try simp only [Act.put, List.setIfInBounds_toArray, List.set_cons_zero, List.set_cons_succ]
    refine wpAnyH_take (i := 6) (oi := ⟨_, _, _, _, _, _⟩) (v := ?_) rfl (by kernel_rfl) (by kernel_rfl) (by kernel_rfl) (fun _ _ _ h => h) (Or.inl ⟨by rfl, ?_⟩) (by assumption) ?_
    rotate_left
    · intro wz hSw
      try dsimp only at hSw
      go_simp
      try with_reducible rfl
    try simp only [Act.put, List.setIfInBounds_toArray, List.set_cons_zero, List.set_cons_succ]
    refine wpAnyH_ready (rs := [5]) (by kernel_rfl) (by simp) ?_
    refine AllReadyH.cons (o := ⟨_, _, _, _, _, _⟩) rfl (fun K hK => ?_) AllReadyH.nil
    go_simp
    refine (KW.out _ V.out).mono ?_
    rintro e w8 ⟨D, l, c, rfl, ho, hb⟩
    obtain ⟨r1, r2, r3, r4⟩ := Row_of_OwnW ho
    have LZ := Z.out.lt
    have AW := Lib.hid (show ∀ x, D = some x → w.heap.size + 3 ≤ x.block from fun x hx => Nat.le_trans LZ (r2 x hx))
    have NW := Lib.hid (show l = _ ∧ l ≤ c from ⟨r3, r4⟩)
    replace T := Lib.hid (T.out.step hb)
    replace V := Lib.hid (V.out.step hb)
    replace K0 := Lib.hid (K0.out.step hb)
    replace B1 := Lib.hid (B1.out.step hb)
    replace Z := Lib.hid (Z.out.step hb)
    replace RT := Lib.hid ((RT.out.below hb).more hb.size)
    have RW := Lib.hid r1
    clear ho hb r1 r2 r3 r4 LZ hHeld
    refine hK.out _ _ trivial (fun hHeld => ?_)
    clear hK K
    try simp only [Act.put, List.setIfInBounds_toArray, List.set_cons_zero, List.set_cons_succ]
    refine wpAnyH_ready (rs := [7]) (by kernel_rfl) (by simp) ?_
    refine AllReadyH.cons (o := ⟨_, _, _, _, _, _⟩) rfl (fun K hK => ?_) AllReadyH.nil
    refine Lk.step_stA rfl _ _ _ rfl (w.heap.size + 1) 9 [.slice B m d] (.slice B m d) B1.out Lk.infoLS rfl (by rw [V.out.len]; exact Nat.le_of_ble_eq_true rfl) (by simp [Value.oneCell']) rfl rfl ?_
    intro w9 bN hb ho
    replace T := Lib.hid (T.out.under hb GW.out)
    replace V := Lib.hid (V.out.under hb GV.out)
    replace K0 := Lib.hid (K0.out.under hb GK.out)
    replace Z := Lib.hid (show Lk.Bl w9 (w.heap.size + 2) [.string (S2.B []), .int .i64 0, .string (S2.B []), .int .i64 0, .int .i64 0, .string (S2.B []), .string (S2.B []), .int .i64 0, .string (S2.B []), .slice none 0 0, .string (S2.B []), .string (S2.B []), .string (S2.B []), .string (S2.B []), .int .i64 0, .slice none 0 0, .int .i64 0, .int .i64 0, .int .i64 0, .int .i64 0] 29 from ⟨(ho.blk _ NE.out).trans Z.out.row⟩)
    replace RT := Lib.hid ((row_only RT.out ho AT.out (by omega)).more (Nat.le_of_eq ho.size.symm))
    replace RW := Lib.hid ((row_only RW.out ho AW.out (by omega)).more (Nat.le_of_eq ho.size.symm))
    obtain ⟨cs3, hcs3⟩ : ∃ x : List Value, x = cs2.take 9 ++ [.slice B m d] ++ cs2.drop (9 + ([.slice B m d] : List Value).length) := ⟨_, rfl⟩
    have L3 := Lib.hid (show cs3.length = 20 from by rw [hcs3]; simp [V.out.len])
    replace B1 := Lib.hid (show Lk.Bl w9 (w.heap.size + 1) cs3 29 from by rw [hcs3]; exact bN)
    have E3 := Lib.hid hcs3
    clear bN hb ho hcs3 hHeld
    refine hK.out _ _ trivial (fun hHeld => ?_)
    clear hK K
    try simp only [Act.put]
    refine wpAnyH_take (i := 8) (oi := ⟨_, _, _, _, _, _⟩) (v := ?_) rfl (by kernel_rfl) (by kernel_rfl) (by kernel_rfl) (fun _ _ _ h => h) (Or.inl ⟨by rfl, ?_⟩) (by assumption) ?_
    rotate_left
    · intro wz hSw
      try dsimp only at hSw
      go_simp
      try with_reducible rfl
    try simp only [Act.put, List.setIfInBounds_toArray, List.set_cons_zero, List.set_cons_succ]
    refine wpAnyH_ready (rs := [9]) (by kernel_rfl) (by simp) ?_
    refine AllReadyH.cons (o := ⟨_, _, _, _, _, _⟩) rfl (fun K hK => ?_) AllReadyH.nil
    refine Lk.step_stA rfl _ _ _ rfl (w.heap.size + 1) 15 [.slice D l c] (.slice D l c) B1.out Lk.infoLW rfl (by rw [L3.out]; exact Nat.le_of_ble_eq_true rfl) (by simp [Value.oneCell']) rfl rfl ?_
    intro w10 bN hb ho
    replace T := Lib.hid (T.out.under hb GW.out)
    replace V := Lib.hid (V.out.under hb GV.out)
    replace K0 := Lib.hid (K0.out.under hb GK.out)
    replace Z := Lib.hid (show Lk.Bl w10 (w.heap.size + 2) [.string (S2.B []), .int .i64 0, .string (S2.B []), .int .i64 0, .int .i64 0, .string (S2.B []), .string (S2.B []), .int .i64 0, .string (S2.B []), .slice none 0 0, .string (S2.B []), .string (S2.B []), .string (S2.B []), .string (S2.B []), .int .i64 0, .slice none 0 0, .int .i64 0, .int .i64 0, .int .i64 0, .int .i64 0] 29 from ⟨(ho.blk _ NE.out).trans Z.out.row⟩)
    replace RT := Lib.hid ((row_only RT.out ho AT.out (by omega)).more (Nat.le_of_eq ho.size.symm))
    replace RW := Lib.hid ((row_only RW.out ho AW.out (by omega)).more (Nat.le_of_eq ho.size.symm))
    obtain ⟨cs4, hcs4⟩ : ∃ x : List Value, x = cs3.take 15 ++ [.slice D l c] ++ cs3.drop (15 + ([.slice D l c] : List Value).length) := ⟨_, rfl⟩
    have L4 := Lib.hid (show cs4.length = 20 from by rw [hcs4]; simp [L3.out])
    replace B1 := Lib.hid (show Lk.Bl w10 (w.heap.size + 1) cs4 29 from by rw [hcs4]; exact bN)
    have E4 := Lib.hid hcs4
    clear bN hb ho hcs4 hHeld
    refine hK.out _ _ trivial (fun hHeld => ?_)
    clear hK K
    try simp only [Act.put]
    refine wpAnyH_done (by kernel_rfl) ?_ _
    clear hHeld
    have V4 := Lib.hid (show ∀ w' : World, S2.Row w' w'.heap.size B (S2.Ss a.to) → S2.Row w' w'.heap.size D (Ws a.wraps) → Av w' w'.heap.size cs4 a E S from by
      intro w' r1 r2
      rw [E4.out, E3.out]
      obtain ⟨A', nA', cA', Q', nQ', cQ', e2, hp⟩ := V.out
      rw [e2]
      exact ⟨B, m, d, D, l, c, rfl, ⟨NT.out.1, NT.out.2, r1, NW.out.1, NW.out.2, r2, Nat.le_refl _⟩⟩)
    have HI := Lib.hid (show (Tryz.prog.info? 29).map (·.size) = some cs4.toArray.size by rw [Lk.info20, List.size_toArray, L4.out])
    have HS := Lib.hid (show (20 : Nat) = cs4.toArray.size by rw [List.size_toArray, L4.out])
    have HO := Lib.hid (show cs4.toArray.all (·.oneCell') = true by exact (V4.out _ RT.out RW.out).one)
    go_wp2_with (first | ((with_reducible refine Lk.ld (d := 30) (w.heap.size + 1) B1.out L4.out ?_ ?_ ?_); exact rfl; exact rfl) | (refine wpList_store_row rfl 29 _ _ rfl (w.heap.size + 2) cs4.toArray rfl rfl 29 _ Z.out.row HI.out HS.out HO.out ?_) | fail)
    have hon : Only (w.heap.size + 2) w10 (w10.setRow (w.heap.size + 2) cs4.toArray) := ⟨by simp [World.setRow], fun k hk => setRow_other _ _ _ _ hk⟩
    exact bodyPost_ret (v := .agg cs4.toArray) (results_cell_row Tryz.results13 _ _ (w.heap.size + 2) 29 _ (0, 0) _ rfl (setRow_heap _ _ _ _ _ _ Z.out.row) Tryz.underlying29 rfl HI.out) rfl
      ⟨cs4, rfl, V4.out _ ((row_only RT.out hon AT.out (by omega)).more (Nat.le_of_eq hon.size.symm)) ((row_only RW.out hon AW.out (by omega)).more (Nat.le_of_eq hon.size.symm)), below_row T.out.bel _ (by omega) _⟩
theorem sign_any {bd : Nat} {cs : List Value} {a : Ac} {e s : Int} (k p : Int) (w : World) (hL : S3.Laid w) (hk : S4.isI64 k) (hq : S4.isI64 p) (hv0 : Av w bd cs a e s) (hz : Sz 1000000 1000000 a) :
    Calls Tryz.prog 13 #[.agg #[.int .i64 k, .int .i64 p], .agg cs.toArray] w (GivesC (signed (fun k p => decide (S5.Sg.Rt k p)) S5.Sg.signV k p a).1 (signed (fun k p => decide (S5.Sg.Rt k p)) S5.Sg.signV k p a).2.1 (signed (fun k p => decide (S5.Sg.Rt k p)) S5.Sg.signV k p a).2.2 w) := by
  cases hg : good a with
  | false =>
    rw [show signed (fun k p => decide (S5.Sg.Rt k p)) S5.Sg.signV k p a = (ac0, 0, 0) from if_neg (by simp [hg])]
    exact sign_bad k p w hv0 hz hg
  | true =>
    by_cases hr : S5.Sg.Rt k p
    · rw [show signed (fun k p => decide (S5.Sg.Rt k p)) S5.Sg.signV k p a = (a, S5.Sg.signV k p (coreB a)) from if_pos ⟨decide_eq_true hr, hg⟩]
      exact sign_yes k p w hk hv0 hL hq hg hr
    · rw [show signed (fun k p => decide (S5.Sg.Rt k p)) S5.Sg.signV k p a = (ac0, 0, 0) from if_neg (by simp [hr])]
      exact sign_key k p w hk hv0 hg hr
end Ld
end Go.Proofs.YtojbicpchjiplaaGreatDoor
