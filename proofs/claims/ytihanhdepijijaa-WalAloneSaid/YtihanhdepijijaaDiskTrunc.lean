/-
  Layer 9 (disk): truncate.
-/
import Derived.Test.YtihanhdepijijaaDiskKept
import Derived.StillTailTactics
import Derived.RegionTactic
import Derived.BigRegion
namespace Go.Proofs.Ytihanhdepijijaa.S9
open Go.RowKit
namespace Dk
/-- A run of cells stored into a block. -/
theorem run_storeVar_part {P : Program} (ty : TypeId) (g k : Nat) (cells cur : Array Value) (t : TypeId) (w : World) (hg : w.heap[g]? = some (.cells cur t (0, 0))) (hi : (P.info? ty).map (·.size) = some cells.size)
    (hfit : k + cells.size ≤ cur.size) (h1 : cells.all (·.oneCell') = true) :
    (storeVar ty ⟨g, k, none⟩ (.agg cells)).run P w = .ok () (w.setRow g (cur.toList.take k ++ cells.toList ++ cur.toList.drop (k + cells.size)).toArray) := by
  have hst := run_storeCells_at P g k t cells.toList 0 cur w hg (by simpa using hfit) (fun v hv => (Array.all_eq_true_iff_forall_mem.1 h1) v (by simpa using hv))
  cases hq : P.info? ty with
  | none => simp [hq] at hi
  | some i =>
    have hs : cells.size = i.size := by simp [hq] at hi; omega
    simp only [Nat.add_zero, Array.length_toList] at hst
    simp [storeVar, sizeOf, typeInfo, hq, Value.cells, hs] at hst ⊢
    exact hst
theorem get_part (cur : Array Value) (k : Nat) (cs : List Value) (hfit : k + cs.length ≤ cur.size) (i : Nat) :
    (cur.toList.take k ++ cs ++ cur.toList.drop (k + cs.length)).toArray[i]? = if i < k then cur[i]? else if i < k + cs.length then cs[i - k]? else cur[i]? := by
  have hl : (cur.toList.take k).length = k := by rw [List.length_take, Array.length_toList]; omega
  rw [List.getElem?_toArray]
  by_cases h1 : i < k
  · rw [if_pos h1, List.append_assoc, List.getElem?_append_left (by omega), List.getElem?_take, if_pos h1, Array.getElem?_toList]
  · rw [if_neg h1]
    by_cases h2 : i < k + cs.length
    · rw [if_pos h2, List.append_assoc, List.getElem?_append_right (by omega), hl, List.getElem?_append_left (by omega)]
    · rw [if_neg h2, List.getElem?_append_right (by rw [List.length_append, hl]; omega), List.length_append, hl, List.getElem?_drop, Array.getElem?_toList]
      congr 1
      omega
theorem size_part (cur : Array Value) (k : Nat) (cs : List Value) (hfit : k + cs.length ≤ cur.size) : (cur.toList.take k ++ cs ++ cur.toList.drop (k + cs.length)).toArray.size = cur.size := by
  simp
  omega
/-- The machine's whole block turned, its files' slices as they were. -/
theorem Dv.row {X : Nat → Prop} {w : World} {p : Nat} {D D' : MD} {vs : Nat → Value} (h : Dv X w p D vs) (new : Array Value) (hc : Cur new vs D') (ht : D'.text = D.text) : Dv X (w.setRow p new) p D' vs ∧ Fr X w (w.setRow p new) := by
  obtain ⟨cur, h1, _⟩ := h.blk
  refine ⟨⟨⟨new, setRow_heap w p cur new _ _ h1, hc⟩, fun i hi => ?_, h.offp, h.offX, h.apart, h.pX, fun k hk => by simpa [World.setRow] using h.lt k hk⟩, (Fr.refl X w).row p new h.pX⟩
  rw [ht]
  exact own_keep (h.own i hi) (fun g hg => setRow_other w p g new (fun e => h.offp i hi (by rw [hg, e])))
/-- The plan stored. -/
theorem wpList_store_plan {ops : Array Oper} {rest : List Oper} {o : Oper} {a : Act} {X : Nat → Prop} {w : World} {p : Nat} {D : MD} {vs : Nat → Value} {Q : Exit → Act → World → Prop} (hgd : o.guard = none) (x y : Operand) (ho : o.op = .store 65 x y)
    (c : Int) (k : Nat → Int) (hx : a.eval x = .pointer (some ⟨p, 18, none⟩)) (hy : a.eval y = .agg (Value.int .i64 c :: KV k).toArray) (hv : Dv X w p D vs)
    (h : ∀ w', Dv X w' p { D with calls := c, keep := k } vs → Fr X w w' → wpList Try.prog ops Q rest (a.put o.dst undef) w') : wpList Try.prog ops Q (o :: rest) a w :=
  wpList_plain hgd fun _ hK => by
    obtain ⟨cur, h1, hc⟩ := hv.blk
    have hsz : (Value.int .i64 c :: KV k).toArray.size = 9 := by rw [List.size_toArray, List.length_cons, KV_len]
    have hlen : (Value.int .i64 c :: KV k).length = 9 := by rw [List.length_cons, KV_len]
    have hrun := run_storeVar_part (P := Try.prog) 65 p 18 (Value.int .i64 c :: KV k).toArray cur _ w h1 (by rw [hsz]; kernel_rfl) (by rw [hsz, hc.size]; omega) (by simpa [Value.oneCell'] using KV_one k)
    have hfit : 18 + (Value.int .i64 c :: KV k).length ≤ cur.size := by rw [hlen, hc.size]; omega
    rw [hsz, ← hlen] at hrun
    obtain ⟨d1, d2⟩ := hv.row (D' := { D with calls := c, keep := k }) (cur.toList.take 18 ++ (Value.int .i64 c :: KV k) ++ cur.toList.drop (18 + (Value.int .i64 c :: KV k).length)).toArray
      (by
        refine ⟨by rw [size_part _ _ _ hfit, hc.size], fun i hi => ?_, fun i hi => ?_, ?_, ?_, ?_, fun i hi => ?_⟩
        · rw [get_part _ _ _ hfit, if_pos (by omega)]; exact hc.v i hi
        · rw [get_part _ _ _ hfit, if_pos (by omega)]; exact hc.d i hi
        · rw [get_part _ _ _ hfit, if_pos (by omega)]; exact hc.down
        · rw [get_part _ _ _ hfit, if_pos (by omega)]; exact hc.lost
        · rw [get_part _ _ _ hfit, if_neg (by omega), if_pos (by omega)]; rfl
        · rw [get_part _ _ _ hfit, if_neg (by omega), if_pos (by omega), show 19 + i - 18 = i + 1 by omega, List.getElem?_cons_succ, KV_get k hi]) rfl
    have hrun' := hrun
    unfold Oper.wp execOp
    simp only [ho, hx, hy, Instr.storeAt, Instr.sureAddr, Sem.run_bind, Sem.run_pure, Result.andThen_ok]
    rw [show ((Value.int IntKind.i64 c :: KV k).toArray.toList) = (Value.int IntKind.i64 c :: KV k) from rfl] at hrun'
    rw [hrun']
    exact hK _ _ (h _ d1 d2)
/-- File k with its slice cut down, and its durable bytes: the two stores. -/
theorem Dv.set_trunc {X : Nat → Prop} {w : World} {p : Nat} {D : MD} {vs : Nat → Value} (h : Dv X w p D vs) (h0 : D.Ok) {k : Nat} (hk : k < 8) {A : Option Addr} {m c n : Nat} (he : vs k = .slice A m c) (hn : n ≤ (D.text k).length) :
    Dk X ((w.setCell ⟨p, k * 2, none⟩ (.slice A n c)).setCell ⟨p, k * 2 + 1, none⟩ (.int .i64 (min (D.dur k) n : Nat))) p (D.trunc k n) ∧ Fr X w ((w.setCell ⟨p, k * 2, none⟩ (.slice A n c)).setCell ⟨p, k * 2 + 1, none⟩ (.int .i64 (min (D.dur k) n : Nat))) := by
  have hby := h.own k hk
  rw [he] at hby
  obtain ⟨h1, f1⟩ := h.set_v hk (.slice A n c) ((D.text k).take n) (World.grownBy.refl w _) (.inl (by rw [he]; cases A <;> rfl)) (hby.take hn)
  exact ⟨⟨trunc_ok h0 k n, _, h1.set_dur hk _⟩, f1.set _ _ h.pX⟩
set_option maxHeartbeats 2000000 in
set_option maxRecDepth 100000 in
theorem truncate_any (X : Nat → Prop) (p : Nat) (D : MD) (k n : Nat) (hk : k < 8) (hn : n ≤ (D.text k).length) (w : World) (h : Dk X w p D) :
    Calls Try.prog 50 #[.pointer (some ⟨p, k * 2, none⟩), .int .i64 (n : Nat)] w fun e w' => e = .returned (.tuple #[]) ∧ Dk X w' p (D.trunc k n) ∧ Fr X w w' := by
  obtain ⟨h0, vs, hv⟩ := h
  have hd := hv.drew
  obtain ⟨A, m, c, he, hm, hmc⟩ := (hv.own k hk).sl
  have c1 := hv.c_v hk
  have c2 := hv.c_d hk
  have f1 := hv.free (k * 2)
  have f2 := hv.free (k * 2 + 1)
  rw [he] at c1
  have hnc : n ≤ c := by omega
  have hlen := h0.len k hk
  have hnb : (n : Int) ≤ 16777216 := by omega
  obtain ⟨R, F⟩ := hd.set_trunc h0 hk he hn
  replace F : Fr X w _ := ((Fr.refl X w).drew).trans F
  generalize hdu : D.dur k = d at *
  have hdl : (d : Int) ≤ 16777216 := by have := h0.dur k hk; omega
  clear hv hd he hm hlen hdu h0 hk hn
  rcases Nat.le_total d n with hl | hl
  · rw [Nat.min_eq_left hl] at R F
    have hl' : (d : Int) ≤ n := by omega
    have R1 := Lib.hid R
    have F1 := Lib.hid F
    clear R F hl
    go_enter Try.func50, Try.ntmps50
    go_wp2
    go_region
    all_goals go_end0
    all_goals exact ⟨rfl, R1.out, F1.out⟩
  · rw [Nat.min_eq_right hl] at R F
    rcases Nat.eq_or_lt_of_le hl with hl2 | hl2
    · subst hl2
      have R1 := Lib.hid R
      have F1 := Lib.hid F
      clear R F hl
      go_enter Try.func50, Try.ntmps50
      go_wp2
      go_region
      all_goals go_end0
      all_goals exact ⟨rfl, R1.out, F1.out⟩
    · have hl' : (n : Int) < d := by omega
      have R1 := Lib.hid R
      have F1 := Lib.hid F
      clear R F hl
      go_enter Try.func50, Try.ntmps50
      go_wp2
      go_region
      all_goals go_end0
      all_goals exact ⟨rfl, R1.out, F1.out⟩
end Dk
end Go.Proofs.Ytihanhdepijijaa.S9
