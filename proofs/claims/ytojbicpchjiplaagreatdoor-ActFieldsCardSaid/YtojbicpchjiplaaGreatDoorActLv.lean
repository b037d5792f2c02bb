/-
  ActLd, ActLm, ActLq, ActLv: joined.
-/
import Derived.Test.YtojbicpchjiplaaGreatDoorActPv
import Derived.ChangeMaps5
import Derived.Carry
/-
  Layer 12: the landed package in plain Lean, function by function.
-/
namespace Go.Proofs.YtojbicpchjiplaaGreatDoor
open Go.RowKit
namespace Ld
open Ax
open S11.Idt (Str isId isName ids)
def withL (n lo hi : Int) : Bool := decide (lo ≤ n) && decide (n ≤ hi)
def digL (s : Str) : Bool := (s.length : Int) == 32
def shortL (s : Str) : Bool := decide ((s.length : Int) ≤ 500)
def pubL (n : Int) : Bool := withL n 1 2305843009213693950
def boxL (b : Bx) : Bool := ((b.nonce.length : Int) == 32) && (((b.tag.length : Int) == 16) && shortL b.data)
def objL (a : Ac) : Bool := digL a.object
def tgtL (a : Ac) : Bool := isId a.target
def eitherL (a : Ac) : Bool := (a.target == [] && objL a) || (a.object == [] && tgtL a)
def accL (a : Ac) : Bool := pubL a.n && withL a.m 0 19
def epochL (a : Ac) : Bool := cond ((a.scope == 1) || (a.scope == 3)) ((a.group == []) && withL a.epoch 0 1073741824) (cond (a.scope == 2) (isName a.group && withL a.epoch 0 1073741824) false)
def wrL (w : Wr) : Bool := pubL w.to && (pubL w.eph && boxL w.box)
def wrapsL (a : Ac) : Bool := ids a.to && (((a.wraps.length : Int) == (a.to.length : Int)) && a.wraps.all wrL)
def friendsL (a : Ac) : Bool := wrapsL a && (withL a.n 1 a.to.length && pubL a.m)
def boxzL (b : Bx) : Bool := b.nonce == [] && (b.data == [] && b.tag == [])
def audL (a : Ac) : Bool := cond (a.scope == 0) ((a.group == []) && ((a.epoch == 0) && (ids a.to && (shortL a.text && boxzL a.body)))) (epochL a && (ids a.to && (((a.scope == 3) || ((a.to.length : Int) == 0)) && ((a.text == []) && boxL a.body))))
def placeL (a : Ac) : Bool := cond (a.kind == 0) ((a.seq == 0) && (a.prev == [])) (withL a.seq 1 1073741824 && digL a.prev)
def r1 (a : Ac) : Bool := objL a && audL a
def r2 (a : Ac) : Bool := objL a && shortL a.text
def r3 (a : Ac) : Bool := isName a.text && accL a
def r4 (a : Ac) : Bool := isName a.group && ids a.to
def r5 (a : Ac) : Bool := epochL a && wrapsL a
def r6 (a : Ac) : Bool := isName a.text && eitherL a
def r7 (a : Ac) : Bool := objL a && withL a.n 0 1
def r8 (a : Ac) : Bool := tgtL a && (shortL a.text && withL a.n 0 1099511627776)
end Ld
end Go.Proofs.YtojbicpchjiplaaGreatDoor

/-
  Layer 12: the map of the kinds' rules that the call makes, and the look-up in it.
-/
namespace Go.Proofs.YtojbicpchjiplaaGreatDoor
open Go.RowKit Go.ChangeMaps
namespace Ld
open Ax
attribute [local go_sem] S2.B_size S2.B_list S2.B_app S2.B_take litE
/-- The rule of each kind: its fields, its function. -/
def tab : List (Nat × FuncId) := [(1568, 101), (252, 98), (253, 97), (253, 97), (1, 95), (1, 95), (1, 95), (2, 96), (2, 96), (2, 96), (2, 96), (2, 96), (33, 99), (1, 95), (253, 97), (24, 103), (412, 104), (35, 107), (1536, 102), (1808, 109), (1, 95), (33, 99), (513, 110), (546, 111)]
def ruleV (r : Nat × FuncId) : Value := .agg #[.int .u16 (r.1 : Int), .func (.func r.2) #[] #[]]
def entry (i : Nat) (r : Nat × FuncId) : MapEntry := { key := .int .i64 (i : Int), val := ruleV r, born := i }
def ents (k : Nat) : List MapEntry := (tab.take k).zipIdx.map fun x => entry x.2 x.1
structure Mp (w : World) (b k : Nat) : Prop where
  at_ : w.heap[b]? = some (.map (ents k).toArray k)
theorem Mp.lt {w : World} {b k : Nat} (h : Mp w b k) : b < w.heap.size := (Array.getElem?_eq_some_iff.1 h.at_).1
theorem Mp.step {w w' : World} {b k : Nat} (h : Mp w b k) (hb : Below w.heap.size w w') : Mp w' b k := ⟨(hb.block _ h.lt).trans h.at_⟩
theorem Mp.alloc {w : World} {b k : Nat} (h : Mp w b k) (o : Obj) : Mp (w.alloc o) b k := h.step ((Below.refl _ _).alloc (Nat.le_refl _) o)
theorem Mp.drew {w : World} {b k : Nat} (h : Mp w b k) : Mp w.drew b k := h.step (Below.refl _ _).drew
theorem ents_succ {k : Nat} (r : Nat × FuncId) (h : tab[k]? = some r) : ents (k + 1) = ents k ++ [entry k r] := by
  have hk : k < tab.length := (List.getElem?_eq_some_iff.1 h).1
  unfold ents
  rw [List.take_add_one, h]
  simp only [Option.toList_some]
  rw [List.zipIdx_append, List.map_append, List.length_take, Nat.min_eq_left (by omega)]
  simp
theorem find_ents (z : Int) : ∀ (l : List (Nat × FuncId)) (n i : Nat), Instr.findNow (.int .i64) (.int .i64 z) ((l.zipIdx n).map fun x => entry x.2 x.1) i = some (if (n : Int) ≤ z ∧ z < (n : Int) + l.length then some (i + (z - n).toNat, ruleV (l.getD (z - n).toNat (0, 0))) else none)
  | [], n, i => by
    rw [if_neg (by simp only [List.length_nil]; omega)]
    rfl
  | r :: l, n, i => by
    rw [List.zipIdx_cons, List.map_cons, Instr.findNow]
    by_cases h : z = (n : Int)
    · subst h
      rw [if_pos (by simp; omega)]
      simp [entry, Instr.sameNow]
    · have h1 : Instr.sameNow (.int .i64) (.int .i64 z) (entry n r).key = some false := by simp [entry, Instr.sameNow, h]
      rw [h1]
      show Instr.findNow _ _ _ (i + 1) = _
      rw [find_ents z l (n + 1) (i + 1)]
      congr 1
      by_cases h2 : ((n + 1 : Nat) : Int) ≤ z ∧ z < ((n + 1 : Nat) : Int) + l.length
      · rw [if_pos h2, if_pos (by simp only [List.length_cons]; omega)]
        have e : (z - (n : Int)).toNat = (z - ((n + 1 : Nat) : Int)).toNat + 1 := by omega
        rw [e, List.getD_cons_succ]
        congr 2
        omega
      · rw [if_neg h2, if_neg (by simp only [List.length_cons]; omega)]
theorem find_tab (k : Nat) (z : Int) (hk : k ≤ 24) : Instr.findNow (.int .i64) (.int .i64 z) (ents k) 0 = some (if 0 ≤ z ∧ z < k then some (z.toNat, ruleV ((tab.take k).getD z.toNat (0, 0))) else none) := by
  have h := find_ents z (tab.take k) 0 0
  have hl : (tab.take k).length = k := by rw [List.length_take]; exact Nat.min_eq_left (by show k ≤ 24; exact hk)
  rw [hl] at h
  unfold ents
  rw [h]
  simp
theorem mapU : Tryz.prog.underlying 69 = some (.map 3 67) := Tryz.underlying69
theorem keyI (n : Nat) (z : Int) (w : World) (b : Bool) : (Instr.checkKey b (n + 1) 3 (.int .i64 z)).run Tryz.prog w = .ok () w := by
  unfold Instr.checkKey
  simp [run_underlying Tryz.underlying3]
theorem run_find (k : Nat) (z : Int) (w : World) (hk : k ≤ 24) : (Instr.findKey 3 (.int .i64 z) (ents k)).run Tryz.prog w = .ok (if 0 ≤ z ∧ z < k then some (z.toNat, ruleV ((tab.take k).getD z.toNat (0, 0))) else none) w := by
  unfold Instr.findKey
  simp [run_underlying Tryz.underlying3, find_tab k z hk]
theorem getMap {w : World} {b k : Nat} (h : Mp w b k) : (getObj b).run Tryz.prog w = .ok (.map (ents k).toArray k) w := by
  simp [getObj, Sem.run, h.at_]
/-- An entry is laid. -/
theorem run_ins {w : World} {b k : Nat} (h : Mp w b k) (r : Nat × FuncId) (hr : tab[k]? = some r) :
    ∃ w', (Instr.mapUpdate 69 (.map (some b)) (.int .i64 (k : Int)) (ruleV r)).run Tryz.prog w = .ok () w' ∧ Mp w' b (k + 1) ∧ Below b w w' := by
  have hk : k < 24 := (List.getElem?_eq_some_iff.1 hr).1
  refine ⟨setBlock w b (.map ((ents k).toArray.push (entry k r)) (k + 1)), ?_, ⟨?_⟩, ?_⟩
  · unfold Instr.mapUpdate
    have hf := run_find k (k : Int) w (by omega)
    rw [if_neg (by omega)] at hf
    simp only [Sem.run_bind, run_underlying mapU, Result.andThen_ok, getMap h, keyI 9999, hf]
    simp [setObj, Sem.run, h.at_, setBlock]
    rfl
  · rw [heap_setBlock_same h.at_, ents_succ r hr]
    simp
  · exact ⟨rfl, rfl, rfl, by simp [setBlock], fun i hi => heap_setBlock_other h.at_ _ (by omega)⟩
set_option maxRecDepth 100000 in
theorem ins {p : String} {m k x : Operand} {ty : TypeId} {af : Array Edge} {a : _root_.Go.Act} {w : World} {ops : Array Oper} {rest : List Oper} {Q : Exit → _root_.Go.Act → World → Prop} (b i : Nat) (r : Nat × FuncId) (hM : Mp w b i) (hr : tab[i]? = some r)
    (hm : a.eval m = .map (some b)) (hk : a.eval k = .int .i64 (i : Int)) (hx : a.eval x = ruleV r)
    (h : ∀ w', Mp w' b (i + 1) → Below b w w' → wpList Tryz.prog ops Q rest (a.put none undef) w') :
    wpList Tryz.prog ops Q ({ dst := none, op := .insert 69 m k x, type := ty, pos := p, after := af, guard := none } :: rest) a w :=
  wpList_plain rfl fun _ hK => by
    obtain ⟨w', hrun, h1, h2⟩ := run_ins hM r hr
    unfold Oper.wp execOp
    simp only [hm, hk, hx, Sem.run_bind, Result.andThen_ok, hrun]
    exact hK _ _ (h w' h1 h2)
/-- The look-up of a kind. -/
theorem run_look {w : World} {b : Nat} (h : Mp w b 24) (z : Int) : (Instr.lookup 69 (.map (some b)) (.int .i64 z) true).run Tryz.prog w =
    .ok (.tuple #[if 0 ≤ z ∧ z < 24 then ruleV (tab.getD z.toNat (0, 0)) else .agg #[.int .u16 0, .nilFunc], .bool (decide (0 ≤ z ∧ z < 24))]) w := by
  have hf := run_find 24 z w (Nat.le_refl _)
  have hz : (zeroValue 67).run Tryz.prog w = .ok (.agg #[.int .u16 0, .nilFunc]) w := by kernel_rfl
  unfold Instr.lookup
  have ht : tab.take 24 = tab := rfl
  rw [ht] at hf
  simp only [Sem.run_bind, run_underlying mapU, Result.andThen_ok, getMap h, Sem.run_pure, keyI 9999, hf]
  by_cases hc : 0 ≤ z ∧ z < 24
  · have hc' : 0 ≤ z ∧ z < ((24 : Nat) : Int) := hc
    simp [hc]
  · have hc' : ¬ (0 ≤ z ∧ z < ((24 : Nat) : Int)) := hc
    rw [if_neg hc']
    simp only [Sem.run_bind, hz, Result.andThen_ok, Sem.run_pure]
    simp [hc]
theorem infoRule : (Tryz.prog.info? 67).map (·.size) = some 2 := by kernel_rfl
/-- A new block: the store of a whole rule behind 'alloc'. -/
theorem nwR {p : String} {x y : Operand} {ty : TypeId} {af : Array Edge} {a : _root_.Go.Act} {w : World} {ops : Array Oper} {rest : List Oper} {Q : Exit → _root_.Go.Act → World → Prop} {old : Array Value} (cs : List Value) (hl : cs.length = 2) (h1 : cs.toArray.all (·.oneCell') = true)
    (hx : a.eval x = .pointer (some ⟨w.heap.size, 0, none⟩)) (hy : a.eval y = .agg cs.toArray) (hold : old.size = 2)
    (h : ∀ w', Lk.Bl w' w.heap.size cs 67 → Below w.heap.size w w' → wpList Tryz.prog ops Q rest (a.put none undef) w') :
    wpList Tryz.prog ops Q ({ dst := none, op := .store 67 x y, type := ty, pos := p, after := af, guard := none } :: rest) a (w.alloc (.cells old 67)) := by
  refine wpList_store_row rfl 67 x y rfl w.heap.size cs.toArray hx hy 67 old (heap_alloc_new _ _) (by rw [infoRule, List.size_toArray, hl]) (by rw [hold, List.size_toArray, hl]) h1 ?_
  rw [World.setRow_alloc_new]
  exact h _ ⟨heap_alloc_new _ _⟩ ((Below.refl _ _).alloc (Nat.le_refl _) _)
set_option maxHeartbeats 4000000 in
set_option maxRecDepth 100000 in
theorem rules_any (w : World) : Calls Tryz.prog 49 #[] w fun x w' => ∃ b, x = .returned (.map (some b)) ∧ Mp w' b 24 ∧ Below w.heap.size w w' := by
  have hmm := @run_makeMap Tryz.prog
  have T := Lib.hid (Lk.At.start w)
  go_enter Tryz.func49, Tryz.ntmps49
  go_wp2_with (first | ((with_reducible refine nwR [.int .u16 1, .func (.func 95) #[] #[]] ?_ ?_ ?_ ?_ ?_ ?_); exact rfl; (simp [Value.oneCell']); exact rfl; exact rfl; exact rfl) | fail)
  intro v0 bN hb
  replace T := Lib.hid (T.out.step hb)
  have B1 := Lib.hid (show Lk.Bl v0 w.heap.size [.int .u16 1, .func (.func 95) #[] #[]] 67 from bN)
  clear bN hb
  go_wp2_with (first | ((with_reducible refine nwR [.int .u16 2, .func (.func 96) #[] #[]] ?_ ?_ ?_ ?_ ?_ ?_); exact rfl; (simp [Value.oneCell']); exact rfl; exact rfl; exact rfl) | fail)
  intro v1 bN hb
  replace T := Lib.hid (T.out.step hb)
  replace B1 := Lib.hid (B1.out.step hb)
  have B2 := Lib.hid (show Lk.Bl v1 v0.heap.size [.int .u16 2, .func (.func 96) #[] #[]] 67 from bN)
  clear bN hb
  go_wp2_with (first | ((with_reducible refine nwR [.int .u16 253, .func (.func 97) #[] #[]] ?_ ?_ ?_ ?_ ?_ ?_); exact rfl; (simp [Value.oneCell']); exact rfl; exact rfl; exact rfl) | fail)
  intro v2 bN hb
  replace T := Lib.hid (T.out.step hb)
  replace B1 := Lib.hid (B1.out.step hb)
  replace B2 := Lib.hid (B2.out.step hb)
  have B3 := Lib.hid (show Lk.Bl v2 v1.heap.size [.int .u16 253, .func (.func 97) #[] #[]] 67 from bN)
  clear bN hb
  go_wp2_with (first | ((with_reducible refine nwR [.int .u16 33, .func (.func 99) #[] #[]] ?_ ?_ ?_ ?_ ?_ ?_); exact rfl; (simp [Value.oneCell']); exact rfl; exact rfl; exact rfl) | fail)
  intro v3 bN hb
  replace T := Lib.hid (T.out.step hb)
  replace B1 := Lib.hid (B1.out.step hb)
  replace B2 := Lib.hid (B2.out.step hb)
  replace B3 := Lib.hid (B3.out.step hb)
  have B4 := Lib.hid (show Lk.Bl v3 v2.heap.size [.int .u16 33, .func (.func 99) #[] #[]] 67 from bN)
  clear bN hb
  have M := Lib.hid (show Mp (v3.alloc (.map #[] 0)) v3.heap.size 0 from ⟨heap_alloc_new v3 _⟩)
  have LB1 := Lib.hid (show w.heap.size < v3.heap.size from B1.out.lt)
  have LB2 := Lib.hid (show v0.heap.size < v3.heap.size from B2.out.lt)
  have LB3 := Lib.hid (show v1.heap.size < v3.heap.size from B3.out.lt)
  have LB4 := Lib.hid (show v2.heap.size < v3.heap.size from B4.out.lt)
  have LT := Lib.hid (show w.heap.size ≤ v3.heap.size from T.out.bel.size)
  replace T := Lib.hid (T.out.alloc (.map #[] 0))
  replace B1 := Lib.hid (B1.out.alloc (.map #[] 0))
  replace B2 := Lib.hid (B2.out.alloc (.map #[] 0))
  replace B3 := Lib.hid (B3.out.alloc (.map #[] 0))
  replace B4 := Lib.hid (B4.out.alloc (.map #[] 0))
  go_wp2_with (first | ((with_reducible refine ins v3.heap.size 0 (1568, 101) M.out ?_ ?_ ?_ ?_ ?_); exact rfl; exact rfl; exact rfl; exact rfl) | fail)
  intro w0 hM hb
  replace B1 := Lib.hid (B1.out.under hb LB1.out)
  replace B2 := Lib.hid (B2.out.under hb LB2.out)
  replace B3 := Lib.hid (B3.out.under hb LB3.out)
  replace B4 := Lib.hid (B4.out.under hb LB4.out)
  replace T := Lib.hid (T.out.under hb LT.out)
  replace M := Lib.hid hM
  clear hM hb
  go_wp2_with (first | ((with_reducible refine ins v3.heap.size 1 (252, 98) M.out ?_ ?_ ?_ ?_ ?_); exact rfl; exact rfl; exact rfl; exact rfl) | fail)
  intro w1 hM hb
  replace B1 := Lib.hid (B1.out.under hb LB1.out)
  replace B2 := Lib.hid (B2.out.under hb LB2.out)
  replace B3 := Lib.hid (B3.out.under hb LB3.out)
  replace B4 := Lib.hid (B4.out.under hb LB4.out)
  replace T := Lib.hid (T.out.under hb LT.out)
  replace M := Lib.hid hM
  clear hM hb
  have c0 := B3.out.c 0 _ rfl
  have c1 := B3.out.c 1 _ rfl
  go_wp2_with (first | ((with_reducible refine ins v3.heap.size 2 (253, 97) M.out ?_ ?_ ?_ ?_ ?_); exact rfl; exact rfl; exact rfl; exact rfl) | fail)
  clear c0 c1
  intro w2 hM hb
  replace B1 := Lib.hid (B1.out.under hb LB1.out)
  replace B2 := Lib.hid (B2.out.under hb LB2.out)
  replace B3 := Lib.hid (B3.out.under hb LB3.out)
  replace B4 := Lib.hid (B4.out.under hb LB4.out)
  replace T := Lib.hid (T.out.under hb LT.out)
  replace M := Lib.hid hM
  clear hM hb
  have c0 := B3.out.c 0 _ rfl
  have c1 := B3.out.c 1 _ rfl
  go_wp2_with (first | ((with_reducible refine ins v3.heap.size 3 (253, 97) M.out ?_ ?_ ?_ ?_ ?_); exact rfl; exact rfl; exact rfl; exact rfl) | fail)
  clear c0 c1
  intro w3 hM hb
  replace B1 := Lib.hid (B1.out.under hb LB1.out)
  replace B2 := Lib.hid (B2.out.under hb LB2.out)
  replace B3 := Lib.hid (B3.out.under hb LB3.out)
  replace B4 := Lib.hid (B4.out.under hb LB4.out)
  replace T := Lib.hid (T.out.under hb LT.out)
  replace M := Lib.hid hM
  clear hM hb
  have c0 := B1.out.c 0 _ rfl
  have c1 := B1.out.c 1 _ rfl
  go_wp2_with (first | ((with_reducible refine ins v3.heap.size 4 (1, 95) M.out ?_ ?_ ?_ ?_ ?_); exact rfl; exact rfl; exact rfl; exact rfl) | fail)
  clear c0 c1
  intro w4 hM hb
  replace B1 := Lib.hid (B1.out.under hb LB1.out)
  replace B2 := Lib.hid (B2.out.under hb LB2.out)
  replace B3 := Lib.hid (B3.out.under hb LB3.out)
  replace B4 := Lib.hid (B4.out.under hb LB4.out)
  replace T := Lib.hid (T.out.under hb LT.out)
  replace M := Lib.hid hM
  clear hM hb
  have c0 := B1.out.c 0 _ rfl
  have c1 := B1.out.c 1 _ rfl
  go_wp2_with (first | ((with_reducible refine ins v3.heap.size 5 (1, 95) M.out ?_ ?_ ?_ ?_ ?_); exact rfl; exact rfl; exact rfl; exact rfl) | fail)
  clear c0 c1
  intro w5 hM hb
  replace B1 := Lib.hid (B1.out.under hb LB1.out)
  replace B2 := Lib.hid (B2.out.under hb LB2.out)
  replace B3 := Lib.hid (B3.out.under hb LB3.out)
  replace B4 := Lib.hid (B4.out.under hb LB4.out)
  replace T := Lib.hid (T.out.under hb LT.out)
  replace M := Lib.hid hM
  clear hM hb
  have c0 := B1.out.c 0 _ rfl
  have c1 := B1.out.c 1 _ rfl
  go_wp2_with (first | ((with_reducible refine ins v3.heap.size 6 (1, 95) M.out ?_ ?_ ?_ ?_ ?_); exact rfl; exact rfl; exact rfl; exact rfl) | fail)
  clear c0 c1
  intro w6 hM hb
  replace B1 := Lib.hid (B1.out.under hb LB1.out)
  replace B2 := Lib.hid (B2.out.under hb LB2.out)
  replace B3 := Lib.hid (B3.out.under hb LB3.out)
  replace B4 := Lib.hid (B4.out.under hb LB4.out)
  replace T := Lib.hid (T.out.under hb LT.out)
  replace M := Lib.hid hM
  clear hM hb
  have c0 := B2.out.c 0 _ rfl
  have c1 := B2.out.c 1 _ rfl
  go_wp2_with (first | ((with_reducible refine ins v3.heap.size 7 (2, 96) M.out ?_ ?_ ?_ ?_ ?_); exact rfl; exact rfl; exact rfl; exact rfl) | fail)
  clear c0 c1
  intro w7 hM hb
  replace B1 := Lib.hid (B1.out.under hb LB1.out)
  replace B2 := Lib.hid (B2.out.under hb LB2.out)
  replace B3 := Lib.hid (B3.out.under hb LB3.out)
  replace B4 := Lib.hid (B4.out.under hb LB4.out)
  replace T := Lib.hid (T.out.under hb LT.out)
  replace M := Lib.hid hM
  clear hM hb
  have c0 := B2.out.c 0 _ rfl
  have c1 := B2.out.c 1 _ rfl
  go_wp2_with (first | ((with_reducible refine ins v3.heap.size 8 (2, 96) M.out ?_ ?_ ?_ ?_ ?_); exact rfl; exact rfl; exact rfl; exact rfl) | fail)
  clear c0 c1
  intro w8 hM hb
  replace B1 := Lib.hid (B1.out.under hb LB1.out)
  replace B2 := Lib.hid (B2.out.under hb LB2.out)
  replace B3 := Lib.hid (B3.out.under hb LB3.out)
  replace B4 := Lib.hid (B4.out.under hb LB4.out)
  replace T := Lib.hid (T.out.under hb LT.out)
  replace M := Lib.hid hM
  clear hM hb
  have c0 := B2.out.c 0 _ rfl
  have c1 := B2.out.c 1 _ rfl
  go_wp2_with (first | ((with_reducible refine ins v3.heap.size 9 (2, 96) M.out ?_ ?_ ?_ ?_ ?_); exact rfl; exact rfl; exact rfl; exact rfl) | fail)
  clear c0 c1
  intro w9 hM hb
  replace B1 := Lib.hid (B1.out.under hb LB1.out)
  replace B2 := Lib.hid (B2.out.under hb LB2.out)
  replace B3 := Lib.hid (B3.out.under hb LB3.out)
  replace B4 := Lib.hid (B4.out.under hb LB4.out)
  replace T := Lib.hid (T.out.under hb LT.out)
  replace M := Lib.hid hM
  clear hM hb
  have c0 := B2.out.c 0 _ rfl
  have c1 := B2.out.c 1 _ rfl
  go_wp2_with (first | ((with_reducible refine ins v3.heap.size 10 (2, 96) M.out ?_ ?_ ?_ ?_ ?_); exact rfl; exact rfl; exact rfl; exact rfl) | fail)
  clear c0 c1
  intro w10 hM hb
  replace B1 := Lib.hid (B1.out.under hb LB1.out)
  replace B2 := Lib.hid (B2.out.under hb LB2.out)
  replace B3 := Lib.hid (B3.out.under hb LB3.out)
  replace B4 := Lib.hid (B4.out.under hb LB4.out)
  replace T := Lib.hid (T.out.under hb LT.out)
  replace M := Lib.hid hM
  clear hM hb
  have c0 := B2.out.c 0 _ rfl
  have c1 := B2.out.c 1 _ rfl
  go_wp2_with (first | ((with_reducible refine ins v3.heap.size 11 (2, 96) M.out ?_ ?_ ?_ ?_ ?_); exact rfl; exact rfl; exact rfl; exact rfl) | fail)
  clear c0 c1
  intro w11 hM hb
  replace B1 := Lib.hid (B1.out.under hb LB1.out)
  replace B2 := Lib.hid (B2.out.under hb LB2.out)
  replace B3 := Lib.hid (B3.out.under hb LB3.out)
  replace B4 := Lib.hid (B4.out.under hb LB4.out)
  replace T := Lib.hid (T.out.under hb LT.out)
  replace M := Lib.hid hM
  clear hM hb
  have c0 := B4.out.c 0 _ rfl
  have c1 := B4.out.c 1 _ rfl
  go_wp2_with (first | ((with_reducible refine ins v3.heap.size 12 (33, 99) M.out ?_ ?_ ?_ ?_ ?_); exact rfl; exact rfl; exact rfl; exact rfl) | fail)
  clear c0 c1
  intro w12 hM hb
  replace B1 := Lib.hid (B1.out.under hb LB1.out)
  replace B2 := Lib.hid (B2.out.under hb LB2.out)
  replace B3 := Lib.hid (B3.out.under hb LB3.out)
  replace B4 := Lib.hid (B4.out.under hb LB4.out)
  replace T := Lib.hid (T.out.under hb LT.out)
  replace M := Lib.hid hM
  clear hM hb
  have c0 := B1.out.c 0 _ rfl
  have c1 := B1.out.c 1 _ rfl
  go_wp2_with (first | ((with_reducible refine ins v3.heap.size 13 (1, 95) M.out ?_ ?_ ?_ ?_ ?_); exact rfl; exact rfl; exact rfl; exact rfl) | fail)
  clear c0 c1
  intro w13 hM hb
  replace B1 := Lib.hid (B1.out.under hb LB1.out)
  replace B2 := Lib.hid (B2.out.under hb LB2.out)
  replace B3 := Lib.hid (B3.out.under hb LB3.out)
  replace B4 := Lib.hid (B4.out.under hb LB4.out)
  replace T := Lib.hid (T.out.under hb LT.out)
  replace M := Lib.hid hM
  clear hM hb
  have c0 := B3.out.c 0 _ rfl
  have c1 := B3.out.c 1 _ rfl
  go_wp2_with (first | ((with_reducible refine ins v3.heap.size 14 (253, 97) M.out ?_ ?_ ?_ ?_ ?_); exact rfl; exact rfl; exact rfl; exact rfl) | fail)
  clear c0 c1
  intro w14 hM hb
  replace B1 := Lib.hid (B1.out.under hb LB1.out)
  replace B2 := Lib.hid (B2.out.under hb LB2.out)
  replace B3 := Lib.hid (B3.out.under hb LB3.out)
  replace B4 := Lib.hid (B4.out.under hb LB4.out)
  replace T := Lib.hid (T.out.under hb LT.out)
  replace M := Lib.hid hM
  clear hM hb
  go_wp2_with (first | ((with_reducible refine ins v3.heap.size 15 (24, 103) M.out ?_ ?_ ?_ ?_ ?_); exact rfl; exact rfl; exact rfl; exact rfl) | fail)
  intro w15 hM hb
  replace B1 := Lib.hid (B1.out.under hb LB1.out)
  replace B2 := Lib.hid (B2.out.under hb LB2.out)
  replace B3 := Lib.hid (B3.out.under hb LB3.out)
  replace B4 := Lib.hid (B4.out.under hb LB4.out)
  replace T := Lib.hid (T.out.under hb LT.out)
  replace M := Lib.hid hM
  clear hM hb
  go_wp2_with (first | ((with_reducible refine ins v3.heap.size 16 (412, 104) M.out ?_ ?_ ?_ ?_ ?_); exact rfl; exact rfl; exact rfl; exact rfl) | fail)
  intro w16 hM hb
  replace B1 := Lib.hid (B1.out.under hb LB1.out)
  replace B2 := Lib.hid (B2.out.under hb LB2.out)
  replace B3 := Lib.hid (B3.out.under hb LB3.out)
  replace B4 := Lib.hid (B4.out.under hb LB4.out)
  replace T := Lib.hid (T.out.under hb LT.out)
  replace M := Lib.hid hM
  clear hM hb
  go_wp2_with (first | ((with_reducible refine ins v3.heap.size 17 (35, 107) M.out ?_ ?_ ?_ ?_ ?_); exact rfl; exact rfl; exact rfl; exact rfl) | fail)
  intro w17 hM hb
  replace B1 := Lib.hid (B1.out.under hb LB1.out)
  replace B2 := Lib.hid (B2.out.under hb LB2.out)
  replace B3 := Lib.hid (B3.out.under hb LB3.out)
  replace B4 := Lib.hid (B4.out.under hb LB4.out)
  replace T := Lib.hid (T.out.under hb LT.out)
  replace M := Lib.hid hM
  clear hM hb
  go_wp2_with (first | ((with_reducible refine ins v3.heap.size 18 (1536, 102) M.out ?_ ?_ ?_ ?_ ?_); exact rfl; exact rfl; exact rfl; exact rfl) | fail)
  intro w18 hM hb
  replace B1 := Lib.hid (B1.out.under hb LB1.out)
  replace B2 := Lib.hid (B2.out.under hb LB2.out)
  replace B3 := Lib.hid (B3.out.under hb LB3.out)
  replace B4 := Lib.hid (B4.out.under hb LB4.out)
  replace T := Lib.hid (T.out.under hb LT.out)
  replace M := Lib.hid hM
  clear hM hb
  go_wp2_with (first | ((with_reducible refine ins v3.heap.size 19 (1808, 109) M.out ?_ ?_ ?_ ?_ ?_); exact rfl; exact rfl; exact rfl; exact rfl) | fail)
  intro w19 hM hb
  replace B1 := Lib.hid (B1.out.under hb LB1.out)
  replace B2 := Lib.hid (B2.out.under hb LB2.out)
  replace B3 := Lib.hid (B3.out.under hb LB3.out)
  replace B4 := Lib.hid (B4.out.under hb LB4.out)
  replace T := Lib.hid (T.out.under hb LT.out)
  replace M := Lib.hid hM
  clear hM hb
  have c0 := B1.out.c 0 _ rfl
  have c1 := B1.out.c 1 _ rfl
  go_wp2_with (first | ((with_reducible refine ins v3.heap.size 20 (1, 95) M.out ?_ ?_ ?_ ?_ ?_); exact rfl; exact rfl; exact rfl; exact rfl) | fail)
  clear c0 c1
  intro w20 hM hb
  replace B1 := Lib.hid (B1.out.under hb LB1.out)
  replace B2 := Lib.hid (B2.out.under hb LB2.out)
  replace B3 := Lib.hid (B3.out.under hb LB3.out)
  replace B4 := Lib.hid (B4.out.under hb LB4.out)
  replace T := Lib.hid (T.out.under hb LT.out)
  replace M := Lib.hid hM
  clear hM hb
  have c0 := B4.out.c 0 _ rfl
  have c1 := B4.out.c 1 _ rfl
  go_wp2_with (first | ((with_reducible refine ins v3.heap.size 21 (33, 99) M.out ?_ ?_ ?_ ?_ ?_); exact rfl; exact rfl; exact rfl; exact rfl) | fail)
  clear c0 c1
  intro w21 hM hb
  replace B1 := Lib.hid (B1.out.under hb LB1.out)
  replace B2 := Lib.hid (B2.out.under hb LB2.out)
  replace B3 := Lib.hid (B3.out.under hb LB3.out)
  replace B4 := Lib.hid (B4.out.under hb LB4.out)
  replace T := Lib.hid (T.out.under hb LT.out)
  replace M := Lib.hid hM
  clear hM hb
  go_wp2_with (first | ((with_reducible refine ins v3.heap.size 22 (513, 110) M.out ?_ ?_ ?_ ?_ ?_); exact rfl; exact rfl; exact rfl; exact rfl) | fail)
  intro w22 hM hb
  replace B1 := Lib.hid (B1.out.under hb LB1.out)
  replace B2 := Lib.hid (B2.out.under hb LB2.out)
  replace B3 := Lib.hid (B3.out.under hb LB3.out)
  replace B4 := Lib.hid (B4.out.under hb LB4.out)
  replace T := Lib.hid (T.out.under hb LT.out)
  replace M := Lib.hid hM
  clear hM hb
  go_wp2_with (first | ((with_reducible refine ins v3.heap.size 23 (546, 111) M.out ?_ ?_ ?_ ?_ ?_); exact rfl; exact rfl; exact rfl; exact rfl) | fail)
  intro w23 hM hb
  replace B1 := Lib.hid (B1.out.under hb LB1.out)
  replace B2 := Lib.hid (B2.out.under hb LB2.out)
  replace B3 := Lib.hid (B3.out.under hb LB3.out)
  replace B4 := Lib.hid (B4.out.under hb LB4.out)
  replace T := Lib.hid (T.out.under hb LT.out)
  replace M := Lib.hid hM
  clear hM hb
  go_wp2
  go_ret
  exact ⟨v3.heap.size, rfl, M.out, T.out.bel⟩
end Ld
end Go.Proofs.YtojbicpchjiplaaGreatDoor

/-
  Layer 12: the landed package's test of validity is the document's, in plain Lean.
-/
namespace Go.Proofs.YtojbicpchjiplaaGreatDoor
open Go.RowKit
namespace Ld
open Ax
open S11.Idt (Str isId isName ids)
def wN (k : Nat) (b : Bool) : Nat := cond b k 0
/-- The fields that are not zero; each Bool: the field is zero. -/
def fb (q1 q2 q3 q4 q5 q6 q7 q8 q9 q10 q11 : Bool) : Nat :=
  wN 1 (!q1) ||| wN 2 (!q2) ||| wN 4 (!q3) ||| wN 8 (!q4) ||| wN 16 (!q5) ||| wN 32 (!q6) ||| wN 64 (!q7) ||| wN 128 (!q8) ||| wN 256 (!q9) ||| wN 512 (!q10) ||| wN 1024 (!q11)
def filledN (a : Ac) : Nat :=
  fb (a.object == []) (a.target == []) (a.scope == 0) (a.group == []) (!decide (0 < (a.to.length : Int))) (a.text == []) (boxzL a.body) (a.epoch == 0) (!decide (0 < (a.wraps.length : Int))) (a.n == 0) (a.m == 0)
/-- The fields beside the mask are zero. -/
def maskB (u : Nat) (q1 q2 q3 q4 q5 q6 q7 q8 q9 q10 q11 : Bool) : Bool :=
  (q1 || Nat.testBit u 0) && (q2 || Nat.testBit u 1) && (q3 || Nat.testBit u 2) && (q4 || Nat.testBit u 3) && (q5 || Nat.testBit u 4) && (q6 || Nat.testBit u 5) && (q7 || Nat.testBit u 6) && (q8 || Nat.testBit u 7) && (q9 || Nat.testBit u 8) && (q10 || Nat.testBit u 9) && (q11 || Nat.testBit u 10)
theorem wN_zero (k u : Nat) (q : Bool) : (wN k (!q) &&& u == 0) = (q || (k &&& u == 0)) := by cases q <;> simp [wN]
theorem or_and_zero (x y u : Nat) : ((x ||| y) &&& u == 0) = ((x &&& u == 0) && (y &&& u == 0)) := by
  rw [Nat.and_or_distrib_right, Bool.eq_iff_iff]
  simp [Nat.or_eq_zero_iff]
theorem fb_mask (v : Nat) (q1 q2 q3 q4 q5 q6 q7 q8 q9 q10 q11 : Bool) : (fb q1 q2 q3 q4 q5 q6 q7 q8 q9 q10 q11 &&& v == 0) =
    ((q1 || (1 &&& v == 0)) && (q2 || (2 &&& v == 0)) && (q3 || (4 &&& v == 0)) && (q4 || (8 &&& v == 0)) && (q5 || (16 &&& v == 0)) && (q6 || (32 &&& v == 0)) && (q7 || (64 &&& v == 0)) && (q8 || (128 &&& v == 0)) && (q9 || (256 &&& v == 0)) && (q10 || (512 &&& v == 0)) && (q11 || (1024 &&& v == 0))) := by
  unfold fb
  simp only [or_and_zero, wN_zero]
theorem eq_nil (l : Str) : (l == []) = l.isEmpty := by cases l <;> rfl
theorem pos_len {α : Type} (l : List α) : (!decide (0 < (l.length : Int))) = l.isEmpty := by cases l <;> simp
theorem boxz (b : Bx) : boxzL b = bxZ b := by simp only [boxzL, bxZ, eq_nil]
theorem pub_eq (n : Int) : pubL n = pub n := by
  simp only [pubL, withL, pub]
  congr 1
  exact decide_eq_decide.2 (by omega)
theorem box_eq (b : Bx) : boxL b = bxOk b := by
  rw [Bool.eq_iff_iff]
  simp only [boxL, bxOk, shortL, Bool.and_eq_true, beq_iff_eq, decide_eq_true_eq]
  omega
theorem wr_eq (w : Wr) : wrL w = wrOk w := by simp only [wrL, wrOk, pub_eq, box_eq]
theorem wraps_eq (a : Ac) : wrapsL a = (ids a.to && wrapped a) := by
  have h : a.wraps.all wrL = a.wraps.all wrOk := by congr 1; exact funext wr_eq
  have h2 : ((a.wraps.length : Int) == (a.to.length : Int)) = decide (a.wraps.length = a.to.length) := by
    rw [Bool.eq_iff_iff, beq_iff_eq, decide_eq_true_eq]; omega
  simp only [wrapsL, wrapped, h, h2]
  rw [Bool.and_comm (a.wraps.all wrOk)]
theorem dig_eq (s : Str) : digL s = dig32 s := by
  rw [Bool.eq_iff_iff]
  simp only [digL, dig32, beq_iff_eq, decide_eq_true_eq]; omega
theorem short_eq (s : Str) : shortL s = decide (s.length ≤ 500) := by
  rw [Bool.eq_iff_iff]
  simp only [shortL, decide_eq_true_eq]; omega
theorem home_eq (a : Ac) : accL a = home a := by
  simp only [accL, home, pub_eq, withL]
  congr 2
  exact decide_eq_decide.2 (by omega)
theorem ep_eq (n : Int) : withL n 0 1073741824 = epOk n := rfl
theorem epoch_eq (a : Ac) : epochL a = ((decide (1 ≤ a.scope) && decide (a.scope ≤ 3)) && (grOk a && epOk a.epoch)) := by
  simp only [epochL, grOk, ep_eq, eq_nil]
  by_cases h1 : a.scope = 1
  · simp [h1]
  by_cases h3 : a.scope = 3
  · simp [h3]
  by_cases h2 : a.scope = 2
  · simp [h2]
  · have : (decide (1 ≤ a.scope) && decide (a.scope ≤ 3)) = false := by
      rw [Bool.eq_false_iff]; simp only [ne_eq, Bool.and_eq_true, decide_eq_true_eq]; omega
    rw [this]
    simp [h1, h2, h3]
theorem aud_eq (a : Ac) : audL a = audOk a := by
  simp only [audL, audOk, epoch_eq, short_eq, boxz, box_eq, eq_nil]
  have hl : ((a.to.length : Int) == 0) = a.to.isEmpty := by cases a.to <;> simp; omega
  rw [hl]
  by_cases h0 : a.scope = 0
  · have he : decide (a.epoch = 0) = (a.epoch == 0) := by rw [Bool.eq_iff_iff]; simp
    simp only [h0, grOk, he]
    generalize (a.epoch == 0) = x1
    generalize decide (a.text.length ≤ 500) = x2
    simp
    cases a.group.isEmpty <;> cases ids a.to <;> cases bxZ a.body <;> cases x1 <;> cases x2 <;> simp
  by_cases h3 : a.scope = 3
  · simp [h3, grOk]
    cases a.group.isEmpty <;> cases epOk a.epoch <;> cases ids a.to <;> simp
  by_cases h1 : a.scope = 1
  · simp [h1, grOk]
    cases a.group.isEmpty <;> cases epOk a.epoch <;> cases ids a.to <;> cases a.to.isEmpty <;> cases a.text.isEmpty <;> simp
  by_cases h2 : a.scope = 2
  · simp [h2, grOk]
    cases isName a.group <;> cases epOk a.epoch <;> cases ids a.to <;> cases a.to.isEmpty <;> cases a.text.isEmpty <;> simp
  · have : (decide (1 ≤ a.scope) && decide (a.scope ≤ 3)) = false := by
      rw [Bool.eq_false_iff]; simp only [ne_eq, Bool.and_eq_true, decide_eq_true_eq]; omega
    rw [this]
    simp [h0, h1, h2, h3]
theorem place_eq (a : Ac) : ((decide (0 ≤ a.seq) && decide (a.seq ≤ 1073741824)) && seqOk a) = placeL a := by
  simp only [placeL, seqOk, dig_eq, eq_nil, withL]
  by_cases hk : a.kind = 0
  · by_cases hs : a.seq = 0
    · simp [hk, hs]
    · simp [hk, hs]
  · by_cases hs : a.seq = 0
    · simp [hk, hs]
    · simp only [hk, hs, if_false]
      have : decide (0 ≤ a.seq) = decide (1 ≤ a.seq) := decide_eq_decide.2 (by omega)
      have hk' : (a.kind == 0) = false := beq_eq_false_iff_ne.2 hk
      rw [this, hk']
      simp
/-- What each kind asks of the fields that it uses. -/
def fitT : List (Ac → Bool) := [r3, audL, r1, r1, objL, objL, objL, tgtL, tgtL, tgtL, tgtL, tgtL, r2, objL, r1, r4, r5, r6, accL, friendsL, objL, r2, r7, r8]
def fitK (a : Ac) : Bool := (fitT.getD a.kind.toNat (fun _ => false)) a
def usesK (a : Ac) : Nat := (tab.getD a.kind.toNat (0, 0)).1
end Ld
end Go.Proofs.YtojbicpchjiplaaGreatDoor

/-
  Layer 12: the landed package's test of validity, kind by kind: it is the document's.
-/
namespace Go.Proofs.YtojbicpchjiplaaGreatDoor
open Go.RowKit
namespace Ld
open Ax
open S11.Idt (Str isId isName ids)
theorem lab_eq (a : Ac) : r6 a = labOk a := by
  simp only [r6, labOk, eitherL, objL, tgtL, dig_eq, eq_nil]
  congr 1
  by_cases h : a.object = []
  · simp [h, dig32]
  · have : a.object.isEmpty = false := by simpa using h
    rw [this]
    simp [Bool.and_comm]
theorem fri_eq (a : Ac) : friendsL a = (ids a.to && (!a.to.isEmpty && (wrapped a && ((decide (1 ≤ a.n) && decide (a.n ≤ a.to.length)) && pub a.m)))) := by
  simp only [friendsL, wraps_eq, pub_eq, withL]
  cases ht : a.to with
  | nil =>
    have : (decide (1 ≤ a.n) && decide (a.n ≤ (([] : List Str).length : Int))) = false := by
      rw [Bool.eq_false_iff]; simp only [ne_eq, Bool.and_eq_true, decide_eq_true_eq, List.length_nil]; omega
    rw [this]
    simp
  | cons x l => simp [Bool.and_assoc]
theorem e0 (x : Int) : decide (x = 0) = (x == 0) := by rw [Bool.eq_iff_iff]; simp
theorem masked (a : Ac) (v : Nat) : ((filledN a &&& v) == 0) =
    ((a.object.isEmpty || (1 &&& v == 0)) && (a.target.isEmpty || (2 &&& v == 0)) && ((a.scope == 0) || (4 &&& v == 0)) && (a.group.isEmpty || (8 &&& v == 0)) && (a.to.isEmpty || (16 &&& v == 0)) && (a.text.isEmpty || (32 &&& v == 0)) && (bxZ a.body || (64 &&& v == 0)) && ((a.epoch == 0) || (128 &&& v == 0)) && (a.wraps.isEmpty || (256 &&& v == 0)) && ((a.n == 0) || (512 &&& v == 0)) && ((a.m == 0) || (1024 &&& v == 0))) := by
  unfold filledN
  rw [fb_mask]
  simp only [eq_nil, pos_len, boxz]
theorem fit0 (a : Ac) (hk : a.kind = 0) : (((filledN a &&& (65535 - usesK a)) == 0) && fitK a) = fits a := by
  have hf : fitK a = r3 a := by unfold fitK; rw [hk]; rfl
  have hu : 65535 - usesK a = 63967 := by unfold usesK; rw [hk]; rfl
  rw [hf, hu, masked, show ((1 &&& 63967 : Nat) == 0) = false from rfl, show ((2 &&& 63967 : Nat) == 0) = false from rfl, show ((4 &&& 63967 : Nat) == 0) = false from rfl, show ((8 &&& 63967 : Nat) == 0) = false from rfl, show ((16 &&& 63967 : Nat) == 0) = false from rfl, show ((32 &&& 63967 : Nat) == 0) = true from rfl, show ((64 &&& 63967 : Nat) == 0) = false from rfl, show ((128 &&& 63967 : Nat) == 0) = false from rfl, show ((256 &&& 63967 : Nat) == 0) = false from rfl, show ((512 &&& 63967 : Nat) == 0) = true from rfl, show ((1024 &&& 63967 : Nat) == 0) = true from rfl]
  unfold fits
  simp only [hk, zer, bare, r3, home_eq, e0]
  simp
  try ac_rfl
theorem fit1 (a : Ac) (hk : a.kind = 1) : (((filledN a &&& (65535 - usesK a)) == 0) && fitK a) = fits a := by
  have hf : fitK a = audL a := by unfold fitK; rw [hk]; rfl
  have hu : 65535 - usesK a = 65283 := by unfold usesK; rw [hk]; rfl
  rw [hf, hu, masked, show ((1 &&& 65283 : Nat) == 0) = false from rfl, show ((2 &&& 65283 : Nat) == 0) = false from rfl, show ((4 &&& 65283 : Nat) == 0) = true from rfl, show ((8 &&& 65283 : Nat) == 0) = true from rfl, show ((16 &&& 65283 : Nat) == 0) = true from rfl, show ((32 &&& 65283 : Nat) == 0) = true from rfl, show ((64 &&& 65283 : Nat) == 0) = true from rfl, show ((128 &&& 65283 : Nat) == 0) = true from rfl, show ((256 &&& 65283 : Nat) == 0) = false from rfl, show ((512 &&& 65283 : Nat) == 0) = false from rfl, show ((1024 &&& 65283 : Nat) == 0) = false from rfl]
  unfold fits
  simp only [hk, zer, bare, aud_eq, e0]
  simp
  try ac_rfl
theorem fit2 (a : Ac) (hk : a.kind = 2) : (((filledN a &&& (65535 - usesK a)) == 0) && fitK a) = fits a := by
  have hf : fitK a = r1 a := by unfold fitK; rw [hk]; rfl
  have hu : 65535 - usesK a = 65282 := by unfold usesK; rw [hk]; rfl
  rw [hf, hu, masked, show ((1 &&& 65282 : Nat) == 0) = true from rfl, show ((2 &&& 65282 : Nat) == 0) = false from rfl, show ((4 &&& 65282 : Nat) == 0) = true from rfl, show ((8 &&& 65282 : Nat) == 0) = true from rfl, show ((16 &&& 65282 : Nat) == 0) = true from rfl, show ((32 &&& 65282 : Nat) == 0) = true from rfl, show ((64 &&& 65282 : Nat) == 0) = true from rfl, show ((128 &&& 65282 : Nat) == 0) = true from rfl, show ((256 &&& 65282 : Nat) == 0) = false from rfl, show ((512 &&& 65282 : Nat) == 0) = false from rfl, show ((1024 &&& 65282 : Nat) == 0) = false from rfl]
  unfold fits
  simp only [hk, zer, bare, r1, aud_eq, objL, dig_eq, e0]
  simp
  try ac_rfl
theorem fit3 (a : Ac) (hk : a.kind = 3) : (((filledN a &&& (65535 - usesK a)) == 0) && fitK a) = fits a := by
  have hf : fitK a = r1 a := by unfold fitK; rw [hk]; rfl
  have hu : 65535 - usesK a = 65282 := by unfold usesK; rw [hk]; rfl
  rw [hf, hu, masked, show ((1 &&& 65282 : Nat) == 0) = true from rfl, show ((2 &&& 65282 : Nat) == 0) = false from rfl, show ((4 &&& 65282 : Nat) == 0) = true from rfl, show ((8 &&& 65282 : Nat) == 0) = true from rfl, show ((16 &&& 65282 : Nat) == 0) = true from rfl, show ((32 &&& 65282 : Nat) == 0) = true from rfl, show ((64 &&& 65282 : Nat) == 0) = true from rfl, show ((128 &&& 65282 : Nat) == 0) = true from rfl, show ((256 &&& 65282 : Nat) == 0) = false from rfl, show ((512 &&& 65282 : Nat) == 0) = false from rfl, show ((1024 &&& 65282 : Nat) == 0) = false from rfl]
  unfold fits
  simp only [hk, zer, bare, r1, aud_eq, objL, dig_eq, e0]
  simp
  try ac_rfl
theorem fit4 (a : Ac) (hk : a.kind = 4) : (((filledN a &&& (65535 - usesK a)) == 0) && fitK a) = fits a := by
  have hf : fitK a = objL a := by unfold fitK; rw [hk]; rfl
  have hu : 65535 - usesK a = 65534 := by unfold usesK; rw [hk]; rfl
  rw [hf, hu, masked, show ((1 &&& 65534 : Nat) == 0) = true from rfl, show ((2 &&& 65534 : Nat) == 0) = false from rfl, show ((4 &&& 65534 : Nat) == 0) = false from rfl, show ((8 &&& 65534 : Nat) == 0) = false from rfl, show ((16 &&& 65534 : Nat) == 0) = false from rfl, show ((32 &&& 65534 : Nat) == 0) = false from rfl, show ((64 &&& 65534 : Nat) == 0) = false from rfl, show ((128 &&& 65534 : Nat) == 0) = false from rfl, show ((256 &&& 65534 : Nat) == 0) = false from rfl, show ((512 &&& 65534 : Nat) == 0) = false from rfl, show ((1024 &&& 65534 : Nat) == 0) = false from rfl]
  unfold fits
  simp only [hk, zer, bare, objL, dig_eq, e0]
  simp
  try ac_rfl
theorem fit5 (a : Ac) (hk : a.kind = 5) : (((filledN a &&& (65535 - usesK a)) == 0) && fitK a) = fits a := by
  have hf : fitK a = objL a := by unfold fitK; rw [hk]; rfl
  have hu : 65535 - usesK a = 65534 := by unfold usesK; rw [hk]; rfl
  rw [hf, hu, masked, show ((1 &&& 65534 : Nat) == 0) = true from rfl, show ((2 &&& 65534 : Nat) == 0) = false from rfl, show ((4 &&& 65534 : Nat) == 0) = false from rfl, show ((8 &&& 65534 : Nat) == 0) = false from rfl, show ((16 &&& 65534 : Nat) == 0) = false from rfl, show ((32 &&& 65534 : Nat) == 0) = false from rfl, show ((64 &&& 65534 : Nat) == 0) = false from rfl, show ((128 &&& 65534 : Nat) == 0) = false from rfl, show ((256 &&& 65534 : Nat) == 0) = false from rfl, show ((512 &&& 65534 : Nat) == 0) = false from rfl, show ((1024 &&& 65534 : Nat) == 0) = false from rfl]
  unfold fits
  simp only [hk, zer, bare, objL, dig_eq, e0]
  simp
  try ac_rfl
theorem fit6 (a : Ac) (hk : a.kind = 6) : (((filledN a &&& (65535 - usesK a)) == 0) && fitK a) = fits a := by
  have hf : fitK a = objL a := by unfold fitK; rw [hk]; rfl
  have hu : 65535 - usesK a = 65534 := by unfold usesK; rw [hk]; rfl
  rw [hf, hu, masked, show ((1 &&& 65534 : Nat) == 0) = true from rfl, show ((2 &&& 65534 : Nat) == 0) = false from rfl, show ((4 &&& 65534 : Nat) == 0) = false from rfl, show ((8 &&& 65534 : Nat) == 0) = false from rfl, show ((16 &&& 65534 : Nat) == 0) = false from rfl, show ((32 &&& 65534 : Nat) == 0) = false from rfl, show ((64 &&& 65534 : Nat) == 0) = false from rfl, show ((128 &&& 65534 : Nat) == 0) = false from rfl, show ((256 &&& 65534 : Nat) == 0) = false from rfl, show ((512 &&& 65534 : Nat) == 0) = false from rfl, show ((1024 &&& 65534 : Nat) == 0) = false from rfl]
  unfold fits
  simp only [hk, zer, bare, objL, dig_eq, e0]
  simp
  try ac_rfl
theorem fit7 (a : Ac) (hk : a.kind = 7) : (((filledN a &&& (65535 - usesK a)) == 0) && fitK a) = fits a := by
  have hf : fitK a = tgtL a := by unfold fitK; rw [hk]; rfl
  have hu : 65535 - usesK a = 65533 := by unfold usesK; rw [hk]; rfl
  rw [hf, hu, masked, show ((1 &&& 65533 : Nat) == 0) = false from rfl, show ((2 &&& 65533 : Nat) == 0) = true from rfl, show ((4 &&& 65533 : Nat) == 0) = false from rfl, show ((8 &&& 65533 : Nat) == 0) = false from rfl, show ((16 &&& 65533 : Nat) == 0) = false from rfl, show ((32 &&& 65533 : Nat) == 0) = false from rfl, show ((64 &&& 65533 : Nat) == 0) = false from rfl, show ((128 &&& 65533 : Nat) == 0) = false from rfl, show ((256 &&& 65533 : Nat) == 0) = false from rfl, show ((512 &&& 65533 : Nat) == 0) = false from rfl, show ((1024 &&& 65533 : Nat) == 0) = false from rfl]
  unfold fits
  simp only [hk, zer, bare, tgtL, e0]
  simp
  try ac_rfl
theorem fit8 (a : Ac) (hk : a.kind = 8) : (((filledN a &&& (65535 - usesK a)) == 0) && fitK a) = fits a := by
  have hf : fitK a = tgtL a := by unfold fitK; rw [hk]; rfl
  have hu : 65535 - usesK a = 65533 := by unfold usesK; rw [hk]; rfl
  rw [hf, hu, masked, show ((1 &&& 65533 : Nat) == 0) = false from rfl, show ((2 &&& 65533 : Nat) == 0) = true from rfl, show ((4 &&& 65533 : Nat) == 0) = false from rfl, show ((8 &&& 65533 : Nat) == 0) = false from rfl, show ((16 &&& 65533 : Nat) == 0) = false from rfl, show ((32 &&& 65533 : Nat) == 0) = false from rfl, show ((64 &&& 65533 : Nat) == 0) = false from rfl, show ((128 &&& 65533 : Nat) == 0) = false from rfl, show ((256 &&& 65533 : Nat) == 0) = false from rfl, show ((512 &&& 65533 : Nat) == 0) = false from rfl, show ((1024 &&& 65533 : Nat) == 0) = false from rfl]
  unfold fits
  simp only [hk, zer, bare, tgtL, e0]
  simp
  try ac_rfl
theorem fit9 (a : Ac) (hk : a.kind = 9) : (((filledN a &&& (65535 - usesK a)) == 0) && fitK a) = fits a := by
  have hf : fitK a = tgtL a := by unfold fitK; rw [hk]; rfl
  have hu : 65535 - usesK a = 65533 := by unfold usesK; rw [hk]; rfl
  rw [hf, hu, masked, show ((1 &&& 65533 : Nat) == 0) = false from rfl, show ((2 &&& 65533 : Nat) == 0) = true from rfl, show ((4 &&& 65533 : Nat) == 0) = false from rfl, show ((8 &&& 65533 : Nat) == 0) = false from rfl, show ((16 &&& 65533 : Nat) == 0) = false from rfl, show ((32 &&& 65533 : Nat) == 0) = false from rfl, show ((64 &&& 65533 : Nat) == 0) = false from rfl, show ((128 &&& 65533 : Nat) == 0) = false from rfl, show ((256 &&& 65533 : Nat) == 0) = false from rfl, show ((512 &&& 65533 : Nat) == 0) = false from rfl, show ((1024 &&& 65533 : Nat) == 0) = false from rfl]
  unfold fits
  simp only [hk, zer, bare, tgtL, e0]
  simp
  try ac_rfl
theorem fit10 (a : Ac) (hk : a.kind = 10) : (((filledN a &&& (65535 - usesK a)) == 0) && fitK a) = fits a := by
  have hf : fitK a = tgtL a := by unfold fitK; rw [hk]; rfl
  have hu : 65535 - usesK a = 65533 := by unfold usesK; rw [hk]; rfl
  rw [hf, hu, masked, show ((1 &&& 65533 : Nat) == 0) = false from rfl, show ((2 &&& 65533 : Nat) == 0) = true from rfl, show ((4 &&& 65533 : Nat) == 0) = false from rfl, show ((8 &&& 65533 : Nat) == 0) = false from rfl, show ((16 &&& 65533 : Nat) == 0) = false from rfl, show ((32 &&& 65533 : Nat) == 0) = false from rfl, show ((64 &&& 65533 : Nat) == 0) = false from rfl, show ((128 &&& 65533 : Nat) == 0) = false from rfl, show ((256 &&& 65533 : Nat) == 0) = false from rfl, show ((512 &&& 65533 : Nat) == 0) = false from rfl, show ((1024 &&& 65533 : Nat) == 0) = false from rfl]
  unfold fits
  simp only [hk, zer, bare, tgtL, e0]
  simp
  try ac_rfl
theorem fit11 (a : Ac) (hk : a.kind = 11) : (((filledN a &&& (65535 - usesK a)) == 0) && fitK a) = fits a := by
  have hf : fitK a = tgtL a := by unfold fitK; rw [hk]; rfl
  have hu : 65535 - usesK a = 65533 := by unfold usesK; rw [hk]; rfl
  rw [hf, hu, masked, show ((1 &&& 65533 : Nat) == 0) = false from rfl, show ((2 &&& 65533 : Nat) == 0) = true from rfl, show ((4 &&& 65533 : Nat) == 0) = false from rfl, show ((8 &&& 65533 : Nat) == 0) = false from rfl, show ((16 &&& 65533 : Nat) == 0) = false from rfl, show ((32 &&& 65533 : Nat) == 0) = false from rfl, show ((64 &&& 65533 : Nat) == 0) = false from rfl, show ((128 &&& 65533 : Nat) == 0) = false from rfl, show ((256 &&& 65533 : Nat) == 0) = false from rfl, show ((512 &&& 65533 : Nat) == 0) = false from rfl, show ((1024 &&& 65533 : Nat) == 0) = false from rfl]
  unfold fits
  simp only [hk, zer, bare, tgtL, e0]
  simp
  try ac_rfl
theorem fit12 (a : Ac) (hk : a.kind = 12) : (((filledN a &&& (65535 - usesK a)) == 0) && fitK a) = fits a := by
  have hf : fitK a = r2 a := by unfold fitK; rw [hk]; rfl
  have hu : 65535 - usesK a = 65502 := by unfold usesK; rw [hk]; rfl
  rw [hf, hu, masked, show ((1 &&& 65502 : Nat) == 0) = true from rfl, show ((2 &&& 65502 : Nat) == 0) = false from rfl, show ((4 &&& 65502 : Nat) == 0) = false from rfl, show ((8 &&& 65502 : Nat) == 0) = false from rfl, show ((16 &&& 65502 : Nat) == 0) = false from rfl, show ((32 &&& 65502 : Nat) == 0) = true from rfl, show ((64 &&& 65502 : Nat) == 0) = false from rfl, show ((128 &&& 65502 : Nat) == 0) = false from rfl, show ((256 &&& 65502 : Nat) == 0) = false from rfl, show ((512 &&& 65502 : Nat) == 0) = false from rfl, show ((1024 &&& 65502 : Nat) == 0) = false from rfl]
  unfold fits
  simp only [hk, zer, bare, r2, objL, dig_eq, short_eq, e0]
  simp
  try ac_rfl
theorem fit13 (a : Ac) (hk : a.kind = 13) : (((filledN a &&& (65535 - usesK a)) == 0) && fitK a) = fits a := by
  have hf : fitK a = objL a := by unfold fitK; rw [hk]; rfl
  have hu : 65535 - usesK a = 65534 := by unfold usesK; rw [hk]; rfl
  rw [hf, hu, masked, show ((1 &&& 65534 : Nat) == 0) = true from rfl, show ((2 &&& 65534 : Nat) == 0) = false from rfl, show ((4 &&& 65534 : Nat) == 0) = false from rfl, show ((8 &&& 65534 : Nat) == 0) = false from rfl, show ((16 &&& 65534 : Nat) == 0) = false from rfl, show ((32 &&& 65534 : Nat) == 0) = false from rfl, show ((64 &&& 65534 : Nat) == 0) = false from rfl, show ((128 &&& 65534 : Nat) == 0) = false from rfl, show ((256 &&& 65534 : Nat) == 0) = false from rfl, show ((512 &&& 65534 : Nat) == 0) = false from rfl, show ((1024 &&& 65534 : Nat) == 0) = false from rfl]
  unfold fits
  simp only [hk, zer, bare, objL, dig_eq, e0]
  simp
  try ac_rfl
theorem fit14 (a : Ac) (hk : a.kind = 14) : (((filledN a &&& (65535 - usesK a)) == 0) && fitK a) = fits a := by
  have hf : fitK a = r1 a := by unfold fitK; rw [hk]; rfl
  have hu : 65535 - usesK a = 65282 := by unfold usesK; rw [hk]; rfl
  rw [hf, hu, masked, show ((1 &&& 65282 : Nat) == 0) = true from rfl, show ((2 &&& 65282 : Nat) == 0) = false from rfl, show ((4 &&& 65282 : Nat) == 0) = true from rfl, show ((8 &&& 65282 : Nat) == 0) = true from rfl, show ((16 &&& 65282 : Nat) == 0) = true from rfl, show ((32 &&& 65282 : Nat) == 0) = true from rfl, show ((64 &&& 65282 : Nat) == 0) = true from rfl, show ((128 &&& 65282 : Nat) == 0) = true from rfl, show ((256 &&& 65282 : Nat) == 0) = false from rfl, show ((512 &&& 65282 : Nat) == 0) = false from rfl, show ((1024 &&& 65282 : Nat) == 0) = false from rfl]
  unfold fits
  simp only [hk, zer, bare, r1, aud_eq, objL, dig_eq, e0]
  simp
  try ac_rfl
theorem fit15 (a : Ac) (hk : a.kind = 15) : (((filledN a &&& (65535 - usesK a)) == 0) && fitK a) = fits a := by
  have hf : fitK a = r4 a := by unfold fitK; rw [hk]; rfl
  have hu : 65535 - usesK a = 65511 := by unfold usesK; rw [hk]; rfl
  rw [hf, hu, masked, show ((1 &&& 65511 : Nat) == 0) = false from rfl, show ((2 &&& 65511 : Nat) == 0) = false from rfl, show ((4 &&& 65511 : Nat) == 0) = false from rfl, show ((8 &&& 65511 : Nat) == 0) = true from rfl, show ((16 &&& 65511 : Nat) == 0) = true from rfl, show ((32 &&& 65511 : Nat) == 0) = false from rfl, show ((64 &&& 65511 : Nat) == 0) = false from rfl, show ((128 &&& 65511 : Nat) == 0) = false from rfl, show ((256 &&& 65511 : Nat) == 0) = false from rfl, show ((512 &&& 65511 : Nat) == 0) = false from rfl, show ((1024 &&& 65511 : Nat) == 0) = false from rfl]
  unfold fits
  simp only [hk, zer, bare, r4, e0]
  simp
  try ac_rfl
theorem fit16 (a : Ac) (hk : a.kind = 16) : (((filledN a &&& (65535 - usesK a)) == 0) && fitK a) = fits a := by
  have hf : fitK a = r5 a := by unfold fitK; rw [hk]; rfl
  have hu : 65535 - usesK a = 65123 := by unfold usesK; rw [hk]; rfl
  rw [hf, hu, masked, show ((1 &&& 65123 : Nat) == 0) = false from rfl, show ((2 &&& 65123 : Nat) == 0) = false from rfl, show ((4 &&& 65123 : Nat) == 0) = true from rfl, show ((8 &&& 65123 : Nat) == 0) = true from rfl, show ((16 &&& 65123 : Nat) == 0) = true from rfl, show ((32 &&& 65123 : Nat) == 0) = false from rfl, show ((64 &&& 65123 : Nat) == 0) = false from rfl, show ((128 &&& 65123 : Nat) == 0) = true from rfl, show ((256 &&& 65123 : Nat) == 0) = true from rfl, show ((512 &&& 65123 : Nat) == 0) = false from rfl, show ((1024 &&& 65123 : Nat) == 0) = false from rfl]
  unfold fits
  simp only [hk, zer, bare, r5, epoch_eq, wraps_eq, e0]
  simp
  try ac_rfl
theorem fit17 (a : Ac) (hk : a.kind = 17) : (((filledN a &&& (65535 - usesK a)) == 0) && fitK a) = fits a := by
  have hf : fitK a = r6 a := by unfold fitK; rw [hk]; rfl
  have hu : 65535 - usesK a = 65500 := by unfold usesK; rw [hk]; rfl
  rw [hf, hu, masked, show ((1 &&& 65500 : Nat) == 0) = true from rfl, show ((2 &&& 65500 : Nat) == 0) = true from rfl, show ((4 &&& 65500 : Nat) == 0) = false from rfl, show ((8 &&& 65500 : Nat) == 0) = false from rfl, show ((16 &&& 65500 : Nat) == 0) = false from rfl, show ((32 &&& 65500 : Nat) == 0) = true from rfl, show ((64 &&& 65500 : Nat) == 0) = false from rfl, show ((128 &&& 65500 : Nat) == 0) = false from rfl, show ((256 &&& 65500 : Nat) == 0) = false from rfl, show ((512 &&& 65500 : Nat) == 0) = false from rfl, show ((1024 &&& 65500 : Nat) == 0) = false from rfl]
  unfold fits
  simp only [hk, zer, bare, lab_eq, e0]
  simp
  try ac_rfl
theorem fit18 (a : Ac) (hk : a.kind = 18) : (((filledN a &&& (65535 - usesK a)) == 0) && fitK a) = fits a := by
  have hf : fitK a = accL a := by unfold fitK; rw [hk]; rfl
  have hu : 65535 - usesK a = 63999 := by unfold usesK; rw [hk]; rfl
  rw [hf, hu, masked, show ((1 &&& 63999 : Nat) == 0) = false from rfl, show ((2 &&& 63999 : Nat) == 0) = false from rfl, show ((4 &&& 63999 : Nat) == 0) = false from rfl, show ((8 &&& 63999 : Nat) == 0) = false from rfl, show ((16 &&& 63999 : Nat) == 0) = false from rfl, show ((32 &&& 63999 : Nat) == 0) = false from rfl, show ((64 &&& 63999 : Nat) == 0) = false from rfl, show ((128 &&& 63999 : Nat) == 0) = false from rfl, show ((256 &&& 63999 : Nat) == 0) = false from rfl, show ((512 &&& 63999 : Nat) == 0) = true from rfl, show ((1024 &&& 63999 : Nat) == 0) = true from rfl]
  unfold fits
  simp only [hk, zer, bare, home_eq, e0]
  simp
  try ac_rfl
theorem fit19 (a : Ac) (hk : a.kind = 19) : (((filledN a &&& (65535 - usesK a)) == 0) && fitK a) = fits a := by
  have hf : fitK a = friendsL a := by unfold fitK; rw [hk]; rfl
  have hu : 65535 - usesK a = 63727 := by unfold usesK; rw [hk]; rfl
  rw [hf, hu, masked, show ((1 &&& 63727 : Nat) == 0) = false from rfl, show ((2 &&& 63727 : Nat) == 0) = false from rfl, show ((4 &&& 63727 : Nat) == 0) = false from rfl, show ((8 &&& 63727 : Nat) == 0) = false from rfl, show ((16 &&& 63727 : Nat) == 0) = true from rfl, show ((32 &&& 63727 : Nat) == 0) = false from rfl, show ((64 &&& 63727 : Nat) == 0) = false from rfl, show ((128 &&& 63727 : Nat) == 0) = false from rfl, show ((256 &&& 63727 : Nat) == 0) = true from rfl, show ((512 &&& 63727 : Nat) == 0) = true from rfl, show ((1024 &&& 63727 : Nat) == 0) = true from rfl]
  unfold fits
  simp only [hk, zer, bare, fri_eq, e0]
  simp
  try ac_rfl
theorem fit20 (a : Ac) (hk : a.kind = 20) : (((filledN a &&& (65535 - usesK a)) == 0) && fitK a) = fits a := by
  have hf : fitK a = objL a := by unfold fitK; rw [hk]; rfl
  have hu : 65535 - usesK a = 65534 := by unfold usesK; rw [hk]; rfl
  rw [hf, hu, masked, show ((1 &&& 65534 : Nat) == 0) = true from rfl, show ((2 &&& 65534 : Nat) == 0) = false from rfl, show ((4 &&& 65534 : Nat) == 0) = false from rfl, show ((8 &&& 65534 : Nat) == 0) = false from rfl, show ((16 &&& 65534 : Nat) == 0) = false from rfl, show ((32 &&& 65534 : Nat) == 0) = false from rfl, show ((64 &&& 65534 : Nat) == 0) = false from rfl, show ((128 &&& 65534 : Nat) == 0) = false from rfl, show ((256 &&& 65534 : Nat) == 0) = false from rfl, show ((512 &&& 65534 : Nat) == 0) = false from rfl, show ((1024 &&& 65534 : Nat) == 0) = false from rfl]
  unfold fits
  simp only [hk, zer, bare, objL, dig_eq, e0]
  simp
  try ac_rfl
theorem fit21 (a : Ac) (hk : a.kind = 21) : (((filledN a &&& (65535 - usesK a)) == 0) && fitK a) = fits a := by
  have hf : fitK a = r2 a := by unfold fitK; rw [hk]; rfl
  have hu : 65535 - usesK a = 65502 := by unfold usesK; rw [hk]; rfl
  rw [hf, hu, masked, show ((1 &&& 65502 : Nat) == 0) = true from rfl, show ((2 &&& 65502 : Nat) == 0) = false from rfl, show ((4 &&& 65502 : Nat) == 0) = false from rfl, show ((8 &&& 65502 : Nat) == 0) = false from rfl, show ((16 &&& 65502 : Nat) == 0) = false from rfl, show ((32 &&& 65502 : Nat) == 0) = true from rfl, show ((64 &&& 65502 : Nat) == 0) = false from rfl, show ((128 &&& 65502 : Nat) == 0) = false from rfl, show ((256 &&& 65502 : Nat) == 0) = false from rfl, show ((512 &&& 65502 : Nat) == 0) = false from rfl, show ((1024 &&& 65502 : Nat) == 0) = false from rfl]
  unfold fits
  simp only [hk, zer, bare, r2, objL, dig_eq, short_eq, e0]
  simp
  try ac_rfl
theorem fit22 (a : Ac) (hk : a.kind = 22) : (((filledN a &&& (65535 - usesK a)) == 0) && fitK a) = fits a := by
  have hf : fitK a = r7 a := by unfold fitK; rw [hk]; rfl
  have hu : 65535 - usesK a = 65022 := by unfold usesK; rw [hk]; rfl
  rw [hf, hu, masked, show ((1 &&& 65022 : Nat) == 0) = true from rfl, show ((2 &&& 65022 : Nat) == 0) = false from rfl, show ((4 &&& 65022 : Nat) == 0) = false from rfl, show ((8 &&& 65022 : Nat) == 0) = false from rfl, show ((16 &&& 65022 : Nat) == 0) = false from rfl, show ((32 &&& 65022 : Nat) == 0) = false from rfl, show ((64 &&& 65022 : Nat) == 0) = false from rfl, show ((128 &&& 65022 : Nat) == 0) = false from rfl, show ((256 &&& 65022 : Nat) == 0) = false from rfl, show ((512 &&& 65022 : Nat) == 0) = true from rfl, show ((1024 &&& 65022 : Nat) == 0) = false from rfl]
  unfold fits
  simp only [hk, zer, bare, r7, objL, dig_eq, withL, e0]
  simp
  try ac_rfl
theorem fit23 (a : Ac) (hk : a.kind = 23) : (((filledN a &&& (65535 - usesK a)) == 0) && fitK a) = fits a := by
  have hf : fitK a = r8 a := by unfold fitK; rw [hk]; rfl
  have hu : 65535 - usesK a = 64989 := by unfold usesK; rw [hk]; rfl
  rw [hf, hu, masked, show ((1 &&& 64989 : Nat) == 0) = false from rfl, show ((2 &&& 64989 : Nat) == 0) = true from rfl, show ((4 &&& 64989 : Nat) == 0) = false from rfl, show ((8 &&& 64989 : Nat) == 0) = false from rfl, show ((16 &&& 64989 : Nat) == 0) = false from rfl, show ((32 &&& 64989 : Nat) == 0) = true from rfl, show ((64 &&& 64989 : Nat) == 0) = false from rfl, show ((128 &&& 64989 : Nat) == 0) = false from rfl, show ((256 &&& 64989 : Nat) == 0) = false from rfl, show ((512 &&& 64989 : Nat) == 0) = true from rfl, show ((1024 &&& 64989 : Nat) == 0) = false from rfl]
  unfold fits
  simp only [hk, zer, bare, r8, tgtL, short_eq, withL, e0]
  simp
  try ac_rfl
theorem fit_in (a : Ac) (hk : 0 ≤ a.kind ∧ a.kind < 24) : (((filledN a &&& (65535 - usesK a)) == 0) && fitK a) = fits a := by
  have : a.kind = 0 ∨ a.kind = 1 ∨ a.kind = 2 ∨ a.kind = 3 ∨ a.kind = 4 ∨ a.kind = 5 ∨ a.kind = 6 ∨ a.kind = 7 ∨ a.kind = 8 ∨ a.kind = 9 ∨ a.kind = 10 ∨ a.kind = 11 ∨ a.kind = 12 ∨ a.kind = 13 ∨ a.kind = 14 ∨ a.kind = 15 ∨ a.kind = 16 ∨ a.kind = 17 ∨ a.kind = 18 ∨ a.kind = 19 ∨ a.kind = 20 ∨ a.kind = 21 ∨ a.kind = 22 ∨ a.kind = 23 := by omega
  rcases this with h | h | h | h | h | h | h | h | h | h | h | h | h | h | h | h | h | h | h | h | h | h | h | h
  · exact fit0 a h
  · exact fit1 a h
  · exact fit2 a h
  · exact fit3 a h
  · exact fit4 a h
  · exact fit5 a h
  · exact fit6 a h
  · exact fit7 a h
  · exact fit8 a h
  · exact fit9 a h
  · exact fit10 a h
  · exact fit11 a h
  · exact fit12 a h
  · exact fit13 a h
  · exact fit14 a h
  · exact fit15 a h
  · exact fit16 a h
  · exact fit17 a h
  · exact fit18 a h
  · exact fit19 a h
  · exact fit20 a h
  · exact fit21 a h
  · exact fit22 a h
  · exact fit23 a h
theorem fit_out (a : Ac) (hk : ¬ (0 ≤ a.kind ∧ a.kind < 24)) : fits a = false := by
  cases h : fits a with
  | false => rfl
  | true => cases fits_of h <;> omega
theorem sig_eq (e s : Int) : sigOk e s = (withL e 0 2305843009213693949 && withL s 0 2305843009213693949) := by
  simp only [sigOk, withL]
  rw [show decide (e < 2305843009213693950) = decide (e ≤ 2305843009213693949) from decide_eq_decide.2 (by omega), show decide (s < 2305843009213693950) = decide (s ≤ 2305843009213693949) from decide_eq_decide.2 (by omega)]
theorem right_in (a : Ac) (e s : Int) (hk : 0 ≤ a.kind ∧ a.kind < 24) : valid a e s = (isId a.author && (placeL a && (withL a.time 0 1099511627776 && (withL e 0 2305843009213693949 && (withL s 0 2305843009213693949 && (((filledN a &&& (65535 - usesK a)) == 0) && fitK a)))))) := by
  rw [fit_in a hk, ← place_eq]
  unfold valid good headOk
  rw [sig_eq]
  rw [show (decide (0 ≤ a.time) && decide (a.time ≤ 1099511627776)) = withL a.time 0 1099511627776 from rfl]
  ac_rfl
theorem right_out (a : Ac) (e s : Int) (hk : ¬ (0 ≤ a.kind ∧ a.kind < 24)) : valid a e s = false := by
  unfold valid good
  rw [fit_out a hk]
  simp
end Ld
end Go.Proofs.YtojbicpchjiplaaGreatDoor
