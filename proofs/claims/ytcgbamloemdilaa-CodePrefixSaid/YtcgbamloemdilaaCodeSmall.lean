/-
  Layer 2: the law's own 'small'; what a call leaves, over worlds that have grown.
-/
import Derived.Test.YtcgbamloemdilaaCodeRd2
import Derived.Test.YtcgbamloemdilaaCodePut
import Derived.Test.YtcgbamloemdilaaCodeSame
namespace Go.Proofs.Ytcgbamloemdilaa
open Go.RowKit
open Cd
attribute [local go_sem] B_size B_drop' B_take B_list B_app

/-- The slice value of address A holds the cells xs, in a block from lo on and below hi. -/
def RowIn (w : World) (lo hi : Nat) (A : Option Addr) (xs : List Value) : Prop :=
  xs = [] ∨ ∃ a, A = some a ∧ lo ≤ a.block ∧ a.block < hi ∧ ∀ j u, xs[j]? = some u → w.cell? (a.add j) = some u
theorem RowIn.row {w : World} {lo hi : Nat} {A : Option Addr} {xs : List Value} (h : RowIn w lo hi A xs) : Row w hi A xs := by
  rcases h with h | ⟨a, h1, _, h2, h3⟩
  · exact .inl h
  · exact .inr ⟨a, h1, h2, h3⟩
theorem RowIn.below {w w' : World} {lo hi : Nat} {A : Option Addr} {xs : List Value} (h : RowIn w lo hi A xs) (hb : Below hi w w') : RowIn w' lo hi A xs := by
  rcases h with h | ⟨a, rfl, h1, hlt, hc⟩
  · exact .inl h
  · exact .inr ⟨a, rfl, h1, hlt, fun j u hu => (hb.cell (p := a.add j) (by rw [add_block]; exact hlt)).trans (hc j u hu)⟩
theorem RowIn.grown {w w' : World} {lo hi : Nat} {row : Option Nat} {A : Option Addr} {xs : List Value} (h : RowIn w lo hi A xs) (hb : hi ≤ w.heap.size) (hg : w.grownBy w' row) (hr : ∀ k, row = some k → k < lo ∨ hi ≤ k) : RowIn w' lo hi A xs := by
  rcases h with h | ⟨a, rfl, h1, hlt, hc⟩
  · exact .inl h
  · refine .inr ⟨a, rfl, h1, hlt, fun j u hu => (World.cell?_of_block (hg.block _ ?_ ?_)).trans (hc j u hu)⟩
    · rw [add_block]; omega
    · rw [add_block]; intro e; have := hr _ e.symm; omega
theorem RowIn.more {w : World} {lo hi hi' : Nat} {A : Option Addr} {xs : List Value} (h : RowIn w lo hi A xs) (hb : hi ≤ hi') : RowIn w lo hi' A xs := by
  rcases h with h | ⟨a, rfl, h1, hlt, hc⟩
  · exact .inl h
  · exact .inr ⟨a, rfl, h1, by omega, hc⟩
theorem RowIn.of_own {w : World} {base n c : Nat} {e : TypeId} {A : Option Addr} {xs : List Value} (h : w.ownsRow base e 1 (.slice A n c) n xs) : RowIn w base w.heap.size A xs := by
  rcases h.2 with ⟨_, h0⟩ | ⟨g, cap, cur, hv, hb, hh, _⟩
  · left
    have := h.1
    rw [h0] at this
    exact List.eq_nil_of_length_eq_zero (by simpa using this)
  · injection hv with hA _ _
    subst hA
    exact .inr ⟨_, rfl, hb, (Array.getElem?_eq_some_iff.1 hh).1, h.cells (g := g) rfl⟩
theorem RowIn.lit {w : World} {t : TypeId} (cs : Array Value) : RowIn (w.alloc (.cells cs t)) w.heap.size (w.heap.size + 1) (some ⟨w.heap.size, 0, none⟩) cs.toList := by
  refine .inr ⟨_, rfl, Nat.le_refl _, Nat.lt_succ_self _, fun j u hu => ?_⟩
  have e : (⟨w.heap.size, 0, none⟩ : Addr).add j = ⟨w.heap.size, j, none⟩ := by unfold Addr.add; split <;> simp_all
  rw [e, World.cell?_alloc_mark]
  simpa using hu

theorem rd_below {T : TypeId} {w w' : World} {g bd : Nat} {s : St} (h : Rd T w g s) (hb : Below bd w w') (hg : g < bd) : Rd T w' g s := (hb.block g hg).trans h
theorem rd_other {T : TypeId} {w w' : World} {g g' : Nat} {s : St} (h : Rd T w g s) (hb : w.grownBy w' (some g')) (hne : g ≠ g') : Rd T w' g s := (hb.block g (blk_lt h) (by simpa using hne)).trans h
theorem rd_new (T : TypeId) (w : World) (s : St) : Rd T (w.alloc (.cells (rc s) T)) w.heap.size s := heap_alloc_new w _
theorem below_grown {w w1 w2 : World} {bd g : Nat} (h : Below bd w w1) (hg : w1.grownBy w2 (some g)) (hb : bd ≤ w1.heap.size) (hr : bd ≤ g) : Below bd w w2 :=
  h.grown hg hb (fun k hk => by injection hk with hk; omega)

/-- Num, Text, List, Nums at a reader whose next bytes are known. -/
theorem num_at (g : Nat) (s : St) (w : World) (n : Nat) (r : List UInt8) (h : Rd 59 w g s) (hl : (lft s).length ≤ 1099511627776) (he : s.bind decN = some (n, r)) :
    Calls Try.prog 26 #[.pointer (some ⟨g, 0, none⟩)] w (RRes 59 g w (.int .i64 (n : Int)) (some r)) := by
  have := num_any g s w h hl
  rw [he] at this
  exact this
theorem num_fails (g : Nat) (s : St) (w : World) (h : Rd 59 w g s) (hl : (lft s).length ≤ 1099511627776) (he : s.bind decN = none) :
    Calls Try.prog 26 #[.pointer (some ⟨g, 0, none⟩)] w (RRes 59 g w (.int .i64 0) none) := by
  have := num_any g s w h hl
  rw [he] at this
  exact this
theorem text_at (g : Nat) (s : St) (w : World) (t : List UInt8) (r : List UInt8) (h : Rd 59 w g s) (hl : (lft s).length ≤ 1099511627776) (he : s.bind decT = some (t, r)) :
    Calls Try.prog 30 #[.pointer (some ⟨g, 0, none⟩)] w (RRes 59 g w (.string (B t)) (some r)) := by
  have := text_any g s w h hl
  rw [he] at this
  exact this
/-- As LRes, of a slice of n cells. -/
def LR (T : TypeId) (g : Nat) (W : World) (n : Nat) (xs : List Value) (s : St) (e : Ending) (w' : World) : Prop :=
  ∃ A c, e = .returned (.slice A n c) ∧ RowIn w' W.heap.size w'.heap.size A xs ∧ Rd T w' g s ∧ W.grownBy w' (some g)
theorem lr_of {T E : TypeId} {g : Nat} {W : World} {xs : List Value} {s : St} {e : Ending} {w' : World} {n : Nat} (h : LRes T E g W xs s e w') (hn : xs.length = n) : LR T g W n xs s e w' := by
  obtain ⟨A, c, h1, h2, h3, h4⟩ := h
  subst hn
  exact ⟨A, c, h1, RowIn.of_own h2, h3, h4⟩
theorem list_at (g : Nat) (s : St) (w : World) (n : Nat) (t : List (List UInt8)) (r : List UInt8) (h : Rd 59 w g s) (hl : (lft s).length ≤ 1099511627776) (he : s.bind (decL decT) = some (t, r)) (hn : t.length = n) :
    Calls Try.prog 33 #[.pointer (some ⟨g, 0, none⟩)] w (LR 59 g w n (Ss t) (some r)) := by
  have := list_any g s w h hl
  rw [he] at this
  exact this.mono fun e w' h1 => lr_of h1 (by rw [← hn]; exact List.length_map ..)
theorem nums_at (g : Nat) (s : St) (w : World) (n : Nat) (t : List Int) (r : List UInt8) (h : Rd 59 w g s) (hl : (lft s).length ≤ 1099511627776) (he : s.bind (decL decI) = some (t, r)) (hn : t.length = n) :
    Calls Try.prog 36 #[.pointer (some ⟨g, 0, none⟩)] w (LR 59 g w n (Zs t) (some r)) := by
  have := nums_any g s w h hl
  rw [he] at this
  exact this.mono fun e w' h1 => lr_of h1 (by rw [← hn]; exact List.length_map ..)

theorem e300 : encN 300 = [172, 2] := by decide +kernel
theorem eab : encT [97, 98] = [2, 97, 98] := by decide +kernel
theorem ecs : encL encT [[], [99]] = [2, 0, 1, 99] := by decide +kernel
theorem ens : encL encI [7, -2] = [2, 14, 3] := by decide +kernel

/-- A call hands back a new reader of l. -/
def ORes (T : TypeId) (W : World) (l : List UInt8) (e : Ending) (w' : World) : Prop :=
  ∃ p, e = .returned (.pointer (some ⟨p, 0, none⟩)) ∧ W.heap.size ≤ p ∧ p < w'.heap.size ∧ Rd T w' p (some l) ∧ Below W.heap.size W w'
theorem opens (l : List UInt8) (w : World) : Calls Try.prog 22 #[.string (B l)] w (ORes 59 w l) :=
  (open_any l w).mono fun e w' ⟨h1, h2⟩ => ⟨w.heap.size, h1, Nat.le_refl _, by rw [h2]; simp, by rw [h2]; exact rd_new _ _ _, by rw [h2]; exact (Below.refl _ _).alloc (Nat.le_refl _) _⟩
theorem good_step {w w1 w2 : World} (h : Below w.heap.size w w1) (k : Below w1.heap.size w1 w2) : Below w.heap.size w w2 := h.trans (k.mono h.size)
theorem good_alloc {w w1 w2 : World} {o : Obj} (h : Below w.heap.size w w1) (k : Below (w1.alloc o).heap.size (w1.alloc o) w2) : Below w.heap.size w w2 := (h.alloc h.size o).trans (k.mono (by have := h.size; simp; omega))
set_option maxHeartbeats 4000000 in
set_option maxRecDepth 100000 in
theorem small_any (w : World) : Calls Try.prog 10 #[] w fun e w' => e = .returned (.bool true) ∧ Below w.heap.size w w' := by
  have k1 : ∀ w, Calls Try.prog 12 #[.int .i64 300] w (SRes w [172, 2]) := fun w => e300 ▸ cNum_any 300 w (by omega)
  have k2 : ∀ w, Calls Try.prog 16 #[.string ⟨#[97, 98]⟩] w (SRes w [2, 97, 98]) := fun w => eab ▸ cText_any [97, 98] w (by simp)
  have k3 : ∀ w : World, Calls Try.prog 18 #[.slice (some ⟨w.heap.size, 0, none⟩) 2 2] (w.alloc (.cells #[.string ⟨#[]⟩, .string ⟨#[99]⟩] 9)) (SRes (w.alloc (.cells #[.string ⟨#[]⟩, .string ⟨#[99]⟩] 9)) [2, 0, 1, 99]) := fun w =>
    ecs ▸ cList_any _ [[], [99]] 2 _ ((RowIn.lit (t := 9) #[.string ⟨#[]⟩, .string ⟨#[99]⟩]).row.more (by simp)) (by simp) (by simp [encM, encT]; decide +kernel)
  have k4 : ∀ w : World, Calls Try.prog 20 #[.slice (some ⟨w.heap.size, 0, none⟩) 2 2] (w.alloc (.cells #[.int .i64 7, .int .i64 (-2)] 3)) (SRes (w.alloc (.cells #[.int .i64 7, .int .i64 (-2)] 3)) [2, 14, 3]) := fun w =>
    ens ▸ cNums_any _ [7, -2] 2 _ ((RowIn.lit (t := 3) #[.int .i64 7, .int .i64 (-2)]).row.more (by simp)) (by simp) (by simp [encM]; decide +kernel)
  have K1 := Lib.hid k1
  have K2 := Lib.hid k2
  have K3 := Lib.hid k3
  have K4 := Lib.hid k4
  clear k1 k2 k3 k4
  go_enter Try.func10, Try.ntmps10
  go_wp2_with fail
  refine (K1.out _).mono ?_
  rintro e w1 ⟨rfl, hb⟩
  have B1 := Lib.hid hb
  clear hb
  go_wp2_with fail
  refine (K2.out _).mono ?_
  rintro e w2 ⟨rfl, hb⟩
  have B2 := Lib.hid (good_step B1.out hb)
  clear hb B1
  go_wp2_with fail
  refine (K3.out _).mono ?_
  rintro e w3 ⟨rfl, hb⟩
  have B3 := Lib.hid (good_alloc B2.out hb)
  clear hb B2
  go_wp2_with fail
  refine (K4.out _).mono ?_
  rintro e w4 ⟨rfl, hb⟩
  have B4 := Lib.hid (good_alloc B3.out hb)
  clear hb B3
  go_wp2_with fail
  refine (opens _ _).mono ?_
  rintro e w5 ⟨p, rfl, hp1, hp2, hr, hb⟩
  have R1 := Lib.hid hr
  have HB5 := good_step B4.out hb
  have hp3 : w.heap.size ≤ p := Nat.le_trans B4.out.size hp1
  have B5 := Lib.hid HB5
  clear hr hb B4 hp1 HB5
  go_wp2_with fail
  refine (opens [128, 0] _).mono ?_
  rintro e w6 ⟨q, rfl, hq1, hq2, hr, hb⟩
  have hpq : p < q := Nat.lt_of_lt_of_le hp2 hq1
  have R1' := Lib.hid (rd_below R1.out hb hp2)
  have R2 := Lib.hid hr
  have B6 := Lib.hid (good_step B5.out hb)
  clear hr hb B5 R1 hp2 hq1
  go_wp2_with fail
  refine (num_at p _ w6 300 [2, 97, 98, 2, 0, 1, 99, 2, 14, 3] R1'.out (by decide) (by decide +kernel)).mono ?_
  rintro e w7 ⟨rfl, hr, hg⟩
  have R3 := Lib.hid hr
  have R4 := Lib.hid (rd_other R2.out hg (by omega))
  have B7 := Lib.hid (below_grown B6.out hg B6.out.size hp3)
  clear hr hg B6 R2 R1'
  go_wp2_with fail
  refine (text_at p _ w7 [97, 98] [2, 0, 1, 99, 2, 14, 3] R3.out (by decide) (by decide +kernel)).mono ?_
  rintro e w8 ⟨rfl, hr, hg⟩
  have R5 := Lib.hid hr
  have R6 := Lib.hid (rd_other R4.out hg (by omega))
  have B8 := Lib.hid (below_grown B7.out hg B7.out.size hp3)
  clear hr hg B7 R3 R4
  go_wp2_with fail
  refine (list_at p _ w8 2 [[], [99]] [2, 14, 3] R5.out (by decide) (by decide +kernel) rfl).mono ?_
  rintro e w9 ⟨A1, c1, rfl, hrow, hr, hg⟩
  have R7 := Lib.hid hr
  have R8 := Lib.hid (rd_other R6.out hg (by omega))
  have B9 := Lib.hid (below_grown B8.out hg B8.out.size hp3)
  have L1 := Lib.hid hrow
  have hp8 := Lib.hid (blk_lt R5.out)
  have hq8 := Lib.hid (blk_lt R6.out)
  clear hr hg B8 R5 R6 hrow
  go_wp2_with fail
  refine (done_any p _ w9 R7.out).mono ?_
  rintro e w10 ⟨rfl, rfl⟩
  have d1 : dn (some [2, 14, 3]) = false := rfl
  rw [d1]
  clear d1
  go_wp2_with fail
  refine (nums_at p _ w9 2 [7, -2] [] R7.out (by decide) (by decide +kernel) rfl).mono ?_
  rintro e w11 ⟨A2, c2, rfl, hrow, hr, hg⟩
  have R9 := Lib.hid hr
  have R10 := Lib.hid (rd_other R8.out hg (by omega))
  have B11 := Lib.hid (below_grown B9.out hg B9.out.size hp3)
  have L1' := Lib.hid (L1.out.grown (Nat.le_refl _) hg (fun k hk => .inl (by injection hk with hk; have := hp8.out; omega)))
  have L2 := Lib.hid hrow
  have hq9 := Lib.hid (blk_lt R8.out)
  have hs9 := Lib.hid hg.size
  clear hr hg B9 R7 R8 hrow L1 hp8
  go_wp2_with fail
  refine (num_fails q _ w11 R10.out (by decide) (by decide +kernel)).mono ?_
  rintro e w12 ⟨rfl, hr, hg⟩
  have R11 := Lib.hid (rd_other R9.out hg (by omega))
  have R12 := Lib.hid hr
  have B12 := Lib.hid (below_grown B11.out hg B11.out.size (by omega))
  have L1'' := Lib.hid (L1'.out.grown hs9.out hg (fun k hk => .inl (by injection hk with hk; have := hq8.out; omega)))
  have L2' := Lib.hid (L2.out.grown (Nat.le_refl _) hg (fun k hk => .inl (by injection hk with hk; have := hq9.out; omega)))
  have hs12 := Lib.hid hg.size
  clear hr hg B11 R9 R10 L1' L2 hq8 hq9
  go_wp2_with fail
  have S1 := Lib.hid (sameTexts_any _ A1 _ [[], [99]] [[], [99]] c1 2 _ ((L1''.out.below ((Below.refl _ _).alloc (Nat.le_trans hs9.out hs12.out) (.cells #[.string ⟨#[]⟩, .string ⟨#[99]⟩] 9))).row.more (show w9.heap.size ≤ w12.heap.size + 1 by have := hs9.out; have := hs12.out; omega)) (RowIn.lit (t := 9) #[.string ⟨#[]⟩, .string ⟨#[99]⟩]).row (by simp) (by simp))
  refine S1.out.mono ?_
  rintro e w13 ⟨rfl, hb⟩
  have dt : decide (([[], [99]] : List (List UInt8)) = [[], [99]]) = true := by decide
  rw [dt]
  have hb12 : Below w12.heap.size w12 w13 := ((Below.refl _ _).alloc (Nat.le_refl _) _).trans (hb.mono (by simp))
  have R13 := Lib.hid (rd_below R11.out hb12 (blk_lt R11.out))
  have R14 := Lib.hid (rd_below R12.out hb12 (blk_lt R12.out))
  have B13 := Lib.hid (good_step B12.out hb12)
  have L2'' := Lib.hid (L2'.out.below (hb12.mono hs12.out))
  have hs13 := Lib.hid (Nat.le_trans hs12.out hb12.size)
  clear hb hb12 dt S1 L1'' L2' B12 R11 R12 hs12 hs9
  go_wp2_with fail
  have S2 := Lib.hid (sameNums_any _ A2 _ [7, -2] [7, -2] c2 2 _ ((L2''.out.below ((Below.refl _ _).alloc hs13.out (.cells #[.int .i64 7, .int .i64 (-2)] 3))).row.more (show w11.heap.size ≤ w13.heap.size + 1 by have := hs13.out; omega)) (RowIn.lit (t := 3) #[.int .i64 7, .int .i64 (-2)]).row (by simp) (by simp))
  refine S2.out.mono ?_
  rintro e w14 ⟨rfl, hb⟩
  have dt : decide (([7, -2] : List Int) = [7, -2]) = true := by decide
  rw [dt]
  have hb12 : Below w13.heap.size w13 w14 := ((Below.refl _ _).alloc (Nat.le_refl _) _).trans (hb.mono (by simp))
  have R15 := Lib.hid (rd_below R13.out hb12 (blk_lt R13.out))
  have R16 := Lib.hid (rd_below R14.out hb12 (blk_lt R14.out))
  have B14 := Lib.hid (good_step B13.out hb12)
  clear hb hb12 dt S2 L2'' B13 R13 R14 hs13
  go_wp2_with fail
  refine (done_any p _ w14 R15.out).mono ?_
  rintro e w15 ⟨rfl, rfl⟩
  have d1 : dn (some []) = true := rfl
  rw [d1]
  clear d1
  go_wp2_with fail
  refine (done_any q _ w14 R16.out).mono ?_
  rintro e w15 ⟨rfl, rfl⟩
  have d1 : dn none = false := rfl
  rw [d1]
  clear d1
  go_wp2_with fail
  refine (left_any q _ w14 R16.out).mono ?_
  rintro e w15 ⟨rfl, rfl⟩
  have d1 : (((lft none).length : Nat) : Int) = 0 := rfl
  rw [d1]
  clear d1
  go_wp2_with fail
  refine (cNum_neg (-1) _ (by omega)).mono ?_
  rintro e w15 ⟨rfl, hb⟩
  have B15 := Lib.hid (good_step B14.out hb)
  clear hb
  go_wp2
  go_ret
  exact ⟨rfl, B15.out⟩
end Go.Proofs.Ytcgbamloemdilaa
