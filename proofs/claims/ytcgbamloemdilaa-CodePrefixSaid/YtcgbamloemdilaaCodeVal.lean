/-
  Layer 2: the law's own values: kind, write, same, read, valid.
-/
import Derived.Test.YtcgbamloemdilaaCodeOpen
import Derived.Test.YtcgbamloemdilaaCodeSem
namespace Go.Proofs.Ytcgbamloemdilaa
open Go.RowKit
open Cd
attribute [local go_sem] B_size B_drop' B_take B_list B_app

/-- A value of the law, its strings and slices read. -/
structure Vl where
  k : Int
  n : Int
  s : List UInt8
  A : Option Addr
  ls : List (List UInt8)
  c : Nat
  A' : Option Addr
  zs : List Int
  c' : Nat
def Vl.cells (v : Vl) : Array Value := #[.int .i64 v.k, .int .i64 v.n, .string (B v.s), .slice v.A v.ls.length v.c, .slice v.A' v.zs.length v.c']
def Vl.kd (v : Vl) : Nat := (v.k % 5).toNat
/-- What a value of kind k says. -/
def Vl.sm (v : Vl) : Nat → Sm
  | 0 => (v.n, [], [], [])
  | 1 => (v.n, [], [], [])
  | 2 => (0, v.s, [], [])
  | 3 => (0, [], v.ls, [])
  | _ => (0, [], [], v.zs)
/-- The value's slices lie in memory, below block bd. -/
def Vl.In (v : Vl) (w : World) (bd : Nat) : Prop := Row w bd v.A (Ss v.ls) ∧ Row w bd v.A' (Zs v.zs)
/-- Its numbers and lengths are what memory can hold. -/
def Vl.Fit (v : Vl) : Prop := (-9223372036854775808 ≤ v.k ∧ v.k ≤ 9223372036854775807) ∧ (-9223372036854775808 ≤ v.n ∧ v.n ≤ 9223372036854775807) ∧ v.s.length ≤ maxLen ∧ v.ls.length ≤ maxLen ∧ (∀ l ∈ v.ls, l.length ≤ maxLen) ∧ v.zs.length ≤ maxLen
theorem Vl.In.below {v : Vl} {w w' : World} {bd : Nat} (h : v.In w bd) (hb : Below bd w w') : v.In w' bd := ⟨h.1.below hb, h.2.below hb⟩
theorem Vl.In.more {v : Vl} {w : World} {bd bd' : Nat} (h : v.In w bd) (hb : bd ≤ bd') : v.In w bd' := ⟨h.1.more hb, h.2.more hb⟩
theorem Vl.In.step {v : Vl} {W w : World} (h : v.In W W.heap.size) (hb : Below W.heap.size W w) : v.In w w.heap.size := (h.below hb).more hb.size
theorem kd_lt (v : Vl) : v.kd < 5 := by unfold Vl.kd; omega
/-- The block of a value. -/
def Bx (w : World) (b : Nat) (v : Vl) : Prop := w.heap[b]? = some (.cells v.cells 45 (0, 0))
theorem bx_cells {w : World} {b : Nat} {v : Vl} (h : Bx w b v) : w.cell? ⟨b, 0, none⟩ = some (.int .i64 v.k) ∧ w.cell? ⟨b, 1, none⟩ = some (.int .i64 v.n) ∧ w.cell? ⟨b, 2, none⟩ = some (.string (B v.s)) ∧ w.cell? ⟨b, 3, none⟩ = some (.slice v.A v.ls.length v.c) ∧ w.cell? ⟨b, 4, none⟩ = some (.slice v.A' v.zs.length v.c') :=
  ⟨cell_at h 0, cell_at h 1, cell_at h 2, cell_at h 3, cell_at h 4⟩
theorem bx_below {w w' : World} {b bd : Nat} {v : Vl} (h : Bx w b v) (hb : Below bd w w') (hlt : b < bd) : Bx w' b v := (hb.block b hlt).trans h
theorem bx_new (w : World) (v : Vl) : Bx (w.alloc (.cells v.cells 45)) w.heap.size v := heap_alloc_new w _

theorem ret_int {k : IntKind} {a b : Int} (h : a = b) : Ending.returned (.int k a) = .returned (.int k b) := by rw [h]
theorem kind_eq (k : Int) : ∃ t, k.tmod 5 = t ∧ -4 ≤ t ∧ t ≤ 4 ∧ (t + 5) % 5 = k % 5 := by
  refine ⟨_, rfl, ?_⟩
  rcases Int.lt_or_le k 0 with h | h
  · obtain ⟨m, rfl⟩ : ∃ m : Nat, k = -(m : Int) := ⟨k.natAbs, by omega⟩
    rw [Int.neg_tmod, Int.tmod_eq_emod_of_nonneg (by omega)]
    omega
  · rw [Int.tmod_eq_emod_of_nonneg h]
    omega
set_option maxHeartbeats 400000 in
theorem kind_any (v : Vl) (w : World) (hk : -9223372036854775808 ≤ v.k ∧ v.k ≤ 9223372036854775807) :
    Calls Try.prog 45 #[.agg v.cells] w fun e w' => e = .returned (.int .i64 (v.kd : Nat)) ∧ Below w.heap.size w w' := by
  have e : ((v.kd : Nat) : Int) = v.k % 5 := by unfold Vl.kd; omega
  rw [e]
  clear e
  unfold Vl.cells
  obtain ⟨k, n, s, A, ls, c, A', zs, c'⟩ := v
  simp only
  simp only at hk
  obtain ⟨t, ht, h1, h2, h3⟩ := kind_eq k
  have H3 := Lib.hid h3
  by_cases hk0 : 0 ≤ k
  · clear ht h1 h2 h3
    go_enter Try.func45, Try.ntmps45
    go_wp2
    go_ret
    exact ⟨ret_int (by omega), (Below.refl _ _).alloc (Nat.le_refl _) _⟩
  · clear h3
    go_enter Try.func45, Try.ntmps45
    go_wp2
    go_ret
    exact ⟨ret_int (by rw [← H3.out]; omega), (Below.refl _ _).alloc (Nat.le_refl _) _⟩

theorem cNum_i (m : Int) (w : World) (h0 : 0 ≤ m) (h1 : m ≤ 9223372036854775807) : Calls Try.prog 12 #[.int .i64 m] w (SRes w (encN m.toNat)) := by
  obtain ⟨n, rfl⟩ := Int.eq_ofNat_of_zero_le h0
  exact cNum_any n w (by omega)
/-- Its encoding stays small. -/
def Vl.Sz (v : Vl) : Prop := v.s.length ≤ 1000000 ∧ v.ls.length ≤ 1000000 ∧ (encM encT v.ls).length ≤ 1000000 ∧ v.zs.length ≤ 100000
theorem alloc_in {v : Vl} {w w2 : World} {o : Obj} (h : v.In w w.heap.size) (hb : Below (w.alloc o).heap.size (w.alloc o) w2) : v.In w2 w2.heap.size :=
  ((h.below ((Below.refl _ _).alloc (Nat.le_refl _) o)).below (hb.mono (by simp))).more (by have := hb.size; simp at this; omega)
theorem alloc_below {w w2 : World} {o : Obj} (hb : Below (w.alloc o).heap.size (w.alloc o) w2) : Below w.heap.size w w2 := ((Below.refl _ _).alloc (Nat.le_refl _) o).trans (hb.mono (by simp))

set_option maxHeartbeats 2000000 in
set_option maxRecDepth 100000 in
theorem write_any (v : Vl) (w : World) (hin : v.In w w.heap.size) (hf : v.Fit) (hsz : v.Sz) (h0 : v.kd = 0 → 0 ≤ v.n) :
    Calls Try.prog 43 #[.agg v.cells] w (SRes w (encV v.kd (v.sm v.kd))) := by
  have hlt := kd_lt v
  obtain ⟨m, hm⟩ : ∃ m, m = v.kd := ⟨_, rfl⟩
  rw [← hm] at hlt h0 ⊢
  have kd_eq := hm.symm
  clear hm
  rcases (show m = 0 ∨ m = 1 ∨ m = 2 ∨ m = 3 ∨ m = 4 by omega) with rfl | rfl | rfl | rfl | rfl

  · have K := Lib.hid (fun w (hin : v.In w w.heap.size) => cNum_i v.n w (h0 rfl) hf.2.1.2)
    have hk1 := kind_any v (w.alloc (.cells v.cells 45)) hf.1
    rw [kd_eq] at hk1
    have HK := Lib.hid hk1
    clear hk1 kd_eq
    unfold Vl.cells at *
    go_enter Try.func43, Try.ntmps43
    go_wp2_with fail
    refine HK.out.mono ?_
    rintro e w2 ⟨rfl, hb⟩
    obtain ⟨c0, c1, c2, c3, c4⟩ := bx_cells (bx_below (bx_new w v) hb (by simp))
    have HI := Lib.hid (alloc_in hin hb)
    have HB := Lib.hid (alloc_below hb)
    clear hb
    go_wp2_with fail
    refine (K.out _ HI.out).mono ?_
    rintro e w3 ⟨rfl, hb⟩
    have HB2 := Lib.hid (good_step HB.out hb)
    clear hb c0 c1 c2 c3 c4
    go_wp2
    go_ret
    exact ⟨rfl, HB2.out⟩

  · have K := Lib.hid (fun w (hin : v.In w w.heap.size) => cInt_any v.n w)
    have hk1 := kind_any v (w.alloc (.cells v.cells 45)) hf.1
    rw [kd_eq] at hk1
    have HK := Lib.hid hk1
    clear hk1 kd_eq
    unfold Vl.cells at *
    go_enter Try.func43, Try.ntmps43
    go_wp2_with fail
    refine HK.out.mono ?_
    rintro e w2 ⟨rfl, hb⟩
    obtain ⟨c0, c1, c2, c3, c4⟩ := bx_cells (bx_below (bx_new w v) hb (by simp))
    have HI := Lib.hid (alloc_in hin hb)
    have HB := Lib.hid (alloc_below hb)
    clear hb
    go_wp2_with fail
    refine (K.out _ HI.out).mono ?_
    rintro e w3 ⟨rfl, hb⟩
    have HB2 := Lib.hid (good_step HB.out hb)
    clear hb c0 c1 c2 c3 c4
    go_wp2
    go_ret
    exact ⟨rfl, HB2.out⟩

  · have K := Lib.hid (fun w (hin : v.In w w.heap.size) => cText_any v.s w (by have := hsz.1; omega))
    have hk1 := kind_any v (w.alloc (.cells v.cells 45)) hf.1
    rw [kd_eq] at hk1
    have HK := Lib.hid hk1
    clear hk1 kd_eq
    unfold Vl.cells at *
    go_enter Try.func43, Try.ntmps43
    go_wp2_with fail
    refine HK.out.mono ?_
    rintro e w2 ⟨rfl, hb⟩
    obtain ⟨c0, c1, c2, c3, c4⟩ := bx_cells (bx_below (bx_new w v) hb (by simp))
    have HI := Lib.hid (alloc_in hin hb)
    have HB := Lib.hid (alloc_below hb)
    clear hb
    go_wp2_with fail
    refine (K.out _ HI.out).mono ?_
    rintro e w3 ⟨rfl, hb⟩
    have HB2 := Lib.hid (good_step HB.out hb)
    clear hb c0 c1 c2 c3 c4
    go_wp2
    go_ret
    exact ⟨rfl, HB2.out⟩

  · have K := Lib.hid (fun w (hin : v.In w w.heap.size) => cList_any v.A v.ls v.c w hin.1 (by have := hsz.2.1; omega) (by have := hsz.2.2.1; omega))
    have hk1 := kind_any v (w.alloc (.cells v.cells 45)) hf.1
    rw [kd_eq] at hk1
    have HK := Lib.hid hk1
    clear hk1 kd_eq
    unfold Vl.cells at *
    go_enter Try.func43, Try.ntmps43
    go_wp2_with fail
    refine HK.out.mono ?_
    rintro e w2 ⟨rfl, hb⟩
    obtain ⟨c0, c1, c2, c3, c4⟩ := bx_cells (bx_below (bx_new w v) hb (by simp))
    have HI := Lib.hid (alloc_in hin hb)
    have HB := Lib.hid (alloc_below hb)
    clear hb
    go_wp2_with fail
    refine (K.out _ HI.out).mono ?_
    rintro e w3 ⟨rfl, hb⟩
    have HB2 := Lib.hid (good_step HB.out hb)
    clear hb c0 c1 c2 c3 c4
    go_wp2
    go_ret
    exact ⟨rfl, HB2.out⟩

  · have K := Lib.hid (fun w (hin : v.In w w.heap.size) => cNums_any v.A' v.zs v.c' w hin.2 (by have := hsz.2.2.2; omega) (by have := hsz.2.2.2; have := encM_le (enc := encI) 9 v.zs (fun a _ => encI_len a); omega))
    have hk1 := kind_any v (w.alloc (.cells v.cells 45)) hf.1
    rw [kd_eq] at hk1
    have HK := Lib.hid hk1
    clear hk1 kd_eq
    unfold Vl.cells at *
    go_enter Try.func43, Try.ntmps43
    go_wp2_with fail
    refine HK.out.mono ?_
    rintro e w2 ⟨rfl, hb⟩
    obtain ⟨c0, c1, c2, c3, c4⟩ := bx_cells (bx_below (bx_new w v) hb (by simp))
    have HI := Lib.hid (alloc_in hin hb)
    have HB := Lib.hid (alloc_below hb)
    clear hb
    go_wp2_with fail
    refine (K.out _ HI.out).mono ?_
    rintro e w3 ⟨rfl, hb⟩
    have HB2 := Lib.hid (good_step HB.out hb)
    clear hb c0 c1 c2 c3 c4
    go_wp2
    go_ret
    exact ⟨rfl, HB2.out⟩

set_option maxHeartbeats 2000000 in
set_option maxRecDepth 100000 in
theorem same_any (a b : Vl) (w : World) (ha : a.In w w.heap.size) (hb : b.In w w.heap.size) (hf : a.Fit) (hsa : a.Sz) (hsb : b.Sz) :
    Calls Try.prog 46 #[.agg a.cells, .agg b.cells] w fun e w' => e = .returned (.bool (decide (a.sm a.kd = b.sm a.kd))) ∧ Below w.heap.size w w' := by
  have hlt := kd_lt a
  obtain ⟨m, hm⟩ : ∃ m, m = a.kd := ⟨_, rfl⟩
  rw [← hm] at hlt ⊢
  have kd_eq := hm.symm
  clear hm
  rcases (show m = 0 ∨ m = 1 ∨ m = 2 ∨ m = 3 ∨ m = 4 by omega) with rfl | rfl | rfl | rfl | rfl

  · have E : ∀ x : Bool, x = decide (a.n = b.n) → Ending.returned (.bool x) = .returned (.bool (decide (a.sm 0 = b.sm 0))) := by
      intro x hx
      rw [hx]
      congr 2
      rw [decide_eq_decide]
      simp [Vl.sm]
    have HE := Lib.hid E
    have hk1 := kind_any a ((w.alloc (.cells a.cells 45)).alloc (.cells b.cells 45)) hf.1
    rw [kd_eq] at hk1
    have HK := Lib.hid hk1
    clear hk1 kd_eq E
    unfold Vl.cells at *
    go_enter Try.func46, Try.ntmps46
    go_wp2_with fail
    refine HK.out.mono ?_
    rintro e w2 ⟨rfl, hbel⟩
    have hn : w.heap.size < w.heap.size + 1 + 1 := by omega
    have b0 : Bx ((w.alloc (.cells a.cells 45)).alloc (.cells b.cells 45)) w.heap.size a := (Below.heap_alloc _ _ _ (by simp)).trans (bx_new w a)
    have b1 : Bx ((w.alloc (.cells a.cells 45)).alloc (.cells b.cells 45)) (w.heap.size + 1) b := by
      have := bx_new (w.alloc (.cells a.cells 45)) b
      simpa using this
    obtain ⟨c0, c1, c2, c3, c4⟩ := bx_cells (bx_below b0 hbel (by simp; omega))
    obtain ⟨d0, d1, d2, d3, d4⟩ := bx_cells (bx_below b1 hbel (by simp))
    have hbel2 : Below w.heap.size w w2 := (((Below.refl _ _).alloc (Nat.le_refl _) _).alloc (by simp) _).trans (hbel.mono (by simp; omega))
    have HB := Lib.hid hbel2
    clear hbel b0 b1 hbel2 hn
    go_wp2
    go_ret
    refine ⟨HE.out _ ?_, HB.out⟩
    rw [Bool.eq_iff_iff]
    simp

  · have E : ∀ x : Bool, x = decide (a.n = b.n) → Ending.returned (.bool x) = .returned (.bool (decide (a.sm 1 = b.sm 1))) := by
      intro x hx
      rw [hx]
      congr 2
      rw [decide_eq_decide]
      simp [Vl.sm]
    have HE := Lib.hid E
    have hk1 := kind_any a ((w.alloc (.cells a.cells 45)).alloc (.cells b.cells 45)) hf.1
    rw [kd_eq] at hk1
    have HK := Lib.hid hk1
    clear hk1 kd_eq E
    unfold Vl.cells at *
    go_enter Try.func46, Try.ntmps46
    go_wp2_with fail
    refine HK.out.mono ?_
    rintro e w2 ⟨rfl, hbel⟩
    have hn : w.heap.size < w.heap.size + 1 + 1 := by omega
    have b0 : Bx ((w.alloc (.cells a.cells 45)).alloc (.cells b.cells 45)) w.heap.size a := (Below.heap_alloc _ _ _ (by simp)).trans (bx_new w a)
    have b1 : Bx ((w.alloc (.cells a.cells 45)).alloc (.cells b.cells 45)) (w.heap.size + 1) b := by
      have := bx_new (w.alloc (.cells a.cells 45)) b
      simpa using this
    obtain ⟨c0, c1, c2, c3, c4⟩ := bx_cells (bx_below b0 hbel (by simp; omega))
    obtain ⟨d0, d1, d2, d3, d4⟩ := bx_cells (bx_below b1 hbel (by simp))
    have hbel2 : Below w.heap.size w w2 := (((Below.refl _ _).alloc (Nat.le_refl _) _).alloc (by simp) _).trans (hbel.mono (by simp; omega))
    have HB := Lib.hid hbel2
    clear hbel b0 b1 hbel2 hn
    go_wp2
    go_ret
    refine ⟨HE.out _ ?_, HB.out⟩
    rw [Bool.eq_iff_iff]
    simp

  · have E : ∀ x : Bool, x = decide (a.s = b.s) → Ending.returned (.bool x) = .returned (.bool (decide (a.sm 2 = b.sm 2))) := by
      intro x hx
      rw [hx]
      congr 2
      rw [decide_eq_decide]
      simp [Vl.sm]
    have HE := Lib.hid E
    have hk1 := kind_any a ((w.alloc (.cells a.cells 45)).alloc (.cells b.cells 45)) hf.1
    rw [kd_eq] at hk1
    have HK := Lib.hid hk1
    clear hk1 kd_eq E
    unfold Vl.cells at *
    go_enter Try.func46, Try.ntmps46
    go_wp2_with fail
    refine HK.out.mono ?_
    rintro e w2 ⟨rfl, hbel⟩
    have hn : w.heap.size < w.heap.size + 1 + 1 := by omega
    have b0 : Bx ((w.alloc (.cells a.cells 45)).alloc (.cells b.cells 45)) w.heap.size a := (Below.heap_alloc _ _ _ (by simp)).trans (bx_new w a)
    have b1 : Bx ((w.alloc (.cells a.cells 45)).alloc (.cells b.cells 45)) (w.heap.size + 1) b := by
      have := bx_new (w.alloc (.cells a.cells 45)) b
      simpa using this
    obtain ⟨c0, c1, c2, c3, c4⟩ := bx_cells (bx_below b0 hbel (by simp; omega))
    obtain ⟨d0, d1, d2, d3, d4⟩ := bx_cells (bx_below b1 hbel (by simp))
    have hbel2 : Below w.heap.size w w2 := (((Below.refl _ _).alloc (Nat.le_refl _) _).alloc (by simp) _).trans (hbel.mono (by simp; omega))
    have HB := Lib.hid hbel2
    clear hbel b0 b1 hbel2 hn
    go_wp2
    go_ret
    refine ⟨HE.out _ ?_, HB.out⟩
    rw [Bool.eq_iff_iff]
    simp

  · have E : ∀ x : Bool, x = decide (a.ls = b.ls) → Ending.returned (.bool x) = .returned (.bool (decide (a.sm 3 = b.sm 3))) := by
      intro x hx
      rw [hx]
      congr 2
      rw [decide_eq_decide]
      simp [Vl.sm]
    have HE := Lib.hid E
    have hk1 := kind_any a ((w.alloc (.cells a.cells 45)).alloc (.cells b.cells 45)) hf.1
    rw [kd_eq] at hk1
    have HK := Lib.hid hk1
    clear hk1 kd_eq E
    unfold Vl.cells at *
    go_enter Try.func46, Try.ntmps46
    go_wp2_with fail
    refine HK.out.mono ?_
    rintro e w2 ⟨rfl, hbel⟩
    have hn : w.heap.size < w.heap.size + 1 + 1 := by omega
    have b0 : Bx ((w.alloc (.cells a.cells 45)).alloc (.cells b.cells 45)) w.heap.size a := (Below.heap_alloc _ _ _ (by simp)).trans (bx_new w a)
    have b1 : Bx ((w.alloc (.cells a.cells 45)).alloc (.cells b.cells 45)) (w.heap.size + 1) b := by
      have := bx_new (w.alloc (.cells a.cells 45)) b
      simpa using this
    obtain ⟨c0, c1, c2, c3, c4⟩ := bx_cells (bx_below b0 hbel (by simp; omega))
    obtain ⟨d0, d1, d2, d3, d4⟩ := bx_cells (bx_below b1 hbel (by simp))
    have hbel2 : Below w.heap.size w w2 := (((Below.refl _ _).alloc (Nat.le_refl _) _).alloc (by simp) _).trans (hbel.mono (by simp; omega))
    have HB := Lib.hid hbel2
    clear hbel b0 b1 hbel2 hn
    go_wp2_with fail
    refine (sameTexts_any _ a.A b.A a.ls b.ls a.c b.c w2 (ha.1.below HB.out) (hb.1.below HB.out) (by have := hsa.2.1; omega) (by have := hsb.2.1; omega)).mono ?_
    rintro e w3 ⟨rfl, hb3⟩
    have HB2 := Lib.hid (good_step HB.out hb3)
    clear hb3 c0 c1 c2 c3 c4 d0 d1 d2 d3 d4
    go_wp2
    go_ret
    exact ⟨HE.out _ rfl, HB2.out⟩

  · have E : ∀ x : Bool, x = decide (a.zs = b.zs) → Ending.returned (.bool x) = .returned (.bool (decide (a.sm 4 = b.sm 4))) := by
      intro x hx
      rw [hx]
      congr 2
      rw [decide_eq_decide]
      simp [Vl.sm]
    have HE := Lib.hid E
    have hk1 := kind_any a ((w.alloc (.cells a.cells 45)).alloc (.cells b.cells 45)) hf.1
    rw [kd_eq] at hk1
    have HK := Lib.hid hk1
    clear hk1 kd_eq E
    unfold Vl.cells at *
    go_enter Try.func46, Try.ntmps46
    go_wp2_with fail
    refine HK.out.mono ?_
    rintro e w2 ⟨rfl, hbel⟩
    have hn : w.heap.size < w.heap.size + 1 + 1 := by omega
    have b0 : Bx ((w.alloc (.cells a.cells 45)).alloc (.cells b.cells 45)) w.heap.size a := (Below.heap_alloc _ _ _ (by simp)).trans (bx_new w a)
    have b1 : Bx ((w.alloc (.cells a.cells 45)).alloc (.cells b.cells 45)) (w.heap.size + 1) b := by
      have := bx_new (w.alloc (.cells a.cells 45)) b
      simpa using this
    obtain ⟨c0, c1, c2, c3, c4⟩ := bx_cells (bx_below b0 hbel (by simp; omega))
    obtain ⟨d0, d1, d2, d3, d4⟩ := bx_cells (bx_below b1 hbel (by simp))
    have hbel2 : Below w.heap.size w w2 := (((Below.refl _ _).alloc (Nat.le_refl _) _).alloc (by simp) _).trans (hbel.mono (by simp; omega))
    have HB := Lib.hid hbel2
    clear hbel b0 b1 hbel2 hn
    go_wp2_with fail
    refine (sameNums_any _ a.A' b.A' a.zs b.zs a.c' b.c' w2 (ha.2.below HB.out) (hb.2.below HB.out) (by have := hsa.2.2.2; omega) (by have := hsb.2.2.2; omega)).mono ?_
    rintro e w3 ⟨rfl, hb3⟩
    have HB2 := Lib.hid (good_step HB.out hb3)
    clear hb3 c0 c1 c2 c3 c4 d0 d1 d2 d3 d4
    go_wp2
    go_ret
    exact ⟨HE.out _ rfl, HB2.out⟩
end Go.Proofs.Ytcgbamloemdilaa
