/-
  Layer 7: the landed package's evaluate and coefficients.
-/
import Derived.Test.YtjpgadiobgbchaaDoorShareVal
import Derived.Laws.MakeOwn
namespace Go.Proofs.YtjpgadiobgbchaaDoor
open Go.RowKit
namespace Sh
attribute [local go_sem] S3.B_size S3.B_app S3.B_list

theorem drew_below {w w' : World} (h : S4.Drew w w') : Below w.heap.size w w' := by
  obtain ⟨n, rfl⟩ := h
  have b := Below.refl w.heap.size w
  exact ⟨b.1, b.2, b.3, b.4, b.5⟩

set_option maxHeartbeats 8000000 in
set_option maxRecDepth 100000 in
/-- Horner's rule. -/
theorem peval_any (A : Option Addr) (cs : List Int) (cap : Nat) (x : Int) (w : World) (hr : S2.Row w w.heap.size A (S2.Zs cs)) (hn : cs.length ≤ 1000) (hc : ∀ c ∈ cs, S4.isI64 c) (hx : S4.isI64 x) :
    Calls Tryd.prog 25 #[.slice A cs.length cap, .int .i64 x] w fun e w' => e = .returned (.int .i64 (ev cs x % 2305843009213693951)) ∧ Below w.heap.size w w' := by
  obtain ⟨res, hres⟩ : ∃ r, r = ev cs x % 2305843009213693951 := ⟨_, rfl⟩
  rw [← hres]
  have HRES := Lib.hid hres
  have HR := Lib.hid hr
  have HC := Lib.hid hc
  have HX := Lib.hid hx
  have hnl : (cs.length : Int) ≤ 1000 := by omega
  clear hr hc hx hres
  go_enter Tryd.func25, Tryd.ntmps25
  go_wp2
  go_loopw [5, 6] (fun vy vi wr => ∃ j : Nat, j ≤ cs.length ∧ vi = .int .i64 ((j : Int) - 1) ∧ vy = .int .i64 (ev (cs.drop j) x % 2305843009213693951) ∧ Below w.heap.size w wr) (fun _ vi _ => (intOf vi + 1).toNat)
  case atStart => exact ⟨cs.length, Nat.le_refl _, rfl, by rw [List.drop_eq_nil_of_le (Nat.le_refl _)]; rfl, Below.refl _ _⟩
  case round =>
    obtain ⟨j, hj, rfl, rfl, hbel⟩ := hrel
    cases j with
    | zero =>
      rw [List.drop_zero, show (((0 : Nat) : Int) - 1) = -1 by omega]
      rw [← HRES.out]
      have HBEL := Lib.hid hbel
      clear hbel
      go_wp2
      go_ret
      exact ⟨rfl, HBEL.out⟩
    | succ j =>
      have hjc : j < cs.length := hj
      have hst := ev_step cs x j hjc
      have hbq2 := hbel.drew
      obtain ⟨a, rfl, _, hc2⟩ := (HR.out.below hbq2).num hjc
      rw [show (((j + 1 : Nat) : Int) - 1) = (j : Int) by omega]
      have hci64 := HC.out cs[j] (List.getElem_mem hjc)
      obtain ⟨ci, hci⟩ : ∃ c, c = cs[j] := ⟨_, rfl⟩
      rw [← hci] at hc2 hst hci64
      have hyr : 0 ≤ ev (cs.drop (j + 1)) x % 2305843009213693951 ∧ ev (cs.drop (j + 1)) x % 2305843009213693951 < 2305843009213693951 := by omega
      obtain ⟨y, hy⟩ : ∃ y, y = ev (cs.drop (j + 1)) x % 2305843009213693951 := ⟨_, rfl⟩
      rw [← hy] at hst hyr ⊢
      have k1 := fun w => S4.mul_any y x w (by unfold S4.isI64; omega) HX.out
      have hpr : 0 ≤ y * x % 2305843009213693951 ∧ y * x % 2305843009213693951 < 2305843009213693951 := by omega
      obtain ⟨p, hp⟩ : ∃ p, p = y * x % 2305843009213693951 := ⟨_, rfl⟩
      rw [← hp] at k1 hst hpr
      have k2 := fun w => S4.add_any p ci w (by unfold S4.isI64; omega) hci64
      obtain ⟨q, hq⟩ : ∃ z, z = (p + ci) % 2305843009213693951 := ⟨_, rfl⟩
      rw [← hq] at k2 hst
      have hji' : (j : Int) < (cs.length : Int) := by omega
      have hj0 : (0 : Int) ≤ (j : Int) := by omega
      have K1 := Lib.hid k1
      have K2 := Lib.hid k2
      have HST := Lib.hid hst
      have hcc : ∀ wq, Below w.heap.size w wq → wq.cell? (a.add j) = some (.int .i64 ci) := fun wq h => by
        obtain ⟨a', e, _, hc⟩ := (HR.out.below h).num hjc
        cases e
        rw [hci]
        exact hc
      have HCC := Lib.hid hcc
      clear k1 k2 hst hy hp hq hci hjc hyr hpr hci64 hbel hcc
      go_wp2
      refine wp_region_held_drew (S := (fun w' => w'.cell? (a.add j) = some (.int .i64 ci))) (by kernel_rfl) hc2 (fun hHeld => ?_)
      refine wpAnyH_take (i := 0) (oi := ⟨_, _, _, _, _, _⟩) (v := ?_) rfl (by kernel_rfl) (by kernel_rfl) (by kernel_rfl) (fun _ _ _ h => h) (Or.inl ⟨by rfl, ?_⟩) (by assumption) ?_
      rotate_left
      · intro wz hSw
        try dsimp only at hSw
        go_simp
        try with_reducible rfl
      try simp only [Act.put, List.setIfInBounds_toArray, List.set_cons_zero, List.set_cons_succ]
      refine wpAnyH_take (i := 1) (oi := ⟨_, _, _, _, _, _⟩) (v := ?_) rfl (by kernel_rfl) (by kernel_rfl) (by kernel_rfl) (fun _ _ _ h => h) (Or.inl ⟨by rfl, ?_⟩) (by assumption) ?_
      rotate_left
      · intro wz hSw
        try dsimp only at hSw
        go_simp
        try with_reducible rfl
      try simp only [Act.put, List.setIfInBounds_toArray, List.set_cons_zero, List.set_cons_succ]
      refine wpAnyH_take (i := 3) (oi := ⟨_, _, _, _, _, _⟩) (v := ?_) rfl (by kernel_rfl) (by kernel_rfl) (by kernel_rfl) (fun _ _ _ h => h) (Or.inl ⟨by rfl, ?_⟩) (by assumption) ?_
      rotate_left
      · intro wz hSw
        try dsimp only at hSw
        go_simp
        try with_reducible rfl
      try simp only [Act.put, List.setIfInBounds_toArray, List.set_cons_zero, List.set_cons_succ]
      refine wpAnyH_take (i := 4) (oi := ⟨_, _, _, _, _, _⟩) (v := ?_) rfl (by kernel_rfl) (by kernel_rfl) (by kernel_rfl) (fun _ _ _ h => h) (Or.inl ⟨by rfl, ?_⟩) (by assumption) ?_
      rotate_left
      · intro wz hSw
        try dsimp only at hSw
        go_simp
        try with_reducible rfl
      try simp only [Act.put, List.setIfInBounds_toArray, List.set_cons_zero, List.set_cons_succ]
      refine wpAnyH_take (i := 5) (oi := ⟨_, _, _, _, _, _⟩) (v := ?_) rfl (by kernel_rfl) (by kernel_rfl) (by kernel_rfl) (fun _ _ _ h => h) (Or.inl ⟨by rfl, ?_⟩) (by assumption) ?_
      rotate_left
      · intro wz hSw
        try dsimp only at hSw
        go_simp
        try with_reducible rfl
      try simp only [Act.put, List.setIfInBounds_toArray, List.set_cons_zero, List.set_cons_succ]
      refine wpAnyH_take (i := 6) (oi := ⟨_, _, _, _, _, _⟩) (v := ?_) rfl (by kernel_rfl) (by kernel_rfl) (by kernel_rfl) (fun _ _ _ h => h) (Or.inl ⟨by rfl, ?_⟩) (by assumption) ?_
      rotate_left
      · intro wz hSw
        try dsimp only at hSw
        go_simp
        try with_reducible rfl
      try simp only [Act.put, List.setIfInBounds_toArray, List.set_cons_zero, List.set_cons_succ]
      refine wpAnyH_ready (rs := [2]) (by kernel_rfl) (by simp) ?_
      refine AllReadyH.cons (o := ⟨_, _, _, _, _, _⟩) rfl (fun K hK => ?_) AllReadyH.nil
      go_simp
      refine (K1.out _).mono ?_
      rintro e wq ⟨rfl, hq⟩
      have hbq3 := hbq2.trans ((drew_below hq).mono hbq2.size)
      have hc3 : wq.cell? (a.add j) = some (.int .i64 ci) := HCC.out wq hbq3
      clear hHeld hq
      refine hK.out _ _ hc3 (fun hHeld => ?_)
      clear hK K
      try simp only [Act.put, List.setIfInBounds_toArray, List.set_cons_zero, List.set_cons_succ]
      refine wpAnyH_ready (rs := [7]) (by kernel_rfl) (by simp) ?_
      refine AllReadyH.cons (o := ⟨_, _, _, _, _, _⟩) rfl (fun K hK => ?_) AllReadyH.nil
      go_simp
      refine (K2.out _).mono ?_
      rintro e wq2 ⟨rfl, hq⟩
      obtain rfl := hq.symm
      clear hHeld hq
      refine hK.out _ _ hc3 (fun hHeld => ?_)
      clear hK K
      try simp only [Act.put, List.setIfInBounds_toArray, List.set_cons_zero, List.set_cons_succ]
      refine wpAnyH_take (i := 8) (oi := ⟨_, _, _, _, _, _⟩) (v := ?_) rfl (by kernel_rfl) (by kernel_rfl) (by kernel_rfl) (fun _ _ _ h => h) (Or.inl ⟨by rfl, ?_⟩) (by assumption) ?_
      rotate_left
      · intro wz hSw
        try dsimp only at hSw
        go_simp
        try with_reducible rfl
      try simp only [Act.put, List.setIfInBounds_toArray, List.set_cons_zero, List.set_cons_succ]
      refine wpAnyH_done (by kernel_rfl) ?_ _
      clear hHeld
      go_wp2
      go_roundw
      case rel => exact ⟨j, by omega, rfl, by rw [HST.out], hbq3⟩
      case measure => simp [intOf]

/-! ### coefficients -/
theorem wpList_make_row {P : Program} {w : World} {ops : Array Oper} {rest : List Oper} {o : Oper} {a : Act} {Q : Exit → Act → World → Prop}
    (hg : o.guard = none) (l c : Operand) (t : TypeId) (hop : o.op = Op.makeSlice t l c)
    (e : TypeId) (z : Value) (size bytes : Nat) (h1 : P.underlying t = some (.slice e)) (h2 : (P.info? e).map (fun i => (i.zero, i.size, i.bytes)) = some (some z, size, bytes))
    (n : Nat) (hl : a.eval l = .int .i64 (n : Int)) (hc : a.eval c = .int .i64 (n : Int)) (b2 : bytes * n ≤ 281474976710656) (b3 : n ≤ 9223372036854775807) (L : List Value) (hL : (madeCells z.cells (n * size)).toList = L)
    (hK : ∀ w', Lk.Bl w' w.heap.size L e → Below w.heap.size w w' → wpList P ops Q rest (a.put o.dst (.slice (some ⟨w.heap.size, 0, none⟩) n n)) w') :
    wpList P ops Q (o :: rest) a w := by
  refine wpList_plain hg fun K hK' => ?_
  obtain ⟨i, h3, hz, rfl, rfl⟩ := info_parts h2
  have hb' : (i.bytes : Int) * (n : Int) ≤ 281474976710656 := by
    have h : ((i.bytes * n : Nat) : Int) ≤ 281474976710656 := by omega
    rwa [Int.natCast_mul] at h
  have hr := run_make (P := P) w t e i z h1 h3 hz .i64 .i64 n n (by omega) (Int.le_refl _) hb' (by omega)
  simp only [Int.toNat_natCast] at hr
  have e : (madeCells z.cells (n * i.size)) = L.toArray := by rw [← hL]
  rw [e] at hr
  unfold Oper.wp
  simp [execOp, hop, hl, hc, hr, Result.andThen]
  exact hK' _ _ (hK _ (Lk.Bl.new _ _ _) ((Below.refl _ _).alloc (Nat.le_refl _) _))
theorem made_one (n : Nat) : (madeCells (Value.int .i64 0).cells (n * 1)).toList = List.replicate n (.int .i64 0) := by
  rw [Nat.mul_one]
  exact toList_madeCells_one (.int .i64 0) n
theorem made_two (n : Nat) : (madeCells (Value.agg #[.int .i64 0, .int .i64 0]).cells (n * 2)).toList = List.replicate (n * 2) (.int .i64 0) := by
  apply List.ext_getElem?
  intro j
  by_cases hj : j < n * 2
  · rcases Nat.mod_two_eq_zero_or_one j with h | h <;> simp [madeCells, Value.cells, hj, h]
  · simp [madeCells, Value.cells, hj]
theorem Bl_set {w : World} {g : Nat} {cs : List Value} {t : TypeId} (h : Lk.Bl w g cs t) (j : Nat) (v : Value) : Lk.Bl (w.setCell ⟨g, j, none⟩ v) g (cs.set j v) t := by
  refine ⟨(heap_setCell_same w g j _ t v h.row).trans ?_⟩
  simp
theorem Bl_free {w : World} {g : Nat} {cs : List Value} {t : TypeId} (h : Lk.Bl w g cs t) (j : Nat) : w.frozen? ⟨g, j, none⟩ = false := frozen_of_row w g j _ t h.row
theorem Bl_row {w : World} {g : Nat} {cs : List Value} {t : TypeId} (h : Lk.Bl w g cs t) : S2.Row w w.heap.size (some ⟨g, 0, none⟩) cs :=
  .inr ⟨_, rfl, h.lt, fun j u hu => by
    rw [Addr.add_lit, Nat.zero_add]
    exact h.c j u hu⟩
/-- The coefficients as the package has them: not reduced. -/
def rawc (secret : Int) (s : List UInt8) (t : Nat) : List Int := (List.range t).map fun i => if i = 0 then secret else (S5.Sg.hash (S2.Cd.encT s ++ S5.Sg.encZ (i : Nat)) : Nat)
theorem rawc_len (secret : Int) (s : List UInt8) (t : Nat) : (rawc secret s t).length = t := by simp [rawc]
theorem rawc_succ (secret : Int) (s : List UInt8) (t : Nat) (h : 1 ≤ t) : rawc secret s (t + 1) = rawc secret s t ++ [((S5.Sg.hash (S2.Cd.encT s ++ S5.Sg.encZ (t : Nat)) : Nat) : Int)] := by
  unfold rawc
  rw [List.range_succ, List.map_append]
  simp
  omega
theorem ev_cg {f g : Nat → Int} (h : ∀ i, Cg (f i) (g i)) (x : Int) : ∀ l : List Nat, Cg (ev (l.map f) x) (ev (l.map g) x)
  | [] => Cg.refl _
  | i :: l => (h i).add ((Cg.refl x).mul (ev_cg h x l))
theorem ev_rawc (secret : Int) (s : List UInt8) (t : Nat) (x : Int) : ev (rawc secret s t) x % 2305843009213693951 = ev (coefs secret s t) x % 2305843009213693951 := by
  refine cg_mod.1 (ev_cg (fun i => ?_) x _)
  by_cases h : i = 0
  · rw [if_pos h, if_pos h]
    exact Cg.refl _
  · rw [if_neg h, if_neg h]
    exact (cg_res _).symm
theorem rawc_in {secret : Int} (hs : S4.isI64 secret) (s : List UInt8) (t : Nat) : ∀ c ∈ rawc secret s t, S4.isI64 c := by
  intro c hc
  obtain ⟨i, _, rfl⟩ := List.mem_map.1 hc
  by_cases h : i = 0
  · rw [if_pos h]
    exact hs
  · rw [if_neg h]
    have := S5.Sg.hash_lt (S2.Cd.encT s ++ S5.Sg.encZ (i : Nat))
    unfold S4.isI64
    omega
/-- The first i coefficients, and noughts. -/
def half (secret : Int) (s : List UInt8) (T i : Nat) : List Value := S2.Zs (rawc secret s i) ++ List.replicate (T - i) (.int .i64 0)
theorem Zs_len (l : List Int) : (S2.Zs l).length = l.length := by simp [S2.Zs]
theorem half_len (secret : Int) (s : List UInt8) (T i : Nat) (h : i ≤ T) : (half secret s T i).length = T := by
  unfold half
  rw [List.length_append, Zs_len, rawc_len, List.length_replicate]
  omega
theorem half_one (secret : Int) (s : List UInt8) (T : Nat) (h : 1 ≤ T) : (List.replicate T (Value.int .i64 0)).set 0 (.int .i64 secret) = half secret s T 1 := by
  obtain ⟨k, rfl⟩ : ∃ k, T = k + 1 := ⟨T - 1, by omega⟩
  rw [List.replicate_succ, List.set_cons_zero]
  rfl
theorem half_succ (secret : Int) (s : List UInt8) (T i : Nat) (h1 : 1 ≤ i) (h : i < T) : (half secret s T i).set i (.int .i64 (S5.Sg.hash (S2.Cd.encT s ++ S5.Sg.encZ (i : Nat)) : Nat)) = half secret s T (i + 1) := by
  unfold half
  have e : (S2.Zs (rawc secret s i)).length = i := by rw [Zs_len, rawc_len]
  rw [List.set_append_right _ _ (by omega), e, Nat.sub_self, rawc_succ _ _ _ h1]
  obtain ⟨k, hk⟩ : ∃ k, T - i = k + 1 := ⟨T - i - 1, by omega⟩
  rw [hk, show T - (i + 1) = k by omega, List.replicate_succ, List.set_cons_zero]
  simp [S2.Zs]
theorem half_all (secret : Int) (s : List UInt8) (T : Nat) : half secret s T T = S2.Zs (rawc secret s T) := by simp [half]

set_option maxHeartbeats 8000000 in
set_option maxRecDepth 100000 in
theorem pcoefs_any (s : Int) (T : Nat) (x : List UInt8) (w : World) (hW : S3.Laid w) (hx : x.length ≤ 1000) (h1 : 1 ≤ T) (hT : T ≤ 64) :
    Calls Tryd.prog 24 #[.int .i64 s, .int .i64 (T : Int), .string (S3.B x)] w fun e w' => e = .returned (.slice (some ⟨w.heap.size, 0, none⟩) T T) ∧ Lk.Bl w' w.heap.size (S2.Zs (rawc s x T)) 3 ∧ Below w.heap.size w w' := by
  have g1 : (1 : Int) ≤ (T : Int) := by omega
  have g2 : (T : Int) ≤ 64 := by omega
  have HW := Lib.hid hW
  have HX := Lib.hid hx
  clear hW hx
  go_enter Tryd.func24, Tryd.ntmps24
  go_wp2_with (at_make; refine wpList_make_row rfl _ _ 31 rfl 3 (.int .i64 0) 1 8 Tryd.underlying31 infoInt T rfl rfl (by omega) (by omega) _ (made_one T) ?_)
  intro w0 hbl hb0
  have c0 := hbl.c 0 (.int .i64 0) (by rw [List.getElem?_replicate, if_pos (by omega)])
  have f0 := Bl_free hbl 0
  have hbl1 := Bl_set hbl 0 (.int .i64 s)
  rw [half_one s x T h1] at hbl1
  have hb1 := hb0.setCell (p := ⟨w.heap.size, 0, none⟩) (Nat.le_refl _) (.int .i64 s)
  have HBL := Lib.hid hbl1
  have HB0 := Lib.hid hb1
  clear hbl hbl1 hb0 hb1
  go_wp2
  go_loopw [8] (fun vi wr => ∃ i : Nat, 1 ≤ i ∧ i ≤ T ∧ vi = .int .i64 (i : Int) ∧ Lk.Bl wr w.heap.size (half s x T i) 3 ∧ Below w.heap.size w wr) (fun vi _ => T - (intOf vi).toNat)
  case atStart => exact ⟨1, by omega, h1, rfl, HBL.out, HB0.out⟩
  case round =>
    obtain ⟨i, hi1, hiT, rfl, hbl, hbel⟩ := hrel
    clear HBL HB0 c0 f0
    by_cases hlt : i < T
    · have hlt' : (i : Int) < (T : Int) := by omega
      have k1 := S5.Sg.text_ok wr x (by have := HX.out; omega)
      have k2 := S5.Sg.num_ok wr (i : Int) (by unfold S5.Sg.isI S4.isI64; omega)
      have l1 := encT_len x
      have l2 := S5.Sg.encZ_len (i : Int)
      have hx2 := HX.out
      have hs := half_succ s x T i hi1 hlt
      have hl := half_len s x T i hiT
      generalize S2.Cd.encT x = a at *
      generalize S5.Sg.encZ (i : Int) = b at *
      have k3 := S5.Sg.sha_ok wr (a ++ b) (Lk.laid_below HW.out hbel) (by rw [List.length_append]; omega)
      have h32 := S5.Sg.sha_len (a ++ b)
      unfold S5.Sg.hash at hs
      generalize S3.Sha.sha (a ++ b) = d at *
      have k4 := S5.Sg.hnum_ok wr d (by rw [h32]; decide)
      generalize S3.num d = h at *
      have l3 : a.length ≤ 1009 := by omega
      have K1 := Lib.hid k1
      have K2 := Lib.hid k2
      have K3 := Lib.hid k3
      have K4 := Lib.hid k4
      have HS := Lib.hid hs
      have HL := Lib.hid hl
      have HBEL := Lib.hid hbel
      have HBL := Lib.hid hbl
      clear k1 k2 k3 k4 h32 l1 hx2 hs hl hbel hbl
      go_wp2_with fail
      refine (K1.out _ (Below.refl _ _)).mono ?_
      rintro e w1 ⟨rfl, hb1⟩
      go_wp2_with fail
      refine (K2.out w1 hb1).mono ?_
      rintro e w2 ⟨rfl, hb2⟩
      clear hb1
      go_wp2_with fail
      refine (K3.out w2 hb2).mono ?_
      rintro e w3 ⟨rfl, hb3⟩
      clear hb2
      go_wp2_with fail
      refine (K4.out w3 hb3).mono ?_
      rintro e w4 ⟨rfl, hb4⟩
      clear hb3
      have hbl4 := HBL.out.step hb4
      have hbel4 := HBEL.out.trans (hb4.mono HBEL.out.size)
      have hv : ∃ v, (half s x T i)[i]? = some v := ⟨_, List.getElem?_eq_getElem (by rw [HL.out]; exact hlt)⟩
      obtain ⟨v, hv⟩ := hv
      have c1 := hbl4.c i v hv
      have f1 := Bl_free hbl4 i
      have hbl5 := Bl_set hbl4 i (.int .i64 (h : Int))
      rw [HS.out] at hbl5
      have hb5 := hbel4.setCell (p := ⟨w.heap.size, i, none⟩) (Nat.le_refl _) (.int .i64 (h : Int))
      have HB5 := Lib.hid hb5
      have HL5 := Lib.hid hbl5
      clear hbl4 hbel4 hbl5 hb5 hb4 hv HBL HBEL HS HL K1 K2 K3 K4
      go_wp2
      go_roundw
      case rel => exact ⟨i + 1, by omega, hlt, by go_num, HL5.out, HB5.out⟩
      case measure => simp [intOf]; omega
    · obtain rfl : i = T := by omega
      rw [half_all] at hbl
      have HBL := Lib.hid hbl
      have HBEL := Lib.hid hbel
      clear hbl hbel
      go_wp2
      go_ret
      exact ⟨rfl, HBL.out, HBEL.out⟩
end Sh
end Go.Proofs.YtjpgadiobgbchaaDoor
