/-
  SignRef, SignRef2, SignRef3, SignRef4: joined.
-/
import Derived.Test.YtlcgcpjhmbbgfaaDoorSignBase
import Derived.Deep.RegionWith
import Derived.Deep.RegionHeld3
import Derived.RegionTactic
/-
  Layer 5: the reference: hash, Secret, Of.
-/
namespace Go.Proofs.YtlcgcpjhmbbgfaaDoor
open Go.RowKit
namespace Sg
attribute [local go_sem] S3.B_size S3.B_app

theorem hash_eq (l : List UInt8) : S3.num (S3.Sha.sha l) = hash l := rfl
set_option maxHeartbeats 1000000 in
theorem rhash_ok (W : World) (l : List UInt8) (hl : l.length ≤ 4000) : Ok W 41 #[.string (S3.B l)] (.int .i64 (hash l : Nat)) := by
  intro w hb
  have k2 := rhnum_ok W (S3.Sha.sha l) (by rw [sha_len]; decide)
  rw [hash_eq] at k2
  have K1 := Lib.hid (rsha_ok W l hl)
  have K2 := Lib.hid k2
  have g := Lib.hid hb
  generalize hash l = h at K2 ⊢
  generalize S3.Sha.sha l = d at K1 K2
  clear k2 hb hl
  go_enter Tryd.func41, Tryd.ntmps41
  go_wp2_with fail
  refine (K1.out _ g.out).mono ?_
  rintro e w1 ⟨rfl, h1⟩
  replace g := Lib.hid h1
  clear h1
  go_wp2_with fail
  refine (K2.out _ g.out).mono ?_
  rintro e w1 ⟨rfl, h1⟩
  replace g := Lib.hid h1
  clear h1
  go_wp2
  go_ret
  exact ⟨rfl, g.out⟩

set_option maxHeartbeats 1000000 in
theorem rsec_ok (W : World) (l : List UInt8) (hl : l.length ≤ 4000) : Ok W 31 #[.string (S3.B l)] (.int .i64 (sec l : Nat)) := by
  intro w hb
  have K1 := Lib.hid (rhash_ok W l hl)
  have g := Lib.hid hb
  have hlt := hash_lt l
  have he : sec l = 1 + hash l % 2305843009213693949 := rfl
  obtain ⟨h, hh⟩ : ∃ h, h = hash l := ⟨_, rfl⟩
  obtain ⟨s, hs⟩ : ∃ s, s = sec l := ⟨_, rfl⟩
  rw [← hh] at K1 he hlt
  rw [← hs] at he ⊢
  have e1 : (h : Int).tmod 2305843009213693949 = ((h % 2305843009213693949 : Nat) : Int) := by rw [Int.tmod_eq_emod_of_nonneg (by omega)]; omega
  obtain ⟨r, hr⟩ : ∃ r, r = h % 2305843009213693949 := ⟨_, rfl⟩
  rw [← hr] at e1 he
  have e0 : (h : Int) % 2305843009213693949 = (r : Int) := by omega
  have e2 : IntKind.i64.wrap (1 + (r : Int)) = (s : Int) := by rw [show 1 + (r : Int) = (s : Int) by omega]; exact IntWalk.i64_in _ (by omega)
  clear hb hl hlt he hh hs hr
  go_enter Tryd.func31, Tryd.ntmps31
  go_wp2_with fail
  refine (K1.out _ g.out).mono ?_
  rintro e w1 ⟨rfl, h1⟩
  replace g := Lib.hid h1
  clear h1
  go_wp2
  go_ret
  exact ⟨rfl, g.out⟩

def keyC (p : Int × Int) : Value := .agg #[.int .i64 p.1, .int .i64 p.2]
set_option maxHeartbeats 1000000 in
theorem rof_ok (W : World) (x : Int) (hx : isI x) : Ok W 14 #[.int .i64 x] (keyC (ofV x)) := by
  intro w hb
  have k1 := fun w => S4.refExp_any 37 x w hx
  have g := Lib.hid hb
  obtain ⟨y, hy⟩ : ∃ y, y = pub x := ⟨_, rfl⟩
  rw [show S4.powP 37 x = y from hy.symm] at k1
  have K1 := Lib.hid k1
  unfold ofV
  rw [← hy]
  clear k1 hy hb
  by_cases h1 : x < 1
  · rw [if_neg (by omega)]
    go_enter Tryd.func14, Tryd.ntmps14
    go_wp2
    go_returns
    exact ⟨rfl, g.out.alloc g.out.size _⟩
  · by_cases h2 : x ≤ 2305843009213693949
    · rw [if_pos (by omega)]
      go_enter Tryd.func14, Tryd.ntmps14
      go_wp2_with fail
      refine (K1.out _).mono ?_
      rintro e w1 ⟨rfl, rfl⟩
      go_wp2
      go_returns
      exact ⟨rfl, g.out.alloc g.out.size _⟩
    · rw [if_neg (by omega)]
      go_enter Tryd.func14, Tryd.ntmps14
      go_wp2
      go_returns
      exact ⟨rfl, g.out.alloc g.out.size _⟩

theorem tKey_len : tKey.length = 4 := by decide
theorem tSign_len : tSign.length = 5 := by decide
theorem tNonce_len : tNonce.length = 6 := by decide
theorem encT_len (s : List UInt8) : (S2.Cd.encT s).length ≤ s.length + 9 := by
  have := S2.Cd.encN_len s.length
  unfold S2.Cd.encT
  rw [List.length_append]
  omega
theorem keyS_len (s : List UInt8) : (keyS s).length ≤ s.length + 13 := by
  have := encT_len s
  unfold keyS
  rw [List.length_append, tKey_len]
  omega
theorem infoKey (x y : Value) : (Tryd.prog.info? 23).map (·.size) = some (#[x, y] : Array Value).size := by
  show (Tryd.prog.info? 23).map (·.size) = some 2
  kernel_rfl
theorem infoSig (x y : Value) : (Tryd.prog.info? 30).map (·.size) = some (#[x, y] : Array Value).size := by
  show (Tryd.prog.info? 30).map (·.size) = some 2
  kernel_rfl
theorem below_setRow {b : Nat} {W w : World} (h : Below b W w) (g : Nat) (hg : b ≤ g) (cs : Array Value) : Below b W (w.setRow g cs) :=
  h.trans ⟨rfl, rfl, rfl, by simp [World.setRow], fun k hk => setRow_other _ _ _ _ (by omega)⟩

set_option maxHeartbeats 1000000 in
theorem rkey_ok (W : World) (s : List UInt8) (hs : s.length ≤ 3900) : Ok W 13 #[.string (S3.B s)] (keyC (keyV s)) := by
  intro w hb
  have k1 := fun W => rtext_ok W [107, 101, 121] (by decide)
  have k2 := fun W => rtext_ok W s (by omega)
  have k3 := fun W => rsec_ok W (keyS s) (by have := keyS_len s; omega)
  have hsec := sec_lt (keyS s)
  have k4 := fun W => rof_ok W (sec (keyS s) : Nat) (by unfold isI S4.isI64; omega)
  rw [show ofV (sec (keyS s) : Nat) = keyV s from rfl] at k4
  unfold keyC at k4 ⊢
  have hl1 := tKey_len
  have hl2 := encT_len s
  obtain ⟨x, hx⟩ : ∃ x, x = (keyV s).1 := ⟨_, rfl⟩
  obtain ⟨y, hy⟩ : ∃ x, x = (keyV s).2 := ⟨_, rfl⟩
  rw [← hx, ← hy] at k4 ⊢
  generalize sec (keyS s) = c at k3 k4
  rw [show keyS s = tKey ++ S2.Cd.encT s from rfl] at k3
  rw [show S2.Cd.encT [107, 101, 121] = tKey from rfl] at k1
  generalize tKey = a at k1 k3 hl1
  generalize S2.Cd.encT s = b at k2 k3 hl2
  have hl3 : a.length ≤ 4 := by omega
  have hl4 : b.length ≤ 3909 := by omega
  have K1 := Lib.hid k1
  have K2 := Lib.hid k2
  have K3 := Lib.hid k3
  have K4 := Lib.hid k4
  have g := Lib.hid (hb.alloc hb.size (.cells #[.int .i64 0, .int .i64 0] 23))
  have hA : (w.alloc (.cells #[.int .i64 0, .int .i64 0] 23)).heap[w.heap.size]? = some (.cells #[.int .i64 0, .int .i64 0] 23 (0, 0)) := heap_alloc_last _ _
  have hsz : w.heap.size < (w.alloc (.cells #[.int .i64 0, .int .i64 0] 23)).heap.size := by simp
  have hw := Lib.hid hb.size
  clear k1 k2 k3 k4 hl1 hl2 hs hx hy hsec hb
  go_enter Tryd.func13, Tryd.ntmps13
  go_wp2_with fail
  generalize w.alloc (.cells #[.int .i64 0, .int .i64 0] 23) = w0 at *
  refine (K1.out w0 _ (Below.refl _ _)).mono ?_
  rintro e w1 ⟨rfl, h1⟩
  have G := Lib.hid h1
  clear h1
  go_wp2_with fail
  refine (K2.out w0 _ G.out).mono ?_
  rintro e w1 ⟨rfl, h1⟩
  replace G := Lib.hid h1
  clear h1
  go_wp2_with fail
  refine (K3.out w0 _ G.out).mono ?_
  rintro e w1 ⟨rfl, h1⟩
  replace G := Lib.hid h1
  clear h1
  go_wp2_with fail
  refine (K4.out w0 _ G.out).mono ?_
  rintro e w1 ⟨rfl, h1⟩
  have hA1 : w1.heap[w.heap.size]? = some (.cells #[.int .i64 0, .int .i64 0] 23 (0, 0)) := (h1.block _ hsz).trans hA
  replace G := Lib.hid h1
  clear h1
  have HA := Lib.hid hA1
  clear hA hA1
  go_wp2_with (refine S3.wpList_store_row rfl 23 _ _ rfl w.heap.size _ rfl rfl 23 _ HA.out (infoKey _ _) rfl (by simp [Value.oneCell']) ?_)
  exact bodyPost_ret (v := .agg #[.int .i64 x, .int .i64 y]) (results_cell_row Tryd.results13 _ _ w.heap.size 23 _ (0, 0) _ rfl (setRow_heap _ _ _ _ _ _ HA.out) Tryd.underlying23 rfl (infoKey _ _)) rfl
    ⟨rfl, below_setRow (g.out.trans (G.out.mono (by have := g.out.size; omega))) _ hw.out _⟩
end Sg
end Go.Proofs.YtlcgcpjhmbbgfaaDoor

/-
  Layer 5: the reference: Right.
-/
namespace Go.Proofs.YtlcgcpjhmbbgfaaDoor
open Go.RowKit
namespace Sg
attribute [local go_sem] S3.B_size S3.B_app

theorem cells2 (w : World) (x y : Value) (t : TypeId) : (w.alloc (.cells #[x, y] t)).cell? ⟨w.heap.size, 0, none⟩ = some x ∧ (w.alloc (.cells #[x, y] t)).cell? ⟨w.heap.size, 1, none⟩ = some y := by
  have h := heap_alloc_last w (.cells #[x, y] t)
  exact ⟨by rw [cell_of_row _ _ _ _ _ _ h]; rfl, by rw [cell_of_row _ _ _ _ _ _ h]; rfl⟩

set_option maxHeartbeats 2000000 in
set_option maxRecDepth 100000 in
theorem rright_ok (W : World) (x y : Int) (ix : isI x) : Ok W 16 #[.agg #[.int .i64 x, .int .i64 y]] (.bool (decide (Rt x y))) := by
  intro w hb
  have k1 := fun W => rof_ok W x ix
  unfold keyC at k1
  have hR := ofV_right x y
  obtain ⟨p, hp⟩ : ∃ p, p = (ofV x).1 := ⟨_, rfl⟩
  obtain ⟨q, hq⟩ : ∃ p, p = (ofV x).2 := ⟨_, rfl⟩
  have he : ((x, y) = ofV x) ↔ (x = p ∧ y = q) := by rw [hp, hq]; exact Prod.ext_iff
  rw [he] at hR
  rw [← hp, ← hq] at k1
  have hw := Lib.hid hb.size
  have g := Lib.hid (hb.alloc hb.size (.cells #[.int .i64 x, .int .i64 y] 23))
  have HC := Lib.hid (cells2 w (.int .i64 x) (.int .i64 y) 23)
  have HZ : Hid (w.heap.size < (w.alloc (.cells #[.int .i64 x, .int .i64 y] 23)).heap.size) := Lib.hid (by simp)
  have K1 := Lib.hid k1
  have HR := Lib.hid hR
  obtain ⟨b, hbv⟩ : ∃ b, b = decide (Rt x y) := ⟨_, rfl⟩
  rw [← hbv]
  clear k1 hR he hp hq hb ix
  by_cases h0 : 0 < x
  · have hbv2 : b = (decide (x = p) && decide (y = q)) := by
      rw [hbv, ← Bool.decide_and]
      exact decide_eq_decide.2 ⟨fun h => (HR.out.2 h).2, fun h => HR.out.1 ⟨by omega, h⟩⟩
    have HBV := Lib.hid hbv2
    clear hbv hbv2
    go_enter Tryd.func16, Tryd.ntmps16
    go_wp2_with fail
    generalize w.alloc (.cells #[.int .i64 x, .int .i64 y] 23) = w0 at *
    refine wp_region_held_drew (S := (fun w' => w'.cell? ⟨w.heap.size, 0, none⟩ = some (.int .i64 x) ∧ w'.cell? ⟨w.heap.size, 1, none⟩ = some (.int .i64 y))) (by kernel_rfl) ⟨HC.out.1, HC.out.2⟩ (fun hHeld => ?_)
    refine wpAnyH_take (i := 0) (oi := ⟨_, _, _, _, _, _⟩) (v := ?_) rfl (by kernel_rfl) (by kernel_rfl) (by kernel_rfl) (fun _ _ _ h => h) (Or.inl ⟨by rfl, ?_⟩) (by assumption) ?_
    rotate_left
    · intro wz hSw
      try dsimp only at hSw
      go_simp
      try with_reducible rfl
    try simp only [Act.put, List.setIfInBounds_toArray, List.set_cons_zero, List.set_cons_succ]
    refine wpAnyH_take (i := 1) (oi := ⟨_, _, _, _, _, _⟩) (v := ?_) rfl (by kernel_rfl) (by kernel_rfl) (by kernel_rfl) (fun _ _ _ h => h) (Or.inl ⟨by rfl, ?_⟩) (by assumption) ?_
    rotate_left
    · intro wz hSw
      try dsimp only at hSw
      go_simp
      try with_reducible rfl
    try simp only [Act.put, List.setIfInBounds_toArray, List.set_cons_zero, List.set_cons_succ]
    refine wpAnyH_take (i := 2) (oi := ⟨_, _, _, _, _, _⟩) (v := ?_) rfl (by kernel_rfl) (by kernel_rfl) (by kernel_rfl) (fun _ _ _ h => h) (Or.inl ⟨by rfl, ?_⟩) (by assumption) ?_
    rotate_left
    · intro wz hSw
      try dsimp only at hSw
      go_simp
      try with_reducible rfl
    try simp only [Act.put, List.setIfInBounds_toArray, List.set_cons_zero, List.set_cons_succ]
    refine wpAnyH_take (i := 3) (oi := ⟨_, _, _, _, _, _⟩) (v := ?_) rfl (by kernel_rfl) (by kernel_rfl) (by kernel_rfl) (fun _ _ _ h => h) (Or.inl ⟨by rfl, ?_⟩) (by assumption) ?_
    rotate_left
    · intro wz hSw
      try dsimp only at hSw
      go_simp
      try with_reducible rfl
    try simp only [Act.put, List.setIfInBounds_toArray, List.set_cons_zero, List.set_cons_succ]
    refine wpAnyH_take (i := 4) (oi := ⟨_, _, _, _, _, _⟩) (v := ?_) rfl (by kernel_rfl) (by kernel_rfl) (by kernel_rfl) (fun _ _ _ h => h) (Or.inl ⟨by rfl, ?_⟩) (by assumption) ?_
    rotate_left
    · intro wz hSw
      try dsimp only at hSw
      go_simp
      try with_reducible rfl
    try simp only [Act.put, List.setIfInBounds_toArray, List.set_cons_zero, List.set_cons_succ]
    refine wpAnyH_take (i := 5) (oi := ⟨_, _, _, _, _, _⟩) (v := ?_) rfl (by kernel_rfl) (by kernel_rfl) (by kernel_rfl) (fun _ _ _ h => h) (Or.inl ⟨by rfl, ?_⟩) (by assumption) ?_
    rotate_left
    · intro wz hSw
      try dsimp only at hSw
      go_simp
      try with_reducible rfl
    try simp only [Act.put, List.setIfInBounds_toArray, List.set_cons_zero, List.set_cons_succ]
    refine wpAnyH_take (i := 6) (oi := ⟨_, _, _, _, _, _⟩) (v := ?_) rfl (by kernel_rfl) (by kernel_rfl) (by kernel_rfl) (fun _ _ _ h => h) (Or.inl ⟨by rfl, ?_⟩) (by assumption) ?_
    rotate_left
    · intro wz hSw
      try dsimp only at hSw
      go_simp
      try with_reducible rfl
    try simp only [Act.put, List.setIfInBounds_toArray, List.set_cons_zero, List.set_cons_succ]
    refine wpAnyH_ready (rs := [7]) (by kernel_rfl) (by simp) ?_
    refine AllReadyH.cons (o := ⟨_, _, _, _, _, _⟩) rfl (fun K hK => ?_) AllReadyH.nil
    go_simp
    refine (K1.out w0 _ (Below.refl _ _).drew).mono ?_
    rintro e w1 ⟨rfl, hb⟩
    have Gw1 := Lib.hid hb
    have d0 := (hb.cell (p := ⟨w.heap.size, 0, none⟩) HZ.out).trans HC.out.1
    have d1 := (hb.cell (p := ⟨w.heap.size, 1, none⟩) HZ.out).trans HC.out.2
    clear hb
    refine hK.out _ _ ⟨d0, d1⟩ (fun hHeld => ?_)
    clear hK K d0 d1
    try simp only [Act.put, List.setIfInBounds_toArray, List.set_cons_zero, List.set_cons_succ]
    refine wpAnyH_take (i := 8) (oi := ⟨_, _, _, _, _, _⟩) (v := .bool b) rfl (by kernel_rfl) (by kernel_rfl) (by kernel_rfl) (fun _ _ _ h => h) (Or.inl ⟨by rfl, ?_⟩) (by assumption) ?_
    · intro wz hSw
      try dsimp only at hSw
      go_simp
      have e0 := HBV.out
      by_cases e1 : x = p <;> by_cases e2 : y = q <;> simp [e0, e1, e2]
    try simp only [Act.put, List.setIfInBounds_toArray, List.set_cons_zero, List.set_cons_succ]
    refine wpAnyH_take (i := 9) (oi := ⟨_, _, _, _, _, _⟩) (v := ?_) rfl (by kernel_rfl) (by kernel_rfl) (by kernel_rfl) (fun _ _ _ h => h) (Or.inl ⟨by rfl, ?_⟩) (by assumption) ?_
    rotate_left
    · intro wz hSw
      try dsimp only at hSw
      go_simp
      try with_reducible rfl
    try simp only [Act.put, List.setIfInBounds_toArray, List.set_cons_zero, List.set_cons_succ]
    refine wpAnyH_take (i := 10) (oi := ⟨_, _, _, _, _, _⟩) (v := ?_) rfl (by kernel_rfl) (by kernel_rfl) (by kernel_rfl) (fun _ _ _ h => h) (Or.inl ⟨by rfl, ?_⟩) (by assumption) ?_
    rotate_left
    · intro wz hSw
      try dsimp only at hSw
      go_simp
      try with_reducible rfl
    try simp only [Act.put, List.setIfInBounds_toArray, List.set_cons_zero, List.set_cons_succ]
    refine wpAnyH_done (by kernel_rfl) ?_ _
    go_wp2
    go_ret
    exact ⟨rfl, g.out.trans (Gw1.out.mono (by have := g.out.size; omega))⟩
  · have hn : ¬ Rt x y := fun h => h0 (by have := h.1; omega)
    rw [decide_eq_false hn] at hbv
    subst hbv
    go_enter Tryd.func16, Tryd.ntmps16
    go_wp2_with fail
    generalize w.alloc (.cells #[.int .i64 x, .int .i64 y] 23) = w0 at *
    refine wp_region_held_drew (S := (fun w' => w'.cell? ⟨w.heap.size, 0, none⟩ = some (.int .i64 x) ∧ w'.cell? ⟨w.heap.size, 1, none⟩ = some (.int .i64 y))) (by kernel_rfl) ⟨HC.out.1, HC.out.2⟩ (fun hHeld => ?_)
    refine wpAnyH_take (i := 0) (oi := ⟨_, _, _, _, _, _⟩) (v := ?_) rfl (by kernel_rfl) (by kernel_rfl) (by kernel_rfl) (fun _ _ _ h => h) (Or.inl ⟨by rfl, ?_⟩) (by assumption) ?_
    rotate_left
    · intro wz hSw
      try dsimp only at hSw
      go_simp
      try with_reducible rfl
    try simp only [Act.put, List.setIfInBounds_toArray, List.set_cons_zero, List.set_cons_succ]
    refine wpAnyH_take (i := 1) (oi := ⟨_, _, _, _, _, _⟩) (v := ?_) rfl (by kernel_rfl) (by kernel_rfl) (by kernel_rfl) (fun _ _ _ h => h) (Or.inl ⟨by rfl, ?_⟩) (by assumption) ?_
    rotate_left
    · intro wz hSw
      try dsimp only at hSw
      go_simp
      try with_reducible rfl
    try simp only [Act.put, List.setIfInBounds_toArray, List.set_cons_zero, List.set_cons_succ]
    refine wpAnyH_take (i := 2) (oi := ⟨_, _, _, _, _, _⟩) (v := .bool false) rfl (by kernel_rfl) (by kernel_rfl) (by kernel_rfl) (fun _ _ _ h => h) (Or.inl ⟨by rfl, ?_⟩) (by assumption) ?_
    · intro wz hSw
      try dsimp only at hSw
      go_simp
    try simp only [Act.put, List.setIfInBounds_toArray, List.set_cons_zero, List.set_cons_succ]
    refine wpAnyH_take (i := 3) (oi := ⟨_, _, _, _, _, _⟩) (v := ?_) rfl (by kernel_rfl) (by kernel_rfl) (by kernel_rfl) (fun _ _ _ h => h) (Or.inl ⟨by rfl, ?_⟩) (by assumption) ?_
    rotate_left
    · intro wz hSw
      try dsimp only at hSw
      go_simp
      try with_reducible rfl
    try simp only [Act.put, List.setIfInBounds_toArray, List.set_cons_zero, List.set_cons_succ]
    refine wpAnyH_take (i := 4) (oi := ⟨_, _, _, _, _, _⟩) (v := undef) rfl (by kernel_rfl) (by kernel_rfl) (by kernel_rfl) (fun _ _ _ h => h) (Or.inr ⟨by rfl, rfl⟩) (by assumption) ?_
    try simp only [Act.put, List.setIfInBounds_toArray, List.set_cons_zero, List.set_cons_succ]
    refine wpAnyH_take (i := 5) (oi := ⟨_, _, _, _, _, _⟩) (v := undef) rfl (by kernel_rfl) (by kernel_rfl) (by kernel_rfl) (fun _ _ _ h => h) (Or.inr ⟨by rfl, rfl⟩) (by assumption) ?_
    try simp only [Act.put, List.setIfInBounds_toArray, List.set_cons_zero, List.set_cons_succ]
    refine wpAnyH_take (i := 6) (oi := ⟨_, _, _, _, _, _⟩) (v := undef) rfl (by kernel_rfl) (by kernel_rfl) (by kernel_rfl) (fun _ _ _ h => h) (Or.inr ⟨by rfl, rfl⟩) (by assumption) ?_
    try simp only [Act.put, List.setIfInBounds_toArray, List.set_cons_zero, List.set_cons_succ]
    refine wpAnyH_take (i := 7) (oi := ⟨_, _, _, _, _, _⟩) (v := undef) rfl (by kernel_rfl) (by kernel_rfl) (by kernel_rfl) (fun _ _ _ h => h) (Or.inr ⟨by rfl, rfl⟩) (by assumption) ?_
    try simp only [Act.put, List.setIfInBounds_toArray, List.set_cons_zero, List.set_cons_succ]
    refine wpAnyH_take (i := 8) (oi := ⟨_, _, _, _, _, _⟩) (v := undef) rfl (by kernel_rfl) (by kernel_rfl) (by kernel_rfl) (fun _ _ _ h => h) (Or.inr ⟨by rfl, rfl⟩) (by assumption) ?_
    try simp only [Act.put, List.setIfInBounds_toArray, List.set_cons_zero, List.set_cons_succ]
    refine wpAnyH_take (i := 9) (oi := ⟨_, _, _, _, _, _⟩) (v := ?_) rfl (by kernel_rfl) (by kernel_rfl) (by kernel_rfl) (fun _ _ _ h => h) (Or.inl ⟨by rfl, ?_⟩) (by assumption) ?_
    rotate_left
    · intro wz hSw
      try dsimp only at hSw
      go_simp
      try with_reducible rfl
    try simp only [Act.put, List.setIfInBounds_toArray, List.set_cons_zero, List.set_cons_succ]
    refine wpAnyH_take (i := 10) (oi := ⟨_, _, _, _, _, _⟩) (v := ?_) rfl (by kernel_rfl) (by kernel_rfl) (by kernel_rfl) (fun _ _ _ h => h) (Or.inl ⟨by rfl, ?_⟩) (by assumption) ?_
    rotate_left
    · intro wz hSw
      try dsimp only at hSw
      go_simp
      try with_reducible rfl
    try simp only [Act.put, List.setIfInBounds_toArray, List.set_cons_zero, List.set_cons_succ]
    refine wpAnyH_done (by kernel_rfl) ?_ _
    go_wp2
    go_ret
    exact ⟨rfl, g.out.drew⟩
end Sg
end Go.Proofs.YtlcgcpjhmbbgfaaDoor

/-
  Layer 5: the reference: Challenge, Commitment, Ranges.
-/
namespace Go.Proofs.YtlcgcpjhmbbgfaaDoor
open Go.RowKit
namespace Sg
attribute [local go_sem] S3.B_size S3.B_app

set_option maxHeartbeats 2000000 in
set_option maxRecDepth 100000 in
theorem rchal_ok (W : World) (r y : Int) (m : List UInt8) (ir : isI r) (iy : isI y) (hm : m.length ≤ 3900) : Ok W 22 #[.int .i64 r, .int .i64 y, .string (S3.B m)] (.int .i64 (chal r y m : Nat)) := by
  intro w hb
  have k1 := fun W => rtext_ok W [115, 105, 103, 110] (by decide)
  have k2 := fun W => rnum_ok W r ir
  have k3 := fun W => rnum_ok W y iy
  have k4 := fun W => rtext_ok W m (by omega)
  have l1 := tSign_len
  have l2 := encZ_len r
  have l3 := encZ_len y
  have l4 := encT_len m
  have k5 := fun W => rhash_ok W (chalS r y m) (by unfold chalS; rw [List.length_append, List.length_append, List.length_append]; omega)
  have hlt := hash_lt (chalS r y m)
  have he : chal r y m = hash (chalS r y m) % 2305843009213693950 := rfl
  obtain ⟨c, hc⟩ : ∃ c, c = chal r y m := ⟨_, rfl⟩
  rw [← hc] at he ⊢
  generalize hash (chalS r y m) = h at k5 hlt he
  rw [show chalS r y m = tSign ++ encZ r ++ encZ y ++ S2.Cd.encT m from rfl] at k5
  rw [show S2.Cd.encT [115, 105, 103, 110] = tSign from rfl] at k1
  generalize tSign = a at k1 k5 l1
  generalize encZ r = b at k2 k5 l2
  generalize encZ y = d at k3 k5 l3
  generalize S2.Cd.encT m = f at k4 k5 l4
  simp only [List.append_assoc] at k5
  have l1' : a.length ≤ 5 := by omega
  have l4' : f.length ≤ 3909 := by omega
  have e1 : (h : Int).tmod 2305843009213693950 = (c : Int) := by rw [Int.tmod_eq_emod_of_nonneg (by omega)]; omega
  have e2 : (h : Int) % 2305843009213693950 = (c : Int) := by omega
  have K1 := Lib.hid k1
  have K2 := Lib.hid k2
  have K3 := Lib.hid k3
  have K4 := Lib.hid k4
  have K5 := Lib.hid k5
  have G := Lib.hid hb
  clear k1 k2 k3 k4 k5 l1 l4 hc he hlt hm hb ir iy
  go_enter Tryd.func22, Tryd.ntmps22
  go_wp2_with fail
  refine (K1.out W _ G.out).mono ?_
  rintro e w1 ⟨rfl, h1⟩
  replace G := Lib.hid h1
  clear h1
  go_wp2_with fail
  refine (K2.out W _ G.out).mono ?_
  rintro e w2 ⟨rfl, h1⟩
  replace G := Lib.hid h1
  clear h1
  go_wp2_with fail
  refine (K3.out W _ G.out).mono ?_
  rintro e w3 ⟨rfl, h1⟩
  replace G := Lib.hid h1
  clear h1
  go_wp2_with fail
  refine (K4.out W _ G.out).mono ?_
  rintro e w4 ⟨rfl, h1⟩
  replace G := Lib.hid h1
  clear h1
  go_wp2_with fail
  refine (K5.out W _ G.out).mono ?_
  rintro e w5 ⟨rfl, h1⟩
  replace G := Lib.hid h1
  clear h1
  go_wp2
  go_ret
  exact ⟨rfl, G.out⟩

set_option maxHeartbeats 2000000 in
set_option maxRecDepth 100000 in
theorem rcomm_ok (W : World) (y E S : Int) (iE : 0 ≤ E ∧ E ≤ 2305843009213693950) (iS : isI S) : Ok W 21 #[.int .i64 y, .agg #[.int .i64 E, .int .i64 S]] (.int .i64 (comm y E S)) := by
  intro w hb
  have k1 := fun W => rexp_ok W 37 S iS
  have k2 := fun W => rexp_ok W y (2305843009213693950 - E) (by unfold isI S4.isI64; omega)
  have k3 := fun W => rmul_ok W (pub S : Nat) (S4.powP y (2305843009213693950 - E) : Nat)
  rw [show (pub S : Nat) * (S4.powP y (2305843009213693950 - E) : Nat) % 2305843009213693951 = comm y E S from rfl] at k3
  rw [show S4.powP 37 S = pub S from rfl] at k1
  generalize comm y E S = c at k3 ⊢
  generalize pub S = p at k1 k3
  have e1 : IntKind.i64.wrap (2305843009213693950 - E) = 2305843009213693950 - E := IntWalk.i64_in _ (by omega)
  generalize S4.powP y (2305843009213693950 - E) = q at k2 k3
  obtain ⟨n, hn⟩ : ∃ n, n = 2305843009213693950 - E := ⟨_, rfl⟩
  rw [← hn] at k2
  have e2 : IntKind.i64.wrap (2305843009213693950 - E) = n := by rw [e1, hn]
  have g := Lib.hid (hb.alloc hb.size (.cells #[.int .i64 E, .int .i64 S] 30))
  have HC := Lib.hid (cells2 w (.int .i64 E) (.int .i64 S) 30)
  have HZ : Hid (w.heap.size < (w.alloc (.cells #[.int .i64 E, .int .i64 S] 30)).heap.size) := Lib.hid (by simp)
  have K1 := Lib.hid k1
  have K2 := Lib.hid k2
  have K3 := Lib.hid k3
  clear k1 k2 k3 hn e1 iE iS hb
  go_enter Tryd.func21, Tryd.ntmps21
  go_wp2_with fail
  generalize w.alloc (.cells #[.int .i64 E, .int .i64 S] 30) = w0 at *
  refine wp_region_held_drew (S := (fun w' => w'.cell? ⟨w.heap.size, 0, none⟩ = some (.int .i64 E) ∧ w'.cell? ⟨w.heap.size, 1, none⟩ = some (.int .i64 S))) (by kernel_rfl) ⟨HC.out.1, HC.out.2⟩ (fun hHeld => ?_)
  refine wpAnyH_take (i := 0) (oi := ⟨_, _, _, _, _, _⟩) (v := ?_) rfl (by kernel_rfl) (by kernel_rfl) (by kernel_rfl) (fun _ _ _ h => h) (Or.inl ⟨by rfl, ?_⟩) (by assumption) ?_
  rotate_left
  · intro wz hSw
    try dsimp only at hSw
    go_simp
    try with_reducible rfl
  try simp only [Act.put, List.setIfInBounds_toArray, List.set_cons_zero, List.set_cons_succ]
  refine wpAnyH_take (i := 1) (oi := ⟨_, _, _, _, _, _⟩) (v := ?_) rfl (by kernel_rfl) (by kernel_rfl) (by kernel_rfl) (fun _ _ _ h => h) (Or.inl ⟨by rfl, ?_⟩) (by assumption) ?_
  rotate_left
  · intro wz hSw
    try dsimp only at hSw
    go_simp
    try with_reducible rfl
  try simp only [Act.put, List.setIfInBounds_toArray, List.set_cons_zero, List.set_cons_succ]
  refine wpAnyH_take (i := 3) (oi := ⟨_, _, _, _, _, _⟩) (v := ?_) rfl (by kernel_rfl) (by kernel_rfl) (by kernel_rfl) (fun _ _ _ h => h) (Or.inl ⟨by rfl, ?_⟩) (by assumption) ?_
  rotate_left
  · intro wz hSw
    try dsimp only at hSw
    go_simp
    try with_reducible rfl
  try simp only [Act.put, List.setIfInBounds_toArray, List.set_cons_zero, List.set_cons_succ]
  refine wpAnyH_take (i := 4) (oi := ⟨_, _, _, _, _, _⟩) (v := ?_) rfl (by kernel_rfl) (by kernel_rfl) (by kernel_rfl) (fun _ _ _ h => h) (Or.inl ⟨by rfl, ?_⟩) (by assumption) ?_
  rotate_left
  · intro wz hSw
    try dsimp only at hSw
    go_simp
    try with_reducible rfl
  try simp only [Act.put, List.setIfInBounds_toArray, List.set_cons_zero, List.set_cons_succ]
  refine wpAnyH_take (i := 5) (oi := ⟨_, _, _, _, _, _⟩) (v := ?_) rfl (by kernel_rfl) (by kernel_rfl) (by kernel_rfl) (fun _ _ _ h => h) (Or.inl ⟨by rfl, ?_⟩) (by assumption) ?_
  rotate_left
  · intro wz hSw
    try dsimp only at hSw
    go_simp
    try with_reducible rfl
  try simp only [Act.put, List.setIfInBounds_toArray, List.set_cons_zero, List.set_cons_succ]
  refine wpAnyH_take (i := 6) (oi := ⟨_, _, _, _, _, _⟩) (v := ?_) rfl (by kernel_rfl) (by kernel_rfl) (by kernel_rfl) (fun _ _ _ h => h) (Or.inl ⟨by rfl, ?_⟩) (by assumption) ?_
  rotate_left
  · intro wz hSw
    try dsimp only at hSw
    go_simp
    try with_reducible rfl
  try simp only [Act.put, List.setIfInBounds_toArray, List.set_cons_zero, List.set_cons_succ]
  refine wpAnyH_ready (rs := [2]) (by kernel_rfl) (by simp) ?_
  refine AllReadyH.cons (o := ⟨_, _, _, _, _, _⟩) rfl (fun K hK => ?_) AllReadyH.nil
  go_simp
  refine (K1.out w0 _ (Below.refl _ _).drew).mono ?_
  rintro e w1 ⟨rfl, hb⟩
  have Gw1 := Lib.hid hb
  have d0 := (hb.cell (p := ⟨w.heap.size, 0, none⟩) HZ.out).trans HC.out.1
  have d1 := (hb.cell (p := ⟨w.heap.size, 1, none⟩) HZ.out).trans HC.out.2
  clear hb
  refine hK.out _ _ ⟨d0, d1⟩ (fun hHeld => ?_)
  clear hK K d0 d1
  try simp only [Act.put, List.setIfInBounds_toArray, List.set_cons_zero, List.set_cons_succ]
  refine wpAnyH_ready (rs := [7]) (by kernel_rfl) (by simp) ?_
  refine AllReadyH.cons (o := ⟨_, _, _, _, _, _⟩) rfl (fun K hK => ?_) AllReadyH.nil
  go_simp
  refine (K2.out w0 _ Gw1.out).mono ?_
  rintro e w2 ⟨rfl, hb⟩
  have Gw2 := Lib.hid hb
  have d0 := (hb.cell (p := ⟨w.heap.size, 0, none⟩) HZ.out).trans HC.out.1
  have d1 := (hb.cell (p := ⟨w.heap.size, 1, none⟩) HZ.out).trans HC.out.2
  clear hb
  refine hK.out _ _ ⟨d0, d1⟩ (fun hHeld => ?_)
  clear hK K d0 d1
  try simp only [Act.put, List.setIfInBounds_toArray, List.set_cons_zero, List.set_cons_succ]
  refine wpAnyH_ready (rs := [8]) (by kernel_rfl) (by simp) ?_
  refine AllReadyH.cons (o := ⟨_, _, _, _, _, _⟩) rfl (fun K hK => ?_) AllReadyH.nil
  go_simp
  refine (K3.out w0 _ Gw2.out).mono ?_
  rintro e w3 ⟨rfl, hb⟩
  have Gw3 := Lib.hid hb
  have d0 := (hb.cell (p := ⟨w.heap.size, 0, none⟩) HZ.out).trans HC.out.1
  have d1 := (hb.cell (p := ⟨w.heap.size, 1, none⟩) HZ.out).trans HC.out.2
  clear hb
  refine hK.out _ _ ⟨d0, d1⟩ (fun hHeld => ?_)
  clear hK K d0 d1
  try simp only [Act.put, List.setIfInBounds_toArray, List.set_cons_zero, List.set_cons_succ]
  refine wpAnyH_take (i := 9) (oi := ⟨_, _, _, _, _, _⟩) (v := ?_) rfl (by kernel_rfl) (by kernel_rfl) (by kernel_rfl) (fun _ _ _ h => h) (Or.inl ⟨by rfl, ?_⟩) (by assumption) ?_
  rotate_left
  · intro wz hSw
    try dsimp only at hSw
    go_simp
    try with_reducible rfl
  try simp only [Act.put, List.setIfInBounds_toArray, List.set_cons_zero, List.set_cons_succ]
  refine wpAnyH_done (by kernel_rfl) ?_ _
  go_wp2
  go_ret
  exact ⟨rfl, g.out.trans (Gw3.out.mono (by have := g.out.size; omega))⟩

set_option maxHeartbeats 2000000 in
set_option maxRecDepth 100000 in
theorem rrng_ok (W : World) (y E S : Int) : Ok W 39 #[.int .i64 y, .agg #[.int .i64 E, .int .i64 S]] (.bool (decide (Rg y E S))) := by
  intro w hb
  have g := Lib.hid (hb.alloc hb.size (.cells #[.int .i64 E, .int .i64 S] 30))
  obtain ⟨b, hbv⟩ : ∃ b, b = decide (Rg y E S) := ⟨_, rfl⟩
  rw [← hbv]
  clear hb
  by_cases h0 : 1 ≤ y
  · by_cases h1 : y < 2305843009213693951
    · by_cases h2 : 0 ≤ E
      · by_cases h3 : E < 2305843009213693950
        · by_cases h4 : 0 ≤ S
          · by_cases h5 : S < 2305843009213693950
            · obtain rfl : b = true := by rw [hbv]; exact decide_eq_true ⟨by omega, by omega, by omega, by omega, by omega, by omega⟩
              clear hbv
              go_enter Tryd.func39, Tryd.ntmps39
              go_wp2
              go_ret
              exact ⟨rfl, g.out⟩
            · obtain rfl : b = false := by rw [hbv]; exact decide_eq_false (fun h => by obtain ⟨_, _, _, _, _, _⟩ := h; omega)
              clear hbv
              go_enter Tryd.func39, Tryd.ntmps39
              go_wp2
              go_ret
              exact ⟨rfl, g.out⟩
          · obtain rfl : b = false := by rw [hbv]; exact decide_eq_false (fun h => by obtain ⟨_, _, _, _, _, _⟩ := h; omega)
            clear hbv
            go_enter Tryd.func39, Tryd.ntmps39
            go_wp2
            go_ret
            exact ⟨rfl, g.out⟩
        · obtain rfl : b = false := by rw [hbv]; exact decide_eq_false (fun h => by obtain ⟨_, _, _, _, _, _⟩ := h; omega)
          clear hbv
          go_enter Tryd.func39, Tryd.ntmps39
          go_wp2
          go_ret
          exact ⟨rfl, g.out⟩
      · obtain rfl : b = false := by rw [hbv]; exact decide_eq_false (fun h => by obtain ⟨_, _, _, _, _, _⟩ := h; omega)
        clear hbv
        go_enter Tryd.func39, Tryd.ntmps39
        go_wp2
        go_ret
        exact ⟨rfl, g.out⟩
    · obtain rfl : b = false := by rw [hbv]; exact decide_eq_false (fun h => by obtain ⟨_, _, _, _, _, _⟩ := h; omega)
      clear hbv
      go_enter Tryd.func39, Tryd.ntmps39
      go_wp2
      go_ret
      exact ⟨rfl, g.out⟩
  · obtain rfl : b = false := by rw [hbv]; exact decide_eq_false (fun h => by obtain ⟨_, _, _, _, _, _⟩ := h; omega)
    clear hbv
    go_enter Tryd.func39, Tryd.ntmps39
    go_wp2
    go_ret
    exact ⟨rfl, g.out⟩
end Sg
end Go.Proofs.YtlcgcpjhmbbgfaaDoor

/-
  Layer 5: the reference: Sign, Verify.
-/
namespace Go.Proofs.YtlcgcpjhmbbgfaaDoor
open Go.RowKit
namespace Sg
attribute [local go_sem] S3.B_size S3.B_app

theorem nonS_len (x : Int) (m : List UInt8) : (nonS x m).length ≤ m.length + 24 := by
  have l1 := tNonce_len
  have l2 := encZ_len x
  have l4 := encT_len m
  unfold nonS
  rw [List.length_append, List.length_append]
  omega
theorem verV_eq (y E S : Int) (m : List UInt8) (h : Rg y E S) : verV y m E S = ((chal (comm y E S) y m : Int) == E) := by
  unfold verV
  by_cases he : (chal (comm y E S) y m : Int) = E
  · rw [decide_eq_true ⟨h, he⟩, he]; simp
  · rw [decide_eq_false (fun x => he x.2)]
    exact (beq_eq_false_iff_ne.2 he).symm
theorem comm_in (y E S : Int) : 0 ≤ comm y E S ∧ comm y E S < 2305843009213693951 := by
  unfold comm
  exact ⟨Int.emod_nonneg _ (by decide), Int.emod_lt_of_pos _ (by decide)⟩

set_option maxHeartbeats 2000000 in
set_option maxRecDepth 100000 in
theorem rver_ok (W : World) (y E S : Int) (m : List UInt8) (iy : isI y) (hm : m.length ≤ 3900) : Ok W 20 #[.int .i64 y, .string (S3.B m), .agg #[.int .i64 E, .int .i64 S]] (.bool (verV y m E S)) := by
  intro w hb
  have k1 := fun W => rrng_ok W y E S
  have g := Lib.hid (hb.alloc hb.size (.cells #[.int .i64 E, .int .i64 S] 30))
  have HC := Lib.hid (cells2 w (.int .i64 E) (.int .i64 S) 30)
  have HZ : Hid (w.heap.size < (w.alloc (.cells #[.int .i64 E, .int .i64 S] 30)).heap.size) := Lib.hid (by simp)
  have hve := verV_eq y E S m
  have hno : ¬ Rg y E S → verV y m E S = false := fun h => decide_eq_false (fun x => h x.1)
  obtain ⟨b, hbv⟩ : ∃ b, b = verV y m E S := ⟨_, rfl⟩
  rw [← hbv] at hve hno ⊢
  by_cases hr : Rg y E S
  · have hbe := hve hr
    obtain ⟨r1, r2, r3, r4, r5, r6⟩ := hr
    have k2 := fun W => rcomm_ok W y E S (by omega) (by unfold isI S4.isI64; omega)
    have hc := comm_in y E S
    have k3 := fun W => rchal_ok W (comm y E S) y m (by unfold isI S4.isI64; omega) iy hm
    rw [decide_eq_true (show Rg y E S from ⟨r1, r2, r3, r4, r5, r6⟩)] at k1
    generalize chal (comm y E S) y m = c at k3 hbe
    generalize comm y E S = q at k2 k3
    have K1 := Lib.hid k1
    have K2 := Lib.hid k2
    have K3 := Lib.hid k3
    have HB := Lib.hid hbe
    clear k1 k2 k3 hbe hve hno hbv hc r1 r2 r3 r4 r5 r6 iy hb hm
    go_enter Tryd.func20, Tryd.ntmps20
    go_wp2_with fail
    generalize w.alloc (.cells #[.int .i64 E, .int .i64 S] 30) = w0 at *
    refine (K1.out w0 _ (Below.refl _ _)).mono ?_
    rintro e w1 ⟨rfl, h1⟩
    have G := Lib.hid h1
    have HD : Hid (w1.cell? ⟨w.heap.size, 0, none⟩ = some (.int .i64 E) ∧ w1.cell? ⟨w.heap.size, 1, none⟩ = some (.int .i64 S)) := Lib.hid ⟨(h1.cell (p := ⟨w.heap.size, 0, none⟩) HZ.out).trans HC.out.1, (h1.cell (p := ⟨w.heap.size, 1, none⟩) HZ.out).trans HC.out.2⟩
    clear h1
    go_wp2_with fail
    refine wp_region_held_drew (S := (fun w' => w'.cell? ⟨w.heap.size, 0, none⟩ = some (.int .i64 E) ∧ w'.cell? ⟨w.heap.size, 1, none⟩ = some (.int .i64 S))) (by kernel_rfl) ⟨HD.out.1, HD.out.2⟩ (fun hHeld => ?_)
    refine wpAnyH_take (i := 0) (oi := ⟨_, _, _, _, _, _⟩) (v := ?_) rfl (by kernel_rfl) (by kernel_rfl) (by kernel_rfl) (fun _ _ _ h => h) (Or.inl ⟨by rfl, ?_⟩) (by assumption) ?_
    rotate_left
    · intro wz hSw
      try dsimp only at hSw
      go_simp
      try with_reducible rfl
    try simp only [Act.put, List.setIfInBounds_toArray, List.set_cons_zero, List.set_cons_succ]
    refine wpAnyH_take (i := 1) (oi := ⟨_, _, _, _, _, _⟩) (v := ?_) rfl (by kernel_rfl) (by kernel_rfl) (by kernel_rfl) (fun _ _ _ h => h) (Or.inl ⟨by rfl, ?_⟩) (by assumption) ?_
    rotate_left
    · intro wz hSw
      try dsimp only at hSw
      go_simp
      try with_reducible rfl
    try simp only [Act.put, List.setIfInBounds_toArray, List.set_cons_zero, List.set_cons_succ]
    refine wpAnyH_take (i := 3) (oi := ⟨_, _, _, _, _, _⟩) (v := ?_) rfl (by kernel_rfl) (by kernel_rfl) (by kernel_rfl) (fun _ _ _ h => h) (Or.inl ⟨by rfl, ?_⟩) (by assumption) ?_
    rotate_left
    · intro wz hSw
      try dsimp only at hSw
      go_simp
      try with_reducible rfl
    try simp only [Act.put, List.setIfInBounds_toArray, List.set_cons_zero, List.set_cons_succ]
    refine wpAnyH_take (i := 4) (oi := ⟨_, _, _, _, _, _⟩) (v := ?_) rfl (by kernel_rfl) (by kernel_rfl) (by kernel_rfl) (fun _ _ _ h => h) (Or.inl ⟨by rfl, ?_⟩) (by assumption) ?_
    rotate_left
    · intro wz hSw
      try dsimp only at hSw
      go_simp
      try with_reducible rfl
    try simp only [Act.put, List.setIfInBounds_toArray, List.set_cons_zero, List.set_cons_succ]
    refine wpAnyH_take (i := 6) (oi := ⟨_, _, _, _, _, _⟩) (v := ?_) rfl (by kernel_rfl) (by kernel_rfl) (by kernel_rfl) (fun _ _ _ h => h) (Or.inl ⟨by rfl, ?_⟩) (by assumption) ?_
    rotate_left
    · intro wz hSw
      try dsimp only at hSw
      go_simp
      try with_reducible rfl
    try simp only [Act.put, List.setIfInBounds_toArray, List.set_cons_zero, List.set_cons_succ]
    refine wpAnyH_take (i := 7) (oi := ⟨_, _, _, _, _, _⟩) (v := ?_) rfl (by kernel_rfl) (by kernel_rfl) (by kernel_rfl) (fun _ _ _ h => h) (Or.inl ⟨by rfl, ?_⟩) (by assumption) ?_
    rotate_left
    · intro wz hSw
      try dsimp only at hSw
      go_simp
      try with_reducible rfl
    try simp only [Act.put, List.setIfInBounds_toArray, List.set_cons_zero, List.set_cons_succ]
    refine wpAnyH_ready (rs := [2]) (by kernel_rfl) (by simp) ?_
    refine AllReadyH.cons (o := ⟨_, _, _, _, _, _⟩) rfl (fun K hK => ?_) AllReadyH.nil
    go_simp
    refine (K2.out w0 _ G.out.drew).mono ?_
    rintro e w2 ⟨rfl, hb⟩
    have Gw2 := Lib.hid hb
    have d0 := (hb.cell (p := ⟨w.heap.size, 0, none⟩) HZ.out).trans HC.out.1
    have d1 := (hb.cell (p := ⟨w.heap.size, 1, none⟩) HZ.out).trans HC.out.2
    clear hb
    refine hK.out _ _ ⟨d0, d1⟩ (fun hHeld => ?_)
    clear hK K d0 d1
    try simp only [Act.put, List.setIfInBounds_toArray, List.set_cons_zero, List.set_cons_succ]
    refine wpAnyH_ready (rs := [5]) (by kernel_rfl) (by simp) ?_
    refine AllReadyH.cons (o := ⟨_, _, _, _, _, _⟩) rfl (fun K hK => ?_) AllReadyH.nil
    go_simp
    refine (K3.out w0 _ Gw2.out).mono ?_
    rintro e w3 ⟨rfl, hb⟩
    have Gw3 := Lib.hid hb
    have d0 := (hb.cell (p := ⟨w.heap.size, 0, none⟩) HZ.out).trans HC.out.1
    have d1 := (hb.cell (p := ⟨w.heap.size, 1, none⟩) HZ.out).trans HC.out.2
    clear hb
    refine hK.out _ _ ⟨d0, d1⟩ (fun hHeld => ?_)
    clear hK K d0 d1
    try simp only [Act.put, List.setIfInBounds_toArray, List.set_cons_zero, List.set_cons_succ]
    refine wpAnyH_take (i := 8) (oi := ⟨_, _, _, _, _, _⟩) (v := .bool b) rfl (by kernel_rfl) (by kernel_rfl) (by kernel_rfl) (fun _ _ _ h => h) (Or.inl ⟨by rfl, ?_⟩) (by assumption) ?_
    · intro wz hSw
      try dsimp only at hSw
      go_simp
      rw [HB.out]
    try simp only [Act.put, List.setIfInBounds_toArray, List.set_cons_zero, List.set_cons_succ]
    refine wpAnyH_take (i := 9) (oi := ⟨_, _, _, _, _, _⟩) (v := ?_) rfl (by kernel_rfl) (by kernel_rfl) (by kernel_rfl) (fun _ _ _ h => h) (Or.inl ⟨by rfl, ?_⟩) (by assumption) ?_
    rotate_left
    · intro wz hSw
      try dsimp only at hSw
      go_simp
      try with_reducible rfl
    try simp only [Act.put, List.setIfInBounds_toArray, List.set_cons_zero, List.set_cons_succ]
    refine wpAnyH_done (by kernel_rfl) ?_ _
    go_wp2
    go_ret
    exact ⟨rfl, g.out.trans (Gw3.out.mono (by have := g.out.size; omega))⟩
  · obtain rfl := hno hr
    rw [decide_eq_false hr] at k1
    have K1 := Lib.hid k1
    clear k1 hve hbv hno hr iy hm hb
    go_enter Tryd.func20, Tryd.ntmps20
    go_wp2_with fail
    generalize w.alloc (.cells #[.int .i64 E, .int .i64 S] 30) = w0 at *
    refine (K1.out w0 _ (Below.refl _ _)).mono ?_
    rintro e w1 ⟨rfl, h1⟩
    have G := Lib.hid h1
    clear h1
    go_wp2
    go_ret
    exact ⟨rfl, g.out.trans (G.out.mono (by have := g.out.size; omega))⟩
end Sg
end Go.Proofs.YtlcgcpjhmbbgfaaDoor
