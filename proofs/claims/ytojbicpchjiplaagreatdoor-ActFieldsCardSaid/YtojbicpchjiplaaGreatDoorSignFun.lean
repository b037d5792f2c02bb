/-
  SignHash, SignChal, SignKey, SignRight, SignSign, SignVer, SignFun: joined.
-/
import Derived.Test.YtojbicpchjiplaaGreatDoorSignLaw2
import Derived.Test.YtojbicpchjiplaaGreatDoorShelf
import Derived.Lib.Join
/-
  Layer 5: the package's variadic hash, which joins its parts by the library's strings.Join with the empty separator.
-/
namespace Go.Proofs.YtojbicpchjiplaaGreatDoor.S5
open Go.RowKit
namespace Sg
attribute [local go_sem] S3.B_size S3.B_app

theorem join_flat (ls : List (List UInt8)) : Go.Lib.join ls [] = ls.flatten := by
  cases ls with
  | nil => rfl
  | cons x r =>
    rw [Go.Lib.join_cons]
    simp [Go.Lib.joinTail]
theorem map_B (ls : List (List UInt8)) : (ls.map S3.B).map (fun b => b.data.toList) = ls := by
  rw [List.map_map]
  induction ls with
  | nil => rfl
  | cons x r ih => rw [List.map_cons, ih]; rfl

/-- strings.Join with the empty separator, of a row of strings in a block. -/
theorem join_ok (bk c : Nat) (ls : List (List UInt8)) (w : World) (hr : ∀ (j : Nat) x, ls[j]? = some x → w.cell? ⟨bk, j, none⟩ = some (.string (S3.B x))) (hbk : bk < w.heap.size) (hc : ls.length ≤ c) (hn : ls.length ≤ 1000) (hl : ls.flatten.length ≤ 2000000) :
    Calls Tryz.prog 59 #[.slice (some ⟨bk, 0, none⟩) ls.length c, .string ⟨#[]⟩] w fun e w' => e = .returned (.string (S3.B ls.flatten)) ∧ Below w.heap.size w w' := by
  have h := Tryz.strings_Join bk 0 c (ls.map S3.B) ⟨#[]⟩ w (fun j x hx => by
    rw [List.getElem?_map] at hx
    cases he : ls[j]? with
    | none => rw [he] at hx; exact absurd hx (by simp)
    | some y =>
      rw [he] at hx
      obtain rfl : S3.B y = x := by simpa using hx
      rw [Nat.zero_add]
      exact hr j y he) hbk (by rw [List.length_map]; omega) (by rw [List.length_map]; exact hc) (by
    rw [map_B, show (⟨#[]⟩ : ByteArray).data.toList = [] from rfl, join_flat]
    omega)
  rw [map_B, show (⟨#[]⟩ : ByteArray).data.toList = [] from rfl, join_flat, List.length_map] at h
  exact h

set_option maxHeartbeats 2000000 in
set_option maxRecDepth 100000 in
theorem phash_any (bk c : Nat) (ls : List (List UInt8)) (w : World) (hW : S3.Laid w) (hr : ∀ (j : Nat) x, ls[j]? = some x → w.cell? ⟨bk, j, none⟩ = some (.string (S3.B x))) (hbk : bk < w.heap.size) (hc : ls.length ≤ c) (hn : ls.length ≤ 1000) (hl : ls.flatten.length ≤ 2000000) :
    Calls Tryz.prog 84 #[.slice (some ⟨bk, 0, none⟩) ls.length c] w fun e w' => e = .returned (.int .i64 (hash ls.flatten : Nat)) ∧ Below w.heap.size w w' := by
  have k0 := join_ok bk c ls w hr hbk hc hn hl
  have k1 := fun W hW => sha_ok W ls.flatten hW (by omega)
  have k2 := fun W => hnum_ok W (S3.Sha.sha ls.flatten) (by rw [sha_len]; decide)
  rw [hash_eq] at k2
  generalize hash ls.flatten = h at k2 ⊢
  generalize S3.Sha.sha ls.flatten = d at k1 k2
  have K0 := Lib.hid k0
  have K1 := Lib.hid k1
  have K2 := Lib.hid k2
  have HW := Lib.hid hW
  clear k0 k1 k2 hl hW hr hbk hc hn
  go_enter Tryz.func84, Tryz.ntmps84
  go_wp2_with fail
  refine K0.out.mono ?_
  rintro e w1 ⟨rfl, h1⟩
  have G := Lib.hid h1
  clear h1
  go_wp2_with fail
  refine (K1.out _ (laid_below HW.out G.out) _ (Below.refl _ _)).mono ?_
  rintro e w2 ⟨rfl, h1⟩
  replace G := Lib.hid (G.out.trans (h1.mono G.out.size))
  clear h1
  go_wp2_with fail
  refine (K2.out _ _ (Below.refl _ _)).mono ?_
  rintro e w3 ⟨rfl, h1⟩
  replace G := Lib.hid (G.out.trans (h1.mono G.out.size))
  clear h1
  go_wp2
  go_ret
  exact ⟨rfl, G.out⟩
end Sg
end Go.Proofs.YtojbicpchjiplaaGreatDoor.S5

/-
  Layer 5: challenge, Key.
-/
namespace Go.Proofs.YtojbicpchjiplaaGreatDoor.S5
open Go.RowKit
namespace Sg
attribute [local go_sem] S3.B_size S3.B_app

theorem strs_row (w : World) (ls : List (List UInt8)) (j : Nat) (x : List UInt8) (h : ls[j]? = some x) : (w.alloc (.cells (ls.map fun s => Value.string (S3.B s)).toArray 9)).cell? ⟨w.heap.size, j, none⟩ = some (.string (S3.B x)) := by
  rw [cell_of_row _ _ _ _ _ _ (heap_alloc_last w (.cells (ls.map fun s => Value.string (S3.B s)).toArray 9)), List.getElem?_toArray, List.getElem?_map, h]
  rfl

set_option maxHeartbeats 4000000 in
set_option maxRecDepth 100000 in
theorem pchal_ok (W : World) (hW : S3.Laid W) (r y : Int) (m : List UInt8) (ir : isI r) (iy : isI y) (hm : m.length ≤ 1000000) : Calls Tryz.prog 68 #[.int .i64 r, .int .i64 y, .string (S3.B m)] W fun e w' => e = .returned (.int .i64 (chal r y m : Nat)) ∧ Below W.heap.size W w' := by
  have A := Lib.hid (At.start hW)
  have k1 := fun W (_ : S3.Laid W) => text_ok W [115, 105, 103, 110] (by decide)
  have k2 := fun W (_ : S3.Laid W) => num_ok W r ir
  have k3 := fun W (_ : S3.Laid W) => num_ok W y iy
  have k4 := fun W (_ : S3.Laid W) => text_ok W m (by omega)
  have l1 := tSign_len
  have l2 := encZ_len r
  have l3 := encZ_len y
  have l4 := encT_len m
  have hlt := hash_lt (chalS r y m)
  have he : chal r y m = hash (chalS r y m) % 2305843009213693950 := rfl
  have hs : hash [tSign, encZ r, encZ y, S2.Cd.encT m].flatten = hash (chalS r y m) := by
    congr 1
    simp [chalS]
  obtain ⟨c, hc⟩ : ∃ c, c = chal r y m := ⟨_, rfl⟩
  rw [← hc] at he ⊢
  generalize hash (chalS r y m) = h at hlt he hs
  rw [show S2.Cd.encT [115, 105, 103, 110] = tSign from rfl] at k1
  generalize tSign = a at k1 hs l1
  generalize encZ r = b at k2 hs l2
  generalize encZ y = d at k3 hs l3
  generalize S2.Cd.encT m = f at k4 hs l4
  have l1' : a.length ≤ 5 := by omega
  have l4' : f.length ≤ 1000009 := by omega
  have e1 : (h : Int).tmod 2305843009213693950 = (c : Int) := by rw [Int.tmod_eq_emod_of_nonneg (by omega)]; omega
  have e2 : (h : Int) % 2305843009213693950 = (c : Int) := by omega
  have K1 := Lib.hid k1
  have K2 := Lib.hid k2
  have K3 := Lib.hid k3
  have K4 := Lib.hid k4
  have HS := Lib.hid hs
  clear k1 k2 k3 k4 l1 l4 hc he hlt hm hW ir iy hs
  go_enter Tryz.func68, Tryz.ntmps68
  go_wp2_with fail
  refine (K1.out _ A.out.laid _ (Below.refl _ _)).mono ?_
  rintro e w1 ⟨rfl, hb⟩
  replace A := Lib.hid (A.out.step hb)
  clear hb
  go_wp2_with fail
  refine (K2.out _ A.out.laid _ (Below.refl _ _)).mono ?_
  rintro e w2 ⟨rfl, hb⟩
  replace A := Lib.hid (A.out.step hb)
  clear hb
  go_wp2_with fail
  refine (K3.out _ A.out.laid _ (Below.refl _ _)).mono ?_
  rintro e w3 ⟨rfl, hb⟩
  replace A := Lib.hid (A.out.step hb)
  clear hb
  go_wp2_with fail
  refine (K4.out _ A.out.laid _ (Below.refl _ _)).mono ?_
  rintro e w4 ⟨rfl, hb⟩
  replace A := Lib.hid (A.out.step hb)
  clear hb
  go_wp2_with fail
  have hrow := strs_row w4 [a, b, d, f]
  replace A := Lib.hid (A.out.alloc (.cells #[.string (S3.B a), .string (S3.B b), .string (S3.B d), .string (S3.B f)] 9))
  refine (phash_any w4.heap.size 4 [a, b, d, f] (w4.alloc (.cells #[.string (S3.B a), .string (S3.B b), .string (S3.B d), .string (S3.B f)] 9)) A.out.laid hrow (by simp) (by simp) (by simp) (by simp; omega)).mono ?_
  rw [HS.out]
  rintro e w9 ⟨rfl, hb⟩
  replace A := Lib.hid (A.out.step hb)
  clear hb hrow
  go_wp2
  go_ret
  exact ⟨rfl, A.out.bel⟩
end Sg
end Go.Proofs.YtojbicpchjiplaaGreatDoor.S5

/-
  Layer 5: reduce, Of, Key.
-/
namespace Go.Proofs.YtojbicpchjiplaaGreatDoor.S5
open Go.RowKit
namespace Sg
attribute [local go_sem] S3.B_size S3.B_app


set_option maxHeartbeats 4000000 in
set_option maxRecDepth 100000 in
theorem red_ok (W : World) (h : Int) (h0 : 0 ≤ h) : Calls Tryz.prog 83 #[.int .i64 h] W fun e w' => e = .returned (.int .i64 (1 + h % 2305843009213693949)) ∧ w' = W := by
  obtain ⟨r, hr⟩ : ∃ r, r = h % 2305843009213693949 := ⟨_, rfl⟩
  have e1 : h.tmod 2305843009213693949 = r := by rw [Int.tmod_eq_emod_of_nonneg h0]; exact hr.symm
  have e0 : h % 2305843009213693949 = r := hr.symm
  have e2 : IntKind.i64.wrap (1 + r) = 1 + r := IntWalk.i64_in _ (by omega)
  rw [← hr]
  clear hr h0
  go_enter Tryz.func83, Tryz.ntmps83
  go_wp2
  go_ret
  exact ⟨rfl, rfl⟩

set_option maxHeartbeats 4000000 in
set_option maxRecDepth 100000 in
theorem pof_ok (W : World) (x : Int) (ix : isI x) : Ok W 69 #[.int .i64 x] (keyC (ofV x)) := by
  intro w hb
  have k1 := fun W => exp_ok W 37 x (by unfold isI S4.isI64; omega) ix
  rw [show S4.powP 37 x = pub x from rfl] at k1
  have hA0 : (w.alloc (.cells #[.int .i64 0, .int .i64 0] 31)).heap[w.heap.size]? = some (.cells #[.int .i64 0, .int .i64 0] 31 (0, 0)) := heap_alloc_last _ _
  have hlt : w.heap.size < (w.alloc (.cells #[.int .i64 0, .int .i64 0] 31)).heap.size := by simp
  have hge := Lib.hid hb.size
  have hb0 := Lib.hid (hb.alloc hb.size (.cells #[.int .i64 0, .int .i64 0] 31))
  unfold keyC
  by_cases h1 : x < 1
  · rw [ofV_out (fun h => by omega)]
    clear k1 ix
    go_enter Tryz.func69, Tryz.ntmps69
    go_wp2
    go_returns
    exact ⟨rfl, hb0.out⟩
  · by_cases h2 : x < 2305843009213693950
    · rw [ofV_in (by omega) (by omega)]
      generalize pub x = y at k1 ⊢
      have K1 := Lib.hid k1
      have HL := Lib.hid hlt
      have HA0 := Lib.hid hA0
      clear k1 ix hb hA0 hlt
      go_enter Tryz.func69, Tryz.ntmps69
      go_wp2_with fail
      generalize w.alloc (.cells #[.int .i64 0, .int .i64 0] 31) = w0 at *
      refine (K1.out w0 _ (Below.refl _ _)).mono ?_
      rintro e w1 ⟨rfl, h3⟩
      have HA := Lib.hid ((h3.block _ HL.out).trans HA0.out)
      have HB := Lib.hid (hb0.out.trans (h3.mono (by have := hb0.out.size; omega)))
      clear h3
      go_wp2_with (refine S3.wpList_store_row rfl 31 _ _ rfl w.heap.size _ rfl rfl 31 _ HA.out (infoKey _ _) rfl (by simp [Value.oneCell']) ?_)
      exact bodyPost_ret (v := .agg #[.int .i64 x, .int .i64 (y : Nat)]) (results_cell_row Tryz.results69 _ _ w.heap.size 31 _ (0, 0) _ rfl (setRow_heap _ _ _ _ _ _ HA.out) Tryz.underlying31 rfl (infoKey _ _)) rfl
        ⟨rfl, below_setRow HB.out _ hge.out _⟩
    · rw [ofV_out (fun h => by omega)]
      clear k1 ix
      go_enter Tryz.func69, Tryz.ntmps69
      go_wp2
      go_returns
      exact ⟨rfl, hb0.out⟩

end Sg
end Go.Proofs.YtojbicpchjiplaaGreatDoor.S5

/-
  Layer 5: Right.
-/
namespace Go.Proofs.YtojbicpchjiplaaGreatDoor.S5
open Go.RowKit
namespace Sg
attribute [local go_sem] S3.B_size S3.B_app

theorem ofV_right0 (x y : Int) : (x ≠ 0 ∧ (x, y) = ofV x) ↔ Rt x y := by
  rw [← ofV_right]
  constructor
  · rintro ⟨h, e⟩
    refine ⟨?_, e⟩
    by_cases h1 : 1 ≤ x ∧ x ≤ 2305843009213693949
    · exact h1.1
    · rw [ofV_out h1] at e
      exact absurd (congrArg Prod.fst e) h
  · rintro ⟨h, e⟩
    exact ⟨by omega, e⟩

set_option maxHeartbeats 2000000 in
set_option maxRecDepth 100000 in
theorem pright_ok (W : World) (x y : Int) (ix : isI x) : Ok W 28 #[.agg #[.int .i64 x, .int .i64 y]] (.bool (decide (Rt x y))) := by
  intro w hb
  have k1 := fun W => pof_ok W x ix
  unfold keyC at k1
  have hR := ofV_right0 x y
  obtain ⟨p, hp⟩ : ∃ p, p = (ofV x).1 := ⟨_, rfl⟩
  obtain ⟨q, hq⟩ : ∃ p, p = (ofV x).2 := ⟨_, rfl⟩
  have he : ((x, y) = ofV x) ↔ (x = p ∧ y = q) := by rw [hp, hq]; exact Prod.ext_iff
  rw [he] at hR
  rw [← hp, ← hq] at k1
  have hw := Lib.hid hb.size
  have g := Lib.hid (hb.alloc hb.size (.cells #[.int .i64 x, .int .i64 y] 31))
  have HC := Lib.hid (cells2 w (.int .i64 x) (.int .i64 y) 31)
  have HZ : Hid (w.heap.size < (w.alloc (.cells #[.int .i64 x, .int .i64 y] 31)).heap.size) := Lib.hid (by simp)
  have K1 := Lib.hid k1
  have HR := Lib.hid hR
  obtain ⟨b, hbv⟩ : ∃ b, b = decide (Rt x y) := ⟨_, rfl⟩
  rw [← hbv]
  clear k1 hR he hp hq hb ix
  by_cases h0 : (x != 0) = true
  · have hbv2 : b = (decide (x = p) && decide (y = q)) := by
      rw [hbv, ← Bool.decide_and]
      exact decide_eq_decide.2 ⟨fun h => (HR.out.2 h).2, fun h => HR.out.1 ⟨by simpa using h0, h⟩⟩
    have HBV := Lib.hid hbv2
    clear hbv hbv2
    go_enter Tryz.func28, Tryz.ntmps28
    go_wp2_with fail
    generalize w.alloc (.cells #[.int .i64 x, .int .i64 y] 31) = w0 at *
    refine wp_region_held_drew (S := (fun w' => w'.cell? ⟨w.heap.size, 0, none⟩ = some (.int .i64 x) ∧ w'.cell? ⟨w.heap.size, 1, none⟩ = some (.int .i64 y))) (by kernel_rfl) ⟨HC.out.1, HC.out.2⟩ (fun hHeld => ?_)
    refine wpAnyH_take (i := 0) (oi := ⟨_, _, _, _, _, _⟩) (v := ?_) rfl (by kernel_rfl) (by kernel_rfl) (by kernel_rfl) (fun _ _ _ h => h) (Or.inl ⟨by rfl, ?_⟩) (by assumption) ?_
    rotate_left
    · intro wz hSw
      try dsimp only at hSw
      go_simp
      try with_reducible rfl
    try simp only [Act.put, List.setIfInBounds_toArray, List.set_cons_zero, List.set_cons_succ]
    refine wpAnyH_take (i := 1) (oi := ⟨_, _, _, _, _, _⟩) (v := ?_) rfl (by kernel_rfl) (by kernel_rfl) (by kernel_rfl) (fun _ _ _ h => h) (Or.inl ⟨by rfl, ?_⟩) (by assumption) ?_
    rotate_left
    · intro wz hSw
      try dsimp only at hSw
      go_simp
      try with_reducible rfl
    try simp only [Act.put, List.setIfInBounds_toArray, List.set_cons_zero, List.set_cons_succ]
    refine wpAnyH_take (i := 2) (oi := ⟨_, _, _, _, _, _⟩) (v := ?_) rfl (by kernel_rfl) (by kernel_rfl) (by kernel_rfl) (fun _ _ _ h => h) (Or.inl ⟨by rfl, ?_⟩) (by assumption) ?_
    rotate_left
    · intro wz hSw
      try dsimp only at hSw
      go_simp
      try with_reducible rfl
    try simp only [Act.put, List.setIfInBounds_toArray, List.set_cons_zero, List.set_cons_succ]
    refine wpAnyH_take (i := 3) (oi := ⟨_, _, _, _, _, _⟩) (v := ?_) rfl (by kernel_rfl) (by kernel_rfl) (by kernel_rfl) (fun _ _ _ h => h) (Or.inl ⟨by rfl, ?_⟩) (by assumption) ?_
    rotate_left
    · intro wz hSw
      try dsimp only at hSw
      go_simp
      try with_reducible rfl
    try simp only [Act.put, List.setIfInBounds_toArray, List.set_cons_zero, List.set_cons_succ]
    refine wpAnyH_take (i := 4) (oi := ⟨_, _, _, _, _, _⟩) (v := ?_) rfl (by kernel_rfl) (by kernel_rfl) (by kernel_rfl) (fun _ _ _ h => h) (Or.inl ⟨by rfl, ?_⟩) (by assumption) ?_
    rotate_left
    · intro wz hSw
      try dsimp only at hSw
      go_simp
      try with_reducible rfl
    try simp only [Act.put, List.setIfInBounds_toArray, List.set_cons_zero, List.set_cons_succ]
    refine wpAnyH_take (i := 5) (oi := ⟨_, _, _, _, _, _⟩) (v := ?_) rfl (by kernel_rfl) (by kernel_rfl) (by kernel_rfl) (fun _ _ _ h => h) (Or.inl ⟨by rfl, ?_⟩) (by assumption) ?_
    rotate_left
    · intro wz hSw
      try dsimp only at hSw
      go_simp
      try with_reducible rfl
    try simp only [Act.put, List.setIfInBounds_toArray, List.set_cons_zero, List.set_cons_succ]
    refine wpAnyH_take (i := 6) (oi := ⟨_, _, _, _, _, _⟩) (v := ?_) rfl (by kernel_rfl) (by kernel_rfl) (by kernel_rfl) (fun _ _ _ h => h) (Or.inl ⟨by rfl, ?_⟩) (by assumption) ?_
    rotate_left
    · intro wz hSw
      try dsimp only at hSw
      go_simp
      try with_reducible rfl
    try simp only [Act.put, List.setIfInBounds_toArray, List.set_cons_zero, List.set_cons_succ]
    refine wpAnyH_ready (rs := [7]) (by kernel_rfl) (by simp) ?_
    refine AllReadyH.cons (o := ⟨_, _, _, _, _, _⟩) rfl (fun K hK => ?_) AllReadyH.nil
    go_simp
    refine (K1.out w0 _ (Below.refl _ _).drew).mono ?_
    rintro e w1 ⟨rfl, hb⟩
    have Gw1 := Lib.hid hb
    have d0 := (hb.cell (p := ⟨w.heap.size, 0, none⟩) HZ.out).trans HC.out.1
    have d1 := (hb.cell (p := ⟨w.heap.size, 1, none⟩) HZ.out).trans HC.out.2
    clear hb
    refine hK.out _ _ ⟨d0, d1⟩ (fun hHeld => ?_)
    clear hK K d0 d1
    try simp only [Act.put, List.setIfInBounds_toArray, List.set_cons_zero, List.set_cons_succ]
    refine wpAnyH_take (i := 8) (oi := ⟨_, _, _, _, _, _⟩) (v := .bool b) rfl (by kernel_rfl) (by kernel_rfl) (by kernel_rfl) (fun _ _ _ h => h) (Or.inl ⟨by rfl, ?_⟩) (by assumption) ?_
    · intro wz hSw
      try dsimp only at hSw
      go_simp
      have e0 := HBV.out
      by_cases e1 : x = p <;> by_cases e2 : y = q <;> simp [e0, e1, e2]
    try simp only [Act.put, List.setIfInBounds_toArray, List.set_cons_zero, List.set_cons_succ]
    refine wpAnyH_take (i := 9) (oi := ⟨_, _, _, _, _, _⟩) (v := ?_) rfl (by kernel_rfl) (by kernel_rfl) (by kernel_rfl) (fun _ _ _ h => h) (Or.inl ⟨by rfl, ?_⟩) (by assumption) ?_
    rotate_left
    · intro wz hSw
      try dsimp only at hSw
      go_simp
      try with_reducible rfl
    try simp only [Act.put, List.setIfInBounds_toArray, List.set_cons_zero, List.set_cons_succ]
    refine wpAnyH_take (i := 10) (oi := ⟨_, _, _, _, _, _⟩) (v := ?_) rfl (by kernel_rfl) (by kernel_rfl) (by kernel_rfl) (fun _ _ _ h => h) (Or.inl ⟨by rfl, ?_⟩) (by assumption) ?_
    rotate_left
    · intro wz hSw
      try dsimp only at hSw
      go_simp
      try with_reducible rfl
    try simp only [Act.put, List.setIfInBounds_toArray, List.set_cons_zero, List.set_cons_succ]
    refine wpAnyH_done (by kernel_rfl) ?_ _
    go_wp2
    go_ret
    exact ⟨rfl, g.out.trans (Gw1.out.mono (by have := g.out.size; omega))⟩
  · have hn : ¬ Rt x y := fun h => h0 (by have := h.1; simp; omega)
    have h0 : (x != 0) = false := by simpa using h0
    rw [decide_eq_false hn] at hbv
    subst hbv
    go_enter Tryz.func28, Tryz.ntmps28
    go_wp2_with fail
    generalize w.alloc (.cells #[.int .i64 x, .int .i64 y] 31) = w0 at *
    refine wp_region_held_drew (S := (fun w' => w'.cell? ⟨w.heap.size, 0, none⟩ = some (.int .i64 x) ∧ w'.cell? ⟨w.heap.size, 1, none⟩ = some (.int .i64 y))) (by kernel_rfl) ⟨HC.out.1, HC.out.2⟩ (fun hHeld => ?_)
    refine wpAnyH_take (i := 0) (oi := ⟨_, _, _, _, _, _⟩) (v := ?_) rfl (by kernel_rfl) (by kernel_rfl) (by kernel_rfl) (fun _ _ _ h => h) (Or.inl ⟨by rfl, ?_⟩) (by assumption) ?_
    rotate_left
    · intro wz hSw
      try dsimp only at hSw
      go_simp
      try with_reducible rfl
    try simp only [Act.put, List.setIfInBounds_toArray, List.set_cons_zero, List.set_cons_succ]
    refine wpAnyH_take (i := 1) (oi := ⟨_, _, _, _, _, _⟩) (v := ?_) rfl (by kernel_rfl) (by kernel_rfl) (by kernel_rfl) (fun _ _ _ h => h) (Or.inl ⟨by rfl, ?_⟩) (by assumption) ?_
    rotate_left
    · intro wz hSw
      try dsimp only at hSw
      go_simp
      try with_reducible rfl
    try simp only [Act.put, List.setIfInBounds_toArray, List.set_cons_zero, List.set_cons_succ]
    refine wpAnyH_take (i := 2) (oi := ⟨_, _, _, _, _, _⟩) (v := .bool false) rfl (by kernel_rfl) (by kernel_rfl) (by kernel_rfl) (fun _ _ _ h => h) (Or.inl ⟨by rfl, ?_⟩) (by assumption) ?_
    · intro wz hSw
      try dsimp only at hSw
      go_simp
    try simp only [Act.put, List.setIfInBounds_toArray, List.set_cons_zero, List.set_cons_succ]
    refine wpAnyH_take (i := 3) (oi := ⟨_, _, _, _, _, _⟩) (v := ?_) rfl (by kernel_rfl) (by kernel_rfl) (by kernel_rfl) (fun _ _ _ h => h) (Or.inl ⟨by rfl, ?_⟩) (by assumption) ?_
    rotate_left
    · intro wz hSw
      try dsimp only at hSw
      go_simp
      try with_reducible rfl
    try simp only [Act.put, List.setIfInBounds_toArray, List.set_cons_zero, List.set_cons_succ]
    refine wpAnyH_take (i := 4) (oi := ⟨_, _, _, _, _, _⟩) (v := undef) rfl (by kernel_rfl) (by kernel_rfl) (by kernel_rfl) (fun _ _ _ h => h) (Or.inr ⟨by rfl, rfl⟩) (by assumption) ?_
    try simp only [Act.put, List.setIfInBounds_toArray, List.set_cons_zero, List.set_cons_succ]
    refine wpAnyH_take (i := 5) (oi := ⟨_, _, _, _, _, _⟩) (v := undef) rfl (by kernel_rfl) (by kernel_rfl) (by kernel_rfl) (fun _ _ _ h => h) (Or.inr ⟨by rfl, rfl⟩) (by assumption) ?_
    try simp only [Act.put, List.setIfInBounds_toArray, List.set_cons_zero, List.set_cons_succ]
    refine wpAnyH_take (i := 6) (oi := ⟨_, _, _, _, _, _⟩) (v := undef) rfl (by kernel_rfl) (by kernel_rfl) (by kernel_rfl) (fun _ _ _ h => h) (Or.inr ⟨by rfl, rfl⟩) (by assumption) ?_
    try simp only [Act.put, List.setIfInBounds_toArray, List.set_cons_zero, List.set_cons_succ]
    refine wpAnyH_take (i := 7) (oi := ⟨_, _, _, _, _, _⟩) (v := undef) rfl (by kernel_rfl) (by kernel_rfl) (by kernel_rfl) (fun _ _ _ h => h) (Or.inr ⟨by rfl, rfl⟩) (by assumption) ?_
    try simp only [Act.put, List.setIfInBounds_toArray, List.set_cons_zero, List.set_cons_succ]
    refine wpAnyH_take (i := 8) (oi := ⟨_, _, _, _, _, _⟩) (v := undef) rfl (by kernel_rfl) (by kernel_rfl) (by kernel_rfl) (fun _ _ _ h => h) (Or.inr ⟨by rfl, rfl⟩) (by assumption) ?_
    try simp only [Act.put, List.setIfInBounds_toArray, List.set_cons_zero, List.set_cons_succ]
    refine wpAnyH_take (i := 9) (oi := ⟨_, _, _, _, _, _⟩) (v := ?_) rfl (by kernel_rfl) (by kernel_rfl) (by kernel_rfl) (fun _ _ _ h => h) (Or.inl ⟨by rfl, ?_⟩) (by assumption) ?_
    rotate_left
    · intro wz hSw
      try dsimp only at hSw
      go_simp
      try with_reducible rfl
    try simp only [Act.put, List.setIfInBounds_toArray, List.set_cons_zero, List.set_cons_succ]
    refine wpAnyH_take (i := 10) (oi := ⟨_, _, _, _, _, _⟩) (v := ?_) rfl (by kernel_rfl) (by kernel_rfl) (by kernel_rfl) (fun _ _ _ h => h) (Or.inl ⟨by rfl, ?_⟩) (by assumption) ?_
    rotate_left
    · intro wz hSw
      try dsimp only at hSw
      go_simp
      try with_reducible rfl
    try simp only [Act.put, List.setIfInBounds_toArray, List.set_cons_zero, List.set_cons_succ]
    refine wpAnyH_done (by kernel_rfl) ?_ _
    go_wp2
    go_ret
    exact ⟨rfl, g.out.drew⟩
end Sg
end Go.Proofs.YtojbicpchjiplaaGreatDoor.S5

/-
  Layer 5: Sign.
-/
namespace Go.Proofs.YtojbicpchjiplaaGreatDoor.S5
open Go.RowKit
namespace Sg
attribute [local go_sem] S3.B_size S3.B_app

set_option maxHeartbeats 4000000 in
set_option maxRecDepth 100000 in
theorem psign_ok (W : World) (hW : S3.Laid W) (x y : Int) (m : List UInt8) (ix : isI x) (iy : isI y) (hm : m.length ≤ 1000000) : Ok W 43 #[.agg #[.int .i64 x, .int .i64 y], .string (S3.B m)] (keyC (signV x y m)) := by
  intro w hb
  have k1 := fun W (_ : S3.Laid W) => pright_ok W x y ix
  have A := Lib.hid (((At.mk (W := W) hb (laid_below hW hb)).alloc (.cells #[.int .i64 x, .int .i64 y] 31)).alloc (.cells #[.int .i64 0, .int .i64 0] 27))
  have B0 := Lib.hid ((Blk.new w x y 31).alloc (.cells #[.int .i64 0, .int .i64 0] 27))
  have HA0 := Lib.hid (S3.alloc2_snd w #[.int .i64 x, .int .i64 y] #[.int .i64 0, .int .i64 0] 31 27)
  have HL : Hid (w.heap.size + 1 < ((w.alloc (.cells #[.int .i64 x, .int .i64 y] 31)).alloc (.cells #[.int .i64 0, .int .i64 0] 27)).heap.size) := Lib.hid (by simp)
  have hge : Hid (W.heap.size ≤ w.heap.size + 1) := Lib.hid (by have := hb.size; omega)
  have P := Lib.hid (Below.refl ((w.alloc (.cells #[.int .i64 x, .int .i64 y] 31)).alloc (.cells #[.int .i64 0, .int .i64 0] 27)).heap.size ((w.alloc (.cells #[.int .i64 x, .int .i64 y] 31)).alloc (.cells #[.int .i64 0, .int .i64 0] 27)))
  unfold keyC signV
  clear hb
  by_cases hr : Rt x y
  · rw [decide_eq_true hr] at k1
    rw [if_pos hr]
    unfold sigU
    have kA := fun W (_ : S3.Laid W) => text_ok W [110, 111, 110, 99, 101] (by decide)
    have kB := fun W (_ : S3.Laid W) => num_ok W x ix
    have kC := fun W (_ : S3.Laid W) => text_ok W m (by omega)
    have hlt := hash_lt (nonS x m)
    have kR := fun w => red_ok w (hash (nonS x m) : Nat) (by omega)
    rw [show (1 : Int) + ((hash (nonS x m) : Nat) : Int) % 2305843009213693949 = (non x m : Nat) by unfold non sec; omega] at kR
    have hu := sec_lt (nonS x m)
    rw [show sec (nonS x m) = non x m from rfl] at hu
    have hh : hash [tNonce, encZ x, S2.Cd.encT m].flatten = hash (nonS x m) := by
      congr 1
      simp [nonS]
    generalize hash (nonS x m) = h at kR hh
    obtain ⟨u, hud⟩ : ∃ u, u = non x m := ⟨_, rfl⟩
    rw [← hud] at kR hu ⊢
    have iu : isI (u : Int) := by unfold isI S4.isI64; omega
    have kE := fun W (_ : S3.Laid W) => exp_ok W 37 u (by unfold isI S4.isI64; omega) iu
    rw [show S4.powP 37 u = pub u from rfl] at kE
    have hp := pub_lt u
    have ip : isI (pub u : Nat) := by unfold isI S4.isI64; omega
    have kF : ∀ W : World, S3.Laid W → Ok W 68 #[.int .i64 (pub u : Nat), .int .i64 y, .string (S3.B m)] (.int .i64 (chal (pub u : Nat) y m : Nat)) := fun W hW w hb => (pchal_ok w (laid_below hW hb) (pub u : Nat) y m ip iy hm).mono fun _ _ h => ⟨h.1, hb.trans (h.2.mono hb.size)⟩
    have hcl := chal_lt (pub u : Nat) y m
    have kG := fun W (_ : S3.Laid W) => mulN_ok W (chal (pub u : Nat) y m : Nat) x (by unfold isI S4.isI64; omega) ix
    have kH := fun W (_ : S3.Laid W) => addN_ok W u ((chal (pub u : Nat) y m : Nat) * x % 2305843009213693950) iu (by unfold isI S4.isI64; omega)
    obtain ⟨s, hs⟩ : ∃ s, s = ((u : Int) + (chal (pub u : Nat) y m : Nat) * x % 2305843009213693950) % 2305843009213693950 := ⟨_, rfl⟩
    rw [← hs] at kH ⊢
    obtain ⟨p, hpd⟩ : ∃ p, p = ((chal (pub u : Nat) y m : Nat) : Int) * x % 2305843009213693950 := ⟨_, rfl⟩
    rw [← hpd] at kG kH
    obtain ⟨c, hc⟩ : ∃ c, c = chal (pub u : Nat) y m := ⟨_, rfl⟩
    rw [← hc] at kF kG ⊢
    generalize pub u = r at kE kF
    have l1 := tNonce_len
    have l2 := encZ_len x
    have l4 := encT_len m
    rw [show S2.Cd.encT [110, 111, 110, 99, 101] = tNonce from rfl] at kA
    generalize tNonce = a at kA hh l1
    generalize encZ x = b at kB hh l2
    generalize S2.Cd.encT m = f at kC hh l4
    have l1' : a.length ≤ 6 := by omega
    have l4' : f.length ≤ 1000009 := by omega
    have K1 := Lib.hid k1
    have KA := Lib.hid kA
    have KB := Lib.hid kB
    have KC := Lib.hid kC
    have KR := Lib.hid kR
    have KE := Lib.hid kE
    have KF := Lib.hid kF
    have KG := Lib.hid kG
    have KH := Lib.hid kH
    have HS := Lib.hid hh
    clear k1 kA kB kC kR kE kF kG kH l1 l4 hs hpd hc hp ip iu hud hu hr hm ix iy hW hlt hh hcl
    go_enter Tryz.func43, Tryz.ntmps43
    go_wp2_with fail
    generalize (w.alloc (.cells #[.int .i64 x, .int .i64 y] 31)).alloc (.cells #[.int .i64 0, .int .i64 0] 27) = w0 at *
    refine (K1.out _ A.out.laid _ (Below.refl _ _)).mono ?_
    rintro e w1 ⟨rfl, hb⟩
    replace A := Lib.hid (A.out.step hb)
    replace P := Lib.hid (P.out.trans (hb.mono P.out.size))
    replace B0 := Lib.hid (B0.out.step hb)
    clear hb
    go_wp2_with fail
    replace A := Lib.hid A.out.drew
    replace P := Lib.hid P.out.drew
    replace B0 := Lib.hid B0.out.drew
    refine wp_region_held_drew (S := (fun w' => w'.cell? ⟨w.heap.size, 0, none⟩ = some (.int .i64 x) ∧ w'.cell? ⟨w.heap.size, 1, none⟩ = some (.int .i64 y))) (by kernel_rfl) ⟨B0.out.c0, B0.out.c1⟩ (fun hHeld => ?_)
    refine wpAnyH_take (i := 1) (oi := ⟨_, _, _, _, _, _⟩) (v := ?_) rfl (by kernel_rfl) (by kernel_rfl) (by kernel_rfl) (fun _ _ _ h => h) (Or.inl ⟨by rfl, ?_⟩) (by assumption) ?_
    rotate_left
    · intro wz hSw
      try dsimp only at hSw
      go_simp
      try with_reducible rfl
    try simp only [Act.put, List.setIfInBounds_toArray, List.set_cons_zero, List.set_cons_succ]
    refine wpAnyH_take (i := 2) (oi := ⟨_, _, _, _, _, _⟩) (v := ?_) rfl (by kernel_rfl) (by kernel_rfl) (by kernel_rfl) (fun _ _ _ h => h) (Or.inl ⟨by rfl, ?_⟩) (by assumption) ?_
    rotate_left
    · intro wz hSw
      try dsimp only at hSw
      go_simp
      try with_reducible rfl
    try simp only [Act.put, List.setIfInBounds_toArray, List.set_cons_zero, List.set_cons_succ]
    refine wpAnyH_take (i := 4) (oi := ⟨_, _, _, _, _, _⟩) (v := ?_) rfl (by kernel_rfl) (by kernel_rfl) (by kernel_rfl) (fun _ _ _ h => h) (Or.inl ⟨by rfl, ?_⟩) (by assumption) ?_
    rotate_left
    · intro wz hSw
      try dsimp only at hSw
      go_simp
      try with_reducible rfl
    try simp only [Act.put, List.setIfInBounds_toArray, List.set_cons_zero, List.set_cons_succ]
    refine wpAnyH_ready (rs := [0]) (by kernel_rfl) (by simp) ?_
    refine AllReadyH.cons (o := ⟨_, _, _, _, _, _⟩) rfl (fun K hK => ?_) AllReadyH.nil
    go_simp
    refine (KA.out _ A.out.laid _ (Below.refl _ _)).mono ?_
    rintro e w2 ⟨rfl, hb⟩
    replace A := Lib.hid (A.out.step hb)
    replace P := Lib.hid (P.out.trans (hb.mono P.out.size))
    replace B0 := Lib.hid (B0.out.step hb)
    clear hb hHeld
    refine hK.out _ _ ⟨B0.out.c0, B0.out.c1⟩ (fun hHeld => ?_)
    clear hK K
    try simp only [Act.put, List.setIfInBounds_toArray, List.set_cons_zero, List.set_cons_succ]
    refine wpAnyH_ready (rs := [3]) (by kernel_rfl) (by simp) ?_
    refine AllReadyH.cons (o := ⟨_, _, _, _, _, _⟩) rfl (fun K hK => ?_) AllReadyH.nil
    go_simp
    refine (KB.out _ A.out.laid _ (Below.refl _ _)).mono ?_
    rintro e w3 ⟨rfl, hb⟩
    replace A := Lib.hid (A.out.step hb)
    replace P := Lib.hid (P.out.trans (hb.mono P.out.size))
    replace B0 := Lib.hid (B0.out.step hb)
    clear hb hHeld
    refine hK.out _ _ ⟨B0.out.c0, B0.out.c1⟩ (fun hHeld => ?_)
    clear hK K
    try simp only [Act.put, List.setIfInBounds_toArray, List.set_cons_zero, List.set_cons_succ]
    refine wpAnyH_ready (rs := [5]) (by kernel_rfl) (by simp) ?_
    refine AllReadyH.cons (o := ⟨_, _, _, _, _, _⟩) rfl (fun K hK => ?_) AllReadyH.nil
    go_simp
    refine (KC.out _ A.out.laid _ (Below.refl _ _)).mono ?_
    rintro e w4 ⟨rfl, hb⟩
    replace A := Lib.hid (A.out.step hb)
    replace P := Lib.hid (P.out.trans (hb.mono P.out.size))
    replace B0 := Lib.hid (B0.out.step hb)
    clear hb hHeld
    refine hK.out _ _ ⟨B0.out.c0, B0.out.c1⟩ (fun hHeld => ?_)
    clear hK K
    try simp only [Act.put, List.setIfInBounds_toArray, List.set_cons_zero, List.set_cons_succ]
    refine wpAnyH_ready (rs := [6]) (by kernel_rfl) (by simp) ?_
    refine AllReadyH.cons (o := ⟨_, _, _, _, _, _⟩) rfl (fun K hK => ?_) AllReadyH.nil
    go_simp
    have hrow := strs_row w4 [a, b, f]
    replace A := Lib.hid (A.out.alloc (.cells #[.string (S3.B a), .string (S3.B b), .string (S3.B f)] 9))
    replace P := Lib.hid (P.out.alloc P.out.size (.cells #[.string (S3.B a), .string (S3.B b), .string (S3.B f)] 9))
    replace B0 := Lib.hid (B0.out.alloc (.cells #[.string (S3.B a), .string (S3.B b), .string (S3.B f)] 9))
    clear hHeld
    refine hK.out _ _ ⟨B0.out.c0, B0.out.c1⟩ (fun hHeld => ?_)
    clear hK K
    try simp only [Act.put, List.setIfInBounds_toArray, List.set_cons_zero, List.set_cons_succ]
    refine wpAnyH_ready (rs := [7]) (by kernel_rfl) (by simp) ?_
    refine AllReadyH.cons (o := ⟨_, _, _, _, _, _⟩) rfl (fun K hK => ?_) AllReadyH.nil
    go_simp
    refine (phash_any w4.heap.size 3 [a, b, f] (w4.alloc (.cells #[.string (S3.B a), .string (S3.B b), .string (S3.B f)] 9)) A.out.laid hrow (by simp) (by simp) (by simp) (by simp; omega)).mono ?_
    rw [HS.out]
    rintro e w5 ⟨rfl, hb⟩
    replace A := Lib.hid (A.out.step hb)
    replace P := Lib.hid (P.out.trans (hb.mono P.out.size))
    replace B0 := Lib.hid (B0.out.step hb)
    clear hb hHeld hrow
    refine hK.out _ _ ⟨B0.out.c0, B0.out.c1⟩ (fun hHeld => ?_)
    clear hK K
    try simp only [Act.put, List.setIfInBounds_toArray, List.set_cons_zero, List.set_cons_succ]
    refine wpAnyH_ready (rs := [8]) (by kernel_rfl) (by simp) ?_
    refine AllReadyH.cons (o := ⟨_, _, _, _, _, _⟩) rfl (fun K hK => ?_) AllReadyH.nil
    go_simp
    refine (KR.out _).mono ?_
    rintro e v ⟨rfl, rfl⟩
    clear hHeld
    refine hK.out _ _ ⟨B0.out.c0, B0.out.c1⟩ (fun hHeld => ?_)
    clear hK K
    try simp only [Act.put, List.setIfInBounds_toArray, List.set_cons_zero, List.set_cons_succ]
    refine wpAnyH_take (i := 9) (oi := ⟨_, _, _, _, _, _⟩) (v := ?_) rfl (by kernel_rfl) (by kernel_rfl) (by kernel_rfl) (fun _ _ _ h => h) (Or.inl ⟨by rfl, ?_⟩) (by assumption) ?_
    rotate_left
    · intro wz hSw
      try dsimp only at hSw
      go_simp
      try with_reducible rfl
    try simp only [Act.put, List.setIfInBounds_toArray, List.set_cons_zero, List.set_cons_succ]
    refine wpAnyH_done (by kernel_rfl) ?_ _
    clear hHeld
    go_wp2_with fail
    replace A := Lib.hid A.out.drew
    replace P := Lib.hid P.out.drew
    replace B0 := Lib.hid B0.out.drew
    refine wp_region_held_drew (S := (fun w' => w'.cell? ⟨w.heap.size, 0, none⟩ = some (.int .i64 x) ∧ w'.cell? ⟨w.heap.size, 1, none⟩ = some (.int .i64 y))) (by kernel_rfl) ⟨B0.out.c0, B0.out.c1⟩ (fun hHeld => ?_)
    refine wpAnyH_take (i := 0) (oi := ⟨_, _, _, _, _, _⟩) (v := ?_) rfl (by kernel_rfl) (by kernel_rfl) (by kernel_rfl) (fun _ _ _ h => h) (Or.inl ⟨by rfl, ?_⟩) (by assumption) ?_
    rotate_left
    · intro wz hSw
      try dsimp only at hSw
      go_simp
      try with_reducible rfl
    try simp only [Act.put, List.setIfInBounds_toArray, List.set_cons_zero, List.set_cons_succ]
    refine wpAnyH_take (i := 2) (oi := ⟨_, _, _, _, _, _⟩) (v := ?_) rfl (by kernel_rfl) (by kernel_rfl) (by kernel_rfl) (fun _ _ _ h => h) (Or.inl ⟨by rfl, ?_⟩) (by assumption) ?_
    rotate_left
    · intro wz hSw
      try dsimp only at hSw
      go_simp
      try with_reducible rfl
    try simp only [Act.put, List.setIfInBounds_toArray, List.set_cons_zero, List.set_cons_succ]
    refine wpAnyH_take (i := 3) (oi := ⟨_, _, _, _, _, _⟩) (v := ?_) rfl (by kernel_rfl) (by kernel_rfl) (by kernel_rfl) (fun _ _ _ h => h) (Or.inl ⟨by rfl, ?_⟩) (by assumption) ?_
    rotate_left
    · intro wz hSw
      try dsimp only at hSw
      go_simp
      try with_reducible rfl
    try simp only [Act.put, List.setIfInBounds_toArray, List.set_cons_zero, List.set_cons_succ]
    refine wpAnyH_take (i := 4) (oi := ⟨_, _, _, _, _, _⟩) (v := ?_) rfl (by kernel_rfl) (by kernel_rfl) (by kernel_rfl) (fun _ _ _ h => h) (Or.inl ⟨by rfl, ?_⟩) (by assumption) ?_
    rotate_left
    · intro wz hSw
      try dsimp only at hSw
      go_simp
      try with_reducible rfl
    try simp only [Act.put, List.setIfInBounds_toArray, List.set_cons_zero, List.set_cons_succ]
    refine wpAnyH_ready (rs := [1]) (by kernel_rfl) (by simp) ?_
    refine AllReadyH.cons (o := ⟨_, _, _, _, _, _⟩) rfl (fun K hK => ?_) AllReadyH.nil
    go_simp
    refine (KE.out _ A.out.laid _ (Below.refl _ _)).mono ?_
    rintro e w6 ⟨rfl, hb⟩
    replace A := Lib.hid (A.out.step hb)
    replace P := Lib.hid (P.out.trans (hb.mono P.out.size))
    replace B0 := Lib.hid (B0.out.step hb)
    clear hb hHeld
    refine hK.out _ _ ⟨B0.out.c0, B0.out.c1⟩ (fun hHeld => ?_)
    clear hK K
    try simp only [Act.put, List.setIfInBounds_toArray, List.set_cons_zero, List.set_cons_succ]
    refine wpAnyH_ready (rs := [5]) (by kernel_rfl) (by simp) ?_
    refine AllReadyH.cons (o := ⟨_, _, _, _, _, _⟩) rfl (fun K hK => ?_) AllReadyH.nil
    go_simp
    refine (KF.out _ A.out.laid _ (Below.refl _ _)).mono ?_
    rintro e w7 ⟨rfl, hb⟩
    replace A := Lib.hid (A.out.step hb)
    replace P := Lib.hid (P.out.trans (hb.mono P.out.size))
    replace B0 := Lib.hid (B0.out.step hb)
    clear hb hHeld
    refine hK.out _ _ ⟨B0.out.c0, B0.out.c1⟩ (fun hHeld => ?_)
    clear hK K
    try simp only [Act.put, List.setIfInBounds_toArray, List.set_cons_zero, List.set_cons_succ]
    refine wpAnyH_take (i := 6) (oi := ⟨_, _, _, _, _, _⟩) (v := ?_) rfl (by kernel_rfl) (by kernel_rfl) (by kernel_rfl) (fun _ _ _ h => h) (Or.inl ⟨by rfl, ?_⟩) (by assumption) ?_
    rotate_left
    · intro wz hSw
      try dsimp only at hSw
      go_simp
      try with_reducible rfl
    try simp only [Act.put, List.setIfInBounds_toArray, List.set_cons_zero, List.set_cons_succ]
    refine wpAnyH_done (by kernel_rfl) ?_ _
    clear hHeld
    have cB00 := B0.out.c0
    have cB01 := B0.out.c1
    go_wp2_with fail
    clear cB00 cB01
    refine (KG.out _ A.out.laid _ (Below.refl _ _)).mono ?_
    rintro e w8 ⟨rfl, hb⟩
    replace A := Lib.hid (A.out.step hb)
    replace P := Lib.hid (P.out.trans (hb.mono P.out.size))
    replace B0 := Lib.hid (B0.out.step hb)
    clear hb
    go_wp2_with fail
    refine (KH.out _ A.out.laid _ (Below.refl _ _)).mono ?_
    rintro e w9 ⟨rfl, hb⟩
    replace A := Lib.hid (A.out.step hb)
    replace P := Lib.hid (P.out.trans (hb.mono P.out.size))
    replace B0 := Lib.hid (B0.out.step hb)
    clear hb
    have HA := Lib.hid ((P.out.block _ HL.out).trans HA0.out)
    go_wp2_with (refine S3.wpList_store_row rfl 27 _ _ rfl (w.heap.size + 1) _ rfl rfl 27 _ HA.out (infoSig _ _) rfl (by simp [Value.oneCell']) ?_)
    exact bodyPost_ret (v := .agg #[.int .i64 c, .int .i64 s]) (results_cell_row Tryz.results43 _ _ (w.heap.size + 1) 27 _ (0, 0) _ rfl (setRow_heap _ _ _ _ _ _ HA.out) Tryz.underlying27 rfl (infoSig _ _)) rfl
      ⟨rfl, below_setRow A.out.bel _ hge.out _⟩
  · rw [decide_eq_false hr] at k1
    rw [if_neg hr]
    have K1 := Lib.hid k1
    clear k1 ix iy hm hr hW
    go_enter Tryz.func43, Tryz.ntmps43
    go_wp2_with fail
    generalize (w.alloc (.cells #[.int .i64 x, .int .i64 y] 31)).alloc (.cells #[.int .i64 0, .int .i64 0] 27) = w0 at *
    refine (K1.out _ A.out.laid _ (Below.refl _ _)).mono ?_
    rintro e w1 ⟨rfl, hb⟩
    replace A := Lib.hid (A.out.step hb)
    replace P := Lib.hid (P.out.trans (hb.mono P.out.size))
    replace B0 := Lib.hid (B0.out.step hb)
    clear hb
    have HA := Lib.hid ((P.out.block _ HL.out).trans HA0.out)
    go_wp2_with (refine S3.wpList_store_row rfl 27 _ _ rfl (w.heap.size + 1) _ rfl rfl 27 _ HA.out (infoSig _ _) rfl (by simp [Value.oneCell']) ?_)
    exact bodyPost_ret (v := .agg #[.int .i64 0, .int .i64 0]) (results_cell_row Tryz.results43 _ _ (w.heap.size + 1) 27 _ (0, 0) _ rfl (setRow_heap _ _ _ _ _ _ HA.out) Tryz.underlying27 rfl (infoSig _ _)) rfl
      ⟨rfl, below_setRow A.out.bel _ hge.out _⟩
end Sg
end Go.Proofs.YtojbicpchjiplaaGreatDoor.S5

/-
  Layer 5: Verify.
-/
namespace Go.Proofs.YtojbicpchjiplaaGreatDoor.S5
open Go.RowKit
namespace Sg
attribute [local go_sem] S3.B_size S3.B_app

set_option maxHeartbeats 4000000 in
set_option maxRecDepth 100000 in
theorem pver_ok (W : World) (hW : S3.Laid W) (y E S : Int) (m : List UInt8) (iy : isI y) (hm : m.length ≤ 1000000) : Ok W 27 #[.int .i64 y, .string (S3.B m), .agg #[.int .i64 E, .int .i64 S]] (.bool (verV y m E S)) := by
  intro w hb
  have A := Lib.hid ((At.mk (W := W) hb (laid_below hW hb)).alloc (.cells #[.int .i64 E, .int .i64 S] 27))
  have B0 := Lib.hid (Blk.new w E S 27)
  have hve := fun h => (verV_eq y E S m h).trans Bool.beq_comm
  have hno : ¬ Rg y E S → verV y m E S = false := fun h => decide_eq_false (fun x => h x.1)
  obtain ⟨b, hbv⟩ : ∃ b, b = verV y m E S := ⟨_, rfl⟩
  rw [← hbv] at hve hno ⊢
  clear hb
  by_cases h0 : y < 1
  · obtain rfl := hno (fun h => by obtain ⟨_, _, _, _, _, _⟩ := h; omega)
    clear hve hno hbv iy hm hW
    go_enter Tryz.func27, Tryz.ntmps27
    go_wp2
    go_ret
    exact ⟨rfl, A.out.bel⟩
  by_cases h1 : 2305843009213693951 ≤ y
  · obtain rfl := hno (fun h => by obtain ⟨_, _, _, _, _, _⟩ := h; omega)
    clear hve hno hbv iy hm hW
    go_enter Tryz.func27, Tryz.ntmps27
    go_wp2
    go_ret
    exact ⟨rfl, A.out.bel⟩
  by_cases h2 : E < 0
  · obtain rfl := hno (fun h => by obtain ⟨_, _, _, _, _, _⟩ := h; omega)
    clear hve hno hbv iy hm hW
    go_enter Tryz.func27, Tryz.ntmps27
    go_wp2
    go_ret
    exact ⟨rfl, A.out.bel⟩
  by_cases h3 : 2305843009213693950 ≤ E
  · obtain rfl := hno (fun h => by obtain ⟨_, _, _, _, _, _⟩ := h; omega)
    clear hve hno hbv iy hm hW
    go_enter Tryz.func27, Tryz.ntmps27
    go_wp2
    go_ret
    exact ⟨rfl, A.out.bel⟩
  by_cases h4 : S < 0
  · obtain rfl := hno (fun h => by obtain ⟨_, _, _, _, _, _⟩ := h; omega)
    clear hve hno hbv iy hm hW
    go_enter Tryz.func27, Tryz.ntmps27
    go_wp2
    go_ret
    exact ⟨rfl, A.out.bel⟩
  by_cases h5 : 2305843009213693950 ≤ S
  · obtain rfl := hno (fun h => by obtain ⟨_, _, _, _, _, _⟩ := h; omega)
    clear hve hno hbv iy hm hW
    go_enter Tryz.func27, Tryz.ntmps27
    go_wp2
    go_ret
    exact ⟨rfl, A.out.bel⟩
  have hr : Rg y E S := ⟨by omega, by omega, by omega, by omega, by omega, by omega⟩
  have hbe := hve hr
  have k1 := fun W (_ : S3.Laid W) => exp_ok W 37 S (by unfold isI S4.isI64; omega) (by unfold isI S4.isI64; omega)
  have k2 := fun W (_ : S3.Laid W) => exp_ok W y (2305843009213693950 - E) iy (by unfold isI S4.isI64; omega)
  have hp1 := S4.powP_lt 37 S
  have hp2 := S4.powP_lt y (2305843009213693950 - E)
  have k3 := fun W (_ : S3.Laid W) => mul_ok W (S4.powP 37 S : Nat) (S4.powP y (2305843009213693950 - E) : Nat) (by unfold isI S4.isI64; omega) (by unfold isI S4.isI64; omega)
  rw [show ((S4.powP 37 S : Nat) : Int) * (S4.powP y (2305843009213693950 - E) : Nat) % 2305843009213693951 = comm y E S from rfl] at k3
  have hc := comm_in y E S
  have k4 : ∀ W : World, S3.Laid W → Ok W 68 #[.int .i64 (comm y E S), .int .i64 y, .string (S3.B m)] (.int .i64 (chal (comm y E S) y m : Nat)) := fun W hW w hb => (pchal_ok w (laid_below hW hb) (comm y E S) y m (by unfold isI S4.isI64; omega) iy hm).mono fun _ _ h => ⟨h.1, hb.trans (h.2.mono hb.size)⟩
  generalize chal (comm y E S) y m = c at k4 hbe
  generalize comm y E S = q at k3 k4
  generalize S4.powP 37 S = p1 at k1 k3
  have e1 : IntKind.i64.wrap (2305843009213693950 - E) = 2305843009213693950 - E := IntWalk.i64_in _ (by omega)
  generalize S4.powP y (2305843009213693950 - E) = p2 at k2 k3
  obtain ⟨n, hn⟩ : ∃ n, n = 2305843009213693950 - E := ⟨_, rfl⟩
  rw [← hn] at k2
  have e2 : IntKind.i64.wrap (2305843009213693950 - E) = n := by rw [e1, hn]
  have K1 := Lib.hid k1
  have K2 := Lib.hid k2
  have K3 := Lib.hid k3
  have K4 := Lib.hid k4
  have HB := Lib.hid hbe
  clear k1 k2 k3 k4 hbe hve hno hbv hc hn e1 iy hm hW hr hp1 hp2
  go_enter Tryz.func27, Tryz.ntmps27
  go_wp2_with fail
  generalize w.alloc (.cells #[.int .i64 E, .int .i64 S] 27) = w0 at *
  replace A := Lib.hid A.out.drew
  replace B0 := Lib.hid B0.out.drew
  refine wp_region_held_drew (S := (fun w' => w'.cell? ⟨w.heap.size, 0, none⟩ = some (.int .i64 E) ∧ w'.cell? ⟨w.heap.size, 1, none⟩ = some (.int .i64 S))) (by kernel_rfl) ⟨B0.out.c0, B0.out.c1⟩ (fun hHeld => ?_)
  refine wpAnyH_take (i := 0) (oi := ⟨_, _, _, _, _, _⟩) (v := ?_) rfl (by kernel_rfl) (by kernel_rfl) (by kernel_rfl) (fun _ _ _ h => h) (Or.inl ⟨by rfl, ?_⟩) (by assumption) ?_
  rotate_left
  · intro wz hSw
    try dsimp only at hSw
    go_simp
    try with_reducible rfl
  try simp only [Act.put, List.setIfInBounds_toArray, List.set_cons_zero, List.set_cons_succ]
  refine wpAnyH_take (i := 1) (oi := ⟨_, _, _, _, _, _⟩) (v := ?_) rfl (by kernel_rfl) (by kernel_rfl) (by kernel_rfl) (fun _ _ _ h => h) (Or.inl ⟨by rfl, ?_⟩) (by assumption) ?_
  rotate_left
  · intro wz hSw
    try dsimp only at hSw
    go_simp
    try with_reducible rfl
  try simp only [Act.put, List.setIfInBounds_toArray, List.set_cons_zero, List.set_cons_succ]
  refine wpAnyH_take (i := 3) (oi := ⟨_, _, _, _, _, _⟩) (v := ?_) rfl (by kernel_rfl) (by kernel_rfl) (by kernel_rfl) (fun _ _ _ h => h) (Or.inl ⟨by rfl, ?_⟩) (by assumption) ?_
  rotate_left
  · intro wz hSw
    try dsimp only at hSw
    go_simp
    try with_reducible rfl
  try simp only [Act.put, List.setIfInBounds_toArray, List.set_cons_zero, List.set_cons_succ]
  refine wpAnyH_take (i := 4) (oi := ⟨_, _, _, _, _, _⟩) (v := ?_) rfl (by kernel_rfl) (by kernel_rfl) (by kernel_rfl) (fun _ _ _ h => h) (Or.inl ⟨by rfl, ?_⟩) (by assumption) ?_
  rotate_left
  · intro wz hSw
    try dsimp only at hSw
    go_simp
    try with_reducible rfl
  try simp only [Act.put, List.setIfInBounds_toArray, List.set_cons_zero, List.set_cons_succ]
  refine wpAnyH_take (i := 5) (oi := ⟨_, _, _, _, _, _⟩) (v := ?_) rfl (by kernel_rfl) (by kernel_rfl) (by kernel_rfl) (fun _ _ _ h => h) (Or.inl ⟨by rfl, ?_⟩) (by assumption) ?_
  rotate_left
  · intro wz hSw
    try dsimp only at hSw
    go_simp
    try with_reducible rfl
  try simp only [Act.put, List.setIfInBounds_toArray, List.set_cons_zero, List.set_cons_succ]
  refine wpAnyH_take (i := 6) (oi := ⟨_, _, _, _, _, _⟩) (v := ?_) rfl (by kernel_rfl) (by kernel_rfl) (by kernel_rfl) (fun _ _ _ h => h) (Or.inl ⟨by rfl, ?_⟩) (by assumption) ?_
  rotate_left
  · intro wz hSw
    try dsimp only at hSw
    go_simp
    try with_reducible rfl
  try simp only [Act.put, List.setIfInBounds_toArray, List.set_cons_zero, List.set_cons_succ]
  refine wpAnyH_ready (rs := [2]) (by kernel_rfl) (by simp) ?_
  refine AllReadyH.cons (o := ⟨_, _, _, _, _, _⟩) rfl (fun K hK => ?_) AllReadyH.nil
  go_simp
  refine (K1.out _ A.out.laid _ (Below.refl _ _)).mono ?_
  rintro e w1 ⟨rfl, hb⟩
  replace A := Lib.hid (A.out.step hb)
  replace B0 := Lib.hid (B0.out.step hb)
  clear hb hHeld
  refine hK.out _ _ ⟨B0.out.c0, B0.out.c1⟩ (fun hHeld => ?_)
  clear hK K
  try simp only [Act.put, List.setIfInBounds_toArray, List.set_cons_zero, List.set_cons_succ]
  refine wpAnyH_ready (rs := [7]) (by kernel_rfl) (by simp) ?_
  refine AllReadyH.cons (o := ⟨_, _, _, _, _, _⟩) rfl (fun K hK => ?_) AllReadyH.nil
  go_simp
  refine (K2.out _ A.out.laid _ (Below.refl _ _)).mono ?_
  rintro e w2 ⟨rfl, hb⟩
  replace A := Lib.hid (A.out.step hb)
  replace B0 := Lib.hid (B0.out.step hb)
  clear hb hHeld
  refine hK.out _ _ ⟨B0.out.c0, B0.out.c1⟩ (fun hHeld => ?_)
  clear hK K
  try simp only [Act.put, List.setIfInBounds_toArray, List.set_cons_zero, List.set_cons_succ]
  refine wpAnyH_ready (rs := [8]) (by kernel_rfl) (by simp) ?_
  refine AllReadyH.cons (o := ⟨_, _, _, _, _, _⟩) rfl (fun K hK => ?_) AllReadyH.nil
  go_simp
  refine (K3.out _ A.out.laid _ (Below.refl _ _)).mono ?_
  rintro e w3 ⟨rfl, hb⟩
  replace A := Lib.hid (A.out.step hb)
  replace B0 := Lib.hid (B0.out.step hb)
  clear hb hHeld
  refine hK.out _ _ ⟨B0.out.c0, B0.out.c1⟩ (fun hHeld => ?_)
  clear hK K
  try simp only [Act.put, List.setIfInBounds_toArray, List.set_cons_zero, List.set_cons_succ]
  refine wpAnyH_take (i := 9) (oi := ⟨_, _, _, _, _, _⟩) (v := ?_) rfl (by kernel_rfl) (by kernel_rfl) (by kernel_rfl) (fun _ _ _ h => h) (Or.inl ⟨by rfl, ?_⟩) (by assumption) ?_
  rotate_left
  · intro wz hSw
    try dsimp only at hSw
    go_simp
    try with_reducible rfl
  try simp only [Act.put, List.setIfInBounds_toArray, List.set_cons_zero, List.set_cons_succ]
  refine wpAnyH_done (by kernel_rfl) ?_ _
  clear hHeld
  go_wp2_with fail
  replace A := Lib.hid A.out.drew
  replace B0 := Lib.hid B0.out.drew
  refine wp_region_held_drew (S := (fun w' => w'.cell? ⟨w.heap.size, 0, none⟩ = some (.int .i64 E) ∧ w'.cell? ⟨w.heap.size, 1, none⟩ = some (.int .i64 S))) (by kernel_rfl) ⟨B0.out.c0, B0.out.c1⟩ (fun hHeld => ?_)
  refine wpAnyH_take (i := 0) (oi := ⟨_, _, _, _, _, _⟩) (v := ?_) rfl (by kernel_rfl) (by kernel_rfl) (by kernel_rfl) (fun _ _ _ h => h) (Or.inl ⟨by rfl, ?_⟩) (by assumption) ?_
  rotate_left
  · intro wz hSw
    try dsimp only at hSw
    go_simp
    try with_reducible rfl
  try simp only [Act.put, List.setIfInBounds_toArray, List.set_cons_zero, List.set_cons_succ]
  refine wpAnyH_take (i := 1) (oi := ⟨_, _, _, _, _, _⟩) (v := ?_) rfl (by kernel_rfl) (by kernel_rfl) (by kernel_rfl) (fun _ _ _ h => h) (Or.inl ⟨by rfl, ?_⟩) (by assumption) ?_
  rotate_left
  · intro wz hSw
    try dsimp only at hSw
    go_simp
    try with_reducible rfl
  try simp only [Act.put, List.setIfInBounds_toArray, List.set_cons_zero, List.set_cons_succ]
  refine wpAnyH_take (i := 2) (oi := ⟨_, _, _, _, _, _⟩) (v := ?_) rfl (by kernel_rfl) (by kernel_rfl) (by kernel_rfl) (fun _ _ _ h => h) (Or.inl ⟨by rfl, ?_⟩) (by assumption) ?_
  rotate_left
  · intro wz hSw
    try dsimp only at hSw
    go_simp
    try with_reducible rfl
  try simp only [Act.put, List.setIfInBounds_toArray, List.set_cons_zero, List.set_cons_succ]
  refine wpAnyH_take (i := 3) (oi := ⟨_, _, _, _, _, _⟩) (v := ?_) rfl (by kernel_rfl) (by kernel_rfl) (by kernel_rfl) (fun _ _ _ h => h) (Or.inl ⟨by rfl, ?_⟩) (by assumption) ?_
  rotate_left
  · intro wz hSw
    try dsimp only at hSw
    go_simp
    try with_reducible rfl
  try simp only [Act.put, List.setIfInBounds_toArray, List.set_cons_zero, List.set_cons_succ]
  refine wpAnyH_take (i := 4) (oi := ⟨_, _, _, _, _, _⟩) (v := ?_) rfl (by kernel_rfl) (by kernel_rfl) (by kernel_rfl) (fun _ _ _ h => h) (Or.inl ⟨by rfl, ?_⟩) (by assumption) ?_
  rotate_left
  · intro wz hSw
    try dsimp only at hSw
    go_simp
    try with_reducible rfl
  try simp only [Act.put, List.setIfInBounds_toArray, List.set_cons_zero, List.set_cons_succ]
  refine wpAnyH_ready (rs := [5]) (by kernel_rfl) (by simp) ?_
  refine AllReadyH.cons (o := ⟨_, _, _, _, _, _⟩) rfl (fun K hK => ?_) AllReadyH.nil
  go_simp
  refine (K4.out _ A.out.laid _ (Below.refl _ _)).mono ?_
  rintro e w4 ⟨rfl, hb⟩
  replace A := Lib.hid (A.out.step hb)
  replace B0 := Lib.hid (B0.out.step hb)
  clear hb hHeld
  refine hK.out _ _ ⟨B0.out.c0, B0.out.c1⟩ (fun hHeld => ?_)
  clear hK K
  try simp only [Act.put, List.setIfInBounds_toArray, List.set_cons_zero, List.set_cons_succ]
  refine wpAnyH_take (i := 6) (oi := ⟨_, _, _, _, _, _⟩) (v := .bool b) rfl (by kernel_rfl) (by kernel_rfl) (by kernel_rfl) (fun _ _ _ h => h) (Or.inl ⟨by rfl, ?_⟩) (by assumption) ?_
  · intro wz hSw
    try dsimp only at hSw
    go_simp
    rw [HB.out]
  try simp only [Act.put, List.setIfInBounds_toArray, List.set_cons_zero, List.set_cons_succ]
  refine wpAnyH_take (i := 7) (oi := ⟨_, _, _, _, _, _⟩) (v := ?_) rfl (by kernel_rfl) (by kernel_rfl) (by kernel_rfl) (fun _ _ _ h => h) (Or.inl ⟨by rfl, ?_⟩) (by assumption) ?_
  rotate_left
  · intro wz hSw
    try dsimp only at hSw
    go_simp
    try with_reducible rfl
  try simp only [Act.put, List.setIfInBounds_toArray, List.set_cons_zero, List.set_cons_succ]
  refine wpAnyH_done (by kernel_rfl) ?_ _
  clear hHeld
  go_wp2
  go_ret
  exact ⟨rfl, A.out.bel⟩
end Sg
end Go.Proofs.YtojbicpchjiplaaGreatDoor.S5

/-
  Layer 5: the premise of the laws.
-/
namespace Go.Proofs.YtojbicpchjiplaaGreatDoor.S5
open Go.RowKit
namespace Sg
attribute [local go_sem] S3.B_size S3.B_app

end Sg
end Go.Proofs.YtojbicpchjiplaaGreatDoor.S5
