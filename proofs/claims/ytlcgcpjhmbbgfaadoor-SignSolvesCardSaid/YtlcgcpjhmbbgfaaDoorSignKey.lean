/-
  Layer 5: reduce, Of, Key.
-/
import Derived.Test.YtlcgcpjhmbbgfaaDoorSignChal
namespace Go.Proofs.YtlcgcpjhmbbgfaaDoor
open Go.RowKit
namespace Sg
attribute [local go_sem] S3.B_size S3.B_app


set_option maxHeartbeats 4000000 in
set_option maxRecDepth 100000 in
theorem red_ok (W : World) (h : Int) (h0 : 0 ≤ h) : Calls Tryd.prog 28 #[.int .i64 h] W fun e w' => e = .returned (.int .i64 (1 + h % 2305843009213693949)) ∧ w' = W := by
  obtain ⟨r, hr⟩ : ∃ r, r = h % 2305843009213693949 := ⟨_, rfl⟩
  have e1 : h.tmod 2305843009213693949 = r := by rw [Int.tmod_eq_emod_of_nonneg h0]; exact hr.symm
  have e0 : h % 2305843009213693949 = r := hr.symm
  have e2 : IntKind.i64.wrap (1 + r) = 1 + r := IntWalk.i64_in _ (by omega)
  rw [← hr]
  clear hr h0
  go_enter Tryd.func28, Tryd.ntmps28
  go_wp2
  go_ret
  exact ⟨rfl, rfl⟩

set_option maxHeartbeats 4000000 in
set_option maxRecDepth 100000 in
theorem pof_ok (W : World) (x : Int) (ix : isI x) : Ok W 12 #[.int .i64 x] (keyC (ofV x)) := by
  intro w hb
  have k1 := fun W => exp_ok W 37 x (by unfold isI S4.isI64; omega) ix
  rw [show S4.powP 37 x = pub x from rfl] at k1
  have hA0 : (w.alloc (.cells #[.int .i64 0, .int .i64 0] 23)).heap[w.heap.size]? = some (.cells #[.int .i64 0, .int .i64 0] 23 (0, 0)) := heap_alloc_last _ _
  have hlt : w.heap.size < (w.alloc (.cells #[.int .i64 0, .int .i64 0] 23)).heap.size := by simp
  have hge := Lib.hid hb.size
  have hb0 := Lib.hid (hb.alloc hb.size (.cells #[.int .i64 0, .int .i64 0] 23))
  unfold keyC
  by_cases h1 : x < 1
  · rw [ofV_out (fun h => by omega)]
    clear k1 ix
    go_enter Tryd.func12, Tryd.ntmps12
    go_wp2
    go_returns
    exact ⟨rfl, hb0.out⟩
  · by_cases h2 : x < 2305843009213693950
    · rw [ofV_in (by omega) (by omega)]
      generalize pub x = y at k1 ⊢
      have K1 := Lib.hid k1
      have HL := Lib.hid hlt
      have HA0 := Lib.hid hA0
      clear k1 ix hb hA0 hlt
      go_enter Tryd.func12, Tryd.ntmps12
      go_wp2_with fail
      generalize w.alloc (.cells #[.int .i64 0, .int .i64 0] 23) = w0 at *
      refine (K1.out w0 _ (Below.refl _ _)).mono ?_
      rintro e w1 ⟨rfl, h3⟩
      have HA := Lib.hid ((h3.block _ HL.out).trans HA0.out)
      have HB := Lib.hid (hb0.out.trans (h3.mono (by have := hb0.out.size; omega)))
      clear h3
      go_wp2_with (refine S3.wpList_store_row rfl 23 _ _ rfl w.heap.size _ rfl rfl 23 _ HA.out (infoKey _ _) rfl (by simp [Value.oneCell']) ?_)
      exact bodyPost_ret (v := .agg #[.int .i64 x, .int .i64 (y : Nat)]) (results_cell_row Tryd.results12 _ _ w.heap.size 23 _ (0, 0) _ rfl (setRow_heap _ _ _ _ _ _ HA.out) Tryd.underlying23 rfl (infoKey _ _)) rfl
        ⟨rfl, below_setRow HB.out _ hge.out _⟩
    · rw [ofV_out (fun h => by omega)]
      clear k1 ix
      go_enter Tryd.func12, Tryd.ntmps12
      go_wp2
      go_returns
      exact ⟨rfl, hb0.out⟩

set_option maxHeartbeats 4000000 in
set_option maxRecDepth 100000 in
theorem pkey_ok (W : World) (hW : S3.Laid W) (s : List UInt8) (hs : s.length ≤ 2000) : Ok W 11 #[.string (S3.B s)] (keyC (keyV s)) := by
  intro w hb
  have k1 := fun W (_ : S3.Laid W) => text_ok W [107, 101, 121] (by decide)
  have k2 := fun W (_ : S3.Laid W) => text_ok W s (by omega)
  have hlt := hash_lt (keyS s)
  have k4 := fun w => red_ok w (hash (keyS s) : Nat) (by omega)
  rw [show (1 : Int) + ((hash (keyS s) : Nat) : Int) % 2305843009213693949 = (sec (keyS s) : Nat) by unfold sec; omega] at k4
  have hsec := sec_lt (keyS s)
  have k5 := fun W (_ : S3.Laid W) => pof_ok W (sec (keyS s) : Nat) (by unfold isI S4.isI64; omega)
  rw [show ofV (sec (keyS s) : Nat) = keyV s from rfl] at k5
  unfold keyC at k5 ⊢
  have hh : hash [tKey, S2.Cd.encT s].flatten = hash (keyS s) := by
    congr 1
    simp [keyS]
  have hl1 := tKey_len
  have hl2 := encT_len s
  obtain ⟨x, hx⟩ : ∃ x, x = (keyV s).1 := ⟨_, rfl⟩
  obtain ⟨y, hy⟩ : ∃ x, x = (keyV s).2 := ⟨_, rfl⟩
  rw [← hx, ← hy] at k5 ⊢
  generalize sec (keyS s) = c at k4 k5
  generalize hash (keyS s) = h at k4 hh
  rw [show S2.Cd.encT [107, 101, 121] = tKey from rfl] at k1
  generalize tKey = a at k1 hh hl1
  generalize S2.Cd.encT s = b at k2 hh hl2
  have hl3 : a.length ≤ 4 := by omega
  have hl4 : b.length ≤ 2009 := by omega
  have K1 := Lib.hid k1
  have K2 := Lib.hid k2
  have K4 := Lib.hid k4
  have K5 := Lib.hid k5
  have HS := Lib.hid hh
  have hA0 : (w.alloc (.cells #[.int .i64 0, .int .i64 0] 23)).heap[w.heap.size]? = some (.cells #[.int .i64 0, .int .i64 0] 23 (0, 0)) := heap_alloc_last _ _
  have HA0 := Lib.hid hA0
  have HL := Lib.hid (show w.heap.size < (w.alloc (.cells #[.int .i64 0, .int .i64 0] 23)).heap.size by simp)
  have hge := Lib.hid hb.size
  have A := Lib.hid (At.mk (W := W) (hb.alloc hb.size (.cells #[.int .i64 0, .int .i64 0] 23)) (laid_below (laid_below hW hb) ((Below.refl w.heap.size w).alloc (Nat.le_refl _) (.cells #[.int .i64 0, .int .i64 0] 23))))
  clear k1 k2 k4 k5 hl1 hl2 hs hx hy hsec hb hA0 hlt hh
  go_enter Tryd.func11, Tryd.ntmps11
  go_wp2_with fail
  generalize w.alloc (.cells #[.int .i64 0, .int .i64 0] 23) = w0 at *
  have P := Lib.hid (Below.refl w0.heap.size w0)
  refine (K1.out _ A.out.laid _ (Below.refl _ _)).mono ?_
  rintro e w1 ⟨rfl, hb⟩
  replace A := Lib.hid (A.out.step hb)
  replace P := Lib.hid (P.out.trans (hb.mono P.out.size))
  clear hb
  go_wp2_with fail
  refine (K2.out _ A.out.laid _ (Below.refl _ _)).mono ?_
  rintro e w2 ⟨rfl, hb⟩
  replace A := Lib.hid (A.out.step hb)
  replace P := Lib.hid (P.out.trans (hb.mono P.out.size))
  clear hb
  go_wp2_with fail
  have hrow := strs_row w2 [a, b]
  replace A := Lib.hid (A.out.alloc (.cells #[.string (S3.B a), .string (S3.B b)] 9))
  refine (phash_any w2.heap.size 2 [a, b] (w2.alloc (.cells #[.string (S3.B a), .string (S3.B b)] 9)) A.out.laid hrow (by simp) (by simp) (by simp) (by simp; omega)).mono ?_
  rw [HS.out]
  replace P := Lib.hid (P.out.alloc P.out.size (.cells #[.string (S3.B a), .string (S3.B b)] 9))
  rintro e w9 ⟨rfl, hb⟩
  replace A := Lib.hid (A.out.step hb)
  replace P := Lib.hid (P.out.trans (hb.mono P.out.size))
  clear hb hrow
  go_wp2_with fail
  refine (K4.out _).mono ?_
  rintro e w10 ⟨rfl, rfl⟩
  go_wp2_with fail
  refine (K5.out _ A.out.laid _ (Below.refl _ _)).mono ?_
  rintro e w12 ⟨rfl, hb⟩
  replace A := Lib.hid (A.out.step hb)
  replace P := Lib.hid (P.out.trans (hb.mono P.out.size))
  clear hb
  have HA := Lib.hid ((P.out.block _ HL.out).trans HA0.out)
  go_wp2_with (refine S3.wpList_store_row rfl 23 _ _ rfl w.heap.size _ rfl rfl 23 _ HA.out (infoKey _ _) rfl (by simp [Value.oneCell']) ?_)
  exact bodyPost_ret (v := .agg #[.int .i64 x, .int .i64 y]) (results_cell_row Tryd.results11 _ _ w.heap.size 23 _ (0, 0) _ rfl (setRow_heap _ _ _ _ _ _ HA.out) Tryd.underlying23 rfl (infoKey _ _)) rfl
    ⟨rfl, below_setRow A.out.bel _ hge.out _⟩
end Sg
end Go.Proofs.YtlcgcpjhmbbgfaaDoor
