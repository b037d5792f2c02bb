/-
  Layer 5: challenge, Key.
-/
import Derived.Test.YtlcgcpjhmbbgfaaDoorSignHash
import Derived.Test.YtlcgcpjhmbbgfaaDoorSignLaw2
namespace Go.Proofs.YtlcgcpjhmbbgfaaDoor
open Go.RowKit
namespace Sg
attribute [local go_sem] S3.B_size S3.B_app

theorem strs_row (w : World) (ls : List (List UInt8)) (j : Nat) (x : List UInt8) (h : ls[j]? = some x) : (w.alloc (.cells (ls.map fun s => Value.string (S3.B s)).toArray 9)).cell? ⟨w.heap.size, j, none⟩ = some (.string (S3.B x)) := by
  rw [cell_of_row _ _ _ _ _ _ (heap_alloc_last w (.cells (ls.map fun s => Value.string (S3.B s)).toArray 9)), List.getElem?_toArray, List.getElem?_map, h]
  rfl

set_option maxHeartbeats 4000000 in
set_option maxRecDepth 100000 in
theorem pchal_ok (W : World) (hW : S3.Laid W) (r y : Int) (m : List UInt8) (ir : isI r) (iy : isI y) (hm : m.length ≤ 2000) : Calls Tryd.prog 35 #[.int .i64 r, .int .i64 y, .string (S3.B m)] W fun e w' => e = .returned (.int .i64 (chal r y m : Nat)) ∧ Below W.heap.size W w' := by
  have A := Lib.hid (At.start hW)
  have k1 := fun W (_ : S3.Laid W) => text_ok W [115, 105, 103, 110] (by decide)
  have k2 := fun W (_ : S3.Laid W) => num_ok W r ir
  have k3 := fun W (_ : S3.Laid W) => num_ok W y iy
  have k4 := fun W (_ : S3.Laid W) => text_ok W m (by omega)
  have l1 := tSign_len
  have l2 := encZ_len r
  have l3 := encZ_len y
  have l4 := encT_len m
  have hlt := hash_lt (chalS r y m)
  have he : chal r y m = hash (chalS r y m) % 2305843009213693950 := rfl
  have hs : hash [tSign, encZ r, encZ y, S2.Cd.encT m].flatten = hash (chalS r y m) := by
    congr 1
    simp [chalS]
  obtain ⟨c, hc⟩ : ∃ c, c = chal r y m := ⟨_, rfl⟩
  rw [← hc] at he ⊢
  generalize hash (chalS r y m) = h at hlt he hs
  rw [show S2.Cd.encT [115, 105, 103, 110] = tSign from rfl] at k1
  generalize tSign = a at k1 hs l1
  generalize encZ r = b at k2 hs l2
  generalize encZ y = d at k3 hs l3
  generalize S2.Cd.encT m = f at k4 hs l4
  have l1' : a.length ≤ 5 := by omega
  have l4' : f.length ≤ 2009 := by omega
  have e1 : (h : Int).tmod 2305843009213693950 = (c : Int) := by rw [Int.tmod_eq_emod_of_nonneg (by omega)]; omega
  have e2 : (h : Int) % 2305843009213693950 = (c : Int) := by omega
  have K1 := Lib.hid k1
  have K2 := Lib.hid k2
  have K3 := Lib.hid k3
  have K4 := Lib.hid k4
  have HS := Lib.hid hs
  clear k1 k2 k3 k4 l1 l4 hc he hlt hm hW ir iy hs
  go_enter Tryd.func35, Tryd.ntmps35
  go_wp2_with fail
  refine (K1.out _ A.out.laid _ (Below.refl _ _)).mono ?_
  rintro e w1 ⟨rfl, hb⟩
  replace A := Lib.hid (A.out.step hb)
  clear hb
  go_wp2_with fail
  refine (K2.out _ A.out.laid _ (Below.refl _ _)).mono ?_
  rintro e w2 ⟨rfl, hb⟩
  replace A := Lib.hid (A.out.step hb)
  clear hb
  go_wp2_with fail
  refine (K3.out _ A.out.laid _ (Below.refl _ _)).mono ?_
  rintro e w3 ⟨rfl, hb⟩
  replace A := Lib.hid (A.out.step hb)
  clear hb
  go_wp2_with fail
  refine (K4.out _ A.out.laid _ (Below.refl _ _)).mono ?_
  rintro e w4 ⟨rfl, hb⟩
  replace A := Lib.hid (A.out.step hb)
  clear hb
  go_wp2_with fail
  have hrow := strs_row w4 [a, b, d, f]
  replace A := Lib.hid (A.out.alloc (.cells #[.string (S3.B a), .string (S3.B b), .string (S3.B d), .string (S3.B f)] 9))
  refine (phash_any w4.heap.size 4 [a, b, d, f] (w4.alloc (.cells #[.string (S3.B a), .string (S3.B b), .string (S3.B d), .string (S3.B f)] 9)) A.out.laid hrow (by simp) (by simp) (by simp) (by simp; omega)).mono ?_
  rw [HS.out]
  rintro e w9 ⟨rfl, hb⟩
  replace A := Lib.hid (A.out.step hb)
  clear hb hrow
  go_wp2
  go_ret
  exact ⟨rfl, A.out.bel⟩
end Sg
end Go.Proofs.YtlcgcpjhmbbgfaaDoor
