/-
  Layer 6: the landed package: hash, the small functions.
-/
import Derived.Test.YtgldbfdiebkfiaaDoorSealLand
namespace Go.Proofs.YtgldbfdiebkfiaaDoor
open Go.RowKit
namespace Se
attribute [local go_sem] S3.B_size S3.B_app S3.B_list S3.B_take S3.B_drop'
theorem lit_tag : (⟨#[116, 97, 103]⟩ : ByteArray) = S3.B [116, 97, 103] := rfl
theorem lit_eph : (⟨#[101, 112, 104]⟩ : ByteArray) = S3.B [101, 112, 104] := rfl
theorem lit_wrap : (⟨#[119, 114, 97, 112]⟩ : ByteArray) = S3.B [119, 114, 97, 112] := rfl
theorem lit_stream : (⟨#[115, 116, 114, 101, 97, 109]⟩ : ByteArray) = S3.B [115, 116, 114, 101, 97, 109] := rfl
theorem lit_nonce : (⟨#[110, 111, 110, 99, 101]⟩ : ByteArray) = S3.B [110, 111, 110, 99, 101] := rfl
attribute [local go_sem] lit_tag lit_eph lit_wrap lit_stream lit_nonce

set_option maxHeartbeats 4000000 in
set_option maxRecDepth 100000 in
theorem phash_any (A : Option Addr) (ls : List (List UInt8)) (cap : Nat) (w : World) (hW : S3.Laid w) (hr : S2.Row w w.heap.size A (S2.Ss ls)) (hn : ls.length ≤ 10) (hl : ls.flatten.length ≤ 3800) :
    Calls Tryd.prog 31 #[.slice A ls.length cap] w fun e w' => e = .returned (.string (S3.B (H ls))) ∧ Below w.heap.size w w' := by
  have h1 := encM_len ls
  have h2 := encL_len ls
  have k1 := S2.cList_any A ls cap w hr (by omega) (by omega)
  have k2 := S5.Sg.sha_ok w (S2.Cd.encL S2.Cd.encT ls) hW (by omega)
  rw [show S3.Sha.sha (S2.Cd.encL S2.Cd.encT ls) = H ls from rfl] at k2
  generalize H ls = d at k2 ⊢
  generalize S2.Cd.encL S2.Cd.encT ls = q at k1 k2
  have K1 := Lib.hid k1
  have K2 := Lib.hid k2
  clear k1 k2 h1 h2 hr hl
  go_enter Tryd.func31, Tryd.ntmps31
  go_wp2_with fail
  refine K1.out.mono ?_
  rintro e w1 ⟨rfl, h1⟩
  have G := Lib.hid h1
  clear h1
  go_wp2_with fail
  refine (K2.out _ G.out).mono ?_
  rintro e w2 ⟨rfl, h1⟩
  replace G := Lib.hid h1
  clear h1
  go_wp2
  go_ret
  exact ⟨rfl, G.out⟩

set_option maxHeartbeats 4000000 in
set_option maxRecDepth 100000 in
theorem ptag_ok (W : World) (hW : S3.Laid W) (k n d : List UInt8) (hl : k.length + n.length + d.length ≤ 3700) : S5.Sg.Ok W 23 #[.string (S3.B k), .string (S3.B n), .string (S3.B d)] (.string (S3.B (tag k n d))) := by
  intro w hb
  have A := Lib.hid (Lk.At.from hW hb)
  have h32 := H_len [[116, 97, 103], k, n, d]
  have ht : tag k n d = (H [[116, 97, 103], k, n, d]).take 16 := rfl
  have kh := fun A w hW hr => phash_any A [[116, 97, 103], k, n, d] 4 w hW hr (by simp) (by simp; omega)
  rw [ht]
  generalize H [[116, 97, 103], k, n, d] = q at kh h32 ⊢
  have KH := Lib.hid kh
  clear hb hW hl ht kh
  go_enter Tryd.func23, Tryd.ntmps23
  go_wp2_with fail
  replace A := Lib.hid (A.out.alloc (.cells #[.string (S3.B [116, 97, 103]), .string (S3.B k), .string (S3.B n), .string (S3.B d)] 9))
  have R1 : S2.Row (w.alloc (.cells #[.string (S3.B [116, 97, 103]), .string (S3.B k), .string (S3.B n), .string (S3.B d)] 9)) (w.alloc (.cells #[.string (S3.B [116, 97, 103]), .string (S3.B k), .string (S3.B n), .string (S3.B d)] 9)).heap.size (some ⟨w.heap.size, 0, none⟩) (S2.Ss [[116, 97, 103], k, n, d]) := Lk.strs w [[116, 97, 103], k, n, d]
  generalize w.alloc (.cells #[.string (S3.B [116, 97, 103]), .string (S3.B k), .string (S3.B n), .string (S3.B d)] 9) = w1 at *
  refine (KH.out (some ⟨w.heap.size, 0, none⟩) w1 A.out.laid R1).mono ?_
  rintro e w2 ⟨rfl, hb⟩
  replace A := Lib.hid (A.out.step hb)
  clear hb
  go_wp2
  go_ret
  exact ⟨rfl, A.out.bel⟩

set_option maxHeartbeats 4000000 in
set_option maxRecDepth 100000 in
theorem pisPub_ok (W : World) (y : Int) : S5.Sg.Ok W 27 #[.int .i64 y] (.bool (decide (isPub y))) := S5.Sg.Ok.same fun w => by
  by_cases h1 : 1 ≤ y
  · by_cases h2 : y < 2305843009213693951
    · rw [decide_eq_true (show isPub y from ⟨h1, h2⟩)]
      go_enter Tryd.func27, Tryd.ntmps27
      go_wp2
      go_ret
      exact ⟨rfl, rfl⟩
    · rw [decide_eq_false (show ¬ isPub y from fun h => h2 h.2)]
      go_enter Tryd.func27, Tryd.ntmps27
      go_wp2
      go_ret
      exact ⟨rfl, rfl⟩
  · rw [decide_eq_false (show ¬ isPub y from fun h => h1 h.1)]
    go_enter Tryd.func27, Tryd.ntmps27
    go_wp2
    go_ret
    exact ⟨rfl, rfl⟩

set_option maxHeartbeats 4000000 in
set_option maxRecDepth 100000 in
theorem pisSec_ok (W : World) (y : Int) : S5.Sg.Ok W 37 #[.int .i64 y] (.bool (decide (isSec y))) := S5.Sg.Ok.same fun w => by
  by_cases h1 : 1 ≤ y
  · by_cases h2 : y < 2305843009213693950
    · rw [decide_eq_true (show isSec y from ⟨h1, h2⟩)]
      go_enter Tryd.func37, Tryd.ntmps37
      go_wp2
      go_ret
      exact ⟨rfl, rfl⟩
    · rw [decide_eq_false (show ¬ isSec y from fun h => h2 h.2)]
      go_enter Tryd.func37, Tryd.ntmps37
      go_wp2
      go_ret
      exact ⟨rfl, rfl⟩
  · rw [decide_eq_false (show ¬ isSec y from fun h => h1 h.1)]
    go_enter Tryd.func37, Tryd.ntmps37
    go_wp2
    go_ret
    exact ⟨rfl, rfl⟩

set_option maxHeartbeats 4000000 in
set_option maxRecDepth 100000 in
theorem ppub_ok (W : World) (hW : S3.Laid W) (x : Int) (ix : S5.Sg.isI x) : S5.Sg.Ok W 29 #[.int .i64 x] (.int .i64 (S5.Sg.pub x : Nat)) := by
  intro w hb
  have A := Lib.hid (Lk.At.from hW hb)
  have k1 := fun W => S5.Sg.exp_ok W 37 x (by unfold S5.Sg.isI S4.isI64; omega) ix
  rw [show S4.powP 37 x = S5.Sg.pub x from rfl] at k1
  generalize S5.Sg.pub x = y at k1 ⊢
  have K1 := Lib.hid k1
  clear k1 hb hW ix
  go_enter Tryd.func29, Tryd.ntmps29
  go_wp2_with fail
  refine (K1.out _ _ (Below.refl _ _)).mono ?_
  rintro e w1 ⟨rfl, hb⟩
  replace A := Lib.hid (A.out.step hb)
  clear hb
  go_wp2
  go_ret
  exact ⟨rfl, A.out.bel⟩

set_option maxHeartbeats 4000000 in
set_option maxRecDepth 100000 in
theorem peph_ok (W : World) (hW : S3.Laid W) (y : Int) (s : List UInt8) (iy : S5.Sg.isI y) (hl : s.length ≤ 3600) : S5.Sg.Ok W 28 #[.int .i64 y, .string (S3.B s)] (.int .i64 (ephS y s : Nat)) := by
  intro w hb
  have A := Lib.hid (Lk.At.from hW hb)
  have k1 := fun W => S5.Sg.num_ok W y iy
  have l1 := S5.Sg.encZ_len y
  have kh := fun A w hW hr => phash_any A [[101, 112, 104], s, S5.Sg.encZ y] 3 w hW hr (by simp) (by simp; omega)
  have k2 := fun W => S5.Sg.hnum_ok W (H [[101, 112, 104], s, S5.Sg.encZ y]) (by rw [H_len]; omega)
  have he : ephS y s = 1 + S3.num (H [[101, 112, 104], s, S5.Sg.encZ y]) % 2305843009213693949 := rfl
  have hlt := S5.Sg.num_lt (H [[101, 112, 104], s, S5.Sg.encZ y])
  obtain ⟨c, hc⟩ : ∃ c, c = ephS y s := ⟨_, rfl⟩
  rw [← hc] at he ⊢
  generalize H [[101, 112, 104], s, S5.Sg.encZ y] = q at kh k2 he hlt
  generalize S5.Sg.encZ y = z at k1 kh l1
  generalize S3.num q = m at k2 he hlt
  obtain ⟨d, hd⟩ : ∃ d, d = m % 2305843009213693949 := ⟨_, rfl⟩
  have e1 : (m : Int).tmod 2305843009213693949 = (d : Int) := by rw [Int.tmod_eq_emod_of_nonneg (by omega)]; omega
  have e2 : (m : Int) % 2305843009213693949 = (d : Int) := by omega
  have e3 : IntKind.i64.wrap (1 + (d : Int)) = (c : Int) := (IntWalk.i64_in _ (by omega)).trans (by omega)
  have e4 : 1 + (d : Int) = (c : Int) := by omega
  have K1 := Lib.hid k1
  have KH := Lib.hid kh
  have K2 := Lib.hid k2
  have hcl : (c : Int) < 2305843009213693950 := by omega
  clear k1 kh k2 l1 he hlt hd hc hb hW iy hl
  go_enter Tryd.func28, Tryd.ntmps28
  go_wp2_with fail
  refine (K1.out _ _ (Below.refl _ _)).mono ?_
  rintro e w1 ⟨rfl, hb⟩
  replace A := Lib.hid (A.out.step hb)
  clear hb
  go_wp2_with fail
  replace A := Lib.hid (A.out.alloc (.cells #[.string (S3.B [101, 112, 104]), .string (S3.B s), .string (S3.B z)] 9))
  have R1 : S2.Row (w1.alloc (.cells #[.string (S3.B [101, 112, 104]), .string (S3.B s), .string (S3.B z)] 9)) (w1.alloc (.cells #[.string (S3.B [101, 112, 104]), .string (S3.B s), .string (S3.B z)] 9)).heap.size (some ⟨w1.heap.size, 0, none⟩) (S2.Ss [[101, 112, 104], s, z]) := Lk.strs w1 [[101, 112, 104], s, z]
  generalize w1.alloc (.cells #[.string (S3.B [101, 112, 104]), .string (S3.B s), .string (S3.B z)] 9) = w2 at *
  refine (KH.out (some ⟨w1.heap.size, 0, none⟩) w2 A.out.laid R1).mono ?_
  rintro e w3 ⟨rfl, hb⟩
  replace A := Lib.hid (A.out.step hb)
  clear hb
  go_wp2_with fail
  refine (K2.out _ _ (Below.refl _ _)).mono ?_
  rintro e w4 ⟨rfl, hb⟩
  replace A := Lib.hid (A.out.step hb)
  clear hb
  go_wp2
  go_ret
  exact ⟨rfl, A.out.bel⟩

set_option maxHeartbeats 4000000 in
set_option maxRecDepth 100000 in
theorem pwkey_ok (W : World) (hW : S3.Laid W) (a b c : Int) (ia : S5.Sg.isI a) (ib : S5.Sg.isI b) (ic : S5.Sg.isI c) : S5.Sg.Ok W 30 #[.int .i64 a, .int .i64 b, .int .i64 c] (.string (S3.B (wkey a b c))) := by
  intro w hb
  have A := Lib.hid (Lk.At.from hW hb)
  have k1 := fun W => S5.Sg.num_ok W a ia
  have k2 := fun W => S5.Sg.num_ok W b ib
  have k3 := fun W => S5.Sg.num_ok W c ic
  have l1 := S5.Sg.encZ_len a
  have l2 := S5.Sg.encZ_len b
  have l3 := S5.Sg.encZ_len c
  have kh := fun A w hW hr => phash_any A [[119, 114, 97, 112], S5.Sg.encZ a, S5.Sg.encZ b, S5.Sg.encZ c] 4 w hW hr (by simp) (by simp; omega)
  have hw : wkey a b c = H [[119, 114, 97, 112], S5.Sg.encZ a, S5.Sg.encZ b, S5.Sg.encZ c] := rfl
  rw [hw]
  generalize H [[119, 114, 97, 112], S5.Sg.encZ a, S5.Sg.encZ b, S5.Sg.encZ c] = q at kh ⊢
  generalize S5.Sg.encZ a = x at k1 kh
  generalize S5.Sg.encZ b = y at k2 kh
  generalize S5.Sg.encZ c = z at k3 kh
  have K1 := Lib.hid k1
  have K2 := Lib.hid k2
  have K3 := Lib.hid k3
  have KH := Lib.hid kh
  clear k1 k2 k3 kh l1 l2 l3 hw hb hW ia ib ic
  go_enter Tryd.func30, Tryd.ntmps30
  go_wp2_with fail
  refine (K1.out _ _ (Below.refl _ _)).mono ?_
  rintro e w1 ⟨rfl, hb⟩
  replace A := Lib.hid (A.out.step hb)
  clear hb
  go_wp2_with fail
  refine (K2.out _ _ (Below.refl _ _)).mono ?_
  rintro e w2 ⟨rfl, hb⟩
  replace A := Lib.hid (A.out.step hb)
  clear hb
  go_wp2_with fail
  refine (K3.out _ _ (Below.refl _ _)).mono ?_
  rintro e w3 ⟨rfl, hb⟩
  replace A := Lib.hid (A.out.step hb)
  clear hb
  go_wp2_with fail
  replace A := Lib.hid (A.out.alloc (.cells #[.string (S3.B [119, 114, 97, 112]), .string (S3.B x), .string (S3.B y), .string (S3.B z)] 9))
  have R1 : S2.Row (w3.alloc (.cells #[.string (S3.B [119, 114, 97, 112]), .string (S3.B x), .string (S3.B y), .string (S3.B z)] 9)) (w3.alloc (.cells #[.string (S3.B [119, 114, 97, 112]), .string (S3.B x), .string (S3.B y), .string (S3.B z)] 9)).heap.size (some ⟨w3.heap.size, 0, none⟩) (S2.Ss [[119, 114, 97, 112], x, y, z]) := Lk.strs w3 [[119, 114, 97, 112], x, y, z]
  generalize w3.alloc (.cells #[.string (S3.B [119, 114, 97, 112]), .string (S3.B x), .string (S3.B y), .string (S3.B z)] 9) = w4 at *
  refine (KH.out (some ⟨w3.heap.size, 0, none⟩) w4 A.out.laid R1).mono ?_
  rintro e w5 ⟨rfl, hb⟩
  replace A := Lib.hid (A.out.step hb)
  clear hb
  go_wp2
  go_ret
  exact ⟨rfl, A.out.bel⟩
end Se
end Go.Proofs.YtgldbfdiebkfiaaDoor
