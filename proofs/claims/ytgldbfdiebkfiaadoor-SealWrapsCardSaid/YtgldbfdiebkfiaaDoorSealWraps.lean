/-
  Layer 6: SealWraps' walk.
-/
import Derived.Test.YtgldbfdiebkfiaaDoorSealSmall
namespace Go.Proofs.YtgldbfdiebkfiaaDoor
open Go.RowKit
namespace Se
attribute [local go_sem] S3.B_size S3.B_app S3.B_list

theorem lit_eph : (⟨#[101, 112, 104]⟩ : ByteArray) = S3.B [101, 112, 104] := rfl
theorem lit_wrap : (⟨#[119, 114, 97, 112]⟩ : ByteArray) = S3.B [119, 114, 97, 112] := rfl
attribute [local go_sem] lit_eph lit_wrap
theorem list_any (ls : List (List UInt8)) (h : ls.flatten.length + 9 * ls.length ≤ 1099511627767) (hn : ls.length ≤ 1099511627776) (A : Option Addr) (cap : Nat) (w : World) (hr : S2.Row w w.heap.size A (S2.Ss ls)) :
    Calls Tryd.prog 21 #[.slice A ls.length cap] w fun e w' => e = .returned (.string (S3.B (S2.Cd.encL S2.Cd.encT ls))) ∧ Below w.heap.size w w' :=
  S2.cList_any A ls cap w hr hn (Nat.le_trans (encM_len ls) h)

set_option maxHeartbeats 8000000 in
set_option maxRecDepth 100000 in
theorem wraps_walk (L : Landed) (x : Int) (s p : List UInt8) (W : World) (hW : S3.Laid W) (hhs : s.length ≤ 140737488355328) (hhp : p.length ≤ 140737488355328) (ix : S5.Sg.isI x) :
    Calls Tryd.prog 6 #[.int .i64 x, .string (S3.B s), .string (S3.B p)] W fun e w' => e = .returned (.bool true) ∧ Below W.heap.size W w' := by
  have KS := Lib.hid (fun W hW => small_ok L W hW)
  have A := Lib.hid (Lk.At.start hW)
  have HT : Hid (total [s, p] ≤ 1152921504606846976) := Lib.hid (by simp [total]; omega)
  obtain ⟨f, hf⟩ : ∃ f, f = decide (total [s, p] ≤ 2000) := ⟨_, rfl⟩
  by_cases hc : total [s, p] ≤ 2000
  · rw [decide_eq_true hc] at hf
    have HF := Lib.hid (hf.trans (decide_eq_true hc).symm)
    obtain rfl := hf
    simp only [total, List.flatten_cons, List.flatten_nil, List.length_append, List.length_nil] at hc
    by_cases h1 : x < 1
    · clear hc hW hhs hhp ix
      go_enter Tryd.func6, Tryd.ntmps6
      go_wp2_with fail
      refine (KS.out _ A.out.laid _ (Below.refl _ _)).mono ?_
      rintro e w1 ⟨rfl, hb⟩
      replace A := Lib.hid (A.out.step hb)
      clear hb
      go_wp2_with fail
      replace A := Lib.hid (A.out.alloc (.cells #[.string (S3.B s), .string (S3.B p)] 9))
      have R1 : S2.Row (w1.alloc (.cells #[.string (S3.B s), .string (S3.B p)] 9)) (w1.alloc (.cells #[.string (S3.B s), .string (S3.B p)] 9)).heap.size (some ⟨w1.heap.size, 0, none⟩) (S2.Ss [s, p]) := Lk.strs w1 [s, p]
      generalize w1.alloc (.cells #[.string (S3.B s), .string (S3.B p)] 9) = w2 at *
      have q := few_any (some ⟨w1.heap.size, 0, none⟩) [s, p] 2 w2 R1 (by simp) HT.out
      rw [← HF.out] at q
      refine q.mono ?_
      rintro e w3 ⟨rfl, hq⟩
      obtain rfl := hq.symm
      clear R1 q
      go_wp2
      go_ret
      exact ⟨rfl, A.out.bel⟩
    by_cases h2 : 2305843009213693950 ≤ x
    · clear hc hW hhs hhp ix
      go_enter Tryd.func6, Tryd.ntmps6
      go_wp2_with fail
      refine (KS.out _ A.out.laid _ (Below.refl _ _)).mono ?_
      rintro e w1 ⟨rfl, hb⟩
      replace A := Lib.hid (A.out.step hb)
      clear hb
      go_wp2_with fail
      replace A := Lib.hid (A.out.alloc (.cells #[.string (S3.B s), .string (S3.B p)] 9))
      have R1 : S2.Row (w1.alloc (.cells #[.string (S3.B s), .string (S3.B p)] 9)) (w1.alloc (.cells #[.string (S3.B s), .string (S3.B p)] 9)).heap.size (some ⟨w1.heap.size, 0, none⟩) (S2.Ss [s, p]) := Lk.strs w1 [s, p]
      generalize w1.alloc (.cells #[.string (S3.B s), .string (S3.B p)] 9) = w2 at *
      have q := few_any (some ⟨w1.heap.size, 0, none⟩) [s, p] 2 w2 R1 (by simp) HT.out
      rw [← HF.out] at q
      refine q.mono ?_
      rintro e w3 ⟨rfl, hq⟩
      obtain rfl := hq.symm
      clear R1 q
      go_wp2
      go_ret
      exact ⟨rfl, A.out.bel⟩
    have hx : isSec x := ⟨by omega, by omega⟩
    have k1 := fun W (_ : S3.Laid W) => S5.Sg.exp_ok W 37 x (by unfold S5.Sg.isI S4.isI64; omega) ix
    rw [show S4.powP 37 x = S5.Sg.pub x from rfl] at k1
    have hpub := pub_isPub x
    have huw := unwrap_wrap x s p hx
    have hsh := shared x (ephS (S5.Sg.pub x : Nat) s)
    obtain ⟨y, hy⟩ : ∃ y : Int, y = (S5.Sg.pub x : Nat) := ⟨_, rfl⟩
    rw [← hy] at k1 hpub huw hsh
    have hy1 : 1 ≤ y := hpub.1
    have hy2 : y < 2305843009213693951 := hpub.2
    have iy : S5.Sg.isI y := by unfold S5.Sg.isI S4.isI64; omega
    have k2 := fun W hW => (L W hW).wrapP y s p iy (by omega)
    unfold wrapV at k2 huw
    rw [if_pos hpub] at k2 huw
    dsimp only at k2 huw
    have hbe := ephS_in y s
    have hE : (ephS y s : Int) = 1 + (S3.num (H [[101, 112, 104], s, S5.Sg.encZ y]) : Nat) % 2305843009213693949 := by
      unfold ephS
      rw [show wEph = [101, 112, 104] from rfl]
      omega
    obtain ⟨e, he⟩ : ∃ e : Int, e = (ephS y s : Nat) := ⟨_, rfl⟩
    have ie : S5.Sg.isI e := by unfold S5.Sg.isI S4.isI64; omega
    have hgb := pub_isPub e
    have kE := fun W (_ : S3.Laid W) => S5.Sg.exp_ok W 37 e (by unfold S5.Sg.isI S4.isI64; omega) ie
    rw [show S4.powP 37 e = S5.Sg.pub e from rfl] at kE
    have hlen := wrapIn_len y s p
    have hg : (wrapIn y s p).eph = (S5.Sg.pub e : Nat) := by rw [he]; rfl
    have hbox : openV (wkey y (S5.Sg.pub e : Nat) (S4.powP y e : Nat)) (wrapIn y s p).box = (p, true) := by rw [he]; exact open_seal _ _ _
    rw [← he] at hsh hE
    obtain ⟨g, hgd⟩ : ∃ g : Int, g = (S5.Sg.pub e : Nat) := ⟨_, rfl⟩
    rw [← hgd] at kE hgb hg hbox hsh
    have hg1 : 1 ≤ g := hgb.1
    have hg2 : g < 2305843009213693951 := hgb.2
    have ig : S5.Sg.isI g := by unfold S5.Sg.isI S4.isI64; omega
    have ho2 := S4.powP_lt y e
    have k8 := fun W (_ : S3.Laid W) => S5.Sg.exp_ok W y e iy ie
    have k9 := fun W (_ : S3.Laid W) => S5.Sg.exp_ok W g x ig ix
    rw [← hsh] at k9
    obtain ⟨o, ho⟩ : ∃ o : Int, o = (S4.powP y e : Nat) := ⟨_, rfl⟩
    rw [← ho] at k8 k9 hbox
    have io : S5.Sg.isI o := by unfold S5.Sg.isI S4.isI64; omega
    have e5 : wrapC (wrapIn y s p) = .agg #[.int .i64 y, .int .i64 g, .string (S3.B (wrapIn y s p).box.n), .string (S3.B (wrapIn y s p).box.d), .string (S3.B (wrapIn y s p).box.t)] := by rw [← hg]; rfl
    rw [e5] at k2
    have k3 := fun W hW => (L W hW).unwrapP x y g (wrapIn y s p).box.n (wrapIn y s p).box.d (wrapIn y s p).box.t ix iy ig (by rw [hlen.1, hlen.2.1]; omega)
    have hu2 : unwrapV x ⟨y, g, ⟨(wrapIn y s p).box.n, (wrapIn y s p).box.d, (wrapIn y s p).box.t⟩⟩ = (p, true) := by
      rw [← huw, ← hg, wr_eta (y := y) (wrapIn y s p) rfl]
    rw [hu2] at k3
    have hk32 := wkey_len y g o
    have kO := fun W hW => (L W hW).openP (wkey y g o) (wrapIn y s p).box.n (wrapIn y s p).box.d (wrapIn y s p).box.t (by rw [hk32, hlen.1, hlen.2.1]; omega)
    have hb2 : openV (wkey y g o) ⟨(wrapIn y s p).box.n, (wrapIn y s p).box.d, (wrapIn y s p).box.t⟩ = (p, true) := hbox
    rw [hb2] at kO
    generalize (wrapIn y s p).box.n = bn at k2 k3 kO
    generalize (wrapIn y s p).box.d = bd at k2 k3 kO
    generalize (wrapIn y s p).box.t = bt at k2 k3 kO
    have k4 := fun W (_ : S3.Laid W) => S5.Sg.num_ok W y iy
    have k11 := fun W (_ : S3.Laid W) => S5.Sg.num_ok W g ig
    have k12 := fun W (_ : S3.Laid W) => S5.Sg.num_ok W o io
    have z1 := S5.Sg.encZ_len y
    have z2 := S5.Sg.encZ_len g
    have z3 := S5.Sg.encZ_len o
    have hwk : wkey y g o = H [[119, 114, 97, 112], S5.Sg.encZ y, S5.Sg.encZ g, S5.Sg.encZ o] := rfl
    rw [hwk] at kO
    generalize S5.Sg.encZ y = zy at k4 hE z1 kO
    generalize S5.Sg.encZ g = zg at k11 z2 kO
    generalize S5.Sg.encZ o = zo at k12 z3 kO
    unfold H at hE kO
    have kL := list_any [[101, 112, 104], s, zy] (by simp; omega) (by simp)
    have kM := list_any [[119, 114, 97, 112], zy, zg, zo] (by simp; omega) (by simp)
    have y1 := encL_len [[101, 112, 104], s, zy]
    have y2 := encL_len [[119, 114, 97, 112], zy, zg, zo]
    generalize S2.Cd.encL S2.Cd.encT [[101, 112, 104], s, zy] = l1 at kL hE y1
    generalize S2.Cd.encL S2.Cd.encT [[119, 114, 97, 112], zy, zg, zo] = l2 at kM kO y2
    have k6 := fun W hW => S5.Sg.sha_ok W l1 hW (by simp at y1; omega)
    have k13 := fun W hW => S5.Sg.sha_ok W l2 hW (by simp at y2; omega)
    have hh1 := S5.Sg.sha_len l1
    have hnl := S5.Sg.hash_lt l1
    unfold S5.Sg.hash at hnl
    generalize S3.Sha.sha l1 = h1' at k6 hE hh1 hnl
    generalize S3.Sha.sha l2 = kk at k13 kO
    have k7 := fun W (_ : S3.Laid W) => S5.Sg.hnum_ok W h1' (by rw [hh1]; decide)
    generalize S3.num h1' = hv at k7 hE hnl
    obtain ⟨r, hr⟩ : ∃ r : Int, r = (hv : Int) % 2305843009213693949 := ⟨_, rfl⟩
    rw [← hr] at hE
    have e1 : (hv : Int).tmod 2305843009213693949 = r := by rw [Int.tmod_eq_emod_of_nonneg (by omega)]; exact hr.symm
    have e0 : (hv : Int) % 2305843009213693949 = r := hr.symm
    have e2 : IntKind.i64.wrap (1 + r) = 1 + r := IntWalk.i64_in _ (by omega)
    rw [hE] at kE k8
    have K1 := Lib.hid k1
    have K2 := Lib.hid k2
    have K3 := Lib.hid k3
    have K4 := Lib.hid k4
    have KL := Lib.hid kL
    have K6 := Lib.hid k6
    have K7 := Lib.hid k7
    have K8 := Lib.hid k8
    have K9 := Lib.hid k9
    have KE := Lib.hid kE
    have K11 := Lib.hid k11
    have K12 := Lib.hid k12
    have KM := Lib.hid kM
    have K13 := Lib.hid k13
    have KO := Lib.hid kO
    clear k1 k2 k3 k4 kL k6 k7 k8 k9 kE k11 k12 kM k13 kO z1 z2 z3 y1 y2 hh1 hnl hr hE hk32 hwk hb2 hu2 hlen e5 ho ho2 hsh io ig hgd hbox hg hgb ie he hbe huw iy hpub hy hx hc hW hhs hhp ix
    go_enter Tryd.func6, Tryd.ntmps6
    go_wp2_with fail
    refine (KS.out _ A.out.laid _ (Below.refl _ _)).mono ?_
    rintro e w1 ⟨rfl, hb⟩
    replace A := Lib.hid (A.out.step hb)
    clear hb
    go_wp2_with fail
    replace A := Lib.hid (A.out.alloc (.cells #[.string (S3.B s), .string (S3.B p)] 9))
    have R1 : S2.Row (w1.alloc (.cells #[.string (S3.B s), .string (S3.B p)] 9)) (w1.alloc (.cells #[.string (S3.B s), .string (S3.B p)] 9)).heap.size (some ⟨w1.heap.size, 0, none⟩) (S2.Ss [s, p]) := Lk.strs w1 [s, p]
    generalize w1.alloc (.cells #[.string (S3.B s), .string (S3.B p)] 9) = w2 at *
    have q := few_any (some ⟨w1.heap.size, 0, none⟩) [s, p] 2 w2 R1 (by simp) HT.out
    rw [← HF.out] at q
    refine q.mono ?_
    rintro e w3 ⟨rfl, hq⟩
    obtain rfl := hq.symm
    clear R1 q
    go_wp2_with fail
    refine (K1.out _ A.out.laid _ (Below.refl _ _)).mono ?_
    rintro e w4 ⟨rfl, hb⟩
    replace A := Lib.hid (A.out.step hb)
    clear hb
    go_wp2_with fail
    refine (K2.out _ A.out.laid _ (Below.refl _ _)).mono ?_
    rintro e w5 ⟨rfl, hb⟩
    replace A := Lib.hid (A.out.step hb)
    clear hb
    go_wp2_with fail
    replace A := Lib.hid (A.out.alloc (.cells #[.int .i64 y, .int .i64 g, .string (S3.B bn), .string (S3.B bd), .string (S3.B bt)] 25))
    have B1 := Lib.hid (Lk.Bl.new w5 [.int .i64 y, .int .i64 g, .string (S3.B bn), .string (S3.B bd), .string (S3.B bt)] 25)
    generalize w5.alloc (.cells #[.int .i64 y, .int .i64 g, .string (S3.B bn), .string (S3.B bd), .string (S3.B bt)] 25) = w6 at *
    refine (K3.out _ A.out.laid _ (Below.refl _ _)).mono ?_
    rintro e w7 ⟨rfl, hb⟩
    replace A := Lib.hid (A.out.step hb)
    replace B1 := Lib.hid (B1.out.step hb)
    clear hb
    have cB1_0 := B1.out.c 0 _ rfl
    have cB1_1 := B1.out.c 1 _ rfl
    go_wp2_with fail
    clear cB1_0 cB1_1
    refine (K4.out _ A.out.laid _ (Below.refl _ _)).mono ?_
    rintro e w8 ⟨rfl, hb⟩
    replace A := Lib.hid (A.out.step hb)
    replace B1 := Lib.hid (B1.out.step hb)
    clear hb
    go_wp2_with fail
    replace A := Lib.hid (A.out.alloc (.cells #[.string (S3.B [101, 112, 104]), .string (S3.B s), .string (S3.B zy)] 9))
    replace B1 := Lib.hid (B1.out.alloc (.cells #[.string (S3.B [101, 112, 104]), .string (S3.B s), .string (S3.B zy)] 9))
    have R2 : S2.Row (w8.alloc (.cells #[.string (S3.B [101, 112, 104]), .string (S3.B s), .string (S3.B zy)] 9)) (w8.alloc (.cells #[.string (S3.B [101, 112, 104]), .string (S3.B s), .string (S3.B zy)] 9)).heap.size (some ⟨w8.heap.size, 0, none⟩) (S2.Ss [[101, 112, 104], s, zy]) := Lk.strs w8 [[101, 112, 104], s, zy]
    generalize w8.alloc (.cells #[.string (S3.B [101, 112, 104]), .string (S3.B s), .string (S3.B zy)] 9) = w9 at *
    refine (KL.out (some ⟨w8.heap.size, 0, none⟩) 3 w9 R2).mono ?_
    rintro e w10 ⟨rfl, hb⟩
    replace A := Lib.hid (A.out.step hb)
    replace B1 := Lib.hid (B1.out.step hb)
    clear hb R2
    go_wp2_with fail
    refine (K6.out _ A.out.laid _ (Below.refl _ _)).mono ?_
    rintro e w11 ⟨rfl, hb⟩
    replace A := Lib.hid (A.out.step hb)
    replace B1 := Lib.hid (B1.out.step hb)
    clear hb
    go_wp2_with fail
    refine (K7.out _ A.out.laid _ (Below.refl _ _)).mono ?_
    rintro e w12 ⟨rfl, hb⟩
    replace A := Lib.hid (A.out.step hb)
    replace B1 := Lib.hid (B1.out.step hb)
    clear hb
    go_wp2_with fail
    refine (K8.out _ A.out.laid _ (Below.refl _ _)).mono ?_
    rintro e w13 ⟨rfl, hb⟩
    replace A := Lib.hid (A.out.step hb)
    replace B1 := Lib.hid (B1.out.step hb)
    clear hb
    have cB1_1 := B1.out.c 1 _ rfl
    go_wp2_with fail
    clear cB1_1
    refine (K9.out _ A.out.laid _ (Below.refl _ _)).mono ?_
    rintro e w14 ⟨rfl, hb⟩
    replace A := Lib.hid (A.out.step hb)
    replace B1 := Lib.hid (B1.out.step hb)
    clear hb
    go_wp2_with fail
    replace A := Lib.hid A.out.drew
    replace B1 := Lib.hid B1.out.drew
    refine wp_region_held_drew (S := (fun w' => w'.cell? ⟨w5.heap.size, 1, none⟩ = some (.int .i64 g))) (by kernel_rfl) (B1.out.c 1 _ rfl) (fun hHeld => ?_)
    refine wpAnyH_take (i := 0) (oi := ⟨_, _, _, _, _, _⟩) (v := ?_) rfl (by kernel_rfl) (by kernel_rfl) (by kernel_rfl) (fun _ _ _ h => h) (Or.inl ⟨by rfl, ?_⟩) (by assumption) ?_
    rotate_left
    · intro wz hSw
      try dsimp only at hSw
      go_simp
      try with_reducible rfl
    try simp only [Act.put, List.setIfInBounds_toArray, List.set_cons_zero, List.set_cons_succ]
    refine wpAnyH_take (i := 1) (oi := ⟨_, _, _, _, _, _⟩) (v := ?_) rfl (by kernel_rfl) (by kernel_rfl) (by kernel_rfl) (fun _ _ _ h => h) (Or.inl ⟨by rfl, ?_⟩) (by assumption) ?_
    rotate_left
    · intro wz hSw
      try dsimp only at hSw
      go_simp
      try with_reducible rfl
    try simp only [Act.put, List.setIfInBounds_toArray, List.set_cons_zero, List.set_cons_succ]
    refine wpAnyH_take (i := 2) (oi := ⟨_, _, _, _, _, _⟩) (v := ?_) rfl (by kernel_rfl) (by kernel_rfl) (by kernel_rfl) (fun _ _ _ h => h) (Or.inl ⟨by rfl, ?_⟩) (by assumption) ?_
    rotate_left
    · intro wz hSw
      try dsimp only at hSw
      go_simp
      try with_reducible rfl
    try simp only [Act.put, List.setIfInBounds_toArray, List.set_cons_zero, List.set_cons_succ]
    refine wpAnyH_take (i := 3) (oi := ⟨_, _, _, _, _, _⟩) (v := ?_) rfl (by kernel_rfl) (by kernel_rfl) (by kernel_rfl) (fun _ _ _ h => h) (Or.inl ⟨by rfl, ?_⟩) (by assumption) ?_
    rotate_left
    · intro wz hSw
      try dsimp only at hSw
      go_simp
      try with_reducible rfl
    try simp only [Act.put, List.setIfInBounds_toArray, List.set_cons_zero, List.set_cons_succ]
    refine wpAnyH_take (i := 4) (oi := ⟨_, _, _, _, _, _⟩) (v := ?_) rfl (by kernel_rfl) (by kernel_rfl) (by kernel_rfl) (fun _ _ _ h => h) (Or.inl ⟨by rfl, ?_⟩) (by assumption) ?_
    rotate_left
    · intro wz hSw
      try dsimp only at hSw
      go_simp
      try with_reducible rfl
    try simp only [Act.put, List.setIfInBounds_toArray, List.set_cons_zero, List.set_cons_succ]
    refine wpAnyH_take (i := 5) (oi := ⟨_, _, _, _, _, _⟩) (v := ?_) rfl (by kernel_rfl) (by kernel_rfl) (by kernel_rfl) (fun _ _ _ h => h) (Or.inl ⟨by rfl, ?_⟩) (by assumption) ?_
    rotate_left
    · intro wz hSw
      try dsimp only at hSw
      go_simp
      try with_reducible rfl
    try simp only [Act.put, List.setIfInBounds_toArray, List.set_cons_zero, List.set_cons_succ]
    refine wpAnyH_take (i := 6) (oi := ⟨_, _, _, _, _, _⟩) (v := ?_) rfl (by kernel_rfl) (by kernel_rfl) (by kernel_rfl) (fun _ _ _ h => h) (Or.inl ⟨by rfl, ?_⟩) (by assumption) ?_
    rotate_left
    · intro wz hSw
      try dsimp only at hSw
      go_simp
      try with_reducible rfl
    try simp only [Act.put, List.setIfInBounds_toArray, List.set_cons_zero, List.set_cons_succ]
    refine wpAnyH_ready (rs := [7]) (by kernel_rfl) (by simp) ?_
    refine AllReadyH.cons (o := ⟨_, _, _, _, _, _⟩) rfl (fun K hK => ?_) AllReadyH.nil
    go_simp
    refine (KE.out _ A.out.laid _ (Below.refl _ _)).mono ?_
    rintro e w15 ⟨rfl, hb⟩
    replace A := Lib.hid (A.out.step hb)
    replace B1 := Lib.hid (B1.out.step hb)
    clear hb hHeld 
    refine hK.out _ _ (B1.out.c 1 _ rfl) (fun hHeld => ?_)
    clear hK K
    try simp only [Act.put, List.setIfInBounds_toArray, List.set_cons_zero, List.set_cons_succ]
    refine wpAnyH_take (i := 8) (oi := ⟨_, _, _, _, _, _⟩) (v := ?_) rfl (by kernel_rfl) (by kernel_rfl) (by kernel_rfl) (fun _ _ _ h => h) (Or.inl ⟨by rfl, ?_⟩) (by assumption) ?_
    rotate_left
    · intro wz hSw
      try dsimp only at hSw
      go_simp
      try with_reducible rfl
    try simp only [Act.put, List.setIfInBounds_toArray, List.set_cons_zero, List.set_cons_succ]
    refine wpAnyH_take (i := 9) (oi := ⟨_, _, _, _, _, _⟩) (v := ?_) rfl (by kernel_rfl) (by kernel_rfl) (by kernel_rfl) (fun _ _ _ h => h) (Or.inl ⟨by rfl, ?_⟩) (by assumption) ?_
    rotate_left
    · intro wz hSw
      try dsimp only at hSw
      go_simp
      try with_reducible rfl
    try simp only [Act.put, List.setIfInBounds_toArray, List.set_cons_zero, List.set_cons_succ]
    refine wpAnyH_done (by kernel_rfl) ?_ _
    clear hHeld
    go_wp2_with fail
    replace A := Lib.hid A.out.drew
    replace B1 := Lib.hid B1.out.drew
    refine wp_region_held_drew (S := (fun w' => w'.cell? ⟨w5.heap.size, 1, none⟩ = some (.int .i64 g))) (by kernel_rfl) (B1.out.c 1 _ rfl) (fun hHeld => ?_)
    refine wpAnyH_take (i := 0) (oi := ⟨_, _, _, _, _, _⟩) (v := ?_) rfl (by kernel_rfl) (by kernel_rfl) (by kernel_rfl) (fun _ _ _ h => h) (Or.inl ⟨by rfl, ?_⟩) (by assumption) ?_
    rotate_left
    · intro wz hSw
      try dsimp only at hSw
      go_simp
      try with_reducible rfl
    try simp only [Act.put, List.setIfInBounds_toArray, List.set_cons_zero, List.set_cons_succ]
    refine wpAnyH_take (i := 2) (oi := ⟨_, _, _, _, _, _⟩) (v := ?_) rfl (by kernel_rfl) (by kernel_rfl) (by kernel_rfl) (fun _ _ _ h => h) (Or.inl ⟨by rfl, ?_⟩) (by assumption) ?_
    rotate_left
    · intro wz hSw
      try dsimp only at hSw
      go_simp
      try with_reducible rfl
    try simp only [Act.put, List.setIfInBounds_toArray, List.set_cons_zero, List.set_cons_succ]
    refine wpAnyH_take (i := 3) (oi := ⟨_, _, _, _, _, _⟩) (v := ?_) rfl (by kernel_rfl) (by kernel_rfl) (by kernel_rfl) (fun _ _ _ h => h) (Or.inl ⟨by rfl, ?_⟩) (by assumption) ?_
    rotate_left
    · intro wz hSw
      try dsimp only at hSw
      go_simp
      try with_reducible rfl
    try simp only [Act.put, List.setIfInBounds_toArray, List.set_cons_zero, List.set_cons_succ]
    refine wpAnyH_take (i := 5) (oi := ⟨_, _, _, _, _, _⟩) (v := ?_) rfl (by kernel_rfl) (by kernel_rfl) (by kernel_rfl) (fun _ _ _ h => h) (Or.inl ⟨by rfl, ?_⟩) (by assumption) ?_
    rotate_left
    · intro wz hSw
      try dsimp only at hSw
      go_simp
      try with_reducible rfl
    try simp only [Act.put, List.setIfInBounds_toArray, List.set_cons_zero, List.set_cons_succ]
    refine wpAnyH_ready (rs := [1]) (by kernel_rfl) (by simp) ?_
    refine AllReadyH.cons (o := ⟨_, _, _, _, _, _⟩) rfl (fun K hK => ?_) AllReadyH.nil
    go_simp
    refine (K4.out _ A.out.laid _ (Below.refl _ _)).mono ?_
    rintro e w16 ⟨rfl, hb⟩
    replace A := Lib.hid (A.out.step hb)
    replace B1 := Lib.hid (B1.out.step hb)
    clear hb hHeld 
    refine hK.out _ _ (B1.out.c 1 _ rfl) (fun hHeld => ?_)
    clear hK K
    try simp only [Act.put, List.setIfInBounds_toArray, List.set_cons_zero, List.set_cons_succ]
    refine wpAnyH_ready (rs := [4]) (by kernel_rfl) (by simp) ?_
    refine AllReadyH.cons (o := ⟨_, _, _, _, _, _⟩) rfl (fun K hK => ?_) AllReadyH.nil
    go_simp
    refine (K11.out _ A.out.laid _ (Below.refl _ _)).mono ?_
    rintro e w17 ⟨rfl, hb⟩
    replace A := Lib.hid (A.out.step hb)
    replace B1 := Lib.hid (B1.out.step hb)
    clear hb hHeld 
    refine hK.out _ _ (B1.out.c 1 _ rfl) (fun hHeld => ?_)
    clear hK K
    try simp only [Act.put, List.setIfInBounds_toArray, List.set_cons_zero, List.set_cons_succ]
    refine wpAnyH_ready (rs := [6]) (by kernel_rfl) (by simp) ?_
    refine AllReadyH.cons (o := ⟨_, _, _, _, _, _⟩) rfl (fun K hK => ?_) AllReadyH.nil
    go_simp
    refine (K12.out _ A.out.laid _ (Below.refl _ _)).mono ?_
    rintro e w18 ⟨rfl, hb⟩
    replace A := Lib.hid (A.out.step hb)
    replace B1 := Lib.hid (B1.out.step hb)
    clear hb hHeld 
    refine hK.out _ _ (B1.out.c 1 _ rfl) (fun hHeld => ?_)
    clear hK K
    try simp only [Act.put, List.setIfInBounds_toArray, List.set_cons_zero, List.set_cons_succ]
    refine wpAnyH_ready (rs := [7]) (by kernel_rfl) (by simp) ?_
    refine AllReadyH.cons (o := ⟨_, _, _, _, _, _⟩) rfl (fun K hK => ?_) AllReadyH.nil
    go_simp
    have R3 : S2.Row (w18.alloc (.cells #[.string (S3.B [119, 114, 97, 112]), .string (S3.B zy), .string (S3.B zg), .string (S3.B zo)] 9)) (w18.alloc (.cells #[.string (S3.B [119, 114, 97, 112]), .string (S3.B zy), .string (S3.B zg), .string (S3.B zo)] 9)).heap.size (some ⟨w18.heap.size, 0, none⟩) (S2.Ss [[119, 114, 97, 112], zy, zg, zo]) := Lk.strs w18 [[119, 114, 97, 112], zy, zg, zo]
    replace A := Lib.hid (A.out.alloc (.cells #[.string (S3.B [119, 114, 97, 112]), .string (S3.B zy), .string (S3.B zg), .string (S3.B zo)] 9))
    replace B1 := Lib.hid (B1.out.alloc (.cells #[.string (S3.B [119, 114, 97, 112]), .string (S3.B zy), .string (S3.B zg), .string (S3.B zo)] 9))
    clear hHeld
    refine hK.out _ _ (B1.out.c 1 _ rfl) (fun hHeld => ?_)
    clear hK K
    try simp only [Act.put, List.setIfInBounds_toArray, List.set_cons_zero, List.set_cons_succ]
    generalize w18.alloc (.cells #[.string (S3.B [119, 114, 97, 112]), .string (S3.B zy), .string (S3.B zg), .string (S3.B zo)] 9) = w19 at *
    refine wpAnyH_ready (rs := [8]) (by kernel_rfl) (by simp) ?_
    refine AllReadyH.cons (o := ⟨_, _, _, _, _, _⟩) rfl (fun K hK => ?_) AllReadyH.nil
    go_simp
    refine (KM.out (some ⟨w18.heap.size, 0, none⟩) 4 w19 R3).mono ?_
    rintro e w20 ⟨rfl, hb⟩
    replace A := Lib.hid (A.out.step hb)
    replace B1 := Lib.hid (B1.out.step hb)
    clear hb hHeld R3
    refine hK.out _ _ (B1.out.c 1 _ rfl) (fun hHeld => ?_)
    clear hK K
    try simp only [Act.put, List.setIfInBounds_toArray, List.set_cons_zero, List.set_cons_succ]
    refine wpAnyH_ready (rs := [9]) (by kernel_rfl) (by simp) ?_
    refine AllReadyH.cons (o := ⟨_, _, _, _, _, _⟩) rfl (fun K hK => ?_) AllReadyH.nil
    go_simp
    refine (K13.out _ A.out.laid _ (Below.refl _ _)).mono ?_
    rintro e w21 ⟨rfl, hb⟩
    replace A := Lib.hid (A.out.step hb)
    replace B1 := Lib.hid (B1.out.step hb)
    clear hb hHeld 
    refine hK.out _ _ (B1.out.c 1 _ rfl) (fun hHeld => ?_)
    clear hK K
    try simp only [Act.put, List.setIfInBounds_toArray, List.set_cons_zero, List.set_cons_succ]
    refine wpAnyH_take (i := 10) (oi := ⟨_, _, _, _, _, _⟩) (v := ?_) rfl (by kernel_rfl) (by kernel_rfl) (by kernel_rfl) (fun _ _ _ h => h) (Or.inl ⟨by rfl, ?_⟩) (by assumption) ?_
    rotate_left
    · intro wz hSw
      try dsimp only at hSw
      go_simp
      try with_reducible rfl
    try simp only [Act.put, List.setIfInBounds_toArray, List.set_cons_zero, List.set_cons_succ]
    refine wpAnyH_done (by kernel_rfl) ?_ _
    clear hHeld
    have cB1_2 := B1.out.c 2 _ rfl
    have cB1_3 := B1.out.c 3 _ rfl
    have cB1_4 := B1.out.c 4 _ rfl
    go_wp2_with fail
    clear cB1_2 cB1_3 cB1_4
    refine (KO.out _ A.out.laid _ (Below.refl _ _)).mono ?_
    rintro e w22 ⟨rfl, hb⟩
    replace A := Lib.hid (A.out.step hb)
    replace B1 := Lib.hid (B1.out.step hb)
    clear hb
    go_wp2
    go_ret
    exact ⟨rfl, A.out.bel⟩
  · rw [decide_eq_false hc] at hf
    have HF := Lib.hid (hf.trans (decide_eq_false hc).symm)
    obtain rfl := hf
    clear hc hW hhs hhp ix
    go_enter Tryd.func6, Tryd.ntmps6
    go_wp2_with fail
    refine (KS.out _ A.out.laid _ (Below.refl _ _)).mono ?_
    rintro e w1 ⟨rfl, hb⟩
    replace A := Lib.hid (A.out.step hb)
    clear hb
    go_wp2_with fail
    replace A := Lib.hid (A.out.alloc (.cells #[.string (S3.B s), .string (S3.B p)] 9))
    have R1 : S2.Row (w1.alloc (.cells #[.string (S3.B s), .string (S3.B p)] 9)) (w1.alloc (.cells #[.string (S3.B s), .string (S3.B p)] 9)).heap.size (some ⟨w1.heap.size, 0, none⟩) (S2.Ss [s, p]) := Lk.strs w1 [s, p]
    generalize w1.alloc (.cells #[.string (S3.B s), .string (S3.B p)] 9) = w2 at *
    have q := few_any (some ⟨w1.heap.size, 0, none⟩) [s, p] 2 w2 R1 (by simp) HT.out
    rw [← HF.out] at q
    refine q.mono ?_
    rintro e w3 ⟨rfl, hq⟩
    obtain rfl := hq.symm
    clear R1 q
    go_wp2
    go_ret
    exact ⟨rfl, A.out.bel⟩
end Se
end Go.Proofs.YtgldbfdiebkfiaaDoor
