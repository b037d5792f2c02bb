/-
  Layer 6: the landed package: the stream, an iterator.
-/
import Derived.Test.YtgldbfdiebkfiaaDoorSealHash
import Derived.RangeFuncNested
import Derived.RangeFuncBound
import Derived.RangeFuncCalls
import Derived.RangeFuncLeaves
import Derived.Shelf.Abstract
import Derived.Shelf.RegionOpen
import Derived.WalkKit
import Derived.OwnWalkIn
import Derived.TacticsInMore
import Derived.LoopNIn
import Derived.LoopIn
namespace Go.Proofs.YtgldbfdiebkfiaaDoor
open Go.RowKit Go.Shelf
namespace Se
attribute [local go_sem] Oper.semAt_some S3.B_size S3.B_app S3.B_list S3.B_take S3.B_drop'
attribute [local go_sem] lit_tag lit_eph lit_wrap lit_stream lit_nonce

/-- What a round keeps: whatever lay below M but for the block o. -/
structure KpB (M o : Nat) (W W' : World) : Prop where
  size : W.heap.size ≤ W'.heap.size
  blk : ∀ g, g < M → g ≠ o → W'.heap[g]? = W.heap[g]?
theorem KpB.refl (M o : Nat) (W : World) : KpB M o W W := ⟨Nat.le_refl _, fun _ _ _ => rfl⟩
theorem KpB.trans {M o : Nat} {A B C : World} (h : KpB M o A B) (k : KpB M o B C) : KpB M o A C := ⟨Nat.le_trans h.size k.size, fun g h1 h2 => (k.blk g h1 h2).trans (h.blk g h1 h2)⟩
theorem KpB.below {M o : Nat} {W W' : World} (hM : M ≤ W.heap.size) (h : Below W.heap.size W W') : KpB M o W W' := ⟨h.size, fun g h1 _ => h.block g (Nat.lt_of_lt_of_le h1 hM)⟩
theorem KpB.put {M o : Nat} (W : World) (l : Nat) (x : Obj) (h : M ≤ l) : KpB M o W (W.putObj l x) := ⟨by simp [World.putObj], fun g h1 _ => World.putObj_heap_other (by omega)⟩
theorem KpB.laid {M o : Nat} {W W' : World} (k : KpB M o W W') (h : S3.Laid W) (h1 : 1 < o ∧ 0 < o) (hM : o < M) : S3.Laid W' := by
  obtain ⟨a, ⟨t, fr, b⟩, c, d⟩ := h
  have e1 := k.blk 1 (by omega) (by omega)
  have e2 := k.blk 0 (by omega) (by omega)
  have hs := k.size
  exact ⟨fun j hj => (World.cell?_of_block (a := ⟨1, j, none⟩) e1).trans (a j hj), ⟨t, fr, e2.trans b⟩, by omega, by omega⟩
def upto (k n : List UInt8) (j : Nat) : List (Nat × UInt8) := (List.range j).map fun i => (i, sb k n i)
theorem upto_succ (k n : List UInt8) (j : Nat) : upto k n (j + 1) = upto k n j ++ [(j, sb k n j)] := by simp [upto, List.range_succ]
def outp {N : Nat} (x : Fin N × UInt8) : Nat × UInt8 := (x.1.val, x.2)
def encs {N : Nat} (x : Fin N × UInt8) : Array Value := #[.int .i64 (x.1.val : Int), .int .u8 (x.2.toNat : Nat)]

set_option maxHeartbeats 4000000 in
set_option maxRecDepth 100000 in
theorem stream1_in (m : Nat) (hm : 1 ≤ m) (l Bn Bk Bv M o : Nat) (k n : List UInt8) (N : Nat) (hN : N ≤ 3700) (hkn : k.length + n.length ≤ 3700) (hoM : o < M) (hlo : 1 < o ∧ 0 < o) (J Jx : List (Fin N × UInt8) → World → Prop)
    (hJg : ∀ s W W', J s W → Below W.heap.size W W' → J s W')
    (hY : ∀ pre x W1, J pre W1 → pre.length < N → YieldAt Fence.wide (m - 1) Tryd.prog l (encs x) W1 fun e W' =>
      (e = .returned (.bool true) ∧ J (pre ++ [x]) W' ∧ KpB M o W1 W') ∨ (e = .returned (.bool false) ∧ Jx (pre ++ [x]) W'))
    (W : World) (hM : M ≤ W.heap.size) (hL : S3.Laid W) (hBn : W.cell? ⟨Bn, 0, none⟩ = some (.int .i64 (N : Int))) (hBk : Lk.Bl W Bk [.string (S3.B k)] 9) (hBv : Lk.Bl W Bv [.string (S3.B n)] 9) (hk2 : Bk < M ∧ Bk ≠ o) (hv2 : Bv < M ∧ Bv ≠ o) (h0 : J [] W) :
    CallsIn Fence.wide m Tryd.prog 56 #[.func (.yield l) #[] #[], .pointer (some ⟨Bn, 0, none⟩), .pointer (some ⟨Bk, 0, none⟩), .pointer (some ⟨Bv, 0, none⟩)] W fun e W' => (∃ v, e = .returned v) ∧
      ((∃ xs, xs.map outp = upto k n N ∧ J xs W') ∨ (∃ pre, True ∧ Jx pre W')) := by
  unfold encs at hY
  have HL := Lib.hid hL
  have HBK := Lib.hid hBk
  have HBV := Lib.hid hBv
  have HJG := Lib.hid hJg
  have HKN := Lib.hid hkn
  clear hL hBk hBv hJg hkn
  refine callsIn_of_wp Tryd.func56 rfl trivial ?_ rfl
  simp only [Tryd.ntmps56, List.size_toArray, List.length_cons, List.length_nil, Nat.reduceAdd, Nat.reduceSub, Array.replicate_succ, Array.replicate_zero, List.push_toArray, List.append_toArray, List.nil_append, List.cons_append]
  gi_wp2
  rw [show (⟨#[]⟩ : ByteArray) = S3.B (held k n 0) from rfl]
  gi_loopw [5, 8] (fun b i wr => ∃ (j : Nat) (pre : List (Fin N × UInt8)), j ≤ N ∧ i = .int .i64 (j : Int) ∧ b = .string (S3.B (held k n j)) ∧ pre.map outp = upto k n j ∧ J pre wr ∧ KpB M o W wr) (fun _ i _ => N - (intOf i).toNat)
  case atStart => exact ⟨0, [], by omega, rfl, rfl, rfl, h0, KpB.refl _ _ _⟩
  case round =>
    obtain ⟨j, pre, hj, rfl, rfl, hpre, hJs, hkp⟩ := hrel
    have HP := Lib.hid hpre
    clear hpre h0 hBn
    by_cases hlt : j < N
    · have hlt' : (j : Int) < (N : Int) := by omega
      have hN' : (N : Int) ≤ 3700 := by omega
      have hbl : (blk k n (j / 32)).length = 32 := H_len _
      have hsb2 : sb k n j = (blk k n (j / 32))[j % 32]'(by omega) := by
        unfold sb
        rw [List.getD_eq_getElem?_getD, List.getElem?_eq_getElem (by omega)]; rfl
      have hnx := held_next k n j
      obtain ⟨blkv, hbv⟩ : ∃ b, b = blk k n (j / 32) := ⟨_, rfl⟩
      have hg2 : ∀ h, ((S3.B blkv)[j % 32]'h).toNat = (sb k n j).toNat := fun h => by subst hbv; rw [hsb2]; rfl
      have hb32 : blkv.length = 32 := by rw [hbv]; exact hbl
      obtain ⟨p, hp⟩ : ∃ p, p = j % 32 := ⟨_, rfl⟩
      have hm32 : (p : Int) < 32 := by omega
      have em1 : (j : Int).tmod 32 = (p : Int) := by rw [Int.tmod_eq_emod_of_nonneg (by omega)]; omega
      have em2 : (j : Int) % 32 = (p : Int) := by omega
      have hg3 : ∀ h, ((S3.B blkv)[p]'h).toNat = (sb k n j).toNat := fun h => by subst hp; exact hg2 h
      rw [← hbv] at hnx
      have HNX := Lib.hid hnx
      by_cases h0 : j % 32 = 0
      · have hnn : S2.Cd.encN (j / 32) = S5.Sg.encZ ((j / 32 : Nat) : Int) := by
          unfold S5.Sg.encZ
          rw [if_neg (by omega), Int.toNat_natCast]
        obtain ⟨d, hd⟩ : ∃ d, d = j / 32 := ⟨_, rfl⟩
        rw [← hd] at hnn hbv
        have k1 := fun W => S5.Sg.num_ok W (d : Int) (by unfold S5.Sg.isI S4.isI64; omega)
        rw [← hnn] at k1
        have hnl := S2.Cd.encN_len d
        have ed1 : (j : Int).tdiv 32 = (d : Int) := by rw [Int.tdiv_eq_ediv_of_nonneg (by omega)]; omega
        have ed2 : (j : Int) / 32 = (d : Int) := by omega
        have ed3 : IntKind.i64.wrap (d : Int) = d := IntWalk.i64_in _ (by omega)
        have hbv2 : blkv = H [[115, 116, 114, 101, 97, 109], k, n, S2.Cd.encN d] := hbv
        generalize S2.Cd.encN d = y at k1 hbv2 hnl
        have hKN := HKN.out
        have kh := fun A w hW hr => phash_any A [[115, 116, 114, 101, 97, 109], k, n, y] 4 w hW hr (by simp) (by simp; omega)
        rw [← hbv2] at kh
        have K1 := Lib.hid k1
        have KH := Lib.hid kh
        have hm0 : (p : Int) = 0 := by omega
        have A := Lib.hid (Lk.At.start (hkp.laid HL.out hlo hoM))
        have BK := Lib.hid (Lk.Bl.mk ((hkp.blk _ hk2.1 hk2.2).trans HBK.out.row))
        have BV := Lib.hid (Lk.Bl.mk ((hkp.blk _ hv2.1 hv2.2).trans HBV.out.row))
        have HKP0 := Lib.hid hkp
        have HJ0 := Lib.hid hJs
        clear k1 kh hnx hbv hbv2 hg2 hsb2 hbl h0 hnn hd hnl hKN hkp hJs
        obtain rfl : p = 0 := by omega
        clear hp hm0
        rw [show ((0 : Nat) : Int) = 0 from rfl] at em1 em2 hm32
        gi_wp2
        refine wpIn_wide.2 ?_
        replace A := Lib.hid A.out.drew
        replace BK := Lib.hid BK.out.drew
        replace BV := Lib.hid BV.out.drew
        refine wp_region_held_drew (S := (fun w' => w'.cell? ⟨Bk, 0, none⟩ = some (.string (S3.B k)) ∧ w'.cell? ⟨Bv, 0, none⟩ = some (.string (S3.B n)))) (by kernel_rfl) ⟨BK.out.c 0 _ rfl, BV.out.c 0 _ rfl⟩ (fun hHeld => ?_)
        refine wpAnyH_take (i := 0) (oi := ⟨_, _, _, _, _, _⟩) (v := ?_) rfl (by kernel_rfl) (by kernel_rfl) (by kernel_rfl) (fun _ _ _ h => h) (Or.inl ⟨by rfl, ?_⟩) (by assumption) ?_
        rotate_left
        · intro wz hSw
          try dsimp only at hSw
          go_simp
          try with_reducible rfl
        try simp only [Act.put, List.setIfInBounds_toArray, List.set_cons_zero, List.set_cons_succ]
        refine wpAnyH_take (i := 1) (oi := ⟨_, _, _, _, _, _⟩) (v := ?_) rfl (by kernel_rfl) (by kernel_rfl) (by kernel_rfl) (fun _ _ _ h => h) (Or.inl ⟨by rfl, ?_⟩) (by assumption) ?_
        rotate_left
        · intro wz hSw
          try dsimp only at hSw
          go_simp
          try with_reducible rfl
        try simp only [Act.put, List.setIfInBounds_toArray, List.set_cons_zero, List.set_cons_succ]
        refine wpAnyH_take (i := 2) (oi := ⟨_, _, _, _, _, _⟩) (v := ?_) rfl (by kernel_rfl) (by kernel_rfl) (by kernel_rfl) (fun _ _ _ h => h) (Or.inl ⟨by rfl, ?_⟩) (by assumption) ?_
        rotate_left
        · intro wz hSw
          try dsimp only at hSw
          go_simp
          try with_reducible rfl
        try simp only [Act.put, List.setIfInBounds_toArray, List.set_cons_zero, List.set_cons_succ]
        refine wpAnyH_take (i := 3) (oi := ⟨_, _, _, _, _, _⟩) (v := ?_) rfl (by kernel_rfl) (by kernel_rfl) (by kernel_rfl) (fun _ _ _ h => h) (Or.inl ⟨by rfl, ?_⟩) (by assumption) ?_
        rotate_left
        · intro wz hSw
          try dsimp only at hSw
          go_simp
          try with_reducible rfl
        try simp only [Act.put, List.setIfInBounds_toArray, List.set_cons_zero, List.set_cons_succ]
        refine wpAnyH_ready (rs := [4]) (by kernel_rfl) (by simp) ?_
        refine AllReadyH.cons (o := ⟨_, _, _, _, _, _⟩) rfl (fun K hK => ?_) AllReadyH.nil
        go_simp
        refine (K1.out _ _ (Below.refl _ _)).mono ?_
        rintro e w1 ⟨rfl, hb⟩
        replace A := Lib.hid (A.out.step hb)
        replace BK := Lib.hid (BK.out.step hb)
        replace BV := Lib.hid (BV.out.step hb)
        clear hb hHeld 
        refine hK.out _ _ ⟨BK.out.c 0 _ rfl, BV.out.c 0 _ rfl⟩ (fun hHeld => ?_)
        clear hK K
        try simp only [Act.put, List.setIfInBounds_toArray, List.set_cons_zero, List.set_cons_succ]
        refine wpAnyH_ready (rs := [5]) (by kernel_rfl) (by simp) ?_
        refine AllReadyH.cons (o := ⟨_, _, _, _, _, _⟩) rfl (fun K hK => ?_) AllReadyH.nil
        go_simp
        have R1 : S2.Row (w1.alloc (.cells #[.string (S3.B [115, 116, 114, 101, 97, 109]), .string (S3.B k), .string (S3.B n), .string (S3.B y)] 9)) (w1.alloc (.cells #[.string (S3.B [115, 116, 114, 101, 97, 109]), .string (S3.B k), .string (S3.B n), .string (S3.B y)] 9)).heap.size (some ⟨w1.heap.size, 0, none⟩) (S2.Ss [[115, 116, 114, 101, 97, 109], k, n, y]) := Lk.strs w1 [[115, 116, 114, 101, 97, 109], k, n, y]
        replace A := Lib.hid (A.out.alloc (.cells #[.string (S3.B [115, 116, 114, 101, 97, 109]), .string (S3.B k), .string (S3.B n), .string (S3.B y)] 9))
        replace BK := Lib.hid (BK.out.alloc (.cells #[.string (S3.B [115, 116, 114, 101, 97, 109]), .string (S3.B k), .string (S3.B n), .string (S3.B y)] 9))
        replace BV := Lib.hid (BV.out.alloc (.cells #[.string (S3.B [115, 116, 114, 101, 97, 109]), .string (S3.B k), .string (S3.B n), .string (S3.B y)] 9))
        clear hHeld
        refine hK.out _ _ ⟨BK.out.c 0 _ rfl, BV.out.c 0 _ rfl⟩ (fun hHeld => ?_)
        clear hK K
        try simp only [Act.put, List.setIfInBounds_toArray, List.set_cons_zero, List.set_cons_succ]
        generalize w1.alloc (.cells #[.string (S3.B [115, 116, 114, 101, 97, 109]), .string (S3.B k), .string (S3.B n), .string (S3.B y)] 9) = w2 at *
        refine wpAnyH_ready (rs := [6]) (by kernel_rfl) (by simp) ?_
        refine AllReadyH.cons (o := ⟨_, _, _, _, _, _⟩) rfl (fun K hK => ?_) AllReadyH.nil
        go_simp
        refine (KH.out (some ⟨w1.heap.size, 0, none⟩) w2 A.out.laid R1).mono ?_
        rintro e w3 ⟨rfl, hb⟩
        replace A := Lib.hid (A.out.step hb)
        replace BK := Lib.hid (BK.out.step hb)
        replace BV := Lib.hid (BV.out.step hb)
        clear hb hHeld 
        refine hK.out _ _ ⟨BK.out.c 0 _ rfl, BV.out.c 0 _ rfl⟩ (fun hHeld => ?_)
        clear hK K
        try simp only [Act.put, List.setIfInBounds_toArray, List.set_cons_zero, List.set_cons_succ]
        refine wpAnyH_take (i := 7) (oi := ⟨_, _, _, _, _, _⟩) (v := ?_) rfl (by kernel_rfl) (by kernel_rfl) (by kernel_rfl) (fun _ _ _ h => h) (Or.inl ⟨by rfl, ?_⟩) (by assumption) ?_
        rotate_left
        · intro wz hSw
          try dsimp only at hSw
          go_simp
          try with_reducible rfl
        try simp only [Act.put, List.setIfInBounds_toArray, List.set_cons_zero, List.set_cons_succ]
        refine wpAnyH_done (by kernel_rfl) ?_ _
        clear hHeld
        have HJ := Lib.hid (HJG.out _ _ _ HJ0.out A.out.bel)
        have HKP := Lib.hid (HKP0.out.trans (KpB.below (Nat.le_trans hM HKP0.out.size) A.out.bel))
        clear HJ0 HKP0 A BK BV KH K1 ed1 ed2 ed3
        obtain ⟨fn, tmps, assign, body, hy, hR⟩ := hY pre (⟨j, hlt⟩, sb k n j) w3 HJ.out (by have := congrArg List.length HP.out; simp [upto] at this; omega)
        dsimp only at hy
        clear HJ
        gi_wp2
        refine hR.mono ?_
        rintro e W3 (⟨rfl, hJ3, hk3⟩ | ⟨rfl, hJx3⟩)
        · have R : ∃ (j' : Nat) (pre' : List (Fin N × UInt8)), j' ≤ N ∧ Value.int .i64 ((j : Int) + 1) = .int .i64 (j' : Int) ∧ Value.string (S3.B blkv) = .string (S3.B (held k n j')) ∧ pre'.map outp = upto k n j' ∧ J pre' W3 ∧ KpB M o W W3 := ⟨j + 1, pre ++ [(⟨j, hlt⟩, sb k n j)], hlt, by rw [Int.natCast_add]; rfl, by rw [HNX.out], by rw [upto_succ, List.map_append, HP.out]; rfl, hJ3, HKP.out.trans hk3⟩
          clear hJ3 hk3 hy hR
          gi_wp2
          go_roundw
          case rel => exact R
          case measure => simp [intOf]; omega
        · gi_wp2
          refine bodyPost_ret (results_none rfl _ _ _) rfl ?_
          exact ⟨⟨_, rfl⟩, .inr ⟨_, trivial, hJx3⟩⟩
      · have hne : (p : Int) ≠ 0 := by omega
        have hsm := held_same k n j h0
        rw [← hbv] at hsm
        rw [hsm]
        have HKP := Lib.hid hkp
        have HJ := Lib.hid hJs
        clear hnx hbv hg2 hsb2 hbl h0 hp hkp hJs hsm
        obtain ⟨fn, tmps, assign, body, hy, hR⟩ := hY pre (⟨j, hlt⟩, sb k n j) wr HJ.out (by have := congrArg List.length HP.out; simp [upto] at this; omega)
        dsimp only at hy
        clear HJ
        gi_wp2
        refine hR.mono ?_
        rintro e W3 (⟨rfl, hJ3, hk3⟩ | ⟨rfl, hJx3⟩)
        · have R : ∃ (j' : Nat) (pre' : List (Fin N × UInt8)), j' ≤ N ∧ Value.int .i64 ((j : Int) + 1) = .int .i64 (j' : Int) ∧ Value.string (S3.B blkv) = .string (S3.B (held k n j')) ∧ pre'.map outp = upto k n j' ∧ J pre' W3 ∧ KpB M o W W3 := ⟨j + 1, pre ++ [(⟨j, hlt⟩, sb k n j)], hlt, by rw [Int.natCast_add]; rfl, by rw [HNX.out], by rw [upto_succ, List.map_append, HP.out]; rfl, hJ3, HKP.out.trans hk3⟩
          clear hJ3 hk3 hy hR
          gi_wp2
          go_roundw
          case rel => exact R
          case measure => simp [intOf]; omega
        · gi_wp2
          refine bodyPost_ret (results_none rfl _ _ _) rfl ?_
          exact ⟨⟨_, rfl⟩, .inr ⟨_, trivial, hJx3⟩⟩
    · obtain rfl : j = N := by omega
      gi_wp2
      go_end0
      exact ⟨⟨_, rfl⟩, .inl ⟨pre, HP.out, hJs⟩⟩
end Se
end Go.Proofs.YtgldbfdiebkfiaaDoor
