/-
  Layer 6: the laws' own small example.
-/
import Derived.Test.YtgldbfdiebkfiaaDoorSealLand
namespace Go.Proofs.YtgldbfdiebkfiaaDoor
open Go.RowKit
namespace Se
attribute [local go_sem] S3.B_size S3.B_app S3.B_list

theorem lit_x : (⟨#[120]⟩ : ByteArray) = S3.B [120] := rfl
attribute [local go_sem] lit_x

set_option maxHeartbeats 8000000 in
set_option maxRecDepth 100000 in
theorem small_walk (W w : World) (hW : S3.Laid W) (hb : Below W.heap.size W w) (d t wn wd wt : List UInt8) (g : Int) (hd : d.length = 5) (ht : t.length = 16)
    (KS : Hid (∀ W : World, S3.Laid W → S5.Sg.Ok W 16 #[.string (S3.B [107]), .string (S3.B [110]), .string (S3.B [104, 101, 108, 108, 111])] (.agg #[.string (S3.B [110]), .string (S3.B d), .string (S3.B t)])))
    (KO : Hid (∀ W : World, S3.Laid W → S5.Sg.Ok W 10 #[.string (S3.B [107]), .agg #[.string (S3.B [110]), .string (S3.B d), .string (S3.B t)]] (.tuple #[.string (S3.B [104, 101, 108, 108, 111]), .bool true])))
    (KP : Hid (∀ W : World, S3.Laid W → S5.Sg.Ok W 10 #[.string (S3.B [107]), .agg #[.string (S3.B [110]), .string (S3.B d), .string (S3.B (t ++ [120]))]] (.tuple #[.string (S3.B []), .bool false])))
    (KV : Hid (∀ W : World, S3.Laid W → S5.Sg.Ok W 12 #[.int .i64 0, .string (S3.B [115]), .string (S3.B [120])] (.tuple #[.agg #[.int .i64 0, .int .i64 0, .string (S3.B []), .string (S3.B []), .string (S3.B [])], .bool false])))
    (KW : Hid (∀ W : World, S3.Laid W → S5.Sg.Ok W 12 #[.int .i64 2305843009213693951, .string (S3.B [115]), .string (S3.B [120])] (.tuple #[.agg #[.int .i64 0, .int .i64 0, .string (S3.B []), .string (S3.B []), .string (S3.B [])], .bool false])))
    (KX : Hid (∀ W : World, S3.Laid W → S5.Sg.Ok W 12 #[.int .i64 50653, .string (S3.B [115]), .string (S3.B [120])] (.tuple #[.agg #[.int .i64 50653, .int .i64 g, .string (S3.B wn), .string (S3.B wd), .string (S3.B wt)], .bool true])))
    (KU : Hid (∀ W : World, S3.Laid W → S5.Sg.Ok W 14 #[.int .i64 3, .agg #[.int .i64 50653, .int .i64 g, .string (S3.B wn), .string (S3.B wd), .string (S3.B wt)]] (.tuple #[.string (S3.B [120]), .bool true]))) :
    Calls Tryd.prog 8 #[] w fun e w' => e = .returned (.bool true) ∧ Below W.heap.size W w' := by
  have A := Lib.hid (Lk.At.from hW hb)
  clear hW hb
  go_enter Tryd.func8, Tryd.ntmps8
  go_wp2_with fail
  refine (KS.out _ A.out.laid _ (Below.refl _ _)).mono ?_
  rintro e w1 ⟨rfl, hb⟩
  replace A := Lib.hid (A.out.step hb)
  clear hb
  go_wp2_with fail
  replace A := Lib.hid (A.out.alloc (.cells #[.string (S3.B [110]), .string (S3.B d), .string (S3.B t)] 23))
  have B1 := Lib.hid (Lk.Bl.new w1 [.string (S3.B [110]), .string (S3.B d), .string (S3.B t)] 23)
  generalize w1.alloc (.cells #[.string (S3.B [110]), .string (S3.B d), .string (S3.B t)] 23) = w2 at *
  refine (KO.out _ A.out.laid _ (Below.refl _ _)).mono ?_
  rintro e w3 ⟨rfl, hb⟩
  replace A := Lib.hid (A.out.step hb)
  replace B1 := Lib.hid (B1.out.step hb)
  clear hb
  have cB1_0 := B1.out.c 0 _ rfl
  have cB1_1 := B1.out.c 1 _ rfl
  have cB1_2 := B1.out.c 2 _ rfl
  go_wp2_with fail
  clear cB1_0 cB1_1 cB1_2
  refine (KP.out _ A.out.laid _ (Below.refl _ _)).mono ?_
  rintro e w4 ⟨rfl, hb⟩
  replace A := Lib.hid (A.out.step hb)
  replace B1 := Lib.hid (B1.out.step hb)
  clear hb
  go_wp2_with fail
  refine (KV.out _ A.out.laid _ (Below.refl _ _)).mono ?_
  rintro e w5 ⟨rfl, hb⟩
  replace A := Lib.hid (A.out.step hb)
  replace B1 := Lib.hid (B1.out.step hb)
  clear hb
  go_wp2_with fail
  replace A := Lib.hid (A.out.alloc (.cells #[.int .i64 0, .int .i64 0, .string (S3.B []), .string (S3.B []), .string (S3.B [])] 25))
  replace B1 := Lib.hid (B1.out.alloc (.cells #[.int .i64 0, .int .i64 0, .string (S3.B []), .string (S3.B []), .string (S3.B [])] 25))
  have B2 := Lib.hid (Lk.Bl.new w5 [.int .i64 0, .int .i64 0, .string (S3.B []), .string (S3.B []), .string (S3.B [])] 25)
  generalize w5.alloc (.cells #[.int .i64 0, .int .i64 0, .string (S3.B []), .string (S3.B []), .string (S3.B [])] 25) = w6 at *
  refine (KW.out _ A.out.laid _ (Below.refl _ _)).mono ?_
  rintro e w7 ⟨rfl, hb⟩
  replace A := Lib.hid (A.out.step hb)
  replace B1 := Lib.hid (B1.out.step hb)
  replace B2 := Lib.hid (B2.out.step hb)
  clear hb
  go_wp2_with fail
  replace A := Lib.hid (A.out.alloc (.cells #[.int .i64 0, .int .i64 0, .string (S3.B []), .string (S3.B []), .string (S3.B [])] 25))
  replace B1 := Lib.hid (B1.out.alloc (.cells #[.int .i64 0, .int .i64 0, .string (S3.B []), .string (S3.B []), .string (S3.B [])] 25))
  replace B2 := Lib.hid (B2.out.alloc (.cells #[.int .i64 0, .int .i64 0, .string (S3.B []), .string (S3.B []), .string (S3.B [])] 25))
  have B3 := Lib.hid (Lk.Bl.new w7 [.int .i64 0, .int .i64 0, .string (S3.B []), .string (S3.B []), .string (S3.B [])] 25)
  generalize w7.alloc (.cells #[.int .i64 0, .int .i64 0, .string (S3.B []), .string (S3.B []), .string (S3.B [])] 25) = w8 at *
  refine (KX.out _ A.out.laid _ (Below.refl _ _)).mono ?_
  rintro e w9 ⟨rfl, hb⟩
  replace A := Lib.hid (A.out.step hb)
  replace B1 := Lib.hid (B1.out.step hb)
  replace B2 := Lib.hid (B2.out.step hb)
  replace B3 := Lib.hid (B3.out.step hb)
  clear hb
  go_wp2_with fail
  replace A := Lib.hid (A.out.alloc (.cells #[.int .i64 50653, .int .i64 g, .string (S3.B wn), .string (S3.B wd), .string (S3.B wt)] 25))
  replace B1 := Lib.hid (B1.out.alloc (.cells #[.int .i64 50653, .int .i64 g, .string (S3.B wn), .string (S3.B wd), .string (S3.B wt)] 25))
  replace B2 := Lib.hid (B2.out.alloc (.cells #[.int .i64 50653, .int .i64 g, .string (S3.B wn), .string (S3.B wd), .string (S3.B wt)] 25))
  replace B3 := Lib.hid (B3.out.alloc (.cells #[.int .i64 50653, .int .i64 g, .string (S3.B wn), .string (S3.B wd), .string (S3.B wt)] 25))
  have B4 := Lib.hid (Lk.Bl.new w9 [.int .i64 50653, .int .i64 g, .string (S3.B wn), .string (S3.B wd), .string (S3.B wt)] 25)
  generalize w9.alloc (.cells #[.int .i64 50653, .int .i64 g, .string (S3.B wn), .string (S3.B wd), .string (S3.B wt)] 25) = w10 at *
  refine (KU.out _ A.out.laid _ (Below.refl _ _)).mono ?_
  rintro e w11 ⟨rfl, hb⟩
  replace A := Lib.hid (A.out.step hb)
  replace B1 := Lib.hid (B1.out.step hb)
  replace B2 := Lib.hid (B2.out.step hb)
  replace B3 := Lib.hid (B3.out.step hb)
  replace B4 := Lib.hid (B4.out.step hb)
  clear hb
  have cB1_1 := B1.out.c 1 _ rfl
  have cB1_2 := B1.out.c 2 _ rfl
  have cB1_0 := B1.out.c 0 _ rfl
  have cB4_0 := B4.out.c 0 _ rfl
  go_wp2
  go_ret
  exact ⟨rfl, A.out.bel⟩

theorem wrapIn_len (y : Int) (s p : List UInt8) : (wrapIn y s p).box.n.length = 32 ∧ (wrapIn y s p).box.d.length = p.length ∧ (wrapIn y s p).box.t.length = 16 := ⟨H_len _, mix_len _ _ _, tag_len _ _ _⟩
theorem wr_eta (w : Wr) {y : Int} (h : w.to = y) : (⟨y, w.eph, ⟨w.box.n, w.box.d, w.box.t⟩⟩ : Wr) = w := by subst h; rfl
theorem pub3 : ((S5.Sg.pub 3 : Nat) : Int) = 50653 := by
  have h : S5.Sg.pub 3 = 50653 := by
    unfold S5.Sg.pub S4.powP
    decide +kernel
  rw [h]; rfl
theorem small_ok (L : Landed) (W : World) (hW : S3.Laid W) : S5.Sg.Ok W 8 #[] (.bool true) := by
  intro w hb
  have big : ∀ n : Int, 0 ≤ n → n < 2305843009213693952 → S5.Sg.isI n := fun n h1 h2 => by unfold S5.Sg.isI S4.isI64; omega
  have hx : isPub 50653 := by decide
  have hu := unwrap_wrap 3 [115] [120] (by decide)
  rw [pub3] at hu
  unfold wrapV at hu
  rw [if_pos hx] at hu
  have hg : S5.Sg.isI (wrapIn 50653 [115] [120]).eph := by
    have h1 := S5.Sg.pub_lt (ephS 50653 [115])
    show S5.Sg.isI (S5.Sg.pub (ephS 50653 [115]) : Nat)
    exact big _ (by omega) (by omega)
  have hl : (wrapIn 50653 [115] [120]).box.n.length + (wrapIn 50653 [115] [120]).box.d.length ≤ 2100 := by
    have h1 := wrapIn_len 50653 [115] [120]
    rw [h1.1, h1.2.1]
    simp
  refine small_walk W w hW hb (mix [107] [110] [104, 101, 108, 108, 111]) (tag [107] [110] (mix [107] [110] [104, 101, 108, 108, 111])) (wrapIn 50653 [115] [120]).box.n (wrapIn 50653 [115] [120]).box.d (wrapIn 50653 [115] [120]).box.t (wrapIn 50653 [115] [120]).eph (mix_len _ _ _) (tag_len _ _ _) (Lib.hid fun W hW => ?_) (Lib.hid fun W hW => ?_) (Lib.hid fun W hW => ?_) (Lib.hid fun W hW => ?_) (Lib.hid fun W hW => ?_) (Lib.hid fun W hW => ?_) (Lib.hid fun W hW => ?_)
  · exact (L W hW).sealP [107] [110] [104, 101, 108, 108, 111] (by decide)
  · have h := (L W hW).openP [107] [110] (mix [107] [110] [104, 101, 108, 108, 111]) (tag [107] [110] (mix [107] [110] [104, 101, 108, 108, 111])) (by rw [mix_len]; decide)
    have e := open_seal [107] [110] [104, 101, 108, 108, 111]
    unfold sealV at e
    rw [e] at h
    exact h
  · have h := (L W hW).openP [107] [110] (mix [107] [110] [104, 101, 108, 108, 111]) (tag [107] [110] (mix [107] [110] [104, 101, 108, 108, 111]) ++ [120]) (by rw [mix_len]; decide)
    have e : openV [107] ⟨[110], mix [107] [110] [104, 101, 108, 108, 111], tag [107] [110] (mix [107] [110] [104, 101, 108, 108, 111]) ++ [120]⟩ = ([], false) := by
      unfold openV
      refine if_neg fun h => ?_
      have := congrArg List.length h
      simp at this
    rw [e] at h
    exact h
  · have h := (L W hW).wrapP 0 [115] [120] (big 0 (by decide) (by decide)) (by decide)
    exact h
  · have h := (L W hW).wrapP 2305843009213693951 [115] [120] (big _ (by decide) (by decide)) (by decide)
    exact h
  · have h := (L W hW).wrapP 50653 [115] [120] (big _ (by decide) (by decide)) (by decide)
    unfold wrapV at h
    rw [if_pos hx] at h
    exact h
  · have h := (L W hW).unwrapP 3 50653 (wrapIn 50653 [115] [120]).eph (wrapIn 50653 [115] [120]).box.n (wrapIn 50653 [115] [120]).box.d (wrapIn 50653 [115] [120]).box.t (big _ (by decide) (by decide)) (big _ (by decide) (by decide)) hg hl
    have e : unwrapV 3 ⟨50653, (wrapIn 50653 [115] [120]).eph, ⟨(wrapIn 50653 [115] [120]).box.n, (wrapIn 50653 [115] [120]).box.d, (wrapIn 50653 [115] [120]).box.t⟩⟩ = ([120], true) := by
      rw [wr_eta (y := 50653) (wrapIn 50653 [115] [120]) rfl]
      exact hu
    rw [e] at h
    exact h
end Se
end Go.Proofs.YtgldbfdiebkfiaaDoor
