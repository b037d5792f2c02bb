/-
  Layer 7: the laws' own small example.
-/
import Derived.Test.YtjpgadiobgbchaaDoorShareLand
import Derived.Deep.Slices
namespace Go.Proofs.YtjpgadiobgbchaaDoor
open Go.RowKit
namespace Sh
attribute [local go_sem] S3.B_size S3.B_app S3.B_list

theorem joinK (L : Landed) {l : List (Int × Int)} {t : Int} {r : Int × Bool} (e : joinP l t = r) (hl : l.length ≤ 100) (ht : S4.isI64 t) (w : World) (A : Option Addr) (c : Nat) (h : Rw w A l) (hc : l.length ≤ c) :
    Calls Tryd.prog 12 #[.slice A l.length c, .int .i64 t] w fun e w' => e = .returned (.tuple #[.int .i64 r.1, .bool r.2]) ∧ Below w.heap.size w w' := by
  have h1 := L.join A l c t w h hl hc ht
  rw [e] at h1
  exact h1
theorem fitK (L : Landed) {l : List (Int × Int)} {t : Int} {b : Bool} (e : fitP l t = b) (hl : l.length ≤ 100) (ht : S4.isI64 t) (w : World) (A : Option Addr) (c : Nat) (h : Rw w A l) (hc : l.length ≤ c) :
    Calls Tryd.prog 14 #[.slice A l.length c, .int .i64 t] w fun e w' => e = .returned (.bool b) ∧ Below w.heap.size w w' := by
  have h1 := L.fits A l c t w h hl hc ht
  rw [e] at h1
  exact h1

set_option maxHeartbeats 8000000 in
set_option maxRecDepth 100000 in
theorem small_ok (L : Landed) (W : World) (hW : S3.Laid W) : S5.Sg.Ok W 8 #[] (.bool true) := by
  intro w hb
  have A := Lib.hid (Lk.At.from hW hb)
  have KA := Lib.hid (joinK L (l := [(1, 3), (2, 5)]) (t := 2) join_a (by decide) (by unfold S4.isI64; omega))
  have KB := Lib.hid (joinK L (l := [(2, 5), (1, 3)]) (t := 2) join_b (by decide) (by unfold S4.isI64; omega))
  have KC := Lib.hid (joinK L (l := [(1, 3), (1, 3)]) (t := 2) join_c (by decide) (by unfold S4.isI64; omega))
  have KD := Lib.hid (joinK L (l := [(0, 3)]) (t := 1) join_d (by decide) (by unfold S4.isI64; omega))
  have KLI := Lib.hid (fitK L (l := [(1, 3), (2, 5), (3, 7)]) (t := 2) fit_a (by decide) (by unfold S4.isI64; omega))
  have KBE := Lib.hid (fitK L (l := [(1, 3), (2, 5), (3, 8)]) (t := 2) fit_b (by decide) (by unfold S4.isI64; omega))
  have KBF := Lib.hid (fitK L (l := [(1, 3), (2, 5), (3, 8)]) (t := 3) fit_c (by decide) (by unfold S4.isI64; omega))
  have KN := Lib.hid (fitK L (l := []) (t := 1) fit_d (by decide) (by unfold S4.isI64; omega))
  have KO := Lib.hid (fitK L (l := []) (t := 0) fit_e (by decide) (by unfold S4.isI64; omega))
  clear hb
  go_enter Tryd.func8, Tryd.ntmps8
  go_wp2_with fail
  refine (L.splitYes 5 1 3 [] w A.out.laid (by decide) (by decide) (by decide) (by decide) (by decide) (by decide)).mono ?_
  rintro e w1 ⟨⟨A1, c1, rfl, ho1⟩, hb⟩
  replace A := Lib.hid (A.out.step hb)
  rw [split_e] at ho1
  have R0 := Lib.hid (Rw.own ho1)
  clear ho1
  clear hb
  go_wp2_with fail
  replace A := Lib.hid (A.out.alloc (.cells #[.int .i64 1, .int .i64 3, .int .i64 2, .int .i64 5] 38))
  replace R0 := Lib.hid (R0.out.alloc (.cells #[.int .i64 1, .int .i64 3, .int .i64 2, .int .i64 5] 38))
  have RA := Lib.hid (show Rw (w1.alloc (.cells #[.int .i64 1, .int .i64 3, .int .i64 2, .int .i64 5] 38)) (some ⟨w1.heap.size, 0, none⟩) [(1, 3), (2, 5)] from Rw.litAt w1 [(1, 3), (2, 5)] w1.heap.size (by simp))
  generalize w1.alloc (.cells #[.int .i64 1, .int .i64 3, .int .i64 2, .int .i64 5] 38) = w2 at *
  refine (KA.out w2 _ _ RA.out (by decide)).mono ?_
  rintro e w3 ⟨rfl, hb⟩
  replace A := Lib.hid (A.out.step hb)
  replace R0 := Lib.hid (R0.out.step hb)
  replace RA := Lib.hid (RA.out.step hb)
  clear hb
  go_wp2_with fail
  replace A := Lib.hid (A.out.alloc (.cells #[.int .i64 2, .int .i64 5, .int .i64 1, .int .i64 3] 38))
  replace R0 := Lib.hid (R0.out.alloc (.cells #[.int .i64 2, .int .i64 5, .int .i64 1, .int .i64 3] 38))
  replace RA := Lib.hid (RA.out.alloc (.cells #[.int .i64 2, .int .i64 5, .int .i64 1, .int .i64 3] 38))
  have RB := Lib.hid (show Rw (w3.alloc (.cells #[.int .i64 2, .int .i64 5, .int .i64 1, .int .i64 3] 38)) (some ⟨w3.heap.size, 0, none⟩) [(2, 5), (1, 3)] from Rw.litAt w3 [(2, 5), (1, 3)] w3.heap.size (by simp))
  generalize w3.alloc (.cells #[.int .i64 2, .int .i64 5, .int .i64 1, .int .i64 3] 38) = w4 at *
  refine (KB.out w4 _ _ RB.out (by decide)).mono ?_
  rintro e w5 ⟨rfl, hb⟩
  replace A := Lib.hid (A.out.step hb)
  replace R0 := Lib.hid (R0.out.step hb)
  replace RA := Lib.hid (RA.out.step hb)
  replace RB := Lib.hid (RB.out.step hb)
  clear hb
  go_wp2_with fail
  replace A := Lib.hid (A.out.alloc (.cells #[.int .i64 1, .int .i64 3, .int .i64 1, .int .i64 3] 38))
  replace R0 := Lib.hid (R0.out.alloc (.cells #[.int .i64 1, .int .i64 3, .int .i64 1, .int .i64 3] 38))
  replace RA := Lib.hid (RA.out.alloc (.cells #[.int .i64 1, .int .i64 3, .int .i64 1, .int .i64 3] 38))
  replace RB := Lib.hid (RB.out.alloc (.cells #[.int .i64 1, .int .i64 3, .int .i64 1, .int .i64 3] 38))
  have RC := Lib.hid (show Rw (w5.alloc (.cells #[.int .i64 1, .int .i64 3, .int .i64 1, .int .i64 3] 38)) (some ⟨w5.heap.size, 0, none⟩) [(1, 3), (1, 3)] from Rw.litAt w5 [(1, 3), (1, 3)] w5.heap.size (by simp))
  generalize w5.alloc (.cells #[.int .i64 1, .int .i64 3, .int .i64 1, .int .i64 3] 38) = w6 at *
  refine (KC.out w6 _ _ RC.out (by decide)).mono ?_
  rintro e w7 ⟨rfl, hb⟩
  replace A := Lib.hid (A.out.step hb)
  replace R0 := Lib.hid (R0.out.step hb)
  replace RA := Lib.hid (RA.out.step hb)
  replace RB := Lib.hid (RB.out.step hb)
  replace RC := Lib.hid (RC.out.step hb)
  clear hb
  go_wp2_with fail
  replace A := Lib.hid (A.out.alloc (.cells #[.int .i64 0, .int .i64 3] 38))
  replace R0 := Lib.hid (R0.out.alloc (.cells #[.int .i64 0, .int .i64 3] 38))
  replace RA := Lib.hid (RA.out.alloc (.cells #[.int .i64 0, .int .i64 3] 38))
  replace RB := Lib.hid (RB.out.alloc (.cells #[.int .i64 0, .int .i64 3] 38))
  replace RC := Lib.hid (RC.out.alloc (.cells #[.int .i64 0, .int .i64 3] 38))
  have RD := Lib.hid (show Rw (w7.alloc (.cells #[.int .i64 0, .int .i64 3] 38)) (some ⟨w7.heap.size, 0, none⟩) [(0, 3)] from Rw.litAt w7 [(0, 3)] w7.heap.size (by simp))
  generalize w7.alloc (.cells #[.int .i64 0, .int .i64 3] 38) = w8 at *
  refine (KD.out w8 _ _ RD.out (by decide)).mono ?_
  rintro e w9 ⟨rfl, hb⟩
  replace A := Lib.hid (A.out.step hb)
  replace R0 := Lib.hid (R0.out.step hb)
  replace RA := Lib.hid (RA.out.step hb)
  replace RB := Lib.hid (RB.out.step hb)
  replace RC := Lib.hid (RC.out.step hb)
  replace RD := Lib.hid (RD.out.step hb)
  clear hb
  go_wp2_with fail
  replace A := Lib.hid (A.out.alloc (.cells #[.int .i64 1, .int .i64 3, .int .i64 2, .int .i64 5, .int .i64 3, .int .i64 7] 38))
  replace R0 := Lib.hid (R0.out.alloc (.cells #[.int .i64 1, .int .i64 3, .int .i64 2, .int .i64 5, .int .i64 3, .int .i64 7] 38))
  replace RA := Lib.hid (RA.out.alloc (.cells #[.int .i64 1, .int .i64 3, .int .i64 2, .int .i64 5, .int .i64 3, .int .i64 7] 38))
  replace RB := Lib.hid (RB.out.alloc (.cells #[.int .i64 1, .int .i64 3, .int .i64 2, .int .i64 5, .int .i64 3, .int .i64 7] 38))
  replace RC := Lib.hid (RC.out.alloc (.cells #[.int .i64 1, .int .i64 3, .int .i64 2, .int .i64 5, .int .i64 3, .int .i64 7] 38))
  replace RD := Lib.hid (RD.out.alloc (.cells #[.int .i64 1, .int .i64 3, .int .i64 2, .int .i64 5, .int .i64 3, .int .i64 7] 38))
  have RLI := Lib.hid (show Rw (w9.alloc (.cells #[.int .i64 1, .int .i64 3, .int .i64 2, .int .i64 5, .int .i64 3, .int .i64 7] 38)) (some ⟨w9.heap.size, 0, none⟩) [(1, 3), (2, 5), (3, 7)] from Rw.litAt w9 [(1, 3), (2, 5), (3, 7)] w9.heap.size (by simp))
  replace A := Lib.hid (A.out.alloc (.cells #[.int .i64 1, .int .i64 3, .int .i64 2, .int .i64 5, .int .i64 3, .int .i64 8] 38))
  replace R0 := Lib.hid (R0.out.alloc (.cells #[.int .i64 1, .int .i64 3, .int .i64 2, .int .i64 5, .int .i64 3, .int .i64 8] 38))
  replace RA := Lib.hid (RA.out.alloc (.cells #[.int .i64 1, .int .i64 3, .int .i64 2, .int .i64 5, .int .i64 3, .int .i64 8] 38))
  replace RB := Lib.hid (RB.out.alloc (.cells #[.int .i64 1, .int .i64 3, .int .i64 2, .int .i64 5, .int .i64 3, .int .i64 8] 38))
  replace RC := Lib.hid (RC.out.alloc (.cells #[.int .i64 1, .int .i64 3, .int .i64 2, .int .i64 5, .int .i64 3, .int .i64 8] 38))
  replace RD := Lib.hid (RD.out.alloc (.cells #[.int .i64 1, .int .i64 3, .int .i64 2, .int .i64 5, .int .i64 3, .int .i64 8] 38))
  replace RLI := Lib.hid (RLI.out.alloc (.cells #[.int .i64 1, .int .i64 3, .int .i64 2, .int .i64 5, .int .i64 3, .int .i64 8] 38))
  have RBE := Lib.hid (show Rw ((w9.alloc (.cells #[.int .i64 1, .int .i64 3, .int .i64 2, .int .i64 5, .int .i64 3, .int .i64 7] 38)).alloc (.cells #[.int .i64 1, .int .i64 3, .int .i64 2, .int .i64 5, .int .i64 3, .int .i64 8] 38)) (some ⟨(w9.heap.size + 1), 0, none⟩) [(1, 3), (2, 5), (3, 8)] from Rw.litAt (w9.alloc (.cells #[.int .i64 1, .int .i64 3, .int .i64 2, .int .i64 5, .int .i64 3, .int .i64 7] 38)) [(1, 3), (2, 5), (3, 8)] ((w9.heap.size + 1)) (by simp))
  replace A := Lib.hid (A.out.alloc (.cells #[.int .i64 1, .int .i64 5, .int .i64 2, .int .i64 5, .int .i64 3, .int .i64 5] 38))
  replace R0 := Lib.hid (R0.out.alloc (.cells #[.int .i64 1, .int .i64 5, .int .i64 2, .int .i64 5, .int .i64 3, .int .i64 5] 38))
  replace RA := Lib.hid (RA.out.alloc (.cells #[.int .i64 1, .int .i64 5, .int .i64 2, .int .i64 5, .int .i64 3, .int .i64 5] 38))
  replace RB := Lib.hid (RB.out.alloc (.cells #[.int .i64 1, .int .i64 5, .int .i64 2, .int .i64 5, .int .i64 3, .int .i64 5] 38))
  replace RC := Lib.hid (RC.out.alloc (.cells #[.int .i64 1, .int .i64 5, .int .i64 2, .int .i64 5, .int .i64 3, .int .i64 5] 38))
  replace RD := Lib.hid (RD.out.alloc (.cells #[.int .i64 1, .int .i64 5, .int .i64 2, .int .i64 5, .int .i64 3, .int .i64 5] 38))
  replace RLI := Lib.hid (RLI.out.alloc (.cells #[.int .i64 1, .int .i64 5, .int .i64 2, .int .i64 5, .int .i64 3, .int .i64 5] 38))
  replace RBE := Lib.hid (RBE.out.alloc (.cells #[.int .i64 1, .int .i64 5, .int .i64 2, .int .i64 5, .int .i64 3, .int .i64 5] 38))
  have RE := Lib.hid (show Rw (((w9.alloc (.cells #[.int .i64 1, .int .i64 3, .int .i64 2, .int .i64 5, .int .i64 3, .int .i64 7] 38)).alloc (.cells #[.int .i64 1, .int .i64 3, .int .i64 2, .int .i64 5, .int .i64 3, .int .i64 8] 38)).alloc (.cells #[.int .i64 1, .int .i64 5, .int .i64 2, .int .i64 5, .int .i64 3, .int .i64 5] 38)) (some ⟨(w9.heap.size + 2), 0, none⟩) [(1, 5), (2, 5), (3, 5)] from Rw.litAt ((w9.alloc (.cells #[.int .i64 1, .int .i64 3, .int .i64 2, .int .i64 5, .int .i64 3, .int .i64 7] 38)).alloc (.cells #[.int .i64 1, .int .i64 3, .int .i64 2, .int .i64 5, .int .i64 3, .int .i64 8] 38)) [(1, 5), (2, 5), (3, 5)] ((w9.heap.size + 2)) (by simp))
  generalize ((w9.alloc (.cells #[.int .i64 1, .int .i64 3, .int .i64 2, .int .i64 5, .int .i64 3, .int .i64 7] 38)).alloc (.cells #[.int .i64 1, .int .i64 3, .int .i64 2, .int .i64 5, .int .i64 3, .int .i64 8] 38)).alloc (.cells #[.int .i64 1, .int .i64 5, .int .i64 2, .int .i64 5, .int .i64 3, .int .i64 5] 38) = w10 at *
  have q := rsame_any _ _ [(1, 5), (2, 5), (3, 5)] [(1, 5), (2, 5), (3, 5)] c1 3 w10 R0.out.row RE.out.row (by decide)
  rw [decide_eq_true (rfl : ([(1, 5), (2, 5), (3, 5)] : List (Int × Int)) = [(1, 5), (2, 5), (3, 5)])] at q
  refine q.mono ?_
  rintro e w11 ⟨rfl, hb⟩
  replace A := Lib.hid (A.out.step hb)
  replace R0 := Lib.hid (R0.out.step hb)
  replace RA := Lib.hid (RA.out.step hb)
  replace RB := Lib.hid (RB.out.step hb)
  replace RC := Lib.hid (RC.out.step hb)
  replace RD := Lib.hid (RD.out.step hb)
  replace RLI := Lib.hid (RLI.out.step hb)
  replace RBE := Lib.hid (RBE.out.step hb)
  replace RE := Lib.hid (RE.out.step hb)
  clear hb q
  go_wp2_with fail
  refine (KLI.out w11 _ _ RLI.out (by decide)).mono ?_
  rintro e w12 ⟨rfl, hb⟩
  replace A := Lib.hid (A.out.step hb)
  replace R0 := Lib.hid (R0.out.step hb)
  replace RA := Lib.hid (RA.out.step hb)
  replace RB := Lib.hid (RB.out.step hb)
  replace RC := Lib.hid (RC.out.step hb)
  replace RD := Lib.hid (RD.out.step hb)
  replace RLI := Lib.hid (RLI.out.step hb)
  replace RBE := Lib.hid (RBE.out.step hb)
  replace RE := Lib.hid (RE.out.step hb)
  clear hb
  go_wp2_with fail
  refine (KBE.out w12 _ _ RBE.out (by decide)).mono ?_
  rintro e w13 ⟨rfl, hb⟩
  replace A := Lib.hid (A.out.step hb)
  replace R0 := Lib.hid (R0.out.step hb)
  replace RA := Lib.hid (RA.out.step hb)
  replace RB := Lib.hid (RB.out.step hb)
  replace RC := Lib.hid (RC.out.step hb)
  replace RD := Lib.hid (RD.out.step hb)
  replace RLI := Lib.hid (RLI.out.step hb)
  replace RBE := Lib.hid (RBE.out.step hb)
  replace RE := Lib.hid (RE.out.step hb)
  clear hb
  go_wp2_with fail
  refine (KBF.out w13 _ _ RBE.out (by decide)).mono ?_
  rintro e w14 ⟨rfl, hb⟩
  replace A := Lib.hid (A.out.step hb)
  replace R0 := Lib.hid (R0.out.step hb)
  replace RA := Lib.hid (RA.out.step hb)
  replace RB := Lib.hid (RB.out.step hb)
  replace RC := Lib.hid (RC.out.step hb)
  replace RD := Lib.hid (RD.out.step hb)
  replace RLI := Lib.hid (RLI.out.step hb)
  replace RBE := Lib.hid (RBE.out.step hb)
  replace RE := Lib.hid (RE.out.step hb)
  clear hb
  go_wp2_with fail
  refine (KN.out w14 _ 0 (Rw.nil w14 none) (by decide)).mono ?_
  rintro e w15 ⟨rfl, hb⟩
  replace A := Lib.hid (A.out.step hb)
  replace R0 := Lib.hid (R0.out.step hb)
  replace RA := Lib.hid (RA.out.step hb)
  replace RB := Lib.hid (RB.out.step hb)
  replace RC := Lib.hid (RC.out.step hb)
  replace RD := Lib.hid (RD.out.step hb)
  replace RLI := Lib.hid (RLI.out.step hb)
  replace RBE := Lib.hid (RBE.out.step hb)
  replace RE := Lib.hid (RE.out.step hb)
  clear hb
  go_wp2_with fail
  refine (KO.out w15 _ 0 (Rw.nil w15 none) (by decide)).mono ?_
  rintro e w16 ⟨rfl, hb⟩
  replace A := Lib.hid (A.out.step hb)
  replace R0 := Lib.hid (R0.out.step hb)
  replace RA := Lib.hid (RA.out.step hb)
  replace RB := Lib.hid (RB.out.step hb)
  replace RC := Lib.hid (RC.out.step hb)
  replace RD := Lib.hid (RD.out.step hb)
  replace RLI := Lib.hid (RLI.out.step hb)
  replace RBE := Lib.hid (RBE.out.step hb)
  replace RE := Lib.hid (RE.out.step hb)
  clear hb
  go_wp2
  go_ret
  exact ⟨rfl, A.out.bel⟩
end Sh
end Go.Proofs.YtjpgadiobgbchaaDoor
