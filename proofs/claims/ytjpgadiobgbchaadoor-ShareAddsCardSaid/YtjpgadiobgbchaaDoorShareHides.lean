/-
  Layer 7: ShareHides' walk.
-/
import Derived.Test.YtjpgadiobgbchaaDoorShareWith
import Derived.Deep.Slices
namespace Go.Proofs.YtjpgadiobgbchaaDoor
open Go.RowKit
namespace Sh
attribute [local go_sem] S3.B_size S3.B_app S3.B_list

theorem sub_ok (W : World) (a b : Int) (ha : S4.isI64 a) (hb : S4.isI64 b) : S5.Sg.Ok W 20 #[.int .i64 a, .int .i64 b] (.int .i64 ((a - b) % 2305843009213693951)) := S5.Sg.Ok.same fun w => S4.sub_any a b w ha hb
theorem add_ok (W : World) (a b : Int) (ha : S4.isI64 a) (hb : S4.isI64 b) : S5.Sg.Ok W 22 #[.int .i64 a, .int .i64 b] (.int .i64 ((a + b) % 2305843009213693951)) := S5.Sg.Ok.same fun w => S4.add_any a b w ha hb
theorem inv_ok (W : World) (a : Int) (ha : S4.isI64 a) : S5.Sg.Ok W 19 #[.int .i64 a] (.tuple #[.int .i64 ((S4.invV a).1 : Nat), .bool (S4.invV a).2]) := S5.Sg.Ok.drew fun w => S4.inv_any a w ha
theorem valid_last {q : List (Int × Int)} {X y0 y : Int} (h : Valid (q ++ [(X, y0)])) (hy : 0 ≤ y ∧ y < 2305843009213693951) : Valid (q ++ [(X, y)]) := by
  refine ⟨fun p hp => ?_, fun p hp => ?_, ?_⟩
  · rcases List.mem_append.1 hp with h1 | h1
    · exact h.x p (List.mem_append_left _ h1)
    · obtain rfl := List.mem_singleton.1 h1
      exact h.x (X, y0) (List.mem_append_right _ (by simp))
  · rcases List.mem_append.1 hp with h1 | h1
    · exact h.y p (List.mem_append_left _ h1)
    · obtain rfl := List.mem_singleton.1 h1
      exact hy
  · have h1 := h.one
    rw [List.pairwise_append] at h1 ⊢
    refine ⟨h1.1, by simp, fun a ha b hb => ?_⟩
    obtain rfl := List.mem_singleton.1 hb
    exact h1.2.2 a ha (X, y0) (by simp)
theorem join_last {q : List (Int × Int)} {X y : Int} (h : Valid (q ++ [(X, y)])) : joinP (q ++ [(X, y)]) (q.length + 1 : Nat) = (poly (q ++ [(X, y)]) 0 % 2305843009213693951, true) := by
  have hl : (q ++ [(X, y)]).length = q.length + 1 := by simp
  have ht : (q ++ [(X, y)]).take (q.length + 1) = q ++ [(X, y)] := List.take_of_length_le (by omega)
  unfold joinP joinV
  rw [Int.toNat_natCast, ht]
  exact if_pos ⟨by omega, by omega, h⟩

set_option maxHeartbeats 8000000 in
set_option maxRecDepth 100000 in
theorem hides_walk (L : Landed) (B : Option Addr) (l : List (Int × Int)) (c : Nat) (s : Int) (W : World) (hW : S3.Laid W) (hl : Rw W B l) (hc : l.length ≤ c) (hlm : l.length ≤ 4611686018427387904) (is : S4.isI64 s) :
    Calls Tryd.prog 5 #[.slice B l.length c, .int .i64 s] W fun e w' => e = .returned (.bool true) ∧ Below W.heap.size W w' := by
  have KS := Lib.hid (fun W hW => small_ok L W hW)
  have A := Lib.hid (Lk.At.start hW)
  have RL := Lib.hid hl
  have hlm' : (l.length : Int) ≤ 4611686018427387904 := by omega
  by_cases h1 : l.length < 1
  · have hx' : (l.length : Int) < 1 := by omega
    clear hl is hW
    go_enter Tryd.func5, Tryd.ntmps5
    go_wp2_with fail
    refine (KS.out _ A.out.laid _ (Below.refl _ _)).mono ?_
    rintro e w1 ⟨rfl, hb⟩
    replace A := Lib.hid (A.out.step hb)
    replace RL := Lib.hid (RL.out.step hb)
    clear hb
    go_wp2
    go_ret
    exact ⟨rfl, A.out.bel⟩
  by_cases h2 : 12 < l.length
  · have hx' : (12 : Int) < (l.length : Int) := by omega
    have hx2 : ¬ (l.length : Int) < 1 := by omega
    clear hl is hW
    go_enter Tryd.func5, Tryd.ntmps5
    go_wp2_with fail
    refine (KS.out _ A.out.laid _ (Below.refl _ _)).mono ?_
    rintro e w1 ⟨rfl, hb⟩
    replace A := Lib.hid (A.out.step hb)
    replace RL := Lib.hid (RL.out.step hb)
    clear hb
    go_wp2
    go_ret
    exact ⟨rfl, A.out.bel⟩
  have hn1 : (1 : Int) ≤ (l.length : Int) := by omega
  have hn2 : (l.length : Int) ≤ 12 := by omega
  by_cases h3 : s < 0
  · have hx' : s < 0 := by omega
    clear hl is hW
    go_enter Tryd.func5, Tryd.ntmps5
    go_wp2_with fail
    refine (KS.out _ A.out.laid _ (Below.refl _ _)).mono ?_
    rintro e w1 ⟨rfl, hb⟩
    replace A := Lib.hid (A.out.step hb)
    replace RL := Lib.hid (RL.out.step hb)
    clear hb
    go_wp2
    go_ret
    exact ⟨rfl, A.out.bel⟩
  by_cases h4 : 2305843009213693951 ≤ s
  · have hx' : 2305843009213693951 ≤ s := by omega
    clear hl is hW
    go_enter Tryd.func5, Tryd.ntmps5
    go_wp2_with fail
    refine (KS.out _ A.out.laid _ (Below.refl _ _)).mono ?_
    rintro e w1 ⟨rfl, hb⟩
    replace A := Lib.hid (A.out.step hb)
    replace RL := Lib.hid (RL.out.step hb)
    clear hb
    go_wp2
    go_ret
    exact ⟨rfl, A.out.bel⟩
  have hs0 : 0 ≤ s := by omega
  have hs1 : s < 2305843009213693951 := by omega
  have KV : Hid (∀ w, Rw w B l → Calls Tryd.prog 17 #[.slice B l.length c] w fun e w' => e = .returned (.bool (validB l)) ∧ Below w.heap.size w w') := Lib.hid fun w h => rvalid_any B l c w h.row (by omega)
  by_cases hv : Valid l
  · rw [validB_true hv] at KV
    obtain ⟨q, X, y0, rfl⟩ : ∃ q X y0, l = q ++ [(X, y0)] := by
      rcases List.eq_nil_or_concat l with h | ⟨q, p, h⟩
      · rw [h] at h1
        simp at h1
      · exact ⟨q, p.1, p.2, by rw [h]; simp⟩
    have hlen : (q ++ [(X, y0)]).length = q.length + 1 := by simp
    obtain ⟨A', B', hB, hP⟩ := hides hv
    have kw : ∀ y : Int, 0 ≤ y ∧ y < 2305843009213693951 → ∀ w, Rw w B (q ++ [(X, y0)]) → Calls Tryd.prog 18 #[.slice B (q ++ [(X, y0)]).length c, .int .i64 y] w fun e w' => e = .returned (.tuple #[.int .i64 (poly (q ++ [(X, y)]) 0 % 2305843009213693951), .bool true]) ∧ Below w.heap.size w w' := fun y hy w h => by
      have k := with_any L B q X y0 y c w h (by omega) (by omega)
      rw [join_last (valid_last hv hy)] at k
      rw [hlen]
      exact k
    obtain ⟨P, hPd⟩ : ∃ P : Int → Int, P = fun y => poly (q ++ [(X, y)]) 0 := ⟨_, rfl⟩
    have hP' : ∀ y, Cg (P y) (A' + y * B') := by rw [hPd]; exact hP
    have kw' : ∀ y : Int, 0 ≤ y ∧ y < 2305843009213693951 → ∀ w, Rw w B (q ++ [(X, y0)]) → Calls Tryd.prog 18 #[.slice B (q ++ [(X, y0)]).length c, .int .i64 y] w fun e w' => e = .returned (.tuple #[.int .i64 (P y % 2305843009213693951), .bool true]) ∧ Below w.heap.size w w' := by rw [hPd]; exact kw
    generalize q ++ [(X, y0)] = l at *
    have k0 := kw' 0 ⟨by omega, by omega⟩
    have k1 := kw' 1 ⟨by omega, by omega⟩
    obtain ⟨a, ha⟩ : ∃ a, a = P 0 % 2305843009213693951 := ⟨_, rfl⟩
    obtain ⟨b, hb⟩ : ∃ b, b = P 1 % 2305843009213693951 := ⟨_, rfl⟩
    rw [← ha] at k0
    rw [← hb] at k1
    have ra : 0 ≤ a ∧ a < 2305843009213693951 := by omega
    have rb : 0 ≤ b ∧ b < 2305843009213693951 := by omega
    obtain ⟨d0, hd0⟩ : ∃ d, d = (b - a) % 2305843009213693951 := ⟨_, rfl⟩
    have k2 := fun W (_ : S3.Laid W) => sub_ok W b a (by unfold S4.isI64; omega) (by unfold S4.isI64; omega)
    rw [← hd0] at k2
    have k3 := fun W (_ : S3.Laid W) => inv_ok W d0 (by unfold S4.isI64; omega)
    obtain ⟨y, hy⟩ : ∃ y, y = (s - a) % 2305843009213693951 * (S4.invP d0 : Nat) % 2305843009213693951 := ⟨_, rfl⟩
    have ry : 0 ≤ y ∧ y < 2305843009213693951 := by omega
    obtain ⟨cc, hcc⟩ : ∃ z, z = P y % 2305843009213693951 := ⟨_, rfl⟩
    obtain ⟨z, hz⟩ : ∃ z, z = (y + 1) % 2305843009213693951 := ⟨_, rfl⟩
    obtain ⟨dd, hdd⟩ : ∃ z, z = P ((y + 1) % 2305843009213693951) % 2305843009213693951 := ⟨_, rfl⟩
    have hcalc := hides_calc hB hP' ⟨hs0, hs1⟩ ha hb (by rw [← hd0]; exact hy) hcc hdd
    rw [← hd0] at hcalc
    obtain ⟨c1, c2, c3⟩ := hcalc
    have hiv : S4.invV d0 = (S4.invP d0, true) := by unfold S4.invV; rw [if_neg c1]
    rw [hiv] at k3
    obtain ⟨v, hvd⟩ : ∃ v : Int, v = (S4.invP d0 : Nat) := ⟨_, rfl⟩
    have hvr : (S4.invP d0 : Nat) < 2305843009213693951 := by unfold S4.invP; omega
    dsimp only at k3
    rw [← hvd] at k3 hy
    have k4 := fun W (_ : S3.Laid W) => sub_ok W s a is (by unfold S4.isI64; omega)
    obtain ⟨e0, he0⟩ : ∃ d, d = (s - a) % 2305843009213693951 := ⟨_, rfl⟩
    rw [← he0] at k4 hy
    have k5 := fun W (_ : S3.Laid W) => S5.Sg.mul_ok W e0 v (by unfold S5.Sg.isI S4.isI64; omega) (by unfold S5.Sg.isI S4.isI64; omega)
    rw [← hy] at k5
    have k6 := kw' y ry
    rw [← hcc, c2] at k6
    have k7 := fun W (_ : S3.Laid W) => add_ok W y 1 (by unfold S4.isI64; omega) (by unfold S4.isI64; omega)
    rw [← hz] at k7 hdd
    have k8 := kw' z (by omega)
    rw [← hdd] at k8
    have hne : (dd != s) = true := by simpa using c3
    have K0 := Lib.hid k0
    have K1 := Lib.hid k1
    have K2 := Lib.hid k2
    have K3 := Lib.hid k3
    have K4 := Lib.hid k4
    have K5 := Lib.hid k5
    have K6 := Lib.hid k6
    have K7 := Lib.hid k7
    have K8 := Lib.hid k8
    clear k0 k1 k2 k3 k4 k5 k6 k7 k8 kw kw' hP hP' hPd hB ha hb ra rb hd0 hy ry hcc hz hdd c1 c2 c3 hiv hvd hvr he0 hlen hv is hl hW
    go_enter Tryd.func5, Tryd.ntmps5
    go_wp2_with fail
    refine (KS.out _ A.out.laid _ (Below.refl _ _)).mono ?_
    rintro e w1 ⟨rfl, hb⟩
    replace A := Lib.hid (A.out.step hb)
    replace RL := Lib.hid (RL.out.step hb)
    clear hb
    go_wp2_with fail
    refine (KV.out _ RL.out).mono ?_
    rintro e w2 ⟨rfl, hb⟩
    replace A := Lib.hid (A.out.step hb)
    replace RL := Lib.hid (RL.out.step hb)
    clear hb
    go_wp2_with fail
    refine (K0.out _ RL.out).mono ?_
    rintro e w3 ⟨rfl, hb⟩
    replace A := Lib.hid (A.out.step hb)
    replace RL := Lib.hid (RL.out.step hb)
    clear hb
    go_wp2_with fail
    refine (K1.out _ RL.out).mono ?_
    rintro e w4 ⟨rfl, hb⟩
    replace A := Lib.hid (A.out.step hb)
    replace RL := Lib.hid (RL.out.step hb)
    clear hb
    go_wp2_with fail
    refine (K2.out _ A.out.laid _ (Below.refl _ _)).mono ?_
    rintro e w5 ⟨rfl, hb⟩
    replace A := Lib.hid (A.out.step hb)
    replace RL := Lib.hid (RL.out.step hb)
    clear hb
    go_wp2_with fail
    refine (K3.out _ A.out.laid _ (Below.refl _ _)).mono ?_
    rintro e w6 ⟨rfl, hb⟩
    replace A := Lib.hid (A.out.step hb)
    replace RL := Lib.hid (RL.out.step hb)
    clear hb
    go_wp2_with fail
    refine (K4.out _ A.out.laid _ (Below.refl _ _)).mono ?_
    rintro e w7 ⟨rfl, hb⟩
    replace A := Lib.hid (A.out.step hb)
    replace RL := Lib.hid (RL.out.step hb)
    clear hb
    go_wp2_with fail
    refine (K5.out _ A.out.laid _ (Below.refl _ _)).mono ?_
    rintro e w8 ⟨rfl, hb⟩
    replace A := Lib.hid (A.out.step hb)
    replace RL := Lib.hid (RL.out.step hb)
    clear hb
    go_wp2_with fail
    refine (K6.out _ RL.out).mono ?_
    rintro e w9 ⟨rfl, hb⟩
    replace A := Lib.hid (A.out.step hb)
    replace RL := Lib.hid (RL.out.step hb)
    clear hb
    go_wp2_with fail
    refine (K7.out _ A.out.laid _ (Below.refl _ _)).mono ?_
    rintro e w10 ⟨rfl, hb⟩
    replace A := Lib.hid (A.out.step hb)
    replace RL := Lib.hid (RL.out.step hb)
    clear hb
    go_wp2_with fail
    refine (K8.out _ RL.out).mono ?_
    rintro e w11 ⟨rfl, hb⟩
    replace A := Lib.hid (A.out.step hb)
    replace RL := Lib.hid (RL.out.step hb)
    clear hb
    go_wp2
    go_ret
    exact ⟨rfl, A.out.bel⟩
  · have hv2 : validB l = false := by unfold validB; exact decide_eq_false hv
    rw [hv2] at KV
    clear hv hv2 hl is hW
    go_enter Tryd.func5, Tryd.ntmps5
    go_wp2_with fail
    refine (KS.out _ A.out.laid _ (Below.refl _ _)).mono ?_
    rintro e w1 ⟨rfl, hb⟩
    replace A := Lib.hid (A.out.step hb)
    replace RL := Lib.hid (RL.out.step hb)
    clear hb
    go_wp2_with fail
    refine (KV.out _ RL.out).mono ?_
    rintro e w2 ⟨rfl, hb⟩
    replace A := Lib.hid (A.out.step hb)
    replace RL := Lib.hid (RL.out.step hb)
    clear hb
    go_wp2
    go_ret
    exact ⟨rfl, A.out.bel⟩
end Sh
end Go.Proofs.YtjpgadiobgbchaaDoor
