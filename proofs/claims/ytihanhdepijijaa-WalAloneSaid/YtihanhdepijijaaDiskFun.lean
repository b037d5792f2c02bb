/-
  Layer 9 (disk): what the landed functions do to the machine in memory: isFile, Down, Start, Lose, Size, check.
-/
import Derived.Test.YtihanhdepijijaaDiskBase
import Derived.LoopTactic
import Derived.Outline
namespace Go.Proofs.Ytihanhdepijijaa.S9
open Go.RowKit
namespace Dk
abbrev ptr (p : Nat) : Value := .pointer (some ⟨p, 0, none⟩)

theorem isFile_any (f : Int) (w : World) : Calls Try.prog 44 #[.int .i64 f] w fun e w' => e = .returned (.bool (isF f)) ∧ w = w' := by
  by_cases h : 0 ≤ f
  · go_enter Try.func44, Try.ntmps44
    go_wp2
    go_ret
    exact ⟨by simp [isF, h], rfl⟩
  · have h' : decide (0 ≤ f) = false := by simp [h]
    go_enter Try.func44, Try.ntmps44
    go_wp2
    go_ret
    exact ⟨by simp [isF]; omega, rfl⟩

theorem down_any (X : Nat → Prop) (p : Nat) (D : MD) (w : World) (h : Dk X w p D) : Calls Try.prog 11 #[ptr p] w fun e w' => e = .returned (.bool D.down) ∧ w = w' := by
  obtain ⟨_, vs, hv⟩ := h
  have c1 := hv.c_down
  clear hv
  go_enter Try.func11, Try.ntmps11
  go_wp2
  go_ret
  exact ⟨rfl, rfl⟩

theorem start_any (X : Nat → Prop) (p : Nat) (D : MD) (w : World) (h : Dk X w p D) : Calls Try.prog 28 #[ptr p] w fun e w' => e = .returned (.tuple #[]) ∧ Dk X w' p D.start ∧ Fr X w w' := by
  obtain ⟨h0, vs, hv⟩ := h
  have c1 := hv.c_down
  have f1 := hv.free 16
  have R := Lib.hid (show Dk X (w.setCell ⟨p, 16, none⟩ (.bool false)) p D.start ∧ Fr X w (w.setCell ⟨p, 16, none⟩ (.bool false)) from ⟨⟨start_ok h0, vs, hv.set_down false⟩, (Fr.refl X w).set _ _ hv.pX⟩)
  clear hv h0
  go_enter Try.func28, Try.ntmps28
  go_wp2
  go_end0
  exact ⟨rfl, R.out⟩

theorem lose_any (X : Nat → Prop) (p : Nat) (D : MD) (n : Int) (hn : isI n) (w : World) (h : Dk X w p D) : Calls Try.prog 32 #[ptr p, .int .i64 n] w fun e w' => e = .returned (.tuple #[]) ∧ Dk X w' p (D.lose n) ∧ Fr X w w' := by
  obtain ⟨h0, vs, hv⟩ := h
  have c1 := hv.c_lost
  have f1 := hv.free 17
  have R : Dk X (w.setCell ⟨p, 17, none⟩ (.int .i64 (max n 0))) p (D.lose n) ∧ Fr X w (w.setCell ⟨p, 17, none⟩ (.int .i64 (max n 0))) := ⟨⟨lose_ok h0 hn, vs, hv.set_lost _⟩, (Fr.refl X w).set _ _ hv.pX⟩
  clear hv h0
  rcases Int.lt_or_le n 0 with hlt | hge
  · rw [show max n 0 = 0 by omega] at R
    replace R := Lib.hid R
    go_enter Try.func32, Try.ntmps32
    go_wp2
    go_end0
    exact ⟨rfl, R.out⟩
  · rw [show max n 0 = n by omega] at R
    replace R := Lib.hid R
    go_enter Try.func32, Try.ntmps32
    go_wp2
    go_end0
    exact ⟨rfl, R.out⟩

theorem size_any (X : Nat → Prop) (p : Nat) (D : MD) (f : Int) (w : World) (h : Dk X w p D) : Calls Try.prog 25 #[ptr p, .int .i64 f] w fun e w' => e = .returned (.int .i64 (D.size f : Nat)) ∧ w = w' := by
  obtain ⟨_, vs, hv⟩ := h
  have K := Lib.hid (isFile_any f w)
  by_cases hf : isF f = true
  · obtain ⟨k, hk, rfl⟩ : ∃ k : Nat, k < 8 ∧ f = (k : Int) := ⟨f.toNat, isF_nat hf⟩
    have c1 := hv.c_v hk
    obtain ⟨A, n, c, e, hn, _⟩ := (hv.own k hk).sl
    rw [e] at c1
    have hkk : (k : Int) < 8 := by omega
    have R := Lib.hid (show (D.size (k : Int) : Int) = (n : Nat) by unfold MD.size; rw [if_pos hf, hn]; rfl)
    rw [hf] at K
    clear hv hn e hf hk
    go_enter Try.func25, Try.ntmps25
    go_wp2_with fail
    refine K.out.mono ?_
    rintro e1 w1 ⟨rfl, rfl⟩
    go_wp2
    go_ret
    exact ⟨by show Ending.returned (.int .i64 (n : Int)) = _; rw [R.out], rfl⟩
  · have hf2 : isF f = false := by simpa using hf
    have R := Lib.hid (show (D.size f : Int) = 0 by unfold MD.size; rw [if_neg hf]; rfl)
    rw [hf2] at K
    clear hv
    go_enter Try.func25, Try.ntmps25
    go_wp2_with fail
    refine K.out.mono ?_
    rintro e1 w1 ⟨rfl, rfl⟩
    go_wp2
    go_ret
    exact ⟨by show Ending.returned (.int .i64 0) = _; rw [R.out], rfl⟩

def chkE (D : MD) (zs : List Int) : Int := if D.down then 8 else if zs.all isF then 0 else 1
theorem check_any (X : Nat → Prop) (p : Nat) (D : MD) (zs : List Int) (A : Option Addr) (n c : Nat) (hn : n = zs.length) (hn2 : n ≤ 2) (w : World) (hr : S2.Row w w.heap.size A (S2.Zs zs)) (h : Dk X w p D) :
    Calls Try.prog 37 #[ptr p, .slice A n c] w fun e w' => e = .returned (.int .i64 (chkE D zs)) ∧ w = w' := by
  obtain ⟨_, vs, hv⟩ := h
  have c1 := hv.c_down
  clear hv
  have hn3 : (n : Int) ≤ 2 := by omega
  have HN := Lib.hid hn
  have HR := Lib.hid hr
  clear hn hr hn2
  cases hd : D.down with
  | true =>
    rw [hd] at c1
    have R := Lib.hid (show chkE D zs = 8 by unfold chkE; rw [hd]; rfl)
    clear hd
    go_enter Try.func37, Try.ntmps37
    go_wp2
    go_ret
    exact ⟨by show Ending.returned (.int .i64 8) = _; rw [R.out], rfl⟩
  | false =>
    rw [hd] at c1
    have HD := Lib.hid hd
    clear hd
    go_enter Try.func37, Try.ntmps37
    go_wp2
    go_loop [13] (fun v => ∃ k : Nat, v = .int .i64 (k : Int) ∧ k ≤ n ∧ (zs.take k).all isF = true) (fun v => n - (intOf v).toNat)
    case atStart => exact ⟨0, rfl, by omega, by simp⟩
    case round =>
      obtain ⟨k, rfl, hk, hall⟩ := hrel
      have HA := Lib.hid hall
      clear hall
      by_cases hlt : k < n
      · have hlt' : (k : Int) < n := by omega
        have hkz : k < zs.length := by rw [← HN.out]; exact hlt
        obtain ⟨a, rfl, _, hc⟩ := HR.out.num hkz
        have htk : (zs.take (k + 1)).all isF = (isF zs[k]) := by
          rw [List.take_succ_eq_append_getElem hkz, List.all_append, HA.out]; simp
        have hin : zs[k] ∈ zs := List.getElem_mem hkz
        obtain ⟨z, hz⟩ : ∃ z, z = zs[k] := ⟨_, rfl⟩
        rw [← hz] at hc htk hin
        have K := Lib.hid (fun w => isFile_any z w)
        have HT := Lib.hid htk
        have HI := Lib.hid hin
        clear htk hz hkz hin
        cases hf : isF z with
        | true =>
          rw [hf] at K HT
          clear hf
          go_wp2_with fail
          refine (K.out _).mono ?_
          rintro e1 w1 ⟨rfl, rfl⟩
          go_wp2
          go_round
          case rel => exact ⟨k + 1, by go_num, by omega, HT.out⟩
          case measure => simp [intOf]; omega
        | false =>
          rw [hf] at K
          have R := Lib.hid (show chkE D zs = 1 by
            unfold chkE
            rw [HD.out, if_neg (by simp), if_neg]
            intro h
            have := List.all_eq_true.1 h z HI.out
            rw [hf] at this
            cases this)
          clear hf
          go_wp2_with fail
          refine (K.out _).mono ?_
          rintro e1 w1 ⟨rfl, rfl⟩
          go_wp2
          go_ret
          exact ⟨by show Ending.returned (.int .i64 1) = _; rw [R.out], rfl⟩
      · have hge : ¬ (k : Int) < n := by omega
        have R := Lib.hid (show chkE D zs = 0 by
          have h1 := HA.out
          rw [List.take_of_length_le (by rw [← HN.out]; omega)] at h1
          unfold chkE
          rw [HD.out, if_neg (by simp), if_pos h1])
        go_wp2
        go_ret
        exact ⟨by show Ending.returned (.int .i64 0) = _; rw [R.out], rfl⟩
end Dk
end Go.Proofs.Ytihanhdepijijaa.S9
