/-
  CodeLengths: the walk of the law, at every int.
-/
import Derived.Test.YtcgbamloemdilaaCodeSmall
namespace Go.Proofs.Ytcgbamloemdilaa
open Go.RowKit
open Cd
attribute [local go_sem] B_size B_drop' B_take B_list B_app

theorem cNum_i (m : Int) (w : World) (h0 : 0 ≤ m) (h1 : m ≤ 9223372036854775807) : Calls Try.prog 12 #[.int .i64 m] w (SRes w (encN m.toNat)) := by
  obtain ⟨n, rfl⟩ := Int.eq_ofNat_of_zero_le h0
  exact cNum_any n w (by omega)
/-- After j digits, with x still to be written. -/
def LenAt (n j x : Nat) : Prop := j ≤ 8 ∧ x < 128 ^ (8 - j) ∧ (encN n).length = j + 1 + (if x = 0 then 0 else (vi (7 - j) x).length)
theorem lenAt_start (n : Nat) (h : n < 9223372036854775808) : LenAt n 0 (n / 128) := by
  refine ⟨by omega, by have : (128 : Nat) ^ (8 - 0) = 72057594037927936 := by decide
                       omega, ?_⟩
  unfold encN
  rw [vi]
  split
  · rename_i h1
    have : n / 128 = 0 := by omega
    rw [if_pos this]
    rfl
  · rename_i h1
    have : n / 128 ≠ 0 := by omega
    rw [if_neg this, List.length_cons]
    show _ = 0 + 1 + (vi 7 (n / 128)).length
    omega
theorem lenAt_step {n j x : Nat} (h : LenAt n j x) (hx : 0 < x) : LenAt n (j + 1) (x / 128) := by
  obtain ⟨h1, h2, h3⟩ := h
  have hj : j < 8 := by
    rcases Nat.lt_or_ge j 8 with h4 | h4
    · exact h4
    · have : 8 - j = 0 := by omega
      rw [this] at h2
      omega
  have e : 8 - j = (8 - (j + 1)) + 1 := by omega
  rw [e, Nat.pow_succ] at h2
  have h4 : x / 128 < 128 ^ (8 - (j + 1)) := by omega
  refine ⟨by omega, h4, ?_⟩
  rw [h3, if_neg (by omega)]
  rcases Nat.eq_zero_or_pos (7 - j) with h7 | h7
  · have e7 : 8 - (j + 1) = 0 := by omega
    rw [e7] at h4
    have : x / 128 = 0 := by omega
    rw [if_pos this, h7]
    rfl
  · have e7 : 7 - j = (7 - (j + 1)) + 1 := by omega
    rw [e7, vi]
    split
    · rename_i h8
      have : x / 128 = 0 := by omega
      rw [if_pos this]
      rfl
    · rename_i h8
      have : x / 128 ≠ 0 := by omega
      rw [if_neg this, List.length_cons]
      omega
theorem lenAt_end {n j : Nat} (h : LenAt n j 0) : (encN n).length = j + 1 := by
  have := h.2.2
  rw [if_pos rfl] at this
  exact this

set_option maxHeartbeats 2000000 in
set_option maxRecDepth 100000 in
theorem codeLengths_walk (n : Int) (w : World) (h0 : -9223372036854775808 ≤ n) (h1 : n ≤ 9223372036854775807) :
    Calls Try.prog 9 #[.int .i64 n] w fun e w' => e = .returned (.bool true) ∧ Below w.heap.size w w' := by
  by_cases hs : n < 0
  · have hm : n.tdiv 128 ≤ 0 := by
      obtain ⟨m, rfl⟩ : ∃ m : Nat, n = -(m : Int) := ⟨n.natAbs, by omega⟩
      rw [Int.neg_tdiv, Int.tdiv_eq_ediv_of_nonneg (by omega)]
      omega
    go_enter Try.func9, Try.ntmps9
    go_wp2_with fail
    refine (small_any _).mono ?_
    rintro e w1 ⟨rfl, hb1⟩
    have B1 := Lib.hid hb1
    clear hb1
    go_wp2_with fail
    refine wp_loop_rounds 1 ?_
    rw [rounds_succ]
    go_wp2_with fail
    refine (cNum_neg n _ hs).mono ?_
    rintro e w2 ⟨rfl, hb⟩
    have B2 := Lib.hid (good_step B1.out hb)
    clear hb B1
    by_cases hk : okI n
    · have hk2 : -2305843009213693952 ≤ n ∧ n ≤ 2305843009213693952 := hk
      obtain ⟨k0, k1⟩ := hk2
      have HI := cInt_any n
      have HZ := fun w => cNum_i (-2 * n - 1) w (by omega) (by omega)
      have ez : encN (-2 * n - 1).toNat = encI n := by
        unfold encI zz
        rw [if_pos hk, if_pos hs]
      rw [ez] at HZ
      obtain ⟨q, hq⟩ : ∃ q, q = encI n := ⟨_, rfl⟩
      have hne : q ≠ [] := by rw [hq]; exact encI_ne n hk
      rw [← hq] at HI HZ
      have hne2 : q.isEmpty = false := by cases q <;> simp_all
      have HI' := Lib.hid HI
      have HZ' := Lib.hid HZ
      clear HI HZ ez hq hk
      go_wp2_with fail
      refine (HI'.out _).mono ?_
      rintro e w3 ⟨rfl, hb⟩
      have B3 := Lib.hid (good_step B2.out hb)
      clear hb
      go_wp2_with fail
      refine (HZ'.out _).mono ?_
      rintro e w4 ⟨rfl, hb⟩
      have B4 := Lib.hid (good_step B3.out hb)
      clear hb
      go_wp2_with fail
      refine (HI'.out _).mono ?_
      rintro e w5 ⟨rfl, hb⟩
      have B5 := Lib.hid (good_step B4.out hb)
      clear hb
      go_wp2
      go_ret
      exact ⟨rfl, B5.out⟩
    · have HI := cInt_any n
      rw [encI_no n hk] at HI
      have hd : n < -2305843009213693952 ∨ 2305843009213693952 < n := by
        unfold okI most at hk; omega
      have HI' := Lib.hid HI
      clear HI hk
      have hd3 : n < -2305843009213693952 := by omega
      clear hd
      all_goals
        have hd2 : n ≤ 2305843009213693952 := by omega
        go_wp2_with fail
        refine (HI'.out _).mono ?_
        rintro e w3 ⟨rfl, hb⟩
        have B3 := Lib.hid (good_step B2.out hb)
        clear hb
        go_wp2
        go_ret
        exact ⟨rfl, B3.out⟩

  · have hs' : 0 ≤ n := by omega
    obtain ⟨m, rfl⟩ := Int.eq_ofNat_of_zero_le hs'
    have hm : m < 9223372036854775808 := by omega
    have HN := fun w => cNum_any m w
    go_enter Try.func9, Try.ntmps9
    go_wp2_with fail
    refine (small_any _).mono ?_
    rintro e w1 ⟨rfl, hb1⟩
    have B1 := Lib.hid hb1
    clear hb1
    go_wp2_with fail
    have HN' := Lib.hid HN
    clear HN
    go_loop [4, 5] (fun k x => ∃ j y : Nat, k = .int .i64 ((j : Int) + 1) ∧ x = .int .i64 (y : Int) ∧ LenAt m j y) (fun _ x => (intOf x).toNat)
    case atStart => exact ⟨0, m / 128, by go_num, by go_num, lenAt_start m hm⟩
    case round =>
      obtain ⟨j, y, rfl, rfl, hlen⟩ := hrel
      have hj8 := hlen.1
      have HL := Lib.hid hlen
      have hy8 : y < 72057594037927936 := Nat.lt_of_lt_of_le hlen.2.1 (Nat.le_trans (Nat.pow_le_pow_right (by omega) (show 8 - j ≤ 8 by omega)) (by decide))
      have hy9 : (y : Int) ≤ 72057594037927935 := by omega
      clear hlen hy8
      by_cases hy : 0 < y
      · have hy2 : (0 : Int) < y := by omega
        have R := Lib.hid (lenAt_step HL.out hy)
        go_wp2
        go_round
        case rel => exact ⟨j + 1, y / 128, by go_num, by go_num, R.out⟩
        case measure => simp [intOf]; omega
      · obtain rfl : y = 0 := by omega
        have hql := lenAt_end HL.out
        obtain ⟨q, hq⟩ : ∃ q, q = encN m := ⟨_, rfl⟩
        rw [← hq] at HN' hql
        have hq1 : ((q.length : Int) == (j : Int) + 1) = true := by simp; omega
        have hq2 : ((q.length : Int) != (j : Int) + 1) = false := by simp; omega
        have hql2 := Lib.hid hql
        clear hq hql HL hy
        go_wp2_with fail
        refine (HN'.out _ (by omega)).mono ?_
        rintro e w2 ⟨rfl, hb⟩
        have B2 := Lib.hid (good_step B1.out hb)
        clear hb B1 hq1 hq2
        have hq1 : ((q.length : Int) == (j : Int) + 1) = true := by have := hql2.out; simp; omega
        have hq2 : ((q.length : Int) != (j : Int) + 1) = false := by have := hql2.out; simp; omega
        by_cases hk : okI (m : Int)
        · have hk2 : -2305843009213693952 ≤ (m : Int) ∧ (m : Int) ≤ 2305843009213693952 := hk
          obtain ⟨k0, k1⟩ := hk2
          have HI := cInt_any (m : Int)
          have HZ := fun w => cNum_i (2 * (m : Int)) w (by omega) (by omega)
          have ez : encN (2 * (m : Int)).toNat = encI (m : Int) := by
            unfold encI zz
            rw [if_pos hk, if_neg (by omega)]
          rw [ez] at HZ
          obtain ⟨q, hq⟩ : ∃ q, q = encI (m : Int) := ⟨_, rfl⟩
          have hne : q ≠ [] := by rw [hq]; exact encI_ne (m : Int) hk
          rw [← hq] at HI HZ
          have hne2 : q.isEmpty = false := by cases q <;> simp_all
          have HI' := Lib.hid HI
          have HZ' := Lib.hid HZ
          clear HI HZ ez hq hk
          go_wp2_with fail
          refine (HI'.out _).mono ?_
          rintro e w3 ⟨rfl, hb⟩
          have B3 := Lib.hid (good_step B2.out hb)
          clear hb
          go_wp2_with fail
          refine (HZ'.out _).mono ?_
          rintro e w4 ⟨rfl, hb⟩
          have B4 := Lib.hid (good_step B3.out hb)
          clear hb
          go_wp2_with fail
          refine (HI'.out _).mono ?_
          rintro e w5 ⟨rfl, hb⟩
          have B5 := Lib.hid (good_step B4.out hb)
          clear hb
          go_wp2
          go_ret
          exact ⟨rfl, B5.out⟩
        · have HI := cInt_any (m : Int)
          rw [encI_no (m : Int) hk] at HI
          have hd : (m : Int) < -2305843009213693952 ∨ 2305843009213693952 < (m : Int) := by
            unfold okI most at hk; omega
          have HI' := Lib.hid HI
          clear HI hk
          have hd3 : 2305843009213693952 < (m : Int) := by omega
          clear hd
          all_goals
            have hd2 : -2305843009213693952 ≤ (m : Int) := by omega
            go_wp2_with fail
            refine (HI'.out _).mono ?_
            rintro e w3 ⟨rfl, hb⟩
            have B3 := Lib.hid (good_step B2.out hb)
            clear hb
            go_wp2
            go_ret
            exact ⟨rfl, B3.out⟩

end Go.Proofs.Ytcgbamloemdilaa
