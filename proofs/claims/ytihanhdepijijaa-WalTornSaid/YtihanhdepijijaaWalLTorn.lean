/-
  Layer 10: WalTorn's walk.
-/
import Derived.Test.YtihanhdepijijaaWalTornM
import Derived.Test.YtihanhdepijijaaWalSmall
namespace Go.Proofs.Ytihanhdepijijaa
open Go.RowKit
namespace Wl
open S9.Dk (isI)
attribute [local go_sem] S2.B_size S2.B_list S2.B_take S2.B_app
theorem rows_count (b : Str) (h : b.length ≤ 1000000) : (rows c4 b).1.length ≤ 100000000 := by
  have h1 := congrArg List.length (rows_spec c4_len b).1
  rw [List.length_append] at h1
  have : ∀ l : List Str, l.length ≤ (records c4 l).length := by
    intro l
    induction l with
    | nil => exact Nat.zero_le _
    | cons s l ih => rw [records_cons, List.length_append, List.length_cons]; have := record_pos c4_len s; omega
  have := this (rows c4 b).1
  omega
set_option maxHeartbeats 4000000 in
set_option maxRecDepth 100000 in
theorem torn_walk (l : List Str) (cut : Int) (junk : Str) (A : Option Addr) (n c : Nat) (hn : n = l.length) (hn2 : n ≤ 140737488355328) (hl : ∀ s ∈ l, s.length ≤ 281474976710656) (hj : junk.length ≤ 140737488355328) (hc : isI cut) (w : World) (hr : S2.Row w w.heap.size A (S2.Ss l)) :
    Calls Try.prog 4 #[.slice A n c, .int .i64 cut, .string (S2.B junk)] w fun e w' => e = .returned (.bool true) ∧ Below w.heap.size w w' := by
  have HB := Lib.hid (Below.refl w.heap.size w)
  have RL := Lib.hid hr
  have HN := Lib.hid hn
  have KS := Lib.hid (small_any w)
  have KB := Lib.hid fun w (hr : S2.Row w w.heap.size A (S2.Ss l)) => bytes_any A l n c w hn hr hn2 hl
  have hjI : (junk.length : Int) ≤ 140737488355328 := by omega
  obtain ⟨bv, hbv⟩ : ∃ bv, bv = bytesV l := ⟨_, rfl⟩
  rw [← hbv] at KB
  have HBV := Lib.hid hbv
  unfold isI at hc
  have HCI := Lib.hid hc
  clear hr hn hbv hc hl hn2 hj
  by_cases h1 : 1500 < bv
  · have h1' : (1500 : Int) < (bv : Int) := by omega
    clear h1
    go_enter Try.func4, Try.ntmps4
    go_wp2_with fail
    refine (KS.out).mono ?_
    rintro e w1 ⟨rfl, hb⟩
    replace RL := Lib.hid ((RL.out.below hb).more hb.size)
    replace HB := Lib.hid (HB.out.trans (hb.mono HB.out.size))
    clear hb
    go_wp2_with fail
    refine (KB.out _ RL.out).mono ?_
    rintro e wz ⟨rfl, rfl⟩
    clear KS KB
    go_wp2
    go_ret
    exact ⟨rfl, HB.out⟩
  have h1' : ¬ (1500 : Int) < (bv : Int) := by omega
  by_cases h2 : 50 < junk.length
  · have h2' : (50 : Int) < (junk.length : Int) := by omega
    clear h1 h2
    go_enter Try.func4, Try.ntmps4
    go_wp2_with fail
    refine (KS.out).mono ?_
    rintro e w1 ⟨rfl, hb⟩
    replace RL := Lib.hid ((RL.out.below hb).more hb.size)
    replace HB := Lib.hid (HB.out.trans (hb.mono HB.out.size))
    clear hb
    go_wp2_with fail
    refine (KB.out _ RL.out).mono ?_
    rintro e wz ⟨rfl, rfl⟩
    clear KS KB
    go_wp2
    go_ret
    exact ⟨rfl, HB.out⟩
  have h2' : ¬ (50 : Int) < (junk.length : Int) := by omega
  by_cases h3 : cut < 0
  · clear h1 h2
    go_enter Try.func4, Try.ntmps4
    go_wp2_with fail
    refine (KS.out).mono ?_
    rintro e w1 ⟨rfl, hb⟩
    replace RL := Lib.hid ((RL.out.below hb).more hb.size)
    replace HB := Lib.hid (HB.out.trans (hb.mono HB.out.size))
    clear hb
    go_wp2_with fail
    refine (KB.out _ RL.out).mono ?_
    rintro e wz ⟨rfl, rfl⟩
    clear KS KB
    go_wp2
    go_ret
    exact ⟨rfl, HB.out⟩
  obtain ⟨k, rfl⟩ : ∃ k : Nat, cut = (k : Int) := ⟨cut.toNat, by omega⟩
  have h3' : ¬ (k : Int) < 0 := by omega
  obtain ⟨hcnt, hsm⟩ := bytes_small (l := l) (by rw [← HBV.out]; omega)
  have KF := Lib.hid fun w (hr : S2.Row w w.heap.size A (S2.Ss l)) => file_any A n c l w hr HN.out (by rw [HN.out]; omega) hsm
  have hbl := records_le hsm
  have hok := okRows hsm
  have hlen : (records c4 l).length ≤ 45390 := by have : l.length * (1500 + 13) ≤ 30 * 1513 := Nat.mul_le_mul hcnt (by omega); omega
  have Bl := Lib.hid (show l.length ≤ 100000000 by omega)
  have htorn := fun hk => torn l hok k hk junk
  obtain ⟨b, hb⟩ : ∃ b, b = records c4 l := ⟨_, rfl⟩
  have HBR := Lib.hid hb
  have TT := Lib.hid htorn
  rw [← hb] at KF hlen
  clear hcnt hsm hbl hok hb htorn h1 h3
  have hlI : (b.length : Int) ≤ 45390 := by omega
  by_cases h4 : b.length < k
  · have h4' : (b.length : Int) < (k : Int) := by omega
    clear h2 h4
    go_enter Try.func4, Try.ntmps4
    go_wp2_with fail
    refine (KS.out).mono ?_
    rintro e w1 ⟨rfl, hb⟩
    replace RL := Lib.hid ((RL.out.below hb).more hb.size)
    replace HB := Lib.hid (HB.out.trans (hb.mono HB.out.size))
    clear hb
    go_wp2_with fail
    refine (KB.out _ RL.out).mono ?_
    rintro e wz ⟨rfl, rfl⟩
    clear KS KB
    go_wp2_with fail
    refine (KF.out _ RL.out).mono ?_
    rintro e w2 ⟨rfl, hb⟩
    replace RL := Lib.hid ((RL.out.below hb).more hb.size)
    replace HB := Lib.hid (HB.out.trans (hb.mono HB.out.size))
    clear hb
    clear KF
    go_wp2
    go_ret
    exact ⟨rfl, HB.out⟩
  have h4' : ¬ (b.length : Int) < (k : Int) := by omega
  have hkb : k ≤ b.length := by omega
  have T := TT.out (by rw [← HBR.out]; exact hkb)
  obtain ⟨t1, t2, t3, t4, t5, t6, t7⟩ := T
  rw [← HBR.out] at t1 t2 t3 t4 t5 t6 t7
  have htk : (b.take k).length ≤ 1000000 := by rw [List.length_take]; omega
  have htm : (b.take (min (k + 1) b.length)).length ≤ 1000000 := by rw [List.length_take]; omega
  have KR1 := fun w => rows_any (b.take k) w htk
  have KR2 := fun w => rows_any (b.take (min (k + 1) b.length)) w htm
  have KR3 := fun w => rows_any b w (by omega)
  have b1 := rows_count _ htk
  have b2 := rows_count _ htm
  rw [t3, ← HBR.out] at KR3
  obtain ⟨S, hS⟩ : ∃ S, S = (rows c4 (b.take k)).1 := ⟨_, rfl⟩
  rw [← hS] at t1 t2 t4 t5 t6 t7 b1 KR1
  obtain ⟨M, hM⟩ : ∃ M, M = (rows c4 (b.take (min (k + 1) b.length))).1 := ⟨_, rfl⟩
  rw [← hM] at t2 b2 KR2
  obtain ⟨sz, hsz⟩ : ∃ sz, sz = (records c4 S).length := ⟨_, rfl⟩
  rw [← hsz] at t4 t5 t6 t7 KR1
  have hto : (b.take sz ++ junk).length ≤ 1000000 := by rw [List.length_append, List.length_take]; omega
  have KR4 := fun w => rows_any (b.take sz ++ junk) w hto
  have b3 := rows_count _ hto
  obtain ⟨O, hO⟩ : ∃ O, O = (rows c4 (b.take sz ++ junk)).1 := ⟨_, rfl⟩
  rw [← hO] at t5 t6 t7 b3 KR4
  obtain ⟨lf, hlf⟩ : ∃ lf, lf = (records c4 O).length := ⟨_, rfl⟩
  rw [← hlf] at t5 t7 KR4
  have htp : ((b.take sz ++ junk).take lf).length ≤ 1000000 := by rw [List.length_take]; omega
  have KR5 := fun w => rows_any ((b.take sz ++ junk).take lf) w htp
  rw [t7, ← hlf] at KR5
  obtain ⟨z2, hz2⟩ : ∃ z2, z2 = (records c4 M).length := ⟨_, rfl⟩
  rw [← hz2] at KR2
  have BS := Lib.hid b1
  have BM := Lib.hid b2
  have BO := Lib.hid b3
  have T1 := Lib.hid t1
  have T2 := Lib.hid t2
  have T6 := Lib.hid t6
  have T3 := Lib.hid (show same l l = true from decide_eq_true rfl)
  have T7 := Lib.hid (show same O O = true from decide_eq_true rfl)
  have HK1 := Lib.hid KR1
  have HK2 := Lib.hid KR2
  have HK3 := Lib.hid KR3
  have HK4 := Lib.hid KR4
  have HK5 := Lib.hid KR5
  have hszk : ¬ (k : Int) < (sz : Int) := by omega
  have hszb : (sz : Int) ≤ (b.length : Int) := by omega
  have hkbI : (k : Int) ≤ (b.length : Int) := by omega
  have hlfI : ¬ (sz : Int) + (junk.length : Int) < (lf : Int) := by omega
  have hlfI2 : (lf : Int) ≤ (sz : Int) + (junk.length : Int) := by omega
  have hlfT : lf ≤ (b.take sz ++ junk).length := by rw [List.length_append, List.length_take]; omega
  clear t1 t2 t3 t4 t5 t6 t7 htk htm KR1 KR2 KR3 KR4 KR5 b1 b2 b3 hS hM hsz hto hO hlf htp hz2 h4 hkb TT HBR h2
  go_enter Try.func4, Try.ntmps4
  go_wp2_with fail
  refine (KS.out).mono ?_
  rintro e w1 ⟨rfl, hb⟩
  replace RL := Lib.hid ((RL.out.below hb).more hb.size)
  replace HB := Lib.hid (HB.out.trans (hb.mono HB.out.size))
  clear hb
  go_wp2_with fail
  refine (KB.out _ RL.out).mono ?_
  rintro e wz ⟨rfl, rfl⟩
  clear KS KB
  go_wp2_with fail
  refine (KF.out _ RL.out).mono ?_
  rintro e w2 ⟨rfl, hb⟩
  replace RL := Lib.hid ((RL.out.below hb).more hb.size)
  replace HB := Lib.hid (HB.out.trans (hb.mono HB.out.size))
  clear hb
  clear KF
  go_wp2_with fail
  refine (HK1.out _).mono ?_
  rintro e w3 ⟨AS, nS, cS, rfl, hn, hc, hr, hb⟩
  replace RL := Lib.hid ((RL.out.below hb).more hb.size)
  replace HB := Lib.hid (HB.out.trans (hb.mono HB.out.size))
  clear hb
  have RS := Lib.hid hr
  have NS := Lib.hid hn
  clear hn hc hr
  clear HK1
  go_wp2_with fail
  rw [show (min ((k : Int) + 1) (b.length : Int)).toNat = min (k + 1) b.length by omega]
  refine (HK2.out _).mono ?_
  rintro e w4 ⟨AM, nM, cM, rfl, hn, hc, hr, hb⟩
  replace RL := Lib.hid ((RL.out.below hb).more hb.size)
  replace RS := Lib.hid ((RS.out.below hb).more hb.size)
  replace HB := Lib.hid (HB.out.trans (hb.mono HB.out.size))
  clear hb
  have RM := Lib.hid hr
  have NM := Lib.hid hn
  clear hn hc hr HK2
  go_wp2_with fail
  refine (HK3.out _).mono ?_
  rintro e w5 ⟨AL, nL, cL, rfl, hn, hc, hr, hb⟩
  replace RL := Lib.hid ((RL.out.below hb).more hb.size)
  replace RS := Lib.hid ((RS.out.below hb).more hb.size)
  replace RM := Lib.hid ((RM.out.below hb).more hb.size)
  replace HB := Lib.hid (HB.out.trans (hb.mono HB.out.size))
  clear hb
  have RLL := Lib.hid hr
  have NL := Lib.hid hn
  clear hn hc hr
  clear HK3
  go_wp2_with fail
  refine (begins_any A AS l S c cS n nS w5 HN.out NS.out RL.out RS.out Bl.out BS.out).mono ?_
  rintro e w6 ⟨rfl, hb⟩
  replace RL := Lib.hid ((RL.out.below hb).more hb.size)
  replace RS := Lib.hid ((RS.out.below hb).more hb.size)
  replace RM := Lib.hid ((RM.out.below hb).more hb.size)
  replace RLL := Lib.hid ((RLL.out.below hb).more hb.size)
  replace HB := Lib.hid (HB.out.trans (hb.mono HB.out.size))
  clear hb
  rw [T1.out]
  go_wp2_with fail
  refine (begins_any AM AS M S cM cS nM nS w6 NM.out NS.out RM.out RS.out BM.out BS.out).mono ?_
  rintro e w7 ⟨rfl, hb⟩
  replace RL := Lib.hid ((RL.out.below hb).more hb.size)
  replace RS := Lib.hid ((RS.out.below hb).more hb.size)
  replace RM := Lib.hid ((RM.out.below hb).more hb.size)
  replace RLL := Lib.hid ((RLL.out.below hb).more hb.size)
  replace HB := Lib.hid (HB.out.trans (hb.mono HB.out.size))
  clear hb
  rw [T2.out]
  go_wp2_with fail
  refine (same_any AL A l l cL c nL n w7 NL.out HN.out RLL.out RL.out Bl.out Bl.out).mono ?_
  rintro e w8 ⟨rfl, hb⟩
  replace RL := Lib.hid ((RL.out.below hb).more hb.size)
  replace RS := Lib.hid ((RS.out.below hb).more hb.size)
  replace RM := Lib.hid ((RM.out.below hb).more hb.size)
  replace RLL := Lib.hid ((RLL.out.below hb).more hb.size)
  replace HB := Lib.hid (HB.out.trans (hb.mono HB.out.size))
  clear hb
  rw [T3.out]
  go_wp2_with fail
  refine (HK4.out _).mono ?_
  rintro e w9 ⟨AO, nO, cO, rfl, hn, hc, hr, hb⟩
  replace RL := Lib.hid ((RL.out.below hb).more hb.size)
  replace RS := Lib.hid ((RS.out.below hb).more hb.size)
  replace RM := Lib.hid ((RM.out.below hb).more hb.size)
  replace RLL := Lib.hid ((RLL.out.below hb).more hb.size)
  replace HB := Lib.hid (HB.out.trans (hb.mono HB.out.size))
  clear hb
  have RO := Lib.hid hr
  have NO := Lib.hid hn
  clear hn hc hr
  clear HK4
  go_wp2_with fail
  rw [show (min (lf : Int) ((sz : Int) + (junk.length : Int))).toNat = lf by omega]
  refine (HK5.out _).mono ?_
  rintro e w10 ⟨AQ, nQ, cQ, rfl, hn, hc, hr, hb⟩
  replace RL := Lib.hid ((RL.out.below hb).more hb.size)
  replace RS := Lib.hid ((RS.out.below hb).more hb.size)
  replace RM := Lib.hid ((RM.out.below hb).more hb.size)
  replace RLL := Lib.hid ((RLL.out.below hb).more hb.size)
  replace RO := Lib.hid ((RO.out.below hb).more hb.size)
  replace HB := Lib.hid (HB.out.trans (hb.mono HB.out.size))
  clear hb
  have RQ := Lib.hid hr
  have NQ := Lib.hid hn
  clear hn hc hr HK5
  go_wp2_with fail
  refine (begins_any AO AS O S cO cS nO nS w10 NO.out NS.out RO.out RS.out BO.out BS.out).mono ?_
  rintro e w11 ⟨rfl, hb⟩
  replace RL := Lib.hid ((RL.out.below hb).more hb.size)
  replace RS := Lib.hid ((RS.out.below hb).more hb.size)
  replace RM := Lib.hid ((RM.out.below hb).more hb.size)
  replace RLL := Lib.hid ((RLL.out.below hb).more hb.size)
  replace RO := Lib.hid ((RO.out.below hb).more hb.size)
  replace RQ := Lib.hid ((RQ.out.below hb).more hb.size)
  replace HB := Lib.hid (HB.out.trans (hb.mono HB.out.size))
  clear hb
  rw [T6.out]
  go_wp2_with fail
  refine (same_any AQ AO O O cQ cO nQ nO w11 NQ.out NO.out RQ.out RO.out BO.out BO.out).mono ?_
  rintro e w12 ⟨rfl, hb⟩
  replace RL := Lib.hid ((RL.out.below hb).more hb.size)
  replace RS := Lib.hid ((RS.out.below hb).more hb.size)
  replace RM := Lib.hid ((RM.out.below hb).more hb.size)
  replace RLL := Lib.hid ((RLL.out.below hb).more hb.size)
  replace RO := Lib.hid ((RO.out.below hb).more hb.size)
  replace RQ := Lib.hid ((RQ.out.below hb).more hb.size)
  replace HB := Lib.hid (HB.out.trans (hb.mono HB.out.size))
  clear hb
  rw [T7.out]
  go_wp2
  go_ret
  exact ⟨rfl, HB.out⟩
end Wl
end Go.Proofs.Ytihanhdepijijaa
