/-
  CodeWrites: the walk of the law, whatever the int, the string and the two slices.
-/
import Derived.Test.YtcgbamloemdilaaCodeOpen
namespace Go.Proofs.Ytcgbamloemdilaa
open Go.RowKit
open Cd
attribute [local go_sem] B_size B_drop' B_take B_list B_app

def encZ (n : Int) : List UInt8 := if n < 0 then [] else encN n.toNat
theorem cNum_all (n : Int) (w : World) (h1 : n ≤ 9223372036854775807) : Calls Try.prog 12 #[.int .i64 n] w (SRes w (encZ n)) := by
  unfold encZ
  split
  · rename_i h; exact cNum_neg n w h
  · rename_i h
    obtain ⟨m, rfl⟩ := Int.eq_ofNat_of_zero_le (show 0 ≤ n by omega)
    exact cNum_any m w (by omega)
theorem refNum_all (n : Int) (w : World) (h1 : n ≤ 9223372036854775807) : Calls Try.prog 13 #[.int .i64 n] w fun e w' => e = .returned (.string (B (encZ n))) ∧ Below w.heap.size w w' := by
  unfold encZ
  split
  · rename_i h; exact refNum_neg n w h
  · rename_i h; exact refNum_i n w (by omega) h1

theorem light_encM {ls : List (List UInt8)} (h : LightP ls) : (encM encT ls).length ≤ 100900 := by
  have := encM_le (enc := encT) 1009 ls (fun a ha => by
    have h1 := h.2 a ha
    have h2 := encN_len a.length
    unfold encT
    rw [List.length_append]
    omega)
  have := h.1
  have := Nat.mul_le_mul_right 1009 h.1
  omega
theorem nums_encM {zs : List Int} (h : zs.length ≤ 100) : (encM encI zs).length ≤ 900 := by
  have := encM_le (enc := encI) 9 zs (fun a _ => encI_len a)
  omega

set_option maxHeartbeats 2000000 in
set_option maxRecDepth 100000 in
theorem codeWrites_walk (n : Int) (s : List UInt8) (A A' : Option Addr) (ls : List (List UInt8)) (zs : List Int) (c c' : Nat) (w : World) (h1 : n ≤ 9223372036854775807) (hs : s.length ≤ maxLen)
    (hr : Row w w.heap.size A (Ss ls)) (hl : ls.length ≤ maxLen) (hm : ∀ l ∈ ls, l.length ≤ maxLen) (hr' : Row w w.heap.size A' (Zs zs)) (hz : zs.length ≤ maxLen) :
    Calls Try.prog 3 #[.int .i64 n, .string (B s), .slice A ls.length c, .slice A' zs.length c'] w fun e w' => e = .returned (.bool true) ∧ Below w.heap.size w w' := by
  have hl' := hl
  unfold maxLen at hs hl' hz
  have hs2 : (s.length : Int) ≤ 9223372036854775807 := by omega
  have hz2 : (zs.length : Int) ≤ 9223372036854775807 := by omega
  have hl2 : (ls.length : Int) ≤ 9223372036854775807 := by omega
  have HR := Lib.hid hr
  have HR' := Lib.hid hr'
  have HM := Lib.hid hm
  have HL := Lib.hid hl
  clear hr hr' hm hl hl'
  go_enter Try.func3, Try.ntmps3
  go_wp2_with fail
  refine (small_any _).mono ?_
  rintro e w1 ⟨rfl, hb⟩
  have B1 := Lib.hid hb
  clear hb
  go_wp2_with fail
  refine (light_any _ A ls c w1 (HR.out.below B1.out) HL.out HM.out).mono ?_
  rintro e w2 ⟨b, rfl, hb, rfl⟩
  have HB := Lib.hid hb
  clear hb
  cases b
  · go_wp2
    go_ret
    exact ⟨rfl, B1.out⟩
  · by_cases hz3 : zs.length ≤ 100
    · have hz4 : (zs.length : Int) ≤ 100 := by omega
      by_cases hs3 : s.length ≤ 10000
      · have hs4 : (s.length : Int) ≤ 10000 := by omega
        have hlight := HB.out.1 rfl
        have k1 := fun w => cNum_all n w h1
        have k2 := fun w => refNum_all n w h1
        have k3 := fun w => cInt_any n w
        have k4 := fun w => refInt_any n w
        have k5 := fun w => cText_any s w (by omega)
        have k6 := fun w => refText_any s w (by omega)
        have k7 := fun w (hr : Row w w.heap.size A (Ss ls)) => cList_any A ls c w hr (by have := hlight.1; omega) (by have := light_encM hlight; omega)
        have k8 := fun w (hr : Row w w.heap.size A (Ss ls)) => refList_any A ls c w hr (by have := hlight.1; omega) (by have := light_encM hlight; omega)
        have k9 := fun w (hr : Row w w.heap.size A' (Zs zs)) => cNums_any A' zs c' w hr (by omega) (by have := nums_encM hz3; omega)
        have k10 := fun w (hr : Row w w.heap.size A' (Zs zs)) => refNums_any A' zs c' w hr (by omega) (by have := nums_encM hz3; omega)
        obtain ⟨q1, e1⟩ : ∃ q, q = encZ n := ⟨_, rfl⟩
        obtain ⟨q3, e3⟩ : ∃ q, q = encI n := ⟨_, rfl⟩
        obtain ⟨q5, e5⟩ : ∃ q, q = encT s := ⟨_, rfl⟩
        obtain ⟨q7, e7⟩ : ∃ q, q = encL encT ls := ⟨_, rfl⟩
        obtain ⟨q9, e9⟩ : ∃ q, q = encL encI zs := ⟨_, rfl⟩
        rw [← e1] at k1 k2
        rw [← e3] at k3 k4
        rw [← e5] at k5 k6
        rw [← e7] at k7 k8
        rw [← e9] at k9 k10
        have K1 := Lib.hid k1
        have K2 := Lib.hid k2
        have K3 := Lib.hid k3
        have K4 := Lib.hid k4
        have K5 := Lib.hid k5
        have K6 := Lib.hid k6
        have K7 := Lib.hid k7
        have K8 := Lib.hid k8
        have K9 := Lib.hid k9
        have K10 := Lib.hid k10
        clear k1 k2 k3 k4 k5 k6 k7 k8 k9 k10 e1 e3 e5 e7 e9 hlight HB
        go_wp2_with fail
        refine (K1.out _).mono ?_
        rintro e v1 ⟨rfl, hb⟩
        have C1 := Lib.hid (good_step B1.out hb)
        clear hb
        go_wp2_with fail
        refine (K2.out _).mono ?_
        rintro e v2 ⟨rfl, hb⟩
        have C2 := Lib.hid (good_step C1.out hb)
        clear hb
        go_wp2_with fail
        refine (K3.out _).mono ?_
        rintro e v3 ⟨rfl, hb⟩
        have C3 := Lib.hid (good_step C2.out hb)
        clear hb
        go_wp2_with fail
        refine (K4.out _).mono ?_
        rintro e v4 ⟨rfl, hb⟩
        have C4 := Lib.hid (good_step C3.out hb)
        clear hb
        go_wp2_with fail
        refine (K5.out _).mono ?_
        rintro e v5 ⟨rfl, hb⟩
        have C5 := Lib.hid (good_step C4.out hb)
        clear hb
        go_wp2_with fail
        refine (K6.out _).mono ?_
        rintro e v6 ⟨rfl, hb⟩
        have C6 := Lib.hid (good_step C5.out hb)
        clear hb
        go_wp2_with fail
        refine (K7.out _ ((HR.out.below C6.out).more C6.out.size)).mono ?_
        rintro e v7 ⟨rfl, hb⟩
        have C7 := Lib.hid (good_step C6.out hb)
        clear hb
        go_wp2_with fail
        refine (K8.out _ ((HR.out.below C7.out).more C7.out.size)).mono ?_
        rintro e v8 ⟨rfl, hb⟩
        have C8 := Lib.hid (good_step C7.out hb)
        clear hb
        go_wp2_with fail
        refine (K9.out _ ((HR'.out.below C8.out).more C8.out.size)).mono ?_
        rintro e v9 ⟨rfl, hb⟩
        have C9 := Lib.hid (good_step C8.out hb)
        clear hb
        go_wp2_with fail
        refine (K10.out _ ((HR'.out.below C9.out).more C9.out.size)).mono ?_
        rintro e v10 ⟨rfl, hb⟩
        have C10 := Lib.hid (good_step C9.out hb)
        clear hb
        go_wp2
        go_ret
        exact ⟨rfl, C10.out⟩
      · have hs4 : (10000 : Int) < s.length := by omega
        go_wp2
        go_ret
        exact ⟨rfl, B1.out⟩
    · have hz4 : (100 : Int) < zs.length := by omega
      go_wp2
      go_ret
      exact ⟨rfl, B1.out⟩
end Go.Proofs.Ytcgbamloemdilaa
