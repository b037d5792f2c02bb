/-
  Layer 2 (code): the writer: putInt, putText, putList, and Num, Int, Text, List, Nums.
-/
import Derived.Test.YtcgbamloemdilaaCodeRow
namespace Go.Proofs.Ytcgbamloemdilaa
open Go.RowKit
open Cd

theorem putNum_i (base : Nat) (l : List UInt8) (v : Value) (m : Int) (w : World) (hb : base ≤ w.heap.size) (hown : w.ownsRow base 5 1 v l.length (U l)) (hl : l.length ≤ 1099511627776) (h0 : 0 ≤ m) (h1 : m ≤ 9223372036854775807) :
    Calls Try.prog 47 #[v, .int .i64 m] w (BRes base w (l ++ encN m.toNat)) := by
  obtain ⟨n, rfl⟩ := Int.eq_ofNat_of_zero_le h0
  exact putNum_any base l v n w hb hown hl (by omega)
set_option maxHeartbeats 400000 in
theorem putNum_neg (base : Nat) (l : List UInt8) (v : Value) (m : Int) (w : World) (hown : w.ownsRow base 5 1 v l.length (U l)) (h0 : m < 0) :
    Calls Try.prog 47 #[v, .int .i64 m] w (BRes base w l) := by
  go_enter Try.func47, Try.ntmps47
  go_wp2
  go_ret
  exact ⟨_, rfl, hown, Below.refl _ _⟩

set_option maxHeartbeats 400000 in
theorem putInt_any (base : Nat) (l : List UInt8) (v : Value) (n : Int) (w : World) (hb : base ≤ w.heap.size) (hown : w.ownsRow base 5 1 v l.length (U l)) (hl : l.length ≤ 1099511627776) :
    Calls Try.prog 48 #[v, .int .i64 n] w (BRes base w (l ++ encI n)) := by
  by_cases hk : okI n
  · have hk2 : -2305843009213693952 ≤ n ∧ n ≤ 2305843009213693952 := hk
    obtain ⟨k0, k1⟩ := hk2
    have he : encI n = encN (zz n) := by unfold encI; rw [if_pos hk]
    rw [he]
    clear he hk
    by_cases hs : n < 0
    · have ez : zz n = (-2 * n - 1).toNat := by unfold zz; rw [if_pos hs]
      rw [ez]
      clear ez
      have H := Lib.hid (putNum_i base l v (-2 * n - 1) w hb hown hl (by omega) (by omega))
      go_enter Try.func48, Try.ntmps48
      go_wp2_with fail
      refine H.out.mono ?_
      rintro e w1 ⟨v1, rfl, h1, h2⟩
      go_wp2
      go_ret
      exact ⟨_, rfl, h1, h2⟩
    · have ez : zz n = (2 * n).toNat := by unfold zz; rw [if_neg hs]
      rw [ez]
      clear ez
      have hs' : 0 ≤ n := by omega
      have H := Lib.hid (putNum_i base l v (2 * n) w hb hown hl (by omega) (by omega))
      go_enter Try.func48, Try.ntmps48
      go_wp2_with fail
      refine H.out.mono ?_
      rintro e w1 ⟨v1, rfl, h1, h2⟩
      go_wp2
      go_ret
      exact ⟨_, rfl, h1, h2⟩
  · have he : encI n = [] := encI_no n hk
    have hd : n < -2305843009213693952 ∨ 2305843009213693952 < n := by
      unfold okI most at hk; omega
    rw [he, List.append_nil]
    clear he hk
    rcases hd with hd | hd
    · go_enter Try.func48, Try.ntmps48
      go_wp2
      go_ret
      exact ⟨_, rfl, hown, Below.refl _ _⟩
    · have hd' : -2305843009213693952 ≤ n := by omega
      go_enter Try.func48, Try.ntmps48
      go_wp2
      go_ret
      exact ⟨_, rfl, hown, Below.refl _ _⟩

set_option maxHeartbeats 400000 in
theorem putText_any (base : Nat) (l : List UInt8) (v : Value) (s : List UInt8) (w : World) (hb : base ≤ w.heap.size) (hown : w.ownsRow base 5 1 v l.length (U l)) (hl : l.length + s.length ≤ 1099511627776) :
    Calls Try.prog 49 #[v, .string (B s)] w (BRes base w (l ++ encT s)) := by
  obtain ⟨i0, hi, hz0, hz1, hz2⟩ := info_parts infoByte
  have hsz : (B s).size = s.length := by simp [B, ByteArray.size]
  have hn := encN_len s.length
  have H := putNum_any base l v (B s).size w hb hown (by omega) (by omega)
  obtain ⟨q, hq⟩ : ∃ q, q = l ++ encN (B s).size := ⟨_, rfl⟩
  have hql : q.length ≤ l.length + 9 := by rw [hq, List.length_append, hsz]; omega
  rw [← hq] at H
  have e : l ++ encT s = q ++ s := by rw [hq, hsz]; unfold encT; rw [List.append_assoc]
  rw [e]
  have hs2 : (B s).size ≤ 1099511627776 := by omega
  have H' := Lib.hid H
  have HS := Lib.hid hsz
  clear H hq e hsz
  go_enter Try.func49, Try.ntmps49
  go_wp2_with fail
  refine H'.out.mono ?_
  rintro e w1 ⟨v1, rfl, h1, h2⟩
  go_wp2_with (at_builtin; refine Lib.wpList_append_own_string _ rfl _ _ 53 9 rfl base 5 i0 Try.underlying53 Try.underlying9 hi hz0 hz1 hz2 _ _ _ rfl h1 (B s) rfl (by unfold maxLen; omega) (by omega) (by have := h2.size; omega) ?_)
  intro v2 w2 hown2 hgrow _
  have R : BRes base w (q ++ s) (.returned v2) w2 := ⟨_, rfl, own_cong hown2 (by rw [HS.out, List.length_append]) (by rw [U_append]; rfl), h2.grown hgrow (by have := h2.size; omega) (fun k hk => (h1.lt k hk).1)⟩
  clear hown2 hgrow
  go_wp2
  go_ret
  exact R

theorem encT_le (s : List UInt8) : s.length ≤ (encT s).length := by unfold encT; rw [List.length_append]; omega
/-- What 'putList[string]'s loop keeps. -/
def PLT (base : Nat) (q : List UInt8) (ls : List (List UInt8)) (w : World) (o i : Value) (wr : World) : Prop :=
  ∃ k : Nat, i = .int .i64 (k : Int) ∧ k ≤ ls.length ∧ wr.ownsRow base 5 1 o (q ++ encM encT (ls.take k)).length (U (q ++ encM encT (ls.take k))) ∧ Below base w wr
set_option maxHeartbeats 400000 in
set_option maxRecDepth 100000 in
theorem putListT_any (base : Nat) (l : List UInt8) (v : Value) (A : Option Addr) (ls : List (List UInt8)) (cap : Nat) (w : World) (hb : base ≤ w.heap.size) (hown : w.ownsRow base 5 1 v l.length (U l)) (hr : Row w base A (Ss ls))
    (hn : ls.length ≤ 1099511627776) (hl : l.length + 9 + (encM encT ls).length ≤ 1099511627776) :
    Calls Try.prog 50 #[v, .slice A ls.length cap, .func (.func 49) #[] #[]] w (BRes base w (l ++ encL encT ls)) := by
  have h9 := encN_len ls.length
  have H := putNum_any base l v ls.length w hb hown (by omega) (by omega)
  obtain ⟨q, hq⟩ : ∃ q, q = l ++ encN ls.length := ⟨_, rfl⟩
  have hql : q.length ≤ l.length + 9 := by rw [hq, List.length_append]; omega
  have e : l ++ encL encT ls = q ++ encM encT ls := by rw [hq]; unfold encL; rw [List.append_assoc]
  rw [← hq] at H
  rw [e]
  have H' := Lib.hid H
  clear H hq e hown
  have hn2 : (ls.length : Int) ≤ 1099511627776 := by omega
  have hpre : ∀ k, (q ++ encM encT (ls.take k)).length ≤ 1099511627776 := by
    intro k
    have e1 : (encM encT ls).length = (encM encT (ls.take k)).length + (encM encT (ls.drop k)).length := by
      rw [← List.length_append, ← encM_append, List.take_append_drop]
    rw [List.length_append]
    omega
  have HP := Lib.hid hpre
  have HL := Lib.hid hl
  clear hpre hl
  go_enter Try.func50, Try.ntmps50
  go_wp2_with fail
  refine H'.out.mono ?_
  rintro e w1 ⟨v1, rfl, h1, h2⟩
  go_wp2_with fail
  go_loopw [0, 15] (fun o i wr => PLT base q ls w o i wr) (fun _ i _ => ls.length - (intOf i).toNat)
  case atStart => exact ⟨0, rfl, by omega, by simpa [encM] using h1, h2⟩
  case round =>
    obtain ⟨k, rfl, hk, hown, hbel⟩ := hrel
    have hbase : base ≤ wr.heap.size := Nat.le_trans hb hbel.size
    by_cases hlt : k < ls.length
    · have hlt' : (k : Int) < ls.length := by omega
      obtain ⟨a, rfl, hab, hcell⟩ := (hr.below hbel).str hlt
      have hel := (show (encT ls[k]).length + (q ++ encM encT (ls.take k)).length ≤ 1099511627776 from by have := HP.out (k + 1); rw [encM_take ls k hlt, ← List.append_assoc, List.length_append] at this; omega)
      have HC := Lib.hid (putText_any base (q ++ encM encT (ls.take k)) u0 ls[k] wr hbase hown (by have := encT_le ls[k]; omega))
      clear h1 h2 hr
      obtain ⟨x, hx⟩ : ∃ x, x = ls[k] := ⟨_, rfl⟩
      have hst : q ++ encM encT (ls.take k) ++ encT x = q ++ encM encT (ls.take (k + 1)) := by rw [encM_take ls k hlt, ← List.append_assoc, hx]
      rw [← hx] at hcell HC
      have HS := Lib.hid hst
      have HX := Lib.hid hx
      clear hst hx hown hel
      go_wp2_with fail
      refine HC.out.mono ?_
      rintro e w2 ⟨v2, rfl, h3, h4⟩
      rw [HS.out] at h3
      have R : PLT base q ls w v2 (.int .i64 ((k : Int) + 1)) w2 := ⟨k + 1, by simp, hlt, h3, hbel.trans h4⟩
      clear h3 h4 hbel
      go_wp2
      go_roundw
      case rel => exact R
      case measure => simp [intOf]; omega
    · obtain rfl : k = ls.length := by omega
      rw [List.take_length] at hown
      have R : BRes base w (q ++ encM encT ls) (.returned u0) wr := ⟨_, rfl, hown, hbel⟩
      clear hown hbel h1 h2 hr
      go_wp2
      go_ret
      exact R

/-- What 'putList[int]'s loop keeps. -/
def PLI (base : Nat) (q : List UInt8) (ls : List Int) (w : World) (o i : Value) (wr : World) : Prop :=
  ∃ k : Nat, i = .int .i64 (k : Int) ∧ k ≤ ls.length ∧ wr.ownsRow base 5 1 o (q ++ encM encI (ls.take k)).length (U (q ++ encM encI (ls.take k))) ∧ Below base w wr
set_option maxHeartbeats 400000 in
set_option maxRecDepth 100000 in
theorem putListI_any (base : Nat) (l : List UInt8) (v : Value) (A : Option Addr) (ls : List Int) (cap : Nat) (w : World) (hb : base ≤ w.heap.size) (hown : w.ownsRow base 5 1 v l.length (U l)) (hr : Row w base A (Zs ls))
    (hn : ls.length ≤ 1099511627776) (hl : l.length + 9 + (encM encI ls).length ≤ 1099511627776) :
    Calls Try.prog 51 #[v, .slice A ls.length cap, .func (.func 48) #[] #[]] w (BRes base w (l ++ encL encI ls)) := by
  have h9 := encN_len ls.length
  have H := putNum_any base l v ls.length w hb hown (by omega) (by omega)
  obtain ⟨q, hq⟩ : ∃ q, q = l ++ encN ls.length := ⟨_, rfl⟩
  have hql : q.length ≤ l.length + 9 := by rw [hq, List.length_append]; omega
  have e : l ++ encL encI ls = q ++ encM encI ls := by rw [hq]; unfold encL; rw [List.append_assoc]
  rw [← hq] at H
  rw [e]
  have H' := Lib.hid H
  clear H hq e hown
  have hn2 : (ls.length : Int) ≤ 1099511627776 := by omega
  have hpre : ∀ k, (q ++ encM encI (ls.take k)).length ≤ 1099511627776 := by
    intro k
    have e1 : (encM encI ls).length = (encM encI (ls.take k)).length + (encM encI (ls.drop k)).length := by
      rw [← List.length_append, ← encM_append, List.take_append_drop]
    rw [List.length_append]
    omega
  have HP := Lib.hid hpre
  have HL := Lib.hid hl
  clear hpre hl
  go_enter Try.func51, Try.ntmps51
  go_wp2_with fail
  refine H'.out.mono ?_
  rintro e w1 ⟨v1, rfl, h1, h2⟩
  go_wp2_with fail
  go_loopw [0, 15] (fun o i wr => PLI base q ls w o i wr) (fun _ i _ => ls.length - (intOf i).toNat)
  case atStart => exact ⟨0, rfl, by omega, by simpa [encM] using h1, h2⟩
  case round =>
    obtain ⟨k, rfl, hk, hown, hbel⟩ := hrel
    have hbase : base ≤ wr.heap.size := Nat.le_trans hb hbel.size
    by_cases hlt : k < ls.length
    · have hlt' : (k : Int) < ls.length := by omega
      obtain ⟨a, rfl, hab, hcell⟩ := (hr.below hbel).num hlt
      have hel := (HP.out k)
      have HC := Lib.hid (putInt_any base (q ++ encM encI (ls.take k)) u0 ls[k] wr hbase hown (HP.out k))
      clear h1 h2 hr
      obtain ⟨x, hx⟩ : ∃ x, x = ls[k] := ⟨_, rfl⟩
      have hst : q ++ encM encI (ls.take k) ++ encI x = q ++ encM encI (ls.take (k + 1)) := by rw [encM_take ls k hlt, ← List.append_assoc, hx]
      rw [← hx] at hcell HC
      have HS := Lib.hid hst
      have HX := Lib.hid hx
      clear hst hx hown hel
      go_wp2_with fail
      refine HC.out.mono ?_
      rintro e w2 ⟨v2, rfl, h3, h4⟩
      rw [HS.out] at h3
      have R : PLI base q ls w v2 (.int .i64 ((k : Int) + 1)) w2 := ⟨k + 1, by simp, hlt, h3, hbel.trans h4⟩
      clear h3 h4 hbel
      go_wp2
      go_roundw
      case rel => exact R
      case measure => simp [intOf]; omega
    · obtain rfl : k = ls.length := by omega
      rw [List.take_length] at hown
      have R : BRes base w (q ++ encM encI ls) (.returned u0) wr := ⟨_, rfl, hown, hbel⟩
      clear hown hbel h1 h2 hr
      go_wp2
      go_ret
      exact R

/-! ### The functions of the package -/
/-- The string of these bytes is handed back; what was there is ls it was. -/
def SRes (W : World) (l : List UInt8) (e : Ending) (w' : World) : Prop := e = .returned (.string (B l)) ∧ Below W.heap.size W w'

set_option maxHeartbeats 400000 in
theorem cNum_any (n : Nat) (w : World) (hn : n < 9223372036854775808) :
    Calls Try.prog 12 #[.int .i64 (n : Int)] w (SRes w (encN n)) := by
  have H := Lib.hid (putNum_any w.heap.size [] (.slice none 0 0) n w (Nat.le_refl _) (World.ownsRow_nil _ _ _ _) (by simp) hn)
  go_enter Try.func12, Try.ntmps12
  go_wp2_with fail
  refine H.out.mono ?_
  rintro e w1 ⟨v1, rfl, h1, h2⟩
  have hcv := conv_own h1
  simp only [List.nil_append] at hcv
  go_wp2
  go_ret
  exact ⟨rfl, h2⟩

set_option maxHeartbeats 400000 in
theorem cNum_neg (n : Int) (w : World) (hn : n < 0) :
    Calls Try.prog 12 #[.int .i64 n] w (SRes w []) := by
  have H := Lib.hid (putNum_neg w.heap.size [] (.slice none 0 0) n w (World.ownsRow_nil _ _ _ _) hn)
  go_enter Try.func12, Try.ntmps12
  go_wp2_with fail
  refine H.out.mono ?_
  rintro e w1 ⟨v1, rfl, h1, h2⟩
  have hcv := conv_own h1
  go_wp2
  go_ret
  exact ⟨rfl, h2⟩

set_option maxHeartbeats 400000 in
theorem cInt_any (n : Int) (w : World) :
    Calls Try.prog 14 #[.int .i64 n] w (SRes w (encI n)) := by
  have H := Lib.hid (putInt_any w.heap.size [] (.slice none 0 0) n w (Nat.le_refl _) (World.ownsRow_nil _ _ _ _) (by simp))
  go_enter Try.func14, Try.ntmps14
  go_wp2_with fail
  refine H.out.mono ?_
  rintro e w1 ⟨v1, rfl, h1, h2⟩
  have hcv := conv_own h1
  simp only [List.nil_append] at hcv
  go_wp2
  go_ret
  exact ⟨rfl, h2⟩

set_option maxHeartbeats 400000 in
theorem cText_any (s : List UInt8) (w : World) (hs : s.length ≤ 1099511627776) :
    Calls Try.prog 16 #[.string (B s)] w (SRes w (encT s)) := by
  have H := Lib.hid (putText_any w.heap.size [] (.slice none 0 0) s w (Nat.le_refl _) (World.ownsRow_nil _ _ _ _) (by simpa using hs))
  go_enter Try.func16, Try.ntmps16
  go_wp2_with fail
  refine H.out.mono ?_
  rintro e w1 ⟨v1, rfl, h1, h2⟩
  have hcv := conv_own h1
  simp only [List.nil_append] at hcv
  go_wp2
  go_ret
  exact ⟨rfl, h2⟩

set_option maxHeartbeats 400000 in
theorem cList_any (A : Option Addr) (ls : List (List UInt8)) (cap : Nat) (w : World) (hr : Row w w.heap.size A (Ss ls)) (hn : ls.length ≤ 1099511627776) (hl : (encM encT ls).length ≤ 1099511627767) :
    Calls Try.prog 18 #[.slice A ls.length cap] w (SRes w (encL encT ls)) := by
  have H := Lib.hid (putListT_any w.heap.size [] (.slice none 0 0) A ls cap w (Nat.le_refl _) (World.ownsRow_nil _ _ _ _) hr (by omega) (by simp; omega))
  go_enter Try.func18, Try.ntmps18
  go_wp2_with fail
  refine H.out.mono ?_
  rintro e w1 ⟨v1, rfl, h1, h2⟩
  have hcv := conv_own h1
  simp only [List.nil_append] at hcv
  go_wp2
  go_ret
  exact ⟨rfl, h2⟩

set_option maxHeartbeats 400000 in
theorem cNums_any (A : Option Addr) (ls : List Int) (cap : Nat) (w : World) (hr : Row w w.heap.size A (Zs ls)) (hn : ls.length ≤ 1099511627776) (hl : (encM encI ls).length ≤ 1099511627767) :
    Calls Try.prog 20 #[.slice A ls.length cap] w (SRes w (encL encI ls)) := by
  have H := Lib.hid (putListI_any w.heap.size [] (.slice none 0 0) A ls cap w (Nat.le_refl _) (World.ownsRow_nil _ _ _ _) hr (by omega) (by simp; omega))
  go_enter Try.func20, Try.ntmps20
  go_wp2_with fail
  refine H.out.mono ?_
  rintro e w1 ⟨v1, rfl, h1, h2⟩
  have hcv := conv_own h1
  simp only [List.nil_append] at hcv
  go_wp2
  go_ret
  exact ⟨rfl, h2⟩
end Go.Proofs.Ytcgbamloemdilaa
