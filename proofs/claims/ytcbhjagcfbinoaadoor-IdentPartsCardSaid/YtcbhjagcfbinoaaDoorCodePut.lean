/-
  Layer 2 (code): the writer: putInt, putText, putList, and Num, Int, Text, List, Nums.
-/
import Derived.Test.YtcbhjagcfbinoaaDoorCodeRow
namespace Go.Proofs.YtcbhjagcfbinoaaDoor.S2
open Go.RowKit
open Cd

theorem putNum_i (base : Nat) (l : List UInt8) (v : Value) (m : Int) (w : World) (hb : base ≤ w.heap.size) (hown : w.ownsRow base 5 1 v l.length (U l)) (hl : l.length ≤ 1099511627776) (h0 : 0 ≤ m) (h1 : m ≤ 9223372036854775807) :
    Calls Tryd.prog 41 #[v, .int .i64 m] w (BRes base w (l ++ encN m.toNat)) := by
  obtain ⟨n, rfl⟩ := Int.eq_ofNat_of_zero_le h0
  exact putNum_any base l v n w hb hown hl (by omega)
set_option maxHeartbeats 400000 in
theorem putNum_neg (base : Nat) (l : List UInt8) (v : Value) (m : Int) (w : World) (hown : w.ownsRow base 5 1 v l.length (U l)) (h0 : m < 0) :
    Calls Tryd.prog 41 #[v, .int .i64 m] w (BRes base w l) := by
  go_enter Tryd.func41, Tryd.ntmps41
  go_wp2
  go_ret
  exact ⟨_, rfl, hown, Below.refl _ _⟩

set_option maxHeartbeats 400000 in
theorem putText_any (base : Nat) (l : List UInt8) (v : Value) (s : List UInt8) (w : World) (hb : base ≤ w.heap.size) (hown : w.ownsRow base 5 1 v l.length (U l)) (hl : l.length + s.length ≤ 1099511627776) :
    Calls Tryd.prog 40 #[v, .string (B s)] w (BRes base w (l ++ encT s)) := by
  obtain ⟨i0, hi, hz0, hz1, hz2⟩ := info_parts infoByte
  have hsz : (B s).size = s.length := by simp [B, ByteArray.size]
  have hn := encN_len s.length
  have H := putNum_any base l v (B s).size w hb hown (by omega) (by omega)
  obtain ⟨q, hq⟩ : ∃ q, q = l ++ encN (B s).size := ⟨_, rfl⟩
  have hql : q.length ≤ l.length + 9 := by rw [hq, List.length_append, hsz]; omega
  rw [← hq] at H
  have e : l ++ encT s = q ++ s := by rw [hq, hsz]; unfold encT; rw [List.append_assoc]
  rw [e]
  have hs2 : (B s).size ≤ 1099511627776 := by omega
  have H' := Lib.hid H
  have HS := Lib.hid hsz
  clear H hq e hsz
  go_enter Tryd.func40, Tryd.ntmps40
  go_wp2_with fail
  refine H'.out.mono ?_
  rintro e w1 ⟨v1, rfl, h1, h2⟩
  go_wp2_with (at_builtin; refine Lib.wpList_append_own_string _ rfl _ _ 48 9 rfl base 5 i0 Tryd.underlying48 Tryd.underlying9 hi hz0 hz1 hz2 _ _ _ rfl h1 (B s) rfl (by unfold maxLen; omega) (by omega) (by have := h2.size; omega) ?_)
  intro v2 w2 hown2 hgrow _
  have R : BRes base w (q ++ s) (.returned v2) w2 := ⟨_, rfl, own_cong hown2 (by rw [HS.out, List.length_append]) (by rw [U_append]; rfl), h2.grown hgrow (by have := h2.size; omega) (fun k hk => (h1.lt k hk).1)⟩
  clear hown2 hgrow
  go_wp2
  go_ret
  exact R

theorem encT_le (s : List UInt8) : s.length ≤ (encT s).length := by unfold encT; rw [List.length_append]; omega
/-- What 'putList[string]'s loop keeps. -/
def PLT (base : Nat) (q : List UInt8) (ls : List (List UInt8)) (w : World) (o i : Value) (wr : World) : Prop :=
  ∃ k : Nat, i = .int .i64 (k : Int) ∧ k ≤ ls.length ∧ wr.ownsRow base 5 1 o (q ++ encM encT (ls.take k)).length (U (q ++ encM encT (ls.take k))) ∧ Below base w wr
/-- What 'putList[int]'s loop keeps. -/
def PLI (base : Nat) (q : List UInt8) (ls : List Int) (w : World) (o i : Value) (wr : World) : Prop :=
  ∃ k : Nat, i = .int .i64 (k : Int) ∧ k ≤ ls.length ∧ wr.ownsRow base 5 1 o (q ++ encM encI (ls.take k)).length (U (q ++ encM encI (ls.take k))) ∧ Below base w wr
/-! ### The functions of the package -/
/-- The string of these bytes is handed back; what was there is ls it was. -/
def SRes (W : World) (l : List UInt8) (e : Ending) (w' : World) : Prop := e = .returned (.string (B l)) ∧ Below W.heap.size W w'

set_option maxHeartbeats 400000 in
theorem cNum_any (n : Nat) (w : World) (hn : n < 9223372036854775808) :
    Calls Tryd.prog 24 #[.int .i64 (n : Int)] w (SRes w (encN n)) := by
  have H := Lib.hid (putNum_any w.heap.size [] (.slice none 0 0) n w (Nat.le_refl _) (World.ownsRow_nil _ _ _ _) (by simp) hn)
  go_enter Tryd.func24, Tryd.ntmps24
  go_wp2_with fail
  refine H.out.mono ?_
  rintro e w1 ⟨v1, rfl, h1, h2⟩
  have hcv := conv_own h1
  simp only [List.nil_append] at hcv
  go_wp2
  go_ret
  exact ⟨rfl, h2⟩

set_option maxHeartbeats 400000 in
theorem cNum_neg (n : Int) (w : World) (hn : n < 0) :
    Calls Tryd.prog 24 #[.int .i64 n] w (SRes w []) := by
  have H := Lib.hid (putNum_neg w.heap.size [] (.slice none 0 0) n w (World.ownsRow_nil _ _ _ _) hn)
  go_enter Tryd.func24, Tryd.ntmps24
  go_wp2_with fail
  refine H.out.mono ?_
  rintro e w1 ⟨v1, rfl, h1, h2⟩
  have hcv := conv_own h1
  go_wp2
  go_ret
  exact ⟨rfl, h2⟩

set_option maxHeartbeats 400000 in
theorem cText_any (s : List UInt8) (w : World) (hs : s.length ≤ 1099511627776) :
    Calls Tryd.prog 23 #[.string (B s)] w (SRes w (encT s)) := by
  have H := Lib.hid (putText_any w.heap.size [] (.slice none 0 0) s w (Nat.le_refl _) (World.ownsRow_nil _ _ _ _) (by simpa using hs))
  go_enter Tryd.func23, Tryd.ntmps23
  go_wp2_with fail
  refine H.out.mono ?_
  rintro e w1 ⟨v1, rfl, h1, h2⟩
  have hcv := conv_own h1
  simp only [List.nil_append] at hcv
  go_wp2
  go_ret
  exact ⟨rfl, h2⟩

end Go.Proofs.YtcbhjagcfbinoaaDoor.S2
