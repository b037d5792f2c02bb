/-
  Layer 2 (code): the writer: putInt, putText, putList, and Num, Int, Text, List, Nums.
-/
import Derived.Test.YtihanhdepijijaaCodeRow
namespace Go.Proofs.Ytihanhdepijijaa.S2
open Go.RowKit
open Cd

theorem putNum_i (base : Nat) (l : List UInt8) (v : Value) (m : Int) (w : World) (hb : base ≤ w.heap.size) (hown : w.ownsRow base 5 1 v l.length (U l)) (hl : l.length ≤ 1099511627776) (h0 : 0 ≤ m) (h1 : m ≤ 9223372036854775807) :
    Calls Try.prog 59 #[v, .int .i64 m] w (BRes base w (l ++ encN m.toNat)) := by
  obtain ⟨n, rfl⟩ := Int.eq_ofNat_of_zero_le h0
  exact putNum_any base l v n w hb hown hl (by omega)
set_option maxHeartbeats 400000 in
theorem putNum_neg (base : Nat) (l : List UInt8) (v : Value) (m : Int) (w : World) (hown : w.ownsRow base 5 1 v l.length (U l)) (h0 : m < 0) :
    Calls Try.prog 59 #[v, .int .i64 m] w (BRes base w l) := by
  go_enter Try.func59, Try.ntmps59
  go_wp2
  go_ret
  exact ⟨_, rfl, hown, Below.refl _ _⟩

theorem encT_le (s : List UInt8) : s.length ≤ (encT s).length := by unfold encT; rw [List.length_append]; omega
/-- What 'putList[string]'s loop keeps. -/
def PLT (base : Nat) (q : List UInt8) (ls : List (List UInt8)) (w : World) (o i : Value) (wr : World) : Prop :=
  ∃ k : Nat, i = .int .i64 (k : Int) ∧ k ≤ ls.length ∧ wr.ownsRow base 5 1 o (q ++ encM encT (ls.take k)).length (U (q ++ encM encT (ls.take k))) ∧ Below base w wr
/-- What 'putList[int]'s loop keeps. -/
def PLI (base : Nat) (q : List UInt8) (ls : List Int) (w : World) (o i : Value) (wr : World) : Prop :=
  ∃ k : Nat, i = .int .i64 (k : Int) ∧ k ≤ ls.length ∧ wr.ownsRow base 5 1 o (q ++ encM encI (ls.take k)).length (U (q ++ encM encI (ls.take k))) ∧ Below base w wr
/-! ### The functions of the package -/
/-- The string of these bytes is handed back; what was there is ls it was. -/
def SRes (W : World) (l : List UInt8) (e : Ending) (w' : World) : Prop := e = .returned (.string (B l)) ∧ Below W.heap.size W w'

set_option maxHeartbeats 400000 in
theorem cNum_any (n : Nat) (w : World) (hn : n < 9223372036854775808) :
    Calls Try.prog 54 #[.int .i64 (n : Int)] w (SRes w (encN n)) := by
  have H := Lib.hid (putNum_any w.heap.size [] (.slice none 0 0) n w (Nat.le_refl _) (World.ownsRow_nil _ _ _ _) (by simp) hn)
  go_enter Try.func54, Try.ntmps54
  go_wp2_with fail
  refine H.out.mono ?_
  rintro e w1 ⟨v1, rfl, h1, h2⟩
  have hcv := conv_own h1
  simp only [List.nil_append] at hcv
  go_wp2
  go_ret
  exact ⟨rfl, h2⟩

set_option maxHeartbeats 400000 in
theorem cNum_neg (n : Int) (w : World) (hn : n < 0) :
    Calls Try.prog 54 #[.int .i64 n] w (SRes w []) := by
  have H := Lib.hid (putNum_neg w.heap.size [] (.slice none 0 0) n w (World.ownsRow_nil _ _ _ _) hn)
  go_enter Try.func54, Try.ntmps54
  go_wp2_with fail
  refine H.out.mono ?_
  rintro e w1 ⟨v1, rfl, h1, h2⟩
  have hcv := conv_own h1
  go_wp2
  go_ret
  exact ⟨rfl, h2⟩

end Go.Proofs.Ytihanhdepijijaa.S2
