/-
  Layer 2: the laws' arguments opened (slices of ints and of strings); the law's own 'light'; CodeWrites.
-/
import Derived.Test.YtcgbamloemdilaaCodeSmall
import Derived.Test.YtcgbamloemdilaaCodeRef
import Derived.Test.YtcgbamloemdilaaCodeKit
import Derived.ChangeSlices
import Derived.SliceStrings
import Derived.ChangeArms
namespace Go.Proofs.Ytcgbamloemdilaa
open Go.RowKit Go.ChangeShapes Go.WideShapes
open Cd
attribute [local go_sem] B_size B_drop' B_take B_list B_app

section
variable {H : Type} {enc : TypeId × Value → H} {w : World} {held : Bool}
theorem cells_int : Try.prog.cellsOf 3 = 1 := by kernel_rfl
theorem cells_string : Try.prog.cellsOf 9 = 1 := by kernel_rfl
theorem openInts {fuel : Nat} {v : Value} {x : DataW H × List MemPlace} (h : DataW.trod enc Try.prog w 0 (fun _ => true) held fuel 23 [v] = some x) :
    ∃ (A : Option Addr) (cap : Nat) (zs : List Int), v = .slice A zs.length cap ∧ Row w w.heap.size A (Zs zs) ∧ zs.length ≤ maxLen ∧ ∀ z ∈ zs, (Lit.int .i64 z).wf = true := by
  rcases open_ints Try.underlying23 Try.underlying3 cells_int h with ⟨hc, _⟩ | ⟨a, len, cap, zs, hc, _, hl, hm, hz, _, hcell, hwf⟩
  · injection hc with hc _
    exact ⟨none, 0, [], hc, .inl rfl, Nat.zero_le _, (fun z hz => by cases hz)⟩
  · injection hc with hc _
    simp only [if_true] at hz
    have hlen : (zs.take len).length = len := by rw [List.length_take]; omega
    refine ⟨some a, cap, zs.take len, by rw [hlen]; exact hc, ?_, by omega, fun z hz' => hwf z (List.mem_of_mem_take hz')⟩
    rcases Nat.eq_zero_or_pos len with h0 | h0
    · left; rw [h0]; rfl
    · refine .inr ⟨a, rfl, ?_, fun j u hu => ?_⟩
      · have := World.block_lt_of_cell? w _ (hcell 0 (by omega))
        rw [add_block] at this
        exact this
      · have hj : j < len := by
          have := (List.getElem?_eq_some_iff.1 hu).1
          simp only [Zs, List.length_map, hlen] at this
          exact this
        rw [hcell j (by omega), ← hu]
        simp only [Zs, List.getElem?_map, List.getElem?_take, hj, if_true]
        rw [List.getD_eq_getElem?_getD, List.getElem?_eq_getElem (by omega)]
        rfl
theorem openStrs {fuel : Nat} {v : Value} {x : DataW H × List MemPlace} (h : DataW.trod enc Try.prog w 0 (fun _ => true) held fuel 22 [v] = some x) :
    ∃ (A : Option Addr) (cap : Nat) (ls : List (List UInt8)), v = .slice A ls.length cap ∧ Row w w.heap.size A (Ss ls) ∧ ls.length ≤ maxLen ∧ ∀ l ∈ ls, l.length ≤ maxLen := by
  rcases open_strings Try.underlying22 Try.underlying9 cells_string h with ⟨hc, _⟩ | ⟨a, len, cap, ss, hc, _, hl, hm, hz, _, hcell, hwf⟩
  · injection hc with hc _
    exact ⟨none, 0, [], hc, .inl rfl, Nat.zero_le _, (fun z hz => by cases hz)⟩
  · injection hc with hc _
    simp only [if_true] at hz
    have hlen : ((ss.take len).map fun s => s.data.toList).length = len := by rw [List.length_map, List.length_take]; omega
    refine ⟨some a, cap, (ss.take len).map fun s => s.data.toList, by rw [hlen]; exact hc, ?_, by omega, fun z hz' => ?_⟩
    · rcases Nat.eq_zero_or_pos len with h0 | h0
      · left; rw [h0]; rfl
      · refine .inr ⟨a, rfl, ?_, fun j u hu => ?_⟩
        · have := World.block_lt_of_cell? w _ (hcell 0 (by omega))
          rw [add_block] at this
          exact this
        · have hj : j < len := by
            have := (List.getElem?_eq_some_iff.1 hu).1
            rw [Ss_length, hlen] at this
            exact this
          rw [hcell j (by omega), ← hu]
          simp only [Ss, List.getElem?_map, List.getElem?_take, hj, if_true]
          rw [List.getD_eq_getElem?_getD, List.getElem?_eq_getElem (by omega)]
          rfl
    · obtain ⟨s, hs, rfl⟩ := List.mem_map.1 hz'
      have := hwf s (List.mem_of_mem_take hs)
      rw [← B_of s, B_size] at this
      exact this
end

/-! ### light -/
/-- A bool is handed back, true just if P; the world is as it was. -/
def BoolIs (P : Prop) (w : World) (e : Ending) (w' : World) : Prop := ∃ b, e = .returned (.bool b) ∧ (b = true ↔ P) ∧ w = w'
def LightP (ls : List (List UInt8)) : Prop := ls.length ≤ 100 ∧ ∀ l ∈ ls, l.length ≤ 1000
set_option maxHeartbeats 1000000 in
set_option maxRecDepth 100000 in
theorem light_any (bd : Nat) (A : Option Addr) (ls : List (List UInt8)) (c : Nat) (w : World) (hr : Row w bd A (Ss ls)) (hs : ls.length ≤ maxLen) (hm : ∀ l ∈ ls, l.length ≤ maxLen) :
    Calls Try.prog 11 #[.slice A ls.length c] w (BoolIs (LightP ls) w) := by
  unfold maxLen at hs
  by_cases h100 : ls.length ≤ 100
  · have h100' : (ls.length : Int) ≤ 100 := by omega
    go_enter Try.func11, Try.ntmps11
    go_wp2_with fail
    go_loop [3] (fun i => ∃ k : Nat, i = .int .i64 (k : Int) ∧ k ≤ ls.length ∧ ∀ l ∈ ls.take k, l.length ≤ 1000) (fun i => ls.length - (intOf i).toNat)
    case atStart => exact ⟨0, rfl, by omega, by simp⟩
    case round =>
      obtain ⟨k, rfl, hk, hall⟩ := hrel
      have HA := Lib.hid hall
      clear hall
      by_cases hlt : k < ls.length
      · have hlt' : (k : Int) < ls.length := by omega
        obtain ⟨a, rfl, _, hc⟩ := hr.str hlt
        obtain ⟨x, hx⟩ : ∃ x, x = ls[k] := ⟨_, rfl⟩
        rw [← hx] at hc
        have hxm : x.length ≤ maxLen := hm x (by rw [hx]; exact List.getElem_mem hlt)
        unfold maxLen at hxm
        have hx2 := Lib.hid hx
        have HM := Lib.hid hm
        clear hx hr hm
        by_cases hbig : 1000 < x.length
        · have hbig' : (1000 : Int) < x.length := by omega
          have R : (false = true ↔ LightP ls) := by
            constructor
            · intro h; cases h
            · intro h
              have := h.2 x (by rw [hx2.out]; exact List.getElem_mem hlt)
              omega
          have HR := Lib.hid R
          clear R
          go_wp2
          go_ret
          exact ⟨false, rfl, HR.out, rfl⟩
        · have hbig' : (x.length : Int) ≤ 1000 := by omega
          have R : ∀ l ∈ ls.take (k + 1), l.length ≤ 1000 := by
            intro l hl
            rw [List.take_succ_eq_append_getElem hlt, List.mem_append, List.mem_singleton] at hl
            rcases hl with hl | rfl
            · exact HA.out l hl
            · rw [← hx2.out]; omega
          have HR := Lib.hid R
          clear R
          go_wp2
          go_round
          case rel => exact ⟨k + 1, by go_num, hlt, HR.out⟩
          case measure => simp [intOf]; omega
      · obtain rfl : k = ls.length := by omega
        have R : LightP ls := ⟨h100, fun l hl => HA.out l (by rw [List.take_length]; exact hl)⟩
        have HR := Lib.hid R
        clear R hr hm
        go_wp2
        go_ret
        exact ⟨true, rfl, ⟨fun _ => HR.out, fun _ => rfl⟩, rfl⟩
  · have h100' : (100 : Int) < ls.length := by omega
    have R : (false = true ↔ LightP ls) := ⟨(fun h => by cases h), fun h => absurd h.1 h100⟩
    have HR := Lib.hid R
    clear R hr hm h100
    go_enter Try.func11, Try.ntmps11
    go_wp2
    go_ret
    exact ⟨false, rfl, HR.out, rfl⟩
end Go.Proofs.Ytcgbamloemdilaa
