/-
  Layer 11: the package's Right and Name.
-/
import Derived.Test.YtcbhjagcfbinoaaDoorIdentMore
import Derived.Test.YtcbhjagcfbinoaaDoorIdentPk
import Derived.Test.YtcbhjagcfbinoaaDoorSumUnAny
import Derived.Laws.RangeString
import Derived.Laws.RangeAny
namespace Go.Proofs.YtcbhjagcfbinoaaDoor
open Go.RowKit
namespace Idt
attribute [local go_sem] S2.B_size S2.B_drop' S2.B_take S2.B_list S2.B_app
set_option maxHeartbeats 1000000 in
set_option maxRecDepth 100000 in
theorem right_any (l : Str) (w : World) (hl : l.length ≤ 1125899906842624) :
    Calls Tryd.prog 14 #[.string (S2.B l)] w fun e w' => e = .returned (.bool (isId l)) ∧ Below w.heap.size w w' := by
  have hl3 : (l.length : Int) ≤ 1125899906842624 := by omega
  by_cases h : l.length = 16
  · have K := Lib.hid (show Calls Tryd.prog 33 #[.string (S2.B l)] w fun e w' => e = .returned (.tuple #[.string (S2.B ((S3.unhex l).getD [])), .bool (isId l)]) ∧ Below w.heap.size w w' from by rw [id_unhex h]; exact S3.unhex_any l w (by omega))
    obtain ⟨x, hx⟩ : ∃ x, x = (S3.unhex l).getD [] := ⟨_, rfl⟩
    obtain ⟨r, hr⟩ : ∃ r, r = isId l := ⟨_, rfl⟩
    rw [← hx, ← hr] at K
    rw [← hr]
    have hI : ((l.length : Int) == 16) = true := by simp; omega
    clear hx hr h hl
    go_enter Tryd.func14, Tryd.ntmps14
    go_wp2_with fail
    refine K.out.mono ?_
    rintro e w1 ⟨rfl, hb⟩
    clear K
    go_wp2
    go_ret
    exact ⟨rfl, hb⟩
  · have hI : ((l.length : Int) == 16) = false := by simp; omega
    rw [id_long h]
    clear h hl
    go_enter Tryd.func14, Tryd.ntmps14
    go_wp2
    go_ret
    exact ⟨rfl, Below.refl _ _⟩
set_option maxHeartbeats 400000 in
theorem letter_any (r : Nat) (w : World) :
    Calls Tryd.prog 35 #[.int .i32 (r : Int)] w fun e w' => e = .returned (.bool (decide (97 ≤ r) && decide (r ≤ 122))) ∧ w = w' := by
  by_cases h1 : 97 ≤ r
  · have h1I : (97 : Int) ≤ (r : Int) := by omega
    by_cases h2 : r ≤ 122
    · have h2I : (r : Int) ≤ 122 := by omega
      rw [decide_eq_true h1, decide_eq_true h2]
      clear h1 h2
      go_enter Tryd.func35, Tryd.ntmps35
      go_wp2
      go_ret
      exact ⟨rfl, rfl⟩
    · have h2I : ¬ (r : Int) ≤ 122 := by omega
      rw [decide_eq_true h1, decide_eq_false h2]
      clear h1 h2
      go_enter Tryd.func35, Tryd.ntmps35
      go_wp2
      go_ret
      exact ⟨rfl, rfl⟩
  · have h1I : ¬ (97 : Int) ≤ (r : Int) := by omega
    rw [decide_eq_false h1]
    clear h1
    go_enter Tryd.func35, Tryd.ntmps35
    go_wp2
    go_ret
    exact ⟨rfl, rfl⟩
set_option maxHeartbeats 400000 in
theorem digit_any (r : Nat) (w : World) :
    Calls Tryd.prog 36 #[.int .i32 (r : Int)] w fun e w' => e = .returned (.bool (decide (48 ≤ r) && decide (r ≤ 57))) ∧ w = w' := by
  by_cases h1 : 48 ≤ r
  · have h1I : (48 : Int) ≤ (r : Int) := by omega
    by_cases h2 : r ≤ 57
    · have h2I : (r : Int) ≤ 57 := by omega
      rw [decide_eq_true h1, decide_eq_true h2]
      clear h1 h2
      go_enter Tryd.func36, Tryd.ntmps36
      go_wp2
      go_ret
      exact ⟨rfl, rfl⟩
    · have h2I : ¬ (r : Int) ≤ 57 := by omega
      rw [decide_eq_true h1, decide_eq_false h2]
      clear h1 h2
      go_enter Tryd.func36, Tryd.ntmps36
      go_wp2
      go_ret
      exact ⟨rfl, rfl⟩
  · have h1I : ¬ (48 : Int) ≤ (r : Int) := by omega
    rw [decide_eq_false h1]
    clear h1
    go_enter Tryd.func36, Tryd.ntmps36
    go_wp2
    go_ret
    exact ⟨rfl, rfl⟩
theorem below_iter (w : World) (s : ByteArray) (k : Nat) : Below w.heap.size w (w.iter s k) := (Below.refl _ _).alloc (Nat.le_refl _) _
set_option maxHeartbeats 4000000 in
set_option maxRecDepth 100000 in
theorem name_any (l : Str) (w : World) (hl : l.length ≤ 1099511627776) :
    Calls Tryd.prog 16 #[.string (S2.B l)] w fun e w' => e = .returned (.bool (isName l)) ∧ Below w.heap.size w w' := by
  have hl3 : (l.length : Int) ≤ 1099511627776 := by omega
  by_cases hz : l = []
  · subst hz
    rw [show isName [] = false from by decide]
    clear hl hl3
    go_enter Tryd.func16, Tryd.ntmps16
    go_wp2
    go_ret
    exact ⟨rfl, Below.refl _ _⟩
  have hne : (l == []) = false := by
    cases l with
    | nil => exact absurd rfl hz
    | cons => rfl
  have hpos : 1 ≤ l.length := by
    cases l with
    | nil => exact absurd rfl hz
    | cons => simp
  by_cases h24 : 24 < l.length
  · have h24I : (24 : Int) < (l.length : Int) := by omega
    rw [show isName l = false from by unfold isName; rw [decide_eq_false (show ¬ l.length ≤ 24 by omega), Bool.and_false, Bool.and_false]]
    clear hl h24 hpos hz
    go_enter Tryd.func16, Tryd.ntmps16
    go_wp2
    go_ret
    exact ⟨rfl, Below.refl _ _⟩
  have h24I : ¬ (24 : Int) < (l.length : Int) := by omega
  have K1 := Lib.hid letter_any
  have K2 := Lib.hid digit_any
  have HE := Lib.hid (show shaped l = true → isName l = true from fun h => by unfold isName; rw [h, decide_eq_true hpos, decide_eq_true (show l.length ≤ 24 by omega)]; rfl)
  have HF := Lib.hid fun j => shaped_no (l := l) (j := j)
  obtain ⟨r, hr⟩ : ∃ r, r = isName l := ⟨_, rfl⟩
  rw [← hr] at HE HF ⊢
  clear hr hl h24 hpos hz
  go_enter Tryd.func16, Tryd.ntmps16
  go_wp2_with fail
  go_loopw [] (fun wr => ∃ j : Nat, wr = w.iter (S2.B l) j ∧ shaped (l.take j) = true) (fun wr => l.length - wr.iterPos w.heap.size)
  case atStart => exact ⟨0, rfl, rfl⟩
  case round =>
    obtain ⟨j, rfl, hall⟩ := hrel
    by_cases hc : j < l.length
    · have hn := shaped_next hc hall
      have ho := HF.out j
      have hp : j < (S2.B l).size := by rw [S2.B_size]; exact hc
      by_cases ha : (l[j]'hc).toNat < 128
      · obtain ⟨b, hb⟩ : ∃ b : Nat, b = (l[j]'hc).toNat := ⟨_, rfl⟩
        have hnx : ∀ ty, (Instr.next (.pointer (some ⟨w.heap.size, 0, none⟩)) true ty).run Tryd.prog (w.iter (S2.B l) j) = .ok (.tuple #[.bool true, .int .i64 (j : Int), .int .i32 (b : Int)]) (w.iter (S2.B l) (j + 1)) := fun ty => by rw [hb]; exact run_next_ascii w (S2.B l) j ty hp ha
        rw [later_nat, low_nat, ← hb] at hn
        have C1 := Lib.hid (fun w => K1.out b w)
        have C2 := Lib.hid (fun w => K2.out b w)
        clear hb hall K1 K2 HE HF ha hp
        cases h1 : (decide (97 ≤ b) && decide (b ≤ 122)) with
        | true =>
          rw [h1] at C1 hn
          have HN := Lib.hid (show shaped (l.take (j + 1)) = true from hn.trans (by simp))
          clear hn ho h1
          go_wp2_with fail
          refine (C1.out _).mono ?_
          rintro e w1 ⟨rfl, rfl⟩
          clear C1 C2
          go_wp2
          go_roundw
          case rel => exact ⟨j + 1, rfl, HN.out⟩
          case measure => simp; omega
        | false =>
          rw [h1] at C1 hn
          by_cases hz : j = 0
          · have E := Lib.hid (ho (hn.trans (if_pos hz)))
            have hzI : ((j : Int) == 0) = true := by simp; omega
            clear hn ho h1 hz
            go_wp2_with fail
            refine (C1.out _).mono ?_
            rintro e w1 ⟨rfl, rfl⟩
            clear C1 C2
            go_wp2
            go_ret
            rw [E.out]
            exact ⟨rfl, below_iter _ _ _⟩
          have hzI : ((j : Int) == 0) = false := by simp; omega
          rw [if_neg hz] at hn
          cases h2 : (decide (48 ≤ b) && decide (b ≤ 57)) with
          | true =>
            rw [h2] at C2 hn
            have HN := Lib.hid (show shaped (l.take (j + 1)) = true from hn.trans (by simp))
            clear hn ho h1 h2 hz
            go_wp2_with fail
            refine (C1.out _).mono ?_
            rintro e w1 ⟨rfl, rfl⟩
            go_wp2_with fail
            refine (C2.out _).mono ?_
            rintro e w1 ⟨rfl, rfl⟩
            clear C1 C2
            go_wp2
            go_roundw
            case rel => exact ⟨j + 1, rfl, HN.out⟩
            case measure => simp; omega
          | false =>
            rw [h2] at C2 hn
            by_cases h95 : b = 95
            · have h95I : ((b : Int) == 95) = true := by simp; omega
              have HN := Lib.hid (show shaped (l.take (j + 1)) = true from hn.trans (by simp [h95]))
              clear hn ho h1 h2 hz h95
              go_wp2_with fail
              refine (C1.out _).mono ?_
              rintro e w1 ⟨rfl, rfl⟩
              go_wp2_with fail
              refine (C2.out _).mono ?_
              rintro e w1 ⟨rfl, rfl⟩
              clear C1 C2
              go_wp2
              go_roundw
              case rel => exact ⟨j + 1, rfl, HN.out⟩
              case measure => simp; omega
            · have h95I : ((b : Int) == 95) = false := by simp; omega
              have E := Lib.hid (ho (show shaped (l.take (j + 1)) = false from hn.trans (by simp [h95])))
              clear hn ho h1 h2 hz h95
              go_wp2_with fail
              refine (C1.out _).mono ?_
              rintro e w1 ⟨rfl, rfl⟩
              go_wp2_with fail
              refine (C2.out _).mono ?_
              rintro e w1 ⟨rfl, rfl⟩
              clear C1 C2
              go_wp2
              go_ret
              rw [E.out]
              exact ⟨rfl, below_iter _ _ _⟩
      · have hdec := decode_high (S2.B l) j hp (by show 128 ≤ (l[j]'hc).toNat; omega)
        obtain ⟨q, d, hqd⟩ : ∃ q d, Utf8.decode (S2.B l) j = (q, d) := ⟨_, _, rfl⟩
        rw [hqd] at hdec
        have hnx : ∀ ty, (Instr.next (.pointer (some ⟨w.heap.size, 0, none⟩)) true ty).run Tryd.prog (w.iter (S2.B l) j) = .ok (.tuple #[.bool true, .int .i64 (j : Int), .int .i32 (q : Int)]) (w.iter (S2.B l) (j + d)) := fun ty => by have := run_next_any (P := Tryd.prog) w (S2.B l) j ty hp; rw [hqd] at this; exact this
        have C1 := K1.out q
        have C2 := K2.out q
        rw [decide_eq_false (show ¬ q ≤ 122 by omega), Bool.and_false] at C1
        rw [decide_eq_false (show ¬ q ≤ 57 by omega), Bool.and_false] at C2
        have C1' := Lib.hid C1
        have C2' := Lib.hid C2
        have h95I : ((q : Int) == 95) = false := by simp; omega
        have E := Lib.hid (ho (by
          rw [hn, later_nat, low_nat, decide_eq_false (show ¬ (l[j]'hc).toNat ≤ 122 by omega), decide_eq_false (show ¬ (l[j]'hc).toNat ≤ 57 by omega), decide_eq_false (show ¬ (l[j]'hc).toNat = 95 by omega)]
          simp))
        clear hn ho hall K1 K2 HE HF ha hp C1 C2 hqd hdec
        by_cases hz : j = 0
        · have hzI : ((j : Int) == 0) = true := by simp; omega
          clear hz
          go_wp2_with fail
          refine (C1'.out _).mono ?_
          rintro e w1 ⟨rfl, rfl⟩
          clear C1' C2'
          go_wp2
          go_ret
          rw [E.out]
          exact ⟨rfl, below_iter _ _ _⟩
        · have hzI : ((j : Int) == 0) = false := by simp; omega
          clear hz
          go_wp2_with fail
          refine (C1'.out _).mono ?_
          rintro e w1 ⟨rfl, rfl⟩
          go_wp2_with fail
          refine (C2'.out _).mono ?_
          rintro e w1 ⟨rfl, rfl⟩
          clear C1' C2'
          go_wp2
          go_ret
          rw [E.out]
          exact ⟨rfl, below_iter _ _ _⟩
    · have hp : ¬ j < (S2.B l).size := by rw [S2.B_size]; exact hc
      have hnx : ∀ ty, (Instr.next (.pointer (some ⟨w.heap.size, 0, none⟩)) true ty).run Tryd.prog (w.iter (S2.B l) j) = _ := fun ty => run_next_end w (S2.B l) j ty hp
      have E := Lib.hid (HE.out (by rwa [List.take_of_length_le (by omega)] at hall))
      clear hall HE HF K1 K2 hp hc
      go_wp2
      go_ret
      rw [E.out]
      exact ⟨rfl, below_iter _ _ _⟩
end Idt
end Go.Proofs.YtcbhjagcfbinoaaDoor
