/-
  Layer 11: the document's own names (agoraref11).
-/
import Derived.Test.YtcbhjagcfbinoaaDoorIdentRef
namespace Go.Proofs.YtcbhjagcfbinoaaDoor
open Go.RowKit
namespace Idt
attribute [local go_sem] S2.B_size S2.B_drop' S2.B_take S2.B_list S2.B_app
theorem shaped_next {l : Str} {j : Nat} (hj : j < l.length) (h : shaped (l.take j) = true) : shaped (l.take (j + 1)) = if j = 0 then low l[j] else later l[j] := by
  cases l with
  | nil => simp at hj
  | cons c t =>
    cases j with
    | zero => simp [shaped]
    | succ j =>
      have hj' : j < t.length := by simpa using hj
      simp only [shaped, List.take_succ_cons, Bool.and_eq_true] at h
      rw [if_neg (by omega), List.take_succ_cons]
      simp only [shaped, h.1, Bool.true_and]
      exact all_take_succ hj' h.2
theorem shaped_no {l : Str} {j : Nat} (h : shaped (l.take (j + 1)) = false) : isName l = false := by
  cases ha : shaped l with
  | true => rw [shaped_take ha] at h; cases h
  | false => unfold isName; rw [ha, Bool.false_and]
theorem later_nat (c : UInt8) : later c = ((decide (97 ≤ c.toNat) && decide (c.toNat ≤ 122)) || ((decide (48 ≤ c.toNat) && decide (c.toNat ≤ 57)) || decide (c.toNat = 95))) := by
  unfold later
  rw [dig_nat, low_nat]
  congr 2
  by_cases h : c = 95
  · subst h; rfl
  · have h' : ¬ c.toNat = 95 := fun e => h (UInt8.toNat_inj.1 e)
    rw [decide_eq_false h']
    simpa using h
set_option maxHeartbeats 2000000 in
set_option maxRecDepth 100000 in
theorem refName_any (l : Str) (w : World) (hl : l.length ≤ 1099511627776) :
    Calls Tryd.prog 17 #[.string (S2.B l)] w fun e w' => e = .returned (.bool (isName l)) ∧ w = w' := by
  have hl3 : (l.length : Int) ≤ 1099511627776 := by omega
  have K1 := Lib.hid fun (b : Nat) w => (show Calls Tryd.prog 34 #[.int .u8 (b : Int), .int .u8 97, .int .u8 122] w fun e w' => e = .returned (.bool (decide (97 ≤ b) && decide (b ≤ 122))) ∧ w = w' from refIn_any b 97 122 w)
  have K2 := Lib.hid fun (b : Nat) w => (show Calls Tryd.prog 34 #[.int .u8 (b : Int), .int .u8 48, .int .u8 57] w fun e w' => e = .returned (.bool (decide (48 ≤ b) && decide (b ≤ 57))) ∧ w = w' from refIn_any b 48 57 w)
  have HE := Lib.hid (show shaped l = true → isName l = (decide (1 ≤ l.length) && decide (l.length ≤ 24)) from fun h => by unfold isName; rw [h, Bool.true_and])
  have HF := Lib.hid fun j => shaped_no (l := l) (j := j)
  obtain ⟨r, hr⟩ : ∃ r, r = isName l := ⟨_, rfl⟩
  rw [← hr] at HE HF ⊢
  clear hr hl
  go_enter Tryd.func17, Tryd.ntmps17
  go_wp2_with fail
  go_loopw [3] (fun i wr => ∃ j : Nat, i = .int .i64 (j : Int) ∧ j ≤ l.length ∧ shaped (l.take j) = true ∧ w = wr) (fun i _ => l.length - (intOf i).toNat)
  case atStart => exact ⟨0, rfl, Nat.zero_le _, rfl, rfl⟩
  case round =>
    obtain ⟨j, rfl, hj, hall, rfl⟩ := hrel
    by_cases hc : j < l.length
    · have hcI : (j : Int) < l.length := by omega
      have hn := shaped_next hc hall
      have ho := HF.out j
      obtain ⟨b, hb⟩ : ∃ b : Nat, b = l[j].toNat := ⟨_, rfl⟩
      rw [later_nat, low_nat, ← hb] at hn
      have hg : ∀ h, ((S2.B l)[j]'h).toNat = b := fun h => hb.symm
      have C1 := Lib.hid (fun w => K1.out b w)
      have C2 := Lib.hid (fun w => K2.out b w)
      clear hb hall K1 K2 HE HF
      cases h1 : (decide (97 ≤ b) && decide (b ≤ 122)) with
      | true =>
        rw [h1] at C1 hn
        have HN := Lib.hid (show shaped (l.take (j + 1)) = true from hn.trans (by simp))
        clear hn ho h1
        go_wp2_with fail
        refine (C1.out _).mono ?_
        rintro e w1 ⟨rfl, rfl⟩
        clear C1 C2
        go_wp2
        go_roundw
        case rel => exact ⟨j + 1, by go_num, by omega, HN.out, trivial⟩
        case measure => simp [intOf]; omega
      | false =>
        rw [h1] at C1 hn
        by_cases hz : j = 0
        · have E := Lib.hid (ho (hn.trans (if_pos hz)))
          have hzI : ((j : Int) == 0) = true := by simp; omega
          clear hn ho h1 hz
          go_wp2_with fail
          refine (C1.out _).mono ?_
          rintro e w1 ⟨rfl, rfl⟩
          clear C1 C2
          go_wp2
          go_ret
          rw [E.out]
          exact ⟨rfl, rfl⟩
        have hzI : ((j : Int) == 0) = false := by simp; omega
        rw [if_neg hz] at hn
        cases h2 : (decide (48 ≤ b) && decide (b ≤ 57)) with
        | true =>
          rw [h2] at C2 hn
          have HN := Lib.hid (show shaped (l.take (j + 1)) = true from hn.trans (by simp))
          clear hn ho h1 h2 hz
          go_wp2_with fail
          refine (C1.out _).mono ?_
          rintro e w1 ⟨rfl, rfl⟩
          go_wp2_with fail
          refine (C2.out _).mono ?_
          rintro e w1 ⟨rfl, rfl⟩
          clear C1 C2
          go_wp2
          go_roundw
          case rel => exact ⟨j + 1, by go_num, by omega, HN.out, trivial⟩
          case measure => simp [intOf]; omega
        | false =>
          rw [h2] at C2 hn
          by_cases h95 : b = 95
          · have h95I : ((b : Int) == 95) = true := by simp; omega
            have HN := Lib.hid (show shaped (l.take (j + 1)) = true from hn.trans (by simp [h95]))
            clear hn ho h1 h2 hz h95
            go_wp2_with fail
            refine (C1.out _).mono ?_
            rintro e w1 ⟨rfl, rfl⟩
            go_wp2_with fail
            refine (C2.out _).mono ?_
            rintro e w1 ⟨rfl, rfl⟩
            clear C1 C2
            go_wp2
            go_roundw
            case rel => exact ⟨j + 1, by go_num, by omega, HN.out, trivial⟩
            case measure => simp [intOf]; omega
          · have h95I : ((b : Int) == 95) = false := by simp; omega
            have E := Lib.hid (ho (show shaped (l.take (j + 1)) = false from hn.trans (by simp [h95])))
            clear hn ho h1 h2 hz h95
            go_wp2_with fail
            refine (C1.out _).mono ?_
            rintro e w1 ⟨rfl, rfl⟩
            go_wp2_with fail
            refine (C2.out _).mono ?_
            rintro e w1 ⟨rfl, rfl⟩
            clear C1 C2
            go_wp2
            go_ret
            rw [E.out]
            exact ⟨rfl, rfl⟩
    · have hcI : ¬ (j : Int) < l.length := by omega
      have E := HE.out (by rwa [List.take_of_length_le (by omega)] at hall)
      clear hall HE HF K1 K2
      by_cases g1 : 1 ≤ l.length
      · have g1I : (1 : Int) ≤ l.length := by omega
        rw [decide_eq_true g1] at E
        by_cases g2 : l.length ≤ 24
        · have g2I : (l.length : Int) ≤ 24 := by omega
          rw [decide_eq_true g2] at E
          have E' := Lib.hid E
          clear E g1 g2
          go_wp2
          go_ret
          rw [E'.out]
          exact ⟨rfl, rfl⟩
        · have g2I : ¬ (l.length : Int) ≤ 24 := by omega
          rw [decide_eq_false g2] at E
          have E' := Lib.hid E
          clear E g1 g2
          go_wp2
          go_ret
          rw [E'.out]
          exact ⟨rfl, rfl⟩
      · have g1I : ¬ (1 : Int) ≤ l.length := by omega
        rw [decide_eq_false g1] at E
        have E' := Lib.hid E
        clear E g1
        go_wp2
        go_ret
        rw [E'.out]
        exact ⟨rfl, rfl⟩
end Idt
end Go.Proofs.YtcbhjagcfbinoaaDoor
