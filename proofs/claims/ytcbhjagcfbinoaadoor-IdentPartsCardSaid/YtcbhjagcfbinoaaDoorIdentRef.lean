/-
  Layer 11: the document's own ident (agoraref11): ids and names.
-/
import Derived.Test.YtcbhjagcfbinoaaDoorCodeRd
import Derived.Test.YtcbhjagcfbinoaaDoorIdentMath
namespace Go.Proofs.YtcbhjagcfbinoaaDoor
open Go.RowKit
namespace Idt
attribute [local go_sem] S2.B_size S2.B_drop' S2.B_take S2.B_list S2.B_app
theorem le_nat (a c : UInt8) : decide (a ≤ c) = decide (a.toNat ≤ c.toNat) := by
  apply decide_eq_decide.2
  exact UInt8.le_iff_toNat_le
theorem dig_nat (c : UInt8) : dig c = (decide (48 ≤ c.toNat) && decide (c.toNat ≤ 57)) := by unfold dig; rw [le_nat, le_nat]; rfl
theorem low_nat (c : UInt8) : low c = (decide (97 ≤ c.toNat) && decide (c.toNat ≤ 122)) := by unfold low; rw [le_nat, le_nat]; rfl
theorem hexc_nat (c : UInt8) : hexc c = ((decide (48 ≤ c.toNat) && decide (c.toNat ≤ 57)) || (decide (97 ≤ c.toNat) && decide (c.toNat ≤ 102))) := by unfold hexc; rw [dig_nat, le_nat, le_nat]; rfl
theorem all_take_succ {p : UInt8 → Bool} {l : Str} {j : Nat} (hj : j < l.length) (h : (l.take j).all p = true) : (l.take (j + 1)).all p = p l[j] := by
  rw [List.take_succ_eq_append_getElem hj, List.all_append, h]
  simp
theorem all_no {p : UInt8 → Bool} {l : Str} {j : Nat} (hj : j < l.length) (h : p l[j] = false) : l.all p = false := by
  cases ha : l.all p with
  | false => rfl
  | true => rw [List.all_eq_true.1 ha _ (List.getElem_mem hj)] at h; cases h
set_option maxHeartbeats 400000 in
theorem refIn_any (b lo hi : Nat) (w : World) :
    Calls Tryd.prog 34 #[.int .u8 (b : Int), .int .u8 (lo : Int), .int .u8 (hi : Int)] w fun e w' => e = .returned (.bool (decide (lo ≤ b) && decide (b ≤ hi))) ∧ w = w' := by
  by_cases h1 : lo ≤ b
  · have h1I : (lo : Int) ≤ (b : Int) := by omega
    by_cases h2 : b ≤ hi
    · have h2I : (b : Int) ≤ (hi : Int) := by omega
      rw [decide_eq_true h1, decide_eq_true h2]
      clear h1 h2
      go_enter Tryd.func34, Tryd.ntmps34
      go_wp2
      go_ret
      exact ⟨rfl, rfl⟩
    · have h2I : ¬ (b : Int) ≤ (hi : Int) := by omega
      rw [decide_eq_true h1, decide_eq_false h2]
      clear h1 h2
      go_enter Tryd.func34, Tryd.ntmps34
      go_wp2
      go_ret
      exact ⟨rfl, rfl⟩
  · have h1I : ¬ (lo : Int) ≤ (b : Int) := by omega
    rw [decide_eq_false h1]
    clear h1
    go_enter Tryd.func34, Tryd.ntmps34
    go_wp2
    go_ret
    exact ⟨rfl, rfl⟩
set_option maxHeartbeats 2000000 in
set_option maxRecDepth 100000 in
theorem refRight_any (l : Str) (w : World) (hl : l.length ≤ 1099511627776) :
    Calls Tryd.prog 15 #[.string (S2.B l)] w fun e w' => e = .returned (.bool (isId l)) ∧ w = w' := by
  have hl3 : (l.length : Int) ≤ 1099511627776 := by omega
  have K1 := Lib.hid fun (b : Nat) w => (show Calls Tryd.prog 34 #[.int .u8 (b : Int), .int .u8 48, .int .u8 57] w fun e w' => e = .returned (.bool (decide (48 ≤ b) && decide (b ≤ 57))) ∧ w = w' from refIn_any b 48 57 w)
  have K2 := Lib.hid fun (b : Nat) w => (show Calls Tryd.prog 34 #[.int .u8 (b : Int), .int .u8 97, .int .u8 102] w fun e w' => e = .returned (.bool (decide (97 ≤ b) && decide (b ≤ 102))) ∧ w = w' from refIn_any b 97 102 w)
  obtain ⟨q, hq⟩ : ∃ q : Bool, q = decide (l.length = 16) := ⟨_, rfl⟩
  have h16 : ((l.length : Int) == 16) = q := by
    rw [hq]
    by_cases h : l.length = 16
    · rw [decide_eq_true h]; simp; omega
    · rw [decide_eq_false h]; simp; omega
  have HE := Lib.hid (show l.all hexc = true → isId l = q from fun h => by unfold isId; rw [h, hq, Bool.true_and])
  have HF := Lib.hid (show l.all hexc = false → isId l = false from fun h => by unfold isId; rw [h, Bool.false_and])
  obtain ⟨r, hr⟩ : ∃ r, r = isId l := ⟨_, rfl⟩
  rw [← hr] at HE HF ⊢
  clear hq hr hl
  go_enter Tryd.func15, Tryd.ntmps15
  go_wp2_with fail
  go_loopw [3] (fun i wr => ∃ j : Nat, i = .int .i64 (j : Int) ∧ j ≤ l.length ∧ (l.take j).all hexc = true ∧ w = wr) (fun i _ => l.length - (intOf i).toNat)
  case atStart => exact ⟨0, rfl, Nat.zero_le _, rfl, rfl⟩
  case round =>
    obtain ⟨j, rfl, hj, hall, rfl⟩ := hrel
    by_cases hc : j < l.length
    · have hcI : (j : Int) < l.length := by omega
      have hn := all_take_succ hc hall
      have ho := all_no (p := hexc) hc
      obtain ⟨b, hb⟩ : ∃ b : Nat, b = l[j].toNat := ⟨_, rfl⟩
      have hb2 := l[j].toNat_lt
      rw [hexc_nat, ← hb] at hn ho
      rw [← hb] at hb2
      have hg : ∀ h, ((S2.B l)[j]'h).toNat = b := fun h => hb.symm
      have HN := Lib.hid hn
      have HO := Lib.hid ho
      have C1 := Lib.hid (fun w => K1.out b w)
      have C2 := Lib.hid (fun w => K2.out b w)
      clear hn ho hb hall K1 K2
      cases h1 : (decide (48 ≤ b) && decide (b ≤ 57)) with
      | true =>
        rw [h1] at C1 HN
        go_wp2_with fail
        refine (C1.out _).mono ?_
        rintro e w1 ⟨rfl, rfl⟩
        clear C1 C2 HO h1
        go_wp2
        go_roundw
        case rel => exact ⟨j + 1, by go_num, by omega, HN.out, trivial⟩
        case measure => simp [intOf]; omega
      | false =>
        rw [h1] at C1 HN HO
        cases h2 : (decide (97 ≤ b) && decide (b ≤ 102)) with
        | true =>
          rw [h2] at C2 HN
          go_wp2_with fail
          refine (C1.out _).mono ?_
          rintro e w1 ⟨rfl, rfl⟩
          go_wp2_with fail
          refine (C2.out _).mono ?_
          rintro e w1 ⟨rfl, rfl⟩
          clear C1 C2 HO h1 h2
          go_wp2
          go_roundw
          case rel => exact ⟨j + 1, by go_num, by omega, HN.out, trivial⟩
          case measure => simp [intOf]; omega
        | false =>
          rw [h2] at C2 HO
          have E := Lib.hid (HF.out (HO.out rfl))
          go_wp2_with fail
          refine (C1.out _).mono ?_
          rintro e w1 ⟨rfl, rfl⟩
          go_wp2_with fail
          refine (C2.out _).mono ?_
          rintro e w1 ⟨rfl, rfl⟩
          clear C1 C2 HO HN h1 h2
          go_wp2
          go_ret
          rw [E.out]
          exact ⟨rfl, rfl⟩
    · have hcI : ¬ (j : Int) < l.length := by omega
      have E := Lib.hid (HE.out (by rwa [List.take_of_length_le (by omega)] at hall))
      clear hall HE HF
      go_wp2
      go_ret
      rw [E.out]
      exact ⟨rfl, rfl⟩
end Idt
end Go.Proofs.YtcbhjagcfbinoaaDoor
