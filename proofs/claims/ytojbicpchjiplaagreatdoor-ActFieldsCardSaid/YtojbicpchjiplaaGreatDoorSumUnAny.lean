/-
  SumRefUn, SumHexMath, SumUnAny: joined.
-/
import Derived.Test.YtojbicpchjiplaaGreatDoorSumHexAny
/-
  Layer 3: the document's own Unhex (agoraref03).
-/
namespace Go.Proofs.YtojbicpchjiplaaGreatDoor.S3
open Go.RowKit
attribute [local go_sem] B_size B_drop' B_take B_list B_app

/-- The value of a hexadecimal digit; 16: it is none. -/
def dig (c : Nat) : Nat := if 48 ≤ c ∧ c ≤ 57 then c - 48 else if 97 ≤ c ∧ c ≤ 102 then c - 87 else 16
def unhex : List UInt8 → Option (List UInt8)
  | [] => some []
  | [_] => none
  | a :: b :: l => if dig a.toNat = 16 ∨ dig b.toNat = 16 then none else (unhex l).map fun r => UInt8.ofNat (16 * dig a.toNat + dig b.toNat) :: r
theorem unhex_odd : ∀ l : List UInt8, l.length % 2 = 1 → unhex l = none
  | [], h => by simp at h
  | [_], _ => rfl
  | a :: b :: l, h => by
    have := unhex_odd l (by simp only [List.length_cons] at h; omega)
    rw [unhex, this]
    split <;> rfl
/-- What the loop keeps: q is what the first j bytes say. -/
def UH (l : List UInt8) (j : Nat) (q : List UInt8) : Prop := j ≤ l.length ∧ (l.length - j) % 2 = 0 ∧ q.length ≤ j ∧ unhex l = (unhex (l.drop j)).map fun r => q ++ r
theorem uh_start (l : List UInt8) (h : l.length % 2 = 0) : UH l 0 [] := ⟨by omega, by omega, Nat.le_refl _, by simp⟩
theorem uh_end {l q : List UInt8} (h : UH l l.length q) : unhex l = some q := by
  rw [h.2.2.2, List.drop_length]; simp [unhex]
theorem uh_drop {l : List UInt8} {j : Nat} (h : j + 1 < l.length) : l.drop j = l[j] :: l[j + 1] :: l.drop (j + 2) := by
  rw [List.drop_eq_getElem_cons (by omega), List.drop_eq_getElem_cons h]
theorem uh_bad {l q : List UInt8} {j : Nat} (hu : UH l j q) (h : j + 1 < l.length) (hb : dig l[j].toNat = 16 ∨ dig l[j + 1].toNat = 16) : unhex l = none := by
  rw [hu.2.2.2, uh_drop h, unhex, if_pos hb]; rfl
theorem uh_next {l q : List UInt8} {j : Nat} (hu : UH l j q) (h : j + 1 < l.length) (hb : ¬ (dig l[j].toNat = 16 ∨ dig l[j + 1].toNat = 16)) : UH l (j + 2) (q ++ [UInt8.ofNat (16 * dig l[j].toNat + dig l[j + 1].toNat)]) := by
  obtain ⟨h1, h2, h3, h4⟩ := hu
  refine ⟨by omega, by omega, by simp; omega, ?_⟩
  rw [h4, uh_drop h, unhex, if_neg hb, Option.map_map]
  congr 1
  funext r
  simp
theorem dig_le (c : Nat) : dig c ≤ 16 := by unfold dig; split <;> (try split) <;> omega

end Go.Proofs.YtojbicpchjiplaaGreatDoor.S3

/-
  Layer 3: what Hex and Unhex are to each other, in plain Lean.
-/
namespace Go.Proofs.YtojbicpchjiplaaGreatDoor.S3

end Go.Proofs.YtojbicpchjiplaaGreatDoor.S3

/-
  Layer 3: the program's Unhex.
-/
namespace Go.Proofs.YtojbicpchjiplaaGreatDoor.S3
open Go.RowKit
attribute [local go_sem] B_size B_drop' B_take B_list B_app

theorem or_dig {x y : Nat} (hx : x < 16) (hy : y < 16) : bits .or .u8 (16 * (x : Int)) (y : Int) = 16 * (x : Int) + (y : Int) := by
  have := u8_or_nat (16 * x) y (by omega) (by omega)
  rw [show ((16 * x : Nat) : Int) = 16 * (x : Int) by omega] at this
  rw [this, show 16 * x = x <<< 4 by rw [Nat.shiftLeft_eq]; omega, ← Nat.shiftLeft_add_eq_or_of_lt (by omega : y < 2 ^ 4), Nat.shiftLeft_eq]
  omega

set_option maxHeartbeats 1000000 in
theorem digit_any (c : Nat) (w : World) (hc : c < 256) :
    Calls Tryz.prog 132 #[.int .u8 (c : Int)] w fun e w' => e = .returned (.tuple #[.int .u8 ((if dig c = 16 then 0 else dig c : Nat) : Int), .bool (decide (dig c ≠ 16))]) ∧ w = w' := by
  have hc3 : (c : Int) ≤ 255 := by omega
  rcases (show c < 48 ∨ (48 ≤ c ∧ c ≤ 57) ∨ (57 < c ∧ c < 97) ∨ (97 ≤ c ∧ c ≤ 102) ∨ 102 < c from by omega) with h | h | h | h | h
  · have e : dig c = 16 := by unfold dig; rw [if_neg (by omega), if_neg (by omega)]
    rw [e, if_pos rfl]
    have h1 : (c : Int) < 48 := by omega
    have h2 : (c : Int) < 97 := by omega
    go_enter Tryz.func132, Tryz.ntmps132
    go_wp2
    go_ret2
    exact ⟨rfl, rfl⟩
  · have e : dig c = c - 48 := by unfold dig; rw [if_pos (by omega)]
    obtain ⟨d, hd⟩ : ∃ d, d = c - 48 := ⟨_, rfl⟩
    rw [e, ← hd, if_neg (by omega), decide_eq_true (show d ≠ 16 by omega)]
    have hd2 : (d : Int) = (c : Int) - 48 := by omega
    have h0 : (48 : Int) ≤ c := by omega
    have h1 : (c : Int) ≤ 57 := by omega
    have h4 : IntKind.u8.wrap ((c : Int) - 48) = (c : Int) - 48 := IntWalk.u8_in _ (by omega)
    rw [hd2]
    clear hd hd2 e
    go_enter Tryz.func132, Tryz.ntmps132
    go_wp2
    go_ret2
    exact ⟨rfl, rfl⟩
  · have e : dig c = 16 := by unfold dig; rw [if_neg (by omega), if_neg (by omega)]
    rw [e, if_pos rfl]
    have h1 : (48 : Int) ≤ c := by omega
    have h2 : (57 : Int) < c := by omega
    have h3 : (c : Int) < 97 := by omega
    go_enter Tryz.func132, Tryz.ntmps132
    go_wp2
    go_ret2
    exact ⟨rfl, rfl⟩
  · have e : dig c = c - 87 := by unfold dig; rw [if_neg (by omega), if_pos (by omega)]
    obtain ⟨d, hd⟩ : ∃ d, d = c - 87 := ⟨_, rfl⟩
    rw [e, ← hd, if_neg (by omega), decide_eq_true (show d ≠ 16 by omega)]
    have hd2 : (d : Int) = (c : Int) - 97 + 10 := by omega
    rw [hd2]
    clear hd hd2 e
    have h0 : (48 : Int) ≤ c := by omega
    have h1 : (57 : Int) < c := by omega
    have h2 : (97 : Int) ≤ c := by omega
    have h3 : (c : Int) ≤ 102 := by omega
    have h4 : IntKind.u8.wrap ((c : Int) - 97) = (c : Int) - 97 := IntWalk.u8_in _ (by omega)
    have h5 : IntKind.u8.wrap ((c : Int) - 97 + 10) = (c : Int) - 97 + 10 := IntWalk.u8_in _ (by omega)
    go_enter Tryz.func132, Tryz.ntmps132
    go_wp2
    go_ret2
    exact ⟨rfl, rfl⟩
  · have e : dig c = 16 := by unfold dig; rw [if_neg (by omega), if_neg (by omega)]
    rw [e, if_pos rfl]
    have h0 : (48 : Int) ≤ c := by omega
    have h1 : (57 : Int) < c := by omega
    have h2 : (97 : Int) ≤ c := by omega
    have h3 : (102 : Int) < c := by omega
    go_enter Tryz.func132, Tryz.ntmps132
    go_wp2
    go_ret2
    exact ⟨rfl, rfl⟩

set_option maxHeartbeats 1000000 in
set_option maxRecDepth 100000 in
theorem unhex_any (l : List UInt8) (w : World) (hl : l.length ≤ 1099511627776) :
    Calls Tryz.prog 70 #[.string (B l)] w fun e w' => e = .returned (.tuple #[.string (B ((unhex l).getD [])), .bool (unhex l).isSome]) ∧ Below w.heap.size w w' := by
  obtain ⟨i0, hi, hz0, hz1, hz2⟩ := info_parts infoByte
  have hl3 : (l.length : Int) ≤ 1099511627776 := by omega
  by_cases hodd : l.length % 2 = 1
  · have h1 : ((l.length : Int) % 2 == 0) = false := by simp; omega
    rw [unhex_odd l hodd]
    clear hodd
    go_enter Tryz.func70, Tryz.ntmps70
    go_wp2_with fail
    go_ret2
    exact ⟨rfl, Below.refl _ _⟩
  have h1 : ((l.length : Int) % 2 == 0) = true := by simp; omega
  have h9 : ((l.length : Int) / 2) = ((l.length / 2 : Nat) : Int) := by omega
  obtain ⟨cap, hcap⟩ : ∃ cap, cap = l.length / 2 := ⟨_, rfl⟩
  rw [← hcap] at h9
  have hc9 : (cap : Int) ≤ 1099511627776 := by omega
  clear hcap
  have hst := uh_start l (by omega)
  clear hodd
  have HD := Lib.hid digit_any
  go_enter Tryz.func70, Tryz.ntmps70
  go_wp2_with (at_make; refine wpList_make_own _ rfl _ _ 100 rfl w.heap.size 5 i0 (.int .u8 0) 1 Tryz.underlying100 hi hz0 hz1 _ _ _ cap rfl rfl rfl (by rw [hz2]; omega) (by unfold maxLen; omega) (Nat.le_refl _) ?_; intro w0 hown0 hgrow0)
  have hbel0 := below_grown hgrow0
  clear hgrow0
  go_wp2_with fail
  go_loopw [4, 5] (fun o i wr => ∃ (j : Nat) (q : List UInt8), i = .int .i64 (j : Int) ∧ UH l j q ∧ wr.ownsRow w.heap.size 5 1 o q.length (U q) ∧ Below w.heap.size w wr) (fun _ i _ => l.length - (intOf i).toNat)
  case atStart => exact ⟨0, [], rfl, hst, hown0, hbel0⟩
  case round =>
    clear hown0 hbel0
    obtain ⟨j, q, rfl, hu, hown, hbel⟩ := hrel
    have hbase : w.heap.size ≤ wr.heap.size := hbel.size
    have hj := hu.1
    have hp := hu.2.1
    have hql := hu.2.2.1
    have HU := Lib.hid hu
    clear hu hst
    by_cases hc : j + 1 < l.length
    · have hc1 : (j : Int) + 1 < l.length := by omega
      have hc0 : (j : Int) < l.length := by omega
      have hb1 := uh_bad HU.out hc
      have hn1 := uh_next HU.out hc
      obtain ⟨a, ha⟩ : ∃ a : Nat, a = l[j].toNat := ⟨_, rfl⟩
      obtain ⟨b, hb⟩ : ∃ b : Nat, b = l[j + 1].toNat := ⟨_, rfl⟩
      have ha2 := l[j].toNat_lt
      have hb2 := l[j + 1].toNat_lt
      rw [← ha] at ha2 hb1 hn1
      rw [← hb] at hb2 hb1 hn1
      have hg : ∀ h, ((B l)[j]'h).toNat = a := fun h => ha.symm
      have hg2 : ∀ h, ((B l)[j + 1]'h).toNat = b := fun h => hb.symm
      have da := dig_le a
      have db := dig_le b
      have CA := Lib.hid (fun w => digit_any a w ha2)
      have CB := Lib.hid (fun w => digit_any b w hb2)
      obtain ⟨x, hx⟩ : ∃ x, x = dig a := ⟨_, rfl⟩
      obtain ⟨y, hy⟩ : ∃ y, y = dig b := ⟨_, rfl⟩
      rw [← hx] at hb1 hn1 da CA
      rw [← hy] at hb1 hn1 db CB
      have HB := Lib.hid hb1
      have HN := Lib.hid hn1
      obtain ⟨X, hX⟩ : ∃ X : Int, X = ((if x = 16 then 0 else x : Nat) : Int) := ⟨_, rfl⟩
      obtain ⟨Y, hY⟩ : ∃ Y : Int, Y = ((if y = 16 then 0 else y : Nat) : Int) := ⟨_, rfl⟩
      obtain ⟨pa, hpa⟩ : ∃ pa : Bool, pa = decide (x ≠ 16) := ⟨_, rfl⟩
      obtain ⟨pb, hpb⟩ : ∃ pb : Bool, pb = decide (y ≠ 16) := ⟨_, rfl⟩
      rw [← hX, ← hpa] at CA
      rw [← hY, ← hpb] at CB
      have HX := Lib.hid hX
      have HY := Lib.hid hY
      have HPA := Lib.hid hpa
      have HPB := Lib.hid hpb
      clear hb1 hn1 ha hb hx hy HD hX hY hpa hpb
      go_wp2_with fail
      refine (CA.out _).mono ?_
      rintro e w1 ⟨rfl, rfl⟩
      go_wp2_with fail
      refine (CB.out _).mono ?_
      rintro e w1 ⟨rfl, rfl⟩
      cases pa with
      | false =>
        have E := Lib.hid (HB.out (.inl (by have := HPA.out; simpa using this)))
        clear da db
        go_wp2
        go_ret2
        rw [E.out]
        exact ⟨rfl, hbel⟩
      | true => ?_
      cases pb with
      | false =>
        have E := Lib.hid (HB.out (.inr (by have := HPB.out; simpa using this)))
        clear da db
        go_wp2
        go_ret2
        rw [E.out]
        exact ⟨rfl, hbel⟩
      | true => ?_
      have hx16 : x ≠ 16 := by have := HPA.out; simpa using this
      have hy16 : y ≠ 16 := by have := HPB.out; simpa using this
      have hXx : X = (x : Int) := by rw [HX.out, if_neg hx16]
      have hYy : Y = (y : Int) := by rw [HY.out, if_neg hy16]
      subst hXx
      subst hYy
      clear HX HY HPA HPB
      have hx4 : (x : Int) ≤ 15 := by omega
      have hy4 : (y : Int) ≤ 15 := by omega
      have E := Lib.hid (HN.out (by omega))
      have hw8 : IntKind.u8.wrap ((x : Int) * 16) = 16 * (x : Int) := by rw [IntWalk.u8_in _ (by omega)]; omega
      have ho8 := or_dig (show x < 16 by omega) (show y < 16 by omega)
      obtain ⟨c, hc9⟩ : ∃ c, c = UInt8.ofNat (16 * x + y) := ⟨_, rfl⟩
      have hc8 : ((c.toNat : Nat) : Int) = 16 * (x : Int) + (y : Int) := by rw [hc9, UInt8.toNat_ofNat']; omega
      have hq8 : UH l (j + 2) (q ++ [c]) := by rw [hc9]; exact E.out
      have F := Lib.hid hq8
      have C8 := Lib.hid hc8
      clear hx16 hy16 E HB HN CA CB da db hc9 hq8 hc8
      go_wp2_with (at_builtin; refine wpList_append_own _ rfl _ _ 100 rfl w.heap.size 5 i0 (.int .u8 0) 1 1 Tryz.underlying100 hi hz0 hz1 hz2 rfl (by decide) _ _ _ rfl (hown.alloc _) ⟨wr.heap.size, 0, none⟩ 1 1 [.int .u8 (16 * (x : Int) + (y : Int))] rfl rfl one_cell (fun u hu => by simp at hu; subst hu; rfl) (by unfold maxLen; omega) (by omega) (by simp; omega) ?_)
      intro v' w1 hown' hgrow _
      have R := own_more (r := [c]) rfl (by rw [← C8.out]; rfl) hbase hown hbel hown' hgrow
      have R2 := R.1
      have R3 := R.2
      clear hown' hgrow hown R
      go_wp2
      go_roundw
      case rel => exact ⟨j + 2, _, by go_num, F.out, R2, R3⟩
      case measure => simp [intOf]; omega
    · have hjl : j = l.length := by omega
      subst hjl
      have hcv := conv_own hown
      have E := Lib.hid (uh_end HU.out)
      go_wp2
      go_ret2
      rw [E.out]
      exact ⟨rfl, hbel⟩
end Go.Proofs.YtojbicpchjiplaaGreatDoor.S3
