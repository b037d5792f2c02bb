/-
  Layer 3: the program's pad.
-/
import Derived.Test.YtfldbgfeldhboaaDoorSumHexAny
import Derived.Test.YtfldbgfeldhboaaDoorSumMark
import Derived.Test.YtfldbgfeldhboaaDoorSumShaDef
namespace Go.Proofs.YtfldbgfeldhboaaDoor
open Go.RowKit Sha
attribute [local go_sem] B_size B_drop' B_take B_list B_app

theorem pad_byte (n j : Nat) (hj : j < 8) : (n : Int) * 8 / 2 ^ (56 - 8 * j) % 256 = ((UInt8.ofNat (8 * n / 256 ^ (7 - j))).toNat : Nat) := by
  have e : (2 : Nat) ^ (56 - 8 * j) = 256 ^ (7 - j) := by
    rw [show 56 - 8 * j = 8 * (7 - j) by omega, Nat.pow_mul]
  have e2 : ((2 : Int) ^ (56 - 8 * j)) = ((256 ^ (7 - j) : Nat) : Int) := by rw [← e]; simp
  have e3 : (UInt8.ofNat (8 * n / 256 ^ (7 - j))).toNat = 8 * n / 256 ^ (7 - j) % 256 := by simp
  rw [e2, e3, Nat.mul_comm 8 n]
  simp
/-- A slice's length: the first loop's measure. -/
def lenOfV : Value → Nat | .slice _ n _ => n | _ => 0
set_option maxHeartbeats 1000000 in
set_option maxRecDepth 100000 in
theorem pad_any (r : List UInt8) (n : Nat) (w : World) (hr : r.length < 64) (hn : n ≤ 281474976710656) :
    Calls Tryd.prog 24 #[.string (B r), .int .i64 (n : Int)] w fun e w' => e = .returned (.string (B (r ++ [128] ++ List.replicate ((119 - r.length) % 64) 0 ++ (List.range 8).map fun k => UInt8.ofNat (8 * n / 256 ^ (7 - k))))) ∧ Below w.heap.size w w' := by
  obtain ⟨v0, wc, hcv, hu0, hb0⟩ := conv_made r w w.heap.size (by unfold maxLen; omega) (Nat.le_refl _)
  obtain ⟨g0, cap0, rfl⟩ := holdsU_len hu0
  go_enter Tryd.func24, Tryd.ntmps24
  go_wp2_with (at_builtin; refine wpList_append_one rfl _ _ rfl w.heap.size _ r rfl hu0 hb0 hb0.size 128 _ rfl _ rfl (by omega) ?_; intro v1 w1 hu1 hb1 hs1)
  clear hcv hu0 hb0
  obtain ⟨z, hz⟩ : ∃ z, z = (119 - r.length) % 64 := ⟨_, rfl⟩
  go_loopw [5] (fun o wr => ∃ (k : Nat) (q : List UInt8), k ≤ z ∧ q = r ++ [128] ++ List.replicate k 0 ∧ holdsU wr w.heap.size o q ∧ Below w.heap.size w wr ∧ w.heap.size ≤ wr.heap.size) (fun o _ => 128 - lenOfV o)
  case atStart => exact ⟨0, r ++ [128], by omega, by simp, hu1, hb1, hs1⟩
  case round =>
    clear hu1 hb1 hs1
    obtain ⟨k, q, hk, hq, hu, hb, hs⟩ := hrel
    have hql : q.length = r.length + 1 + k := by rw [hq]; simp only [List.length_append, List.length_replicate, List.length_singleton]
    obtain ⟨g1, cap1, hv⟩ := holdsU_len hu
    obtain ⟨m, hm⟩ : ∃ m, m = q.length := ⟨_, rfl⟩
    rw [← hm] at hv
    subst hv
    have HQ := Lib.hid hq
    have HL := Lib.hid hql
    have HU := Lib.hid hu
    have HM := Lib.hid hm
    have hm2 : m ≤ 128 := by omega
    by_cases hkz : k < z
    · have hne : ¬ ((m : Int) % 64 = 56) := by omega
      clear hq hql hu hm
      go_wp2_with (at_builtin; refine wpList_append_one rfl _ _ rfl w.heap.size _ q rfl HU.out hb hs 0 _ rfl _ rfl (by have := HL.out; omega) ?_; intro v1 w1 hu1 hb1 hs1)
      go_roundw
      case rel => exact ⟨k + 1, q ++ [0], by omega, by rw [HQ.out, List.replicate_succ', List.append_assoc], hu1, hb1, hs1⟩
      case measure =>
        obtain ⟨g2, cap2, rfl⟩ := holdsU_len hu1
        have := HL.out
        have := HM.out
        simp only [lenOfV, List.length_append, List.length_singleton]
        omega
    · have hkz : k = z := by omega
      have hne : (m : Int) % 64 = 56 := by omega
      clear hql hu hm
      subst hkz
      have hzz : q = r ++ [128] ++ List.replicate ((119 - r.length) % 64) 0 := by rw [HQ.out, hz]
      have HZ := Lib.hid hzz
      clear hq hz hzz HL HM
      go_wp2_with fail
      clear hne
      rw [HZ.out] at HU
      obtain ⟨p, hp⟩ : ∃ p, p = r ++ [128] ++ List.replicate ((119 - r.length) % 64) 0 := ⟨_, rfl⟩
      have hpl : p.length ≤ 128 := by rw [hp]; simp only [List.length_append, List.length_replicate, List.length_singleton]; omega
      rw [← hp] at HU
      have hu := HU.out
      clear HU HQ HZ
      go_loopw [5, 6] (fun o s wr => ∃ j : Nat, s = .int .i64 (56 - 8 * (j : Int)) ∧ j ≤ 8 ∧ holdsU wr w.heap.size o (p ++ (List.range j).map fun k => UInt8.ofNat (8 * n / 256 ^ (7 - k))) ∧ Below w.heap.size w wr ∧ w.heap.size ≤ wr.heap.size) (fun _ s _ => (intOf s + 8).toNat)
      case atStart => exact ⟨0, rfl, by omega, by simpa using hu, hb, hs⟩
      case round =>
        clear hu hb hs
        obtain ⟨j, rfl, hj, hu, hb, hs⟩ := hrel
        by_cases hj8 : j < 8
        · have h0 : 0 ≤ 56 - 8 * (j : Int) := by omega
          obtain ⟨q, hq⟩ : ∃ q, q = p ++ (List.range j).map fun k => UInt8.ofNat (8 * n / 256 ^ (7 - k)) := ⟨_, rfl⟩
          have hql : q.length ≤ 136 := by rw [hq]; simp only [List.length_append, List.length_map, List.length_range]; omega
          have hq1 : (p ++ (List.range (j + 1)).map fun k => UInt8.ofNat (8 * n / 256 ^ (7 - k))) = q ++ [UInt8.ofNat (8 * n / 256 ^ (7 - j))] := by
            rw [List.range_succ, List.map_append, ← List.append_assoc, ← hq]; rfl
          rw [← hq] at hu
          have HQ := Lib.hid hq1
          have HL := Lib.hid hql
          clear hq hq1 hql
          have hby := pad_byte n j hj8
          obtain ⟨by1, hb1⟩ : ∃ x, x = UInt8.ofNat (8 * n / 256 ^ (7 - j)) := ⟨_, rfl⟩
          rw [← hb1] at HQ hby
          have HBY := Lib.hid hby
          clear hb1 hby
          go_wp2_with (at_builtin; refine wpList_append_one rfl _ _ rfl w.heap.size _ q rfl hu hb hs by1 _ HBY.out _ rfl (by have := HL.out; omega) ?_; intro v1 w1 hu1 hb1 hs1)
          go_roundw
          case rel => exact ⟨j + 1, by go_num, by omega, by rw [HQ.out]; exact hu1, hb1, hs1⟩
          case measure => simp [intOf]; omega
        · have hj8 : j = 8 := by omega
          subst hj8
          have hcv := conv_back hu
          obtain ⟨res, hres⟩ : ∃ q, q = p ++ (List.range 8).map fun k => UInt8.ofNat (8 * n / 256 ^ (7 - k)) := ⟨_, rfl⟩
          rw [← hres] at hcv
          rw [hp] at hres
          have HRES := Lib.hid hres
          clear hres hp hu
          go_wp2_with fail
          go_ret
          exact ⟨by rw [← HRES.out]; rfl, hb⟩
end Go.Proofs.YtfldbgfeldhboaaDoor
