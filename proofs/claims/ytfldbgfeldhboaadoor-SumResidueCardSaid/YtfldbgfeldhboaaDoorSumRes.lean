/-
  Layer 3: SumResidue's walk.
-/
import Derived.Test.YtfldbgfeldhboaaDoorSumSmall
import Derived.Test.YtfldbgfeldhboaaDoorSumLaid
namespace Go.Proofs.YtfldbgfeldhboaaDoor
open Go.RowKit
attribute [local go_sem] B_size B_drop' B_take B_list B_app

theorem le_length (x : BitVec 32) : (Crc.le x).length = 4 := rfl
attribute [local go_sem] le_length
theorem U_le (x : BitVec 32) : U (Crc.le x) = [.int .u8 ((x.toNat : Int) % 256), .int .u8 ((x.toNat : Int) / 256 % 256), .int .u8 ((x.toNat : Int) / 65536 % 256), .int .u8 ((x.toNat : Int) / 16777216)] := by
  have h := U_be x
  simp only [U, Sha.be, List.map_cons, List.map_nil, List.cons.injEq] at h
  simp only [U, Crc.le, List.map_cons, List.map_nil, h.1, h.2.1, h.2.2.1, h.2.2.2.1]
/-- 'string([]byte{..})' of a word's four bytes. -/
theorem conv_le (x : BitVec 32) (w : World) : (convert 34 9 (.slice (some ⟨w.heap.size, 0, none⟩) 4 4)).run Tryd.prog (w.alloc (.cells #[.int .u8 ((x.toNat : Int) % 256), .int .u8 ((x.toNat : Int) / 256 % 256), .int .u8 ((x.toNat : Int) / 65536 % 256), .int .u8 ((x.toNat : Int) / 16777216)] 5)) =
    .ok (.string (B (Crc.le x))) (w.alloc (.cells #[.int .u8 ((x.toNat : Int) % 256), .int .u8 ((x.toNat : Int) / 256 % 256), .int .u8 ((x.toNat : Int) / 65536 % 256), .int .u8 ((x.toNat : Int) / 16777216)] 5)) := by
  refine run_convert_bytes_back _ 34 9 5 ⟨w.heap.size, 0, none⟩ 4 (Crc.le x) Tryd.underlying34 Tryd.underlying5 Tryd.underlying9 (fun j hj => ?_)
  refine four_cells j _ ?_
  rw [← U_le]
  simp [U, hj]

set_option maxHeartbeats 2000000 in
set_option maxRecDepth 100000 in
theorem residue_walk (l : List UInt8) (t : BitVec 32) (w : World) (hl : l.length ≤ 281474976710656) (hW : Laid w) :
    Calls Tryd.prog 6 #[.string (B l), .int .u32 (t.toNat : Nat)] w fun e w' => e = .returned (.bool true) ∧ Good w w' := by
  have hl3 : (l.length : Int) ≤ 281474976710656 := by omega
  go_enter Tryd.func6, Tryd.ntmps6
  go_wp2_with fail
  refine (small_any w _ hW (Below.refl _ _)).mono ?_
  rintro e w1 ⟨rfl, hb⟩
  by_cases h4 : (4000 : Int) < l.length
  · go_wp2
    go_ret
    exact ⟨rfl, Good.of hb⟩
  · have B1 := Lib.hid hb
    clear hb
    go_wp2_with fail
    refine (crc_any l _ (by omega)).mono ?_
    rintro e w2 ⟨rfl, rfl⟩
    obtain ⟨c, hc⟩ : ∃ c, c = Crc.crc l := ⟨_, rfl⟩
    rw [← hc]
    have HC := Lib.hid hc
    have C1 := fun w => conv_le c w
    have C2 := conv_le t (w1.alloc (.cells #[.int .u8 ((c.toNat : Int) % 256), .int .u8 ((c.toNat : Int) / 256 % 256), .int .u8 ((c.toNat : Int) / 65536 % 256), .int .u8 ((c.toNat : Int) / 16777216)] 5))
    rw [show ∀ o, (w1.alloc o).heap.size = w1.heap.size + 1 from fun o => by simp] at C2
    have r1 : ((Crc.crc (l ++ Crc.le c)).toNat : Nat) = 1214729159 := by rw [(Crc.crc_residue l c).2 hc]; rfl
    have R2 : Hid (Crc.crc (l ++ Crc.le t) = 1214729159#32 ↔ t = c) := Lib.hid (by rw [hc]; exact Crc.crc_residue l t)
    have k1 : ∀ w, Calls Tryd.prog 12 #[.string (B (l ++ Crc.le c))] w fun e w' => e = .returned (.int .u32 1214729159) ∧ w = w' := fun w => by
      have := crc_any (l ++ Crc.le c) w (by rw [List.length_append]; simp [Crc.le]; omega)
      rw [r1] at this; exact this
    have K1 := Lib.hid k1
    have hcat : ¬ 9223372036854775807 < l.length + 4 := by omega
    clear k1 r1 hc
    go_wp2_with fail
    refine (K1.out _).mono ?_
    rintro e w2 ⟨rfl, rfl⟩
    go_wp2_with fail
    refine (crc_any (l ++ Crc.le t) _ (by rw [List.length_append]; simp [Crc.le]; omega)).mono ?_
    rintro e w2 ⟨rfl, rfl⟩
    clear C1 C2
    have hfin : ((((Crc.crc (l ++ Crc.le t)).toNat : Nat) : Int) == 1214729159) = (((t.toNat : Nat) : Int) == ((c.toNat : Nat) : Int)) := by
      rw [Bool.eq_iff_iff, beq_iff_eq, beq_iff_eq]
      constructor
      · intro h
        have h' : (Crc.crc (l ++ Crc.le t)).toNat = 1214729159 := by omega
        rw [R2.out.1 (BitVec.eq_of_toNat_eq (by rw [h']; rfl))]
      · intro h
        rw [R2.out.2 (BitVec.eq_of_toNat_eq (by omega))]
        rfl
    have HF := Lib.hid hfin
    clear hfin
    go_wp2
    go_ret
    refine ⟨?_, Good.of ((B1.out.alloc B1.out.size _).alloc (Nat.le_trans B1.out.size (by simp)) _)⟩
    refine congrArg (fun b => Ending.returned (.bool b)) ?_
    rw [HF.out]
    exact beq_self_eq_true _

theorem sumResidue_walk (s : ByteArray) (x : Int) (w : World) (hW : Laid w) (hs : s.size ≤ 281474976710656) (hx : 0 ≤ x ∧ x ≤ 4294967295) :
    Calls Tryd.prog 6 #[.string s, .int .u32 x] w fun e w' => e = .returned (.bool true) ∧ Good w w' := by
  obtain ⟨n, rfl⟩ : ∃ n : Nat, x = (n : Int) := ⟨x.toNat, by omega⟩
  have e : ((BitVec.ofNat 32 n).toNat : Nat) = n := by rw [BitVec.toNat_ofNat]; omega
  have := residue_walk s.data.toList (BitVec.ofNat 32 n) w hs hW
  rw [e] at this
  exact this
end Go.Proofs.YtfldbgfeldhboaaDoor
