/-
  Layer 10 (wal): checksum, record, tooLong.
-/
import Derived.Test.YtihanhdepijijaaWalRow
import Derived.Test.YtihanhdepijijaaWalMath
import Derived.Test.YtihanhdepijijaaSumCrcAny
import Derived.Test.YtihanhdepijijaaCodePut
namespace Go.Proofs.Ytihanhdepijijaa
open Go.RowKit
namespace Wl
open S9.Dk (Dk Fr MD By)
attribute [local go_sem] S2.B_size S2.B_drop' S2.B_take S2.B_list S2.B_app

/-- The four bytes of a checksum, the least significant one first. -/
def le4 (n : Nat) : Str := [UInt8.ofNat n, UInt8.ofNat (n / 256), UInt8.ofNat (n / 65536), UInt8.ofNat (n / 16777216)]
def c4 (s : Str) : Str := le4 (S3.Crc.crc s).toNat
theorem c4_len (s : Str) : (c4 s).length = 4 := rfl

theorem le4_cells (n : Nat) (h : n < 4294967296) : #[Value.int IntKind.u8 ((n : Int) % 256), Value.int IntKind.u8 ((n : Int) / 256 % 256), Value.int IntKind.u8 ((n : Int) / 65536 % 256), Value.int IntKind.u8 ((n : Int) / 16777216)] = (S2.U (le4 n)).toArray := by
  have e0 : (n : Int) % 256 = ((n % 256 : Nat) : Int) := by omega
  have e1 : (n : Int) / 256 % 256 = ((n / 256 % 256 : Nat) : Int) := by omega
  have e2 : (n : Int) / 65536 % 256 = ((n / 65536 % 256 : Nat) : Int) := by omega
  have e3 : (n : Int) / 16777216 = ((n / 16777216 % 256 : Nat) : Int) := by omega
  rw [e0, e1, e2, e3]
  simp only [S2.U, le4, List.map_cons, List.map_nil, UInt8.toNat_ofNat']
theorem le4_conv (n : Nat) (h : n < 4294967296) (w : World) : (convert 58 9 (.slice (some ⟨w.heap.size, 0, none⟩) 4 4)).run Try.prog (w.alloc (.cells #[Value.int IntKind.u8 ((n : Int) % 256), Value.int IntKind.u8 ((n : Int) / 256 % 256), Value.int IntKind.u8 ((n : Int) / 65536 % 256), Value.int IntKind.u8 ((n : Int) / 16777216)] 5)) =
    .ok (.string (S2.B (le4 n))) (w.alloc (.cells #[Value.int IntKind.u8 ((n : Int) % 256), Value.int IntKind.u8 ((n : Int) / 256 % 256), Value.int IntKind.u8 ((n : Int) / 65536 % 256), Value.int IntKind.u8 ((n : Int) / 16777216)] 5)) := by
  rw [le4_cells n h]
  exact By.conv (l := le4 n) (World.ownsRow_lit w (S2.U (le4 n)).toArray 4 (Nat.zero_le _) (by unfold maxLen; omega) (by simp [S2.U, le4]))

set_option maxHeartbeats 1000000 in
set_option maxRecDepth 100000 in
theorem checksum_any (s : Str) (w : World) (h : s.length ≤ 281474976710656) :
    Calls Try.prog 55 #[.string (S2.B s)] w fun e w' => e = .returned (.string (S2.B (c4 s))) ∧ Below w.heap.size w w' := by
  have K : Calls Try.prog 60 #[.string (S2.B s)] w fun e w' => e = .returned (.int .u32 ((S3.Crc.crc s).toNat : Nat)) ∧ w = w' := S3.crc_any s w h
  obtain ⟨n, hn⟩ : ∃ n, n = (S3.Crc.crc s).toNat := ⟨_, rfl⟩
  have hl : n < 4294967296 := by rw [hn]; exact (S3.Crc.crc s).isLt
  rw [← hn] at K
  have R : c4 s = le4 n := by unfold c4; rw [hn]
  rw [R]
  have K' := Lib.hid K
  have HB := Lib.hid fun o => (Below.refl w.heap.size w).alloc (Nat.le_refl _) o
  have hc := le4_conv n hl w
  clear K R hn h
  go_enter Try.func55, Try.ntmps55
  go_wp2_with fail
  refine K'.out.mono ?_
  rintro e w1 ⟨rfl, rfl⟩
  clear K'
  go_wp2
  go_ret
  exact ⟨rfl, HB.out _⟩

set_option maxHeartbeats 400000 in
theorem tooLong_any (s : Str) (w : World) (h : s.length ≤ 281474976710656) :
    Calls Try.prog 40 #[.string (S2.B s)] w fun e w' => e = .returned (.bool (decide (1048576 < s.length))) ∧ w = w' := by
  have e : decide (1048576 < s.length) = decide (1048576 < (s.length : Int)) := by
    by_cases hc : 1048576 < s.length
    · simp [hc]; omega
    · simp [hc]; omega
  rw [e]
  have h' : (s.length : Int) ≤ 281474976710656 := by omega
  clear e h
  go_enter Try.func40, Try.ntmps40
  go_wp2
  go_ret
  exact ⟨rfl, rfl⟩

set_option maxHeartbeats 1000000 in
set_option maxRecDepth 100000 in
theorem record_any (s : Str) (w : World) (h : s.length ≤ 1099511627776) :
    Calls Try.prog 43 #[.string (S2.B s)] w fun e w' => e = .returned (.string (S2.B (record c4 s))) ∧ Below w.heap.size w w' := by
  have K1 := Lib.hid fun w => S2.cNum_any s.length w (by omega)
  have K2 := Lib.hid fun w => checksum_any s w (by omega)
  have E : record c4 s = S2.Cd.encN s.length ++ (c4 s ++ s) := rfl
  rw [E]
  have hcl : (c4 s).length = 4 := rfl
  have hel := S2.Cd.encN_len s.length
  generalize c4 s = c at *
  have h' : (s.length : Int) ≤ 1099511627776 := by omega
  obtain ⟨q, hq⟩ : ∃ q, q = S2.Cd.encN s.length := ⟨_, rfl⟩
  rw [← hq] at K1 hel ⊢
  clear E hq h
  go_enter Try.func43, Try.ntmps43
  go_wp2_with fail
  refine (K1.out _).mono ?_
  rintro e w1 ⟨rfl, hb⟩
  have HB := Lib.hid hb
  clear hb K1
  go_wp2_with fail
  refine (K2.out _).mono ?_
  rintro e w2 ⟨rfl, hb⟩
  have HB2 := Lib.hid (HB.out.trans (hb.mono HB.out.size))
  clear hb K2 HB
  go_wp2
  go_ret
  exact ⟨rfl, HB2.out⟩
end Wl
end Go.Proofs.Ytihanhdepijijaa
