/-
  Layer 2: the document's own answers (agoraref02): the writer.
-/
import Derived.Test.YtcbhjagcfbinoaaDoorCodeRow
import Derived.Deep.RegionWith
import Derived.RegionTactic
import Derived.Outline
import Derived.IntWalk
namespace Go.Proofs.YtcbhjagcfbinoaaDoor.S2
open Go.RowKit
open Cd

theorem B_size' (l : List UInt8) : (B l).size = l.length := by simp [B, ByteArray.size]
theorem B_app' (a b : List UInt8) : B a ++ B b = B (a ++ b) := by
  have h : (B a ++ B b).data.toList = a ++ b := by
    rw [ByteArray.data_append, Array.toList_append]
    rfl
  calc B a ++ B b = B (B a ++ B b).data.toList := rfl
    _ = B (a ++ b) := by rw [h]
attribute [local go_sem] B_size' B_app'

theorem bcell {W w1 : World} (hb : Below W.heap.size W w1) : ∀ b o, b < W.heap.size → w1.cell? ⟨b, o, none⟩ = W.cell? ⟨b, o, none⟩ := fun b o h => hb.cell (p := ⟨b, o, none⟩) h
/-- 'string([]byte{c})'. -/
theorem conv_one (m : Nat) (hm : m < 256) (w : World) (g : Nat) (h : w.cell? ⟨g, 0, none⟩ = some (.int .u8 (m : Int))) :
    (convert 48 9 (.slice (some ⟨g, 0, none⟩) 1 1)).run Tryd.prog w = .ok (.string (B [UInt8.ofNat m])) w :=
  run_convert_bytes_back w 48 9 5 ⟨g, 0, none⟩ 1 [UInt8.ofNat m] Tryd.underlying48 Tryd.underlying5 Tryd.underlying9 (fun j hj => by
    have hj0 : j = 0 := by simpa using hj
    subst hj0
    simp [Addr.add, h, ofNat_toNat' m hm])

set_option maxHeartbeats 1000000 in
set_option maxRecDepth 100000 in
theorem refNum_small (n : Nat) (w : World) (hn : n < 128) :
    Calls Tryd.prog 32 #[.int .i64 (n : Int)] w fun e w' => e = .returned (.string (B [UInt8.ofNat n])) ∧ Below w.heap.size w w' := by
  have hn1 : (n : Int) < 128 := by omega
  have hn0 : (0 : Int) ≤ n := by omega
  have hcv := conv_one n (by omega)
  go_enter Tryd.func32, Tryd.ntmps32
  go_wp2_with fail
  go_ret
  exact ⟨rfl, (Below.refl _ _).alloc (Nat.le_refl _) _⟩

set_option maxHeartbeats 1000000 in
set_option maxRecDepth 100000 in
theorem refNum_step (n q c : Nat) (b : UInt8) (l : List UInt8) (w : World) (hn : 128 ≤ n) (hn2 : n < 9223372036854775808) (hq : n / 128 = q) (hc : n % 128 = c) (hb0 : b = UInt8.ofNat (c + 128)) (hl : l.length ≤ 9)
    (ih : ∀ w : World, Calls Tryd.prog 32 #[.int .i64 (q : Int)] w fun e w' => e = .returned (.string (B l)) ∧ Below w.heap.size w w') :
    Calls Tryd.prog 32 #[.int .i64 (n : Int)] w fun e w' => e = .returned (.string (B (b :: l))) ∧ Below w.heap.size w w' := by
  have hn1 : (128 : Int) ≤ n := by omega
  have hn0 : (n : Int) ≤ 9223372036854775807 := by omega
  have hc1 : c < 128 := by omega
  have hq1 : (q : Int) ≤ 9223372036854775807 := by omega
  have e1 : (n : Int).tmod 128 = (c : Int) := by rw [Int.tmod_eq_emod_of_nonneg (by omega)]; omega
  have e2 : IntKind.i64.wrap (128 + (c : Int)) = 128 + (c : Int) := IntWalk.i64_in _ (by omega)
  have e3 : IntKind.u8.wrap (128 + (c : Int)) = 128 + (c : Int) := IntWalk.u8_in _ (by omega)
  have e4 : (n : Int) / 128 = (q : Int) := by omega
  have e5 : IntKind.i64.wrap (q : Int) = (q : Int) := IntWalk.i64_in _ (by omega)
  have hcv : ∀ (w : World) (g : Nat) (h : w.cell? ⟨g, 0, none⟩ = some (.int .u8 (128 + (c : Int)))), (convert 48 9 (.slice (some ⟨g, 0, none⟩) 1 1)).run Tryd.prog w = .ok (.string (B [b])) w := fun w g h =>
    hb0 ▸ conv_one (c + 128) (by omega) w g (by rw [h]; congr 2; omega)
  have IH := Lib.hid ih
  clear ih hq hc hn2 hb0
  go_enter Tryd.func32, Tryd.ntmps32
  go_wp2_with fail
  go_region_with (go_at_call 32; refine (IH.out _).mono ?_; rintro e w1 ⟨rfl, hb⟩; have hbc := bcell hb)
  all_goals go_wp2
  all_goals go_ret
  all_goals refine ⟨rfl, ?_⟩
  · exact ((Below.refl _ _).alloc (Nat.le_refl _) _).drew.trans (hb.mono (by simp))
  · exact ((Below.refl _ _).alloc (Nat.le_refl _) _).drew.trans (hb.mono (by simp))
  · exact ((Below.refl _ _).drew.trans (hb.mono (by simp))).alloc (by have := hb.size; simpa using this) _

theorem refNum_vi (k : Nat) : ∀ (n : Nat) (w : World), n < 128 ^ (k + 1) → k ≤ 8 →
    Calls Tryd.prog 32 #[.int .i64 (n : Int)] w fun e w' => e = .returned (.string (B (vi k n))) ∧ Below w.heap.size w w' := by
  induction k with
  | zero => intro n w hn _; exact refNum_small n w (by simpa using hn)
  | succ k ih =>
    intro n w hn hk
    rw [vi]
    split
    · rename_i h; exact refNum_small n w h
    · rename_i h
      have hm : n / 128 < 128 ^ (k + 1) := by
        rw [Nat.pow_succ] at hn
        omega
      have h9 : n < 9223372036854775808 := Nat.lt_of_lt_of_le hn (Nat.le_trans (Nat.pow_le_pow_right (by omega) (show k + 1 + 1 ≤ 9 by omega)) (by decide))
      exact refNum_step n (n / 128) (n % 128) _ (vi k (n / 128)) w (by omega) h9 rfl rfl rfl (by have := vi_len k (n / 128); omega) (fun w => ih (n / 128) w hm (by omega))
theorem refNum_any (n : Nat) (w : World) (hn : n < 9223372036854775808) :
    Calls Tryd.prog 32 #[.int .i64 (n : Int)] w fun e w' => e = .returned (.string (B (encN n))) ∧ Below w.heap.size w w' :=
  refNum_vi 8 n w (by simpa using hn) (by omega)

/-! ### Int, Text, List, Nums -/
theorem refNum_i (m : Int) (w : World) (h0 : 0 ≤ m) (h1 : m ≤ 9223372036854775807) :
    Calls Tryd.prog 32 #[.int .i64 m] w fun e w' => e = .returned (.string (B (encN m.toNat))) ∧ Below w.heap.size w w' := by
  obtain ⟨n, rfl⟩ := Int.eq_ofNat_of_zero_le h0
  exact refNum_any n w (by omega)
set_option maxHeartbeats 400000 in
theorem refNum_neg (m : Int) (w : World) (h0 : m < 0) :
    Calls Tryd.prog 32 #[.int .i64 m] w fun e w' => e = .returned (.string (B [])) ∧ Below w.heap.size w w' := by
  go_enter Tryd.func32, Tryd.ntmps32
  go_wp2
  go_ret
  exact ⟨rfl, Below.refl _ _⟩

set_option maxHeartbeats 400000 in
theorem refText_any (s : List UInt8) (w : World) (hs : s.length ≤ 1099511627776) :
    Calls Tryd.prog 31 #[.string (B s)] w fun e w' => e = .returned (.string (B (encT s))) ∧ Below w.heap.size w w' := by
  have h9 := encN_len s.length
  have H := refNum_any s.length w (by omega)
  obtain ⟨q, hq⟩ : ∃ q, q = encN s.length := ⟨_, rfl⟩
  have e : encT s = q ++ s := by rw [hq]; rfl
  rw [← hq] at H h9
  rw [e]
  have HN := Lib.hid H
  clear hq e H
  go_enter Tryd.func31, Tryd.ntmps31
  go_wp2_with fail
  refine HN.out.mono ?_
  rintro e w1 ⟨rfl, h1⟩
  go_wp2
  go_ret
  exact ⟨rfl, h1⟩

end Go.Proofs.YtcbhjagcfbinoaaDoor.S2
