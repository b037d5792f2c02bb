/-
  Layer 3: the law's flip.
-/
import Derived.Test.YtfldbgfeldhboaaDoorSumFlipMath
import Derived.Test.YtfldbgfeldhboaaDoorSumMark
import Derived.Test.YtfldbgfeldhboaaDoorSumSched
namespace Go.Proofs.YtfldbgfeldhboaaDoor
open Go.RowKit
attribute [local go_sem] B_size B_drop' B_take B_list B_app

theorem holdsU_cell {w : World} {base g n cap : Nat} {l : List UInt8} (h : holdsU w base (.slice (some ⟨g, 0, none⟩) n cap) l) (i : Nat) (hi : i < l.length) :
    w.cell? ⟨g, i, none⟩ = some (.int .u8 ((l.getD i 0).toNat : Nat)) ∧ w.frozen? ⟨g, i, none⟩ = false := by
  have hc := holdsU_cells h i (.int .u8 ((l.getD i 0).toNat : Nat)) (by rw [U, List.getElem?_map, List.getD_eq_getElem?_getD, List.getElem?_eq_getElem hi]; rfl)
  have hadd : (⟨g, 0, none⟩ : Addr).add i = ⟨g, i, none⟩ := by unfold Addr.add; split <;> simp_all
  rw [hadd] at hc
  refine ⟨hc, ?_⟩
  obtain ⟨g', cap', cur, fr, hv, _, hg, hfr, hlc, _, hcs, _⟩ := h
  cases hv
  simp only [World.frozen?, hg]
  rcases hfr with h0 | h0
  · simp [h0]
  · have : ¬ fr.1 ≤ i := by omega
    simp [this]
theorem holdsU_set {w : World} {base g n cap : Nat} {l : List UInt8} (h : holdsU w base (.slice (some ⟨g, 0, none⟩) n cap) l) (i : Nat) (x : UInt8) :
    holdsU (w.setCell ⟨g, i, none⟩ (.int .u8 (x.toNat : Nat))) base (.slice (some ⟨g, 0, none⟩) n cap) (l.set i x) := by
  obtain ⟨g', cap', cur, fr, hv, hb, hg, hfr, hlc, hcm, hcs, ht⟩ := h
  cases hv
  rw [setCell_eq_setRow w g i cur _ fr _ hg]
  refine ⟨g, cap, _, fr, by simp, hb, setRow_heap w g cur _ _ fr hg, by simpa using hfr, by simpa using hlc, hcm, by simpa using hcs, ?_⟩
  rw [Array.toList_setIfInBounds, List.length_set, List.take_set, ht, U, U, List.map_set]

theorem xor_bit (b m : Nat) (hb : b < 256) (hm : m < 8) : bits .xor .u8 (b : Int) (((2 ^ m : Nat) : Int)) = ((UInt8.ofNat (b ^^^ 2 ^ m)).toNat : Nat) := by
  have h2 : 2 ^ m < 256 := Nat.lt_of_lt_of_le (Nat.pow_lt_pow_right (by decide) hm) (by decide)
  have hx : b ^^^ 2 ^ m < 256 := Nat.xor_lt_two_pow (n := 8) hb h2
  rw [u8_xor_nat _ _ hb h2, UInt8.toNat_ofNat', Nat.mod_eq_of_lt hx]
theorem pat_bit (p : BitVec 32) (k : Nat) : bits .and .u32 ((p.toNat : Int) / 2 ^ k) 1 = if p.getLsbD k then 1 else 0 := by
  have h1 : (p.toNat : Int) / 2 ^ k = ((p.toNat / 2 ^ k : Nat) : Int) := by simp
  have h2 : p.toNat / 2 ^ k < 4294967296 := Nat.lt_of_le_of_lt (Nat.div_le_self _ _) p.isLt
  have := u32_and_nat (p.toNat / 2 ^ k) 1 h2 (by decide)
  rw [show ((1 : Nat) : Int) = 1 from rfl] at this
  rw [h1, this, Nat.and_one_is_mod, BitVec.getLsbD, Nat.testBit_eq_decide_div_mod_eq]
  by_cases h : p.toNat / 2 ^ k % 2 = 1
  · simp [h]
  · have h0 : p.toNat / 2 ^ k % 2 = 0 := by omega
    simp [h0]

set_option maxHeartbeats 2000000 in
set_option maxRecDepth 100000 in
theorem flip_any (s : List UInt8) (a : Int) (p : BitVec 32) (w : World) (hs : s.length ≤ 4000) (ha : -32 ≤ a ∧ a ≤ 32000) :
    Calls Tryd.prog 20 #[.string (B s), .int .i64 a, .int .u32 (p.toNat : Nat)] w fun e w' => ∃ t did, e = .returned (.tuple #[.string (B t), .bool did]) ∧ Flip s a p 32 t did ∧ Below w.heap.size w w' := by
  obtain ⟨ha1, ha2⟩ := ha
  obtain ⟨v0, wc, hcv, hu0, hb0⟩ := conv_made s w w.heap.size (by unfold maxLen; omega) (Nat.le_refl _)
  obtain ⟨g, cap, rfl⟩ := holdsU_len hu0
  have hg : w.heap.size ≤ g := (holdsU_lt hu0 g rfl).1
  go_enter Tryd.func20, Tryd.ntmps20
  go_wp2_with fail
  go_loopw [9, 10] (fun d i wr => ∃ (k : Nat) (t : List UInt8) (did : Bool), d = .bool did ∧ i = .int .i64 (k : Int) ∧ k ≤ 32 ∧ Flip s a p k t did ∧ holdsU wr w.heap.size (.slice (some ⟨g, 0, none⟩) s.length cap) t ∧ Below w.heap.size w wr) (fun _ i _ => 32 - (intOf i).toNat)
  case atStart => exact ⟨0, s, false, rfl, rfl, by omega, flip_start s a p, hu0, hb0⟩
  case round =>
    clear hcv hu0 hb0
    obtain ⟨k, t, did, rfl, rfl, hk, hf, hu, hb⟩ := hrel
    have hlen := hf.len
    by_cases hk6 : k < 32
    · have hk7 : (k : Int) < 32 := by omega
      have w1 : IntKind.i64.wrap (a + (k : Int)) = a + k := IntWalk.i64_in _ (by omega)
      have w2 : IntKind.i64.wrap (8 * (s.length : Int)) = 8 * s.length := IntWalk.i64_in _ (by omega)
      have hpb := pat_bit p k
      by_cases hyes : p.getLsbD k = true ∧ 0 ≤ a + k ∧ a + k < 8 * s.length
      · obtain ⟨hp, h0, h8⟩ := hyes
        rw [hp, if_pos rfl] at hpb
        obtain ⟨n, hn⟩ : ∃ n : Nat, (n : Int) = a + k := ⟨(a + k).toNat, by omega⟩
        rw [← hn] at w1 h0 h8
        have hn2 : (n : Int) < 8 * s.length := by omega
        obtain ⟨q, hq⟩ : ∃ q, q = n / 8 := ⟨_, rfl⟩
        obtain ⟨m, hm⟩ : ∃ m, m = n % 8 := ⟨_, rfl⟩
        have hq2 : (n : Int) / 8 = (q : Int) := by omega
        have hm2 : (n : Int) % 8 = (m : Int) := by omega
        have hm5 : (n : Int).tmod 8 = (m : Int) := by rw [Int.tmod_eq_emod_of_nonneg (by omega)]; exact hm2
        have hm3 : (m : Int) < 8 := by omega
        have hm4 : (0 : Int) ≤ m := by omega
        have hqL : (q : Int) < s.length := by omega
        have hwq : IntKind.i64.wrap (q : Int) = q := IntWalk.i64_in _ (by omega)
        have hwm : IntKind.i64.wrap (m : Int) = m := IntWalk.i64_in _ (by omega)
        have hqt : q < t.length := by omega
        obtain ⟨hc1, hc2⟩ := holdsU_cell hu q hqt
        obtain ⟨b, hbb⟩ : ∃ b, b = (t.getD q 0).toNat := ⟨_, rfl⟩
        have hb256 : b < 256 := by rw [hbb]; exact (t.getD q 0).toNat_lt
        rw [← hbb] at hc1
        have hxb := xor_bit b m hb256 (by omega)
        obtain ⟨x, hx⟩ : ∃ x, x = UInt8.ofNat (b ^^^ 2 ^ m) := ⟨_, rfl⟩
        rw [← hx, show (((2 ^ m : Nat) : Int)) = (2 : Int) ^ m by simp] at hxb
        have h2m : (2 : Nat) ^ m < 256 := Nat.lt_of_lt_of_le (Nat.pow_lt_pow_right (by decide) (show m < 8 by omega)) (by decide)
        have hw3 : IntKind.u8.wrap ((2 : Int) ^ m) = ((2 ^ m : Nat) : Int) := by
          rw [show ((2 : Int) ^ m) = ((2 ^ m : Nat) : Int) by simp]
          obtain ⟨P, hP⟩ : ∃ P, P = 2 ^ m := ⟨_, rfl⟩
          rw [← hP] at h2m ⊢
          exact IntWalk.u8_in _ (by omega)
        have hxn : x.toNat = (t.getD (n / 8) 0).toNat ^^^ 2 ^ (n % 8) := by
          rw [← hq, ← hm, ← hbb, hx, UInt8.toNat_ofNat', Nat.mod_eq_of_lt (Nat.xor_lt_two_pow (n := 8) hb256 h2m)]
        have hfl := flip_yes hf hp (by omega) (by omega) hxn
        rw [← hq] at hfl
        have hset := fun wr' (h : holdsU wr' w.heap.size (.slice (some ⟨g, 0, none⟩) s.length cap) t) => holdsU_set h q x
        have HF := Lib.hid hfl
        have HU := Lib.hid hu
        have HS := Lib.hid hset
        have HB := Lib.hid hb
        have hc3 : wr.drew.cell? ⟨g, q, none⟩ = some (.int .u8 (b : Nat)) := hc1
        have hc4 : wr.drew.frozen? ⟨g, q, none⟩ = false := hc2
        have hnn : a + (k : Int) = n := hn.symm
        clear hp hn hq hm hqt hbb hb256 hx h2m hxn hfl hset hf hu hb hlen
        go_wp2_with fail
        go_still_tail 12, (by kernel_rfl)
        show wpList _ _ _ _ _ wr.drew
        go_wp2
        go_roundw
        case rel => exact ⟨k + 1, t.set q x, true, rfl, by go_num, by omega, HF.out, HS.out wr.drew HU.out, HB.out.drew.setCell hg _⟩
        case measure => simp [intOf]; omega
      · have hfl := flip_not hf hyes
        have HF := Lib.hid hfl
        have HU := Lib.hid hu
        have HB := Lib.hid hb
        by_cases hp : p.getLsbD k = true
        · rw [hp, if_pos rfl] at hpb
          by_cases h0 : 0 ≤ a + (k : Int)
          · have h8 : ¬ a + (k : Int) < 8 * s.length := fun h => hyes ⟨hp, h0, h⟩
            clear hp hyes hf hu hb hfl
            go_wp2_with fail
            go_roundw
            case rel => exact ⟨k + 1, t, did, rfl, by go_num, by omega, HF.out, HU.out, HB.out⟩
            case measure => simp [intOf]; omega
          · clear hp hyes hf hu hb hfl
            go_wp2_with fail
            go_roundw
            case rel => exact ⟨k + 1, t, did, rfl, by go_num, by omega, HF.out, HU.out, HB.out⟩
            case measure => simp [intOf]; omega
        · have hp0 : p.getLsbD k = false := by simpa using hp
          rw [hp0, if_neg (by decide)] at hpb
          clear hp hp0 hyes hf hu hb hfl
          go_wp2_with fail
          go_roundw
          case rel => exact ⟨k + 1, t, did, rfl, by go_num, by omega, HF.out, HU.out, HB.out⟩
          case measure => simp [intOf]; omega
    · have hk7 : k = 32 := by omega
      subst hk7
      have hcv := conv_back hu
      go_wp2
      go_ret2
      exact ⟨t, did, rfl, hf, hb⟩
end Go.Proofs.YtfldbgfeldhboaaDoor
