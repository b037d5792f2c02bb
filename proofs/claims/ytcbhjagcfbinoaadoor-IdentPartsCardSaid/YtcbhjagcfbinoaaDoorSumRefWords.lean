/-
  SumRefSha, SumRefWords: joined.
-/
import Derived.Test.YtcbhjagcfbinoaaDoorSumMem
import Derived.Test.YtcbhjagcfbinoaaDoorSumShaDef
import Derived.Laws.OwnMore
/-
  Layer 3: the document's own Sha (agoraref03): the parts.
-/
namespace Go.Proofs.YtcbhjagcfbinoaaDoor.S3
open Go.RowKit Sha
attribute [local go_sem] B_size B_drop' B_take B_list B_app

/-- Words as cells. -/
def Ws (l : List (BitVec 32)) : List Value := l.map fun x => Value.int .u32 (x.toNat : Nat)
theorem Ws_length (l : List (BitVec 32)) : (Ws l).length = l.length := by simp [Ws]
theorem Ws_append (l r : List (BitVec 32)) : Ws (l ++ r) = Ws l ++ Ws r := by simp [Ws]

theorem shr_nat (x : BitVec 32) (n : Nat) : ((x.toNat : Nat) : Int).fdiv (2 ^ n) = ((x >>> n).toNat : Nat) := by
  rw [BitVec.toNat_ushiftRight, Nat.shiftRight_eq_div_pow, Int.fdiv_eq_ediv_of_nonneg _ (by exact_mod_cast Nat.zero_le (2 ^ n))]
  push_cast
  rfl
theorem shl_nat (x : BitVec 32) (n : Nat) : IntKind.u32.wrap ((x.toNat : Int) * 2 ^ n) = ((x <<< n).toNat : Nat) := by
  rw [IntKind.wrap_u32', BitVec.toNat_shiftLeft, Nat.shiftLeft_eq, show (2 : Int) ^ n = ((2 ^ n : Nat) : Int) from by simp, ← Int.natCast_mul, show (2 ^ 32 : Nat) = 4294967296 from rfl]
  generalize x.toNat * 2 ^ n = z
  omega
theorem or_nat (x y : BitVec 32) : bits .or .u32 (x.toNat : Int) (y.toNat : Int) = ((x ||| y).toNat : Nat) := by
  rw [u32_or_nat _ _ x.isLt y.isLt, BitVec.toNat_or]
theorem and_nat (x y : BitVec 32) : bits .and .u32 (x.toNat : Int) (y.toNat : Int) = ((x &&& y).toNat : Nat) := by
  rw [u32_and_nat _ _ x.isLt y.isLt, BitVec.toNat_and]
theorem xor_nat (x y : BitVec 32) : bits .xor .u32 (x.toNat : Int) (y.toNat : Int) = ((x ^^^ y).toNat : Nat) := by
  rw [u32_xor_nat _ _ x.isLt y.isLt, BitVec.toNat_xor]
theorem add_nat (x y : BitVec 32) : IntKind.u32.wrap ((x.toNat : Int) + (y.toNat : Int)) = ((x + y).toNat : Nat) := by
  rw [IntKind.wrap_u32', BitVec.toNat_add, show (2 ^ 32 : Nat) = 4294967296 from rfl]
  omega

theorem rot_nat (x : BitVec 32) (n : Nat) : bits .or .u32 ((x.toNat : Int) / 2 ^ n) ((x.toNat : Int) * 2 ^ (32 - n) % 4294967296) = ((rot x n).toNat : Nat) := by
  have h1 := shr_nat x n
  have h2 := shl_nat x (32 - n)
  rw [Int.fdiv_eq_ediv_of_nonneg _ (by exact_mod_cast Nat.zero_le (2 ^ n))] at h1
  rw [IntKind.wrap_u32'] at h2
  rw [h1, h2, or_nat]
  rfl

set_option maxHeartbeats 1000000 in
theorem refTurn_any (x : BitVec 32) (n : Nat) (w : World) (hn : n < 32) :
    Calls Tryd.prog 56 #[.int .u32 (x.toNat : Nat), .int .i64 (n : Int)] w fun e w' => e = .returned (.int .u32 ((rot x n).toNat : Nat)) ∧ ∃ m, w' = w.drewN m := by
  have hn2 : (n : Int) < 32 := by omega
  have hn0 : (0 : Int) ≤ n := by omega
  go_enter Tryd.func56, Tryd.ntmps56
  go_wp2_with fail
  go_quiet (fail)
  rw [rot_nat x n]
  go_wp2
  go_ret
  exact ⟨rfl, _, rfl⟩

theorem refFirsts_any (w : World) :
    Calls Tryd.prog 45 #[] w fun e w' => ∃ v, e = .returned v ∧ w'.ownsRow w.heap.size 44 1 v 8 (Ws Sha.firsts) ∧ Below w.heap.size w w' := by
  go_enter Tryd.func45, Tryd.ntmps45
  go_wp2
  go_ret
  exact ⟨_, rfl, World.ownsRow_lit w _ 8 (Nat.le_refl _) (by decide) rfl, (Below.refl _ _).alloc (Nat.le_refl _) _⟩
set_option maxHeartbeats 1000000 in
set_option maxRecDepth 100000 in
theorem refAdds_any (w : World) :
    Calls Tryd.prog 55 #[] w fun e w' => ∃ v, e = .returned v ∧ w'.ownsRow w.heap.size 44 1 v 64 (Ws Sha.adds) ∧ Below w.heap.size w w' := by
  go_enter Tryd.func55, Tryd.ntmps55
  go_wp2
  go_ret
  exact ⟨_, rfl, World.ownsRow_lit w _ 64 (Nat.le_refl _) (by decide) rfl, (Below.refl _ _).alloc (Nat.le_refl _) _⟩
end Go.Proofs.YtcbhjagcfbinoaaDoor.S3

/-
  Layer 3: the document's own schedule (agoraref03).
-/
namespace Go.Proofs.YtcbhjagcfbinoaaDoor.S3
open Go.RowKit Sha

theorem infoWord : (Tryd.prog.info? 44).map (fun i => (i.zero, i.size, i.bytes)) = some (some (.int .u32 0), 1, 4) := by kernel_rfl
/-- The bytes at this address. -/
def BytesAt (w : World) (ad : Addr) (bs : List UInt8) : Prop := ad.block < w.heap.size ∧ ∀ j (h : j < bs.length), w.cell? (ad.add j) = some (.int .u8 (bs[j].toNat : Nat))
theorem BytesAt.below {w w' : World} {ad : Addr} {bs : List UInt8} (h : BytesAt w ad bs) (hb : Below w.heap.size w w') : BytesAt w' ad bs :=
  ⟨Nat.lt_of_lt_of_le h.1 hb.size, fun j hj => (hb.cell (p := ad.add j) (by unfold Addr.add; split <;> exact h.1)).trans (h.2 j hj)⟩

theorem refTurn_lit (x : BitVec 32) (n : Nat) (k : Int) (w : World) (hk : k = (n : Int)) (hn : n < 32) :
    Calls Tryd.prog 56 #[.int .u32 (x.toNat : Nat), .int .i64 k] w fun e w' => e = .returned (.int .u32 ((rot x n).toNat : Nat)) ∧ ∃ m, w' = w.drewN m := by
  subst hk; exact refTurn_any x n w hn
theorem shr_lit (x : BitVec 32) (n : Nat) (p : Int) (hp : p = 2 ^ n) : (x.toNat : Int) / p = ((x >>> n).toNat : Nat) := by
  have h1 := shr_nat x n
  rw [Int.fdiv_eq_ediv_of_nonneg _ (by exact_mod_cast Nat.zero_le (2 ^ n))] at h1
  rw [hp]; exact h1
theorem below_drewN {b : Nat} {w w' : World} (h : Below b w w') (n : Nat) : Below b w (w'.drewN n) := by
  exact ⟨h.1, h.2, h.3, h.4, h.5⟩
theorem words_more2 {base : Nat} {w wr w1 : World} {o v' : Value} {b : List UInt8} {i : Nat} {z : BitVec 32} {c : Array Value} {t : TypeId} (hi : ¬ i < 16) (hz : more (sched b i) i = z) (hbase : base ≤ wr.heap.size)
    (hown : wr.ownsRow base 44 1 o i (Ws (sched b i))) (hb : Below base w wr) (hown' : w1.ownsRow base 44 1 v' (i + 1) (Ws (sched b i) ++ [.int .u32 (z.toNat : Int)])) (hg : (wr.alloc (.cells c t)).grownBy w1 o.ownBlock) :
    w1.ownsRow base 44 1 v' (i + 1) (Ws (sched b (i + 1))) ∧ Below base w w1 := by
  subst hz
  refine ⟨own_cong hown' rfl ?_, (hb.alloc hbase _).grown hg (by simp; omega) (fun k hk => ((hown.alloc (.cells c t)).lt k hk).1)⟩
  rw [sched, if_neg hi, Ws_append]; rfl
theorem own_form {w : World} {base n : Nat} {v : Value} {l : List (BitVec 32)} (h : w.ownsRow base 44 1 v n (Ws l)) (hn : 0 < n) :
    ∃ g cap, v = .slice (some ⟨g, 0, none⟩) n cap ∧ (∀ j, j < n → w.cell? ⟨g, j, none⟩ = some (.int .u32 ((l.getD j 0).toNat : Nat))) ∧ g < w.heap.size := by
  rcases h.2 with ⟨_, h0⟩ | ⟨g, cap, cur, rfl, _, hh, _⟩
  · omega
  · refine ⟨g, cap, rfl, fun j hj => ?_, (Array.getElem?_eq_some_iff.1 hh).1⟩
    have hl : l.length = n := by have := h.1; rw [Ws_length] at this; omega
    have := h.cellAt j (by omega)
    rw [this, List.getD_eq_getElem?_getD, List.getElem?_eq_getElem (show j < l.length by omega)]
    simp [Ws, show j < l.length by omega]
theorem words_more {base : Nat} {w wr w1 : World} {o v' : Value} {b : List UInt8} {i : Nat} {y : Int} {c : Array Value} {t : TypeId} (hi : i < 16) (hy : y = ((word b i).toNat : Nat)) (hbase : base ≤ wr.heap.size)
    (hown : wr.ownsRow base 44 1 o i (Ws (sched b i))) (hb : Below base w wr) (hown' : w1.ownsRow base 44 1 v' (i + 1) (Ws (sched b i) ++ [.int .u32 y])) (hg : (wr.alloc (.cells c t)).grownBy w1 o.ownBlock) :
    w1.ownsRow base 44 1 v' (i + 1) (Ws (sched b (i + 1))) ∧ Below base w w1 := by
  subst hy
  refine ⟨own_cong hown' rfl ?_, (hb.alloc hbase _).grown hg (by simp; omega) (fun k hk => ((hown.alloc (.cells c t)).lt k hk).1)⟩
  rw [sched, if_pos hi, Ws_append]; rfl

set_option maxHeartbeats 1000000 in
set_option maxRecDepth 100000 in
theorem refWords_any (bs : List UInt8) (b off c : Nat) (w : World) (hb : BytesAt w ⟨b, off, none⟩ bs) (hbl : bs.length = 64) (hc : 64 ≤ c) (hc2 : c ≤ 1099511627776) :
    Calls Tryd.prog 54 #[.slice (some ⟨b, off, none⟩) 64 c] w fun e w' => ∃ v, e = .returned v ∧ w'.ownsRow w.heap.size 44 1 v 64 (Ws (sched bs 64)) ∧ Below w.heap.size w w' := by
  obtain ⟨i0, hi, hz0, hz1, hz2⟩ := info_parts infoWord
  have hc3 : (64 : Int) ≤ c := by omega
  have HB := Lib.hid hb
  have HL := Lib.hid hbl
  clear hb hbl
  go_enter Tryd.func54, Tryd.ntmps54
  go_wp2_with fail
  go_loopw [3, 4] (fun o i wr => ∃ k : Nat, i = .int .i64 (k : Int) ∧ k ≤ 16 ∧ wr.ownsRow w.heap.size 44 1 o k (Ws (sched bs k)) ∧ Below w.heap.size w wr) (fun _ i _ => 16 - (intOf i).toNat)
  case atStart => exact ⟨0, rfl, by omega, ⟨rfl, .inl ⟨rfl, rfl⟩⟩, Below.refl _ _⟩
  case round =>
    obtain ⟨k, rfl, hk, hown, hbel⟩ := hrel
    have hbase : w.heap.size ≤ wr.heap.size := hbel.size
    by_cases hk6 : k < 16
    · have hk7 : (k : Int) < 16 := by omega
      obtain ⟨m, hm⟩ : ∃ m, m = 4 * k := ⟨_, rfl⟩
      have hm9 : m ≤ 60 := by omega
      have hm5 : (m : Int) ≤ 60 := by omega
      have hm6 : (0 : Int) ≤ m := by omega
      have hwk : IntKind.i64.wrap (4 * (k : Int)) = (m : Int) := by rw [IntWalk.i64_in _ (by omega)]; omega
      have hw1 : IntKind.i64.wrap ((m : Int) + 1) = (m : Int) + 1 := IntWalk.i64_in _ (by omega)
      have hw2 : IntKind.i64.wrap ((m : Int) + 2) = (m : Int) + 2 := IntWalk.i64_in _ (by omega)
      have hw3 : IntKind.i64.wrap ((m : Int) + 3) = (m : Int) + 3 := IntWalk.i64_in _ (by omega)
      have b0 : (m : Int) < 64 := by omega
      have b1 : 0 ≤ (m : Int) + 1 ∧ (m : Int) + 1 < 64 := by omega
      have b2 : 0 ≤ (m : Int) + 2 ∧ (m : Int) + 2 < 64 := by omega
      have b3 : 0 ≤ (m : Int) + 3 ∧ (m : Int) + 3 < 64 := by omega
      have hn1 : ((m : Int) + 1).toNat = m + 1 := by omega
      have hn2 : ((m : Int) + 2).toNat = m + 2 := by omega
      have hn3 : ((m : Int) + 3).toNat = m + 3 := by omega
      have hadd : ∀ n, (⟨b, off, none⟩ : Addr).add n = ⟨b, off + n, none⟩ := fun n => by unfold Addr.add; split <;> simp_all
      obtain ⟨a0, ha0⟩ : ∃ a : Nat, a = (bs[m]'(by have := HL.out; omega)).toNat := ⟨_, rfl⟩
      have hl0 := (bs[m]'(by have := HL.out; omega)).toNat_lt
      have cc0 : ∀ wz, Below w.heap.size w wz → wz.cell? ⟨b, off + (m), none⟩ = some (.int .u8 (a0 : Int)) := fun wz hz => by rw [ha0]; have := (HB.out.below hz).2 (m) (by have := HL.out; omega); rwa [hadd] at this
      rw [← ha0] at hl0
      have hi0 : (a0 : Int) ≤ 255 := by omega
      obtain ⟨a1, ha1⟩ : ∃ a : Nat, a = (bs[m + 1]'(by have := HL.out; omega)).toNat := ⟨_, rfl⟩
      have hl1 := (bs[m + 1]'(by have := HL.out; omega)).toNat_lt
      have cc1 : ∀ wz, Below w.heap.size w wz → wz.cell? ⟨b, off + (m + 1), none⟩ = some (.int .u8 (a1 : Int)) := fun wz hz => by rw [ha1]; have := (HB.out.below hz).2 (m + 1) (by have := HL.out; omega); rwa [hadd] at this
      rw [← ha1] at hl1
      have hi1 : (a1 : Int) ≤ 255 := by omega
      obtain ⟨a2, ha2⟩ : ∃ a : Nat, a = (bs[m + 2]'(by have := HL.out; omega)).toNat := ⟨_, rfl⟩
      have hl2 := (bs[m + 2]'(by have := HL.out; omega)).toNat_lt
      have cc2 : ∀ wz, Below w.heap.size w wz → wz.cell? ⟨b, off + (m + 2), none⟩ = some (.int .u8 (a2 : Int)) := fun wz hz => by rw [ha2]; have := (HB.out.below hz).2 (m + 2) (by have := HL.out; omega); rwa [hadd] at this
      rw [← ha2] at hl2
      have hi2 : (a2 : Int) ≤ 255 := by omega
      obtain ⟨a3, ha3⟩ : ∃ a : Nat, a = (bs[m + 3]'(by have := HL.out; omega)).toNat := ⟨_, rfl⟩
      have hl3 := (bs[m + 3]'(by have := HL.out; omega)).toNat_lt
      have cc3 : ∀ wz, Below w.heap.size w wz → wz.cell? ⟨b, off + (m + 3), none⟩ = some (.int .u8 (a3 : Int)) := fun wz hz => by rw [ha3]; have := (HB.out.below hz).2 (m + 3) (by have := HL.out; omega); rwa [hadd] at this
      rw [← ha3] at hl3
      have hi3 : (a3 : Int) ≤ 255 := by omega
      have hword : ((word bs k).toNat : Nat) = a0 * 16777216 + a1 * 65536 + a2 * 256 + a3 := by
        have hl := HL.out
        rw [word, ← hm, BitVec.toNat_ofNat, ha0, ha1, ha2, ha3]
        simp only [List.getD_eq_getElem?_getD]
        rw [List.getElem?_eq_getElem (by omega), List.getElem?_eq_getElem (by omega), List.getElem?_eq_getElem (by omega), List.getElem?_eq_getElem (by omega)]
        simp only [Option.getD_some]
        rw [← ha0, ← ha1, ← ha2, ← ha3]
        omega
      have HW := Lib.hid hword
      have hk0 : (0 : Int) ≤ k := by omega
      have f0 : IntKind.u32.wrap ((a0 : Int) * 16777216) = (a0 : Int) * 16777216 := IntWalk.u32_in _ (by omega)
      have f1 : IntKind.u32.wrap ((a1 : Int) * 65536) = (a1 : Int) * 65536 := IntWalk.u32_in _ (by omega)
      have f2 : IntKind.u32.wrap ((a2 : Int) * 256) = (a2 : Int) * 256 := IntWalk.u32_in _ (by omega)
      have f3 : IntKind.u32.wrap ((a0 : Int) * 16777216 + (a1 : Int) * 65536) = (a0 : Int) * 16777216 + (a1 : Int) * 65536 := IntWalk.u32_in _ (by omega)
      have f4 : IntKind.u32.wrap ((a0 : Int) * 16777216 + (a1 : Int) * 65536 + (a2 : Int) * 256) = (a0 : Int) * 16777216 + (a1 : Int) * 65536 + (a2 : Int) * 256 := IntWalk.u32_in _ (by omega)
      have f5 : IntKind.u32.wrap ((a0 : Int) * 16777216 + (a1 : Int) * 65536 + (a2 : Int) * 256 + (a3 : Int)) = (a0 : Int) * 16777216 + (a1 : Int) * 65536 + (a2 : Int) * 256 + (a3 : Int) := IntWalk.u32_in _ (by omega)
      have f6 : IntKind.u32.wrap (a0 : Int) = (a0 : Int) := IntWalk.u32_in _ (by omega)
      have f7 : IntKind.u32.wrap (a1 : Int) = (a1 : Int) := IntWalk.u32_in _ (by omega)
      have f8 : IntKind.u32.wrap (a2 : Int) = (a2 : Int) := IntWalk.u32_in _ (by omega)
      have f9 : IntKind.u32.wrap (a3 : Int) = (a3 : Int) := IntWalk.u32_in _ (by omega)
      clear hadd
      clear hword ha0 ha1 ha2 ha3 hl0 hl1 hl2 hl3 hm hm9
      go_wp2_with fail
      have CC : Hid (∀ wz, Below w.heap.size w wz → wz.cell? ⟨b, off + m, none⟩ = some (.int .u8 (a0 : Int)) ∧ wz.cell? ⟨b, off + (m + 1), none⟩ = some (.int .u8 (a1 : Int)) ∧ wz.cell? ⟨b, off + (m + 2), none⟩ = some (.int .u8 (a2 : Int)) ∧ wz.cell? ⟨b, off + (m + 3), none⟩ = some (.int .u8 (a3 : Int))) := Lib.hid fun wz hz => ⟨cc0 wz hz, cc1 wz hz, cc2 wz hz, cc3 wz hz⟩
      clear cc0 cc1 cc2 cc3
      refine wp_region_held_drew (S := fun w' => w'.cell? ⟨b, off + m, none⟩ = some (.int .u8 (a0 : Int)) ∧ w'.cell? ⟨b, off + (m + 1), none⟩ = some (.int .u8 (a1 : Int)) ∧ w'.cell? ⟨b, off + (m + 2), none⟩ = some (.int .u8 (a2 : Int)) ∧ w'.cell? ⟨b, off + (m + 3), none⟩ = some (.int .u8 (a3 : Int))) (by kernel_rfl) (CC.out _ hbel.drew) (fun hHeld => ?_)
      refine wpAnyH_take (i := 0) (oi := ⟨_, _, _, _, _, _⟩) (v := ?_) rfl (by kernel_rfl) (by kernel_rfl) (by kernel_rfl) (fun _ _ _ h => h) (Or.inl ⟨by rfl, ?_⟩) (by assumption) ?_
      rotate_left
      · intro wz hSw
        try dsimp only at hSw
        obtain ⟨cc0, cc1, cc2, cc3⟩ := hSw
        go_simp
        try with_reducible rfl
      try simp only [Act.put, List.setIfInBounds_toArray, List.set_cons_zero, List.set_cons_succ]
      refine wpAnyH_take (i := 1) (oi := ⟨_, _, _, _, _, _⟩) (v := ?_) rfl (by kernel_rfl) (by kernel_rfl) (by kernel_rfl) (fun _ _ _ h => h) (Or.inl ⟨by rfl, ?_⟩) (by assumption) ?_
      rotate_left
      · intro wz hSw
        try dsimp only at hSw
        obtain ⟨cc0, cc1, cc2, cc3⟩ := hSw
        go_simp
        try with_reducible rfl
      try simp only [Act.put, List.setIfInBounds_toArray, List.set_cons_zero, List.set_cons_succ]
      refine wpAnyH_take (i := 2) (oi := ⟨_, _, _, _, _, _⟩) (v := ?_) rfl (by kernel_rfl) (by kernel_rfl) (by kernel_rfl) (fun _ _ _ h => h) (Or.inl ⟨by rfl, ?_⟩) (by assumption) ?_
      rotate_left
      · intro wz hSw
        try dsimp only at hSw
        obtain ⟨cc0, cc1, cc2, cc3⟩ := hSw
        go_simp
        try with_reducible rfl
      try simp only [Act.put, List.setIfInBounds_toArray, List.set_cons_zero, List.set_cons_succ]
      refine wpAnyH_take (i := 3) (oi := ⟨_, _, _, _, _, _⟩) (v := ?_) rfl (by kernel_rfl) (by kernel_rfl) (by kernel_rfl) (fun _ _ _ h => h) (Or.inl ⟨by rfl, ?_⟩) (by assumption) ?_
      rotate_left
      · intro wz hSw
        try dsimp only at hSw
        obtain ⟨cc0, cc1, cc2, cc3⟩ := hSw
        go_simp
        try with_reducible rfl
      try simp only [Act.put, List.setIfInBounds_toArray, List.set_cons_zero, List.set_cons_succ]
      refine wpAnyH_take (i := 4) (oi := ⟨_, _, _, _, _, _⟩) (v := ?_) rfl (by kernel_rfl) (by kernel_rfl) (by kernel_rfl) (fun _ _ _ h => h) (Or.inl ⟨by rfl, ?_⟩) (by assumption) ?_
      rotate_left
      · intro wz hSw
        try dsimp only at hSw
        obtain ⟨cc0, cc1, cc2, cc3⟩ := hSw
        go_simp
        try with_reducible rfl
      try simp only [Act.put, List.setIfInBounds_toArray, List.set_cons_zero, List.set_cons_succ]
      refine wpAnyH_take (i := 5) (oi := ⟨_, _, _, _, _, _⟩) (v := ?_) rfl (by kernel_rfl) (by kernel_rfl) (by kernel_rfl) (fun _ _ _ h => h) (Or.inl ⟨by rfl, ?_⟩) (by assumption) ?_
      rotate_left
      · intro wz hSw
        try dsimp only at hSw
        obtain ⟨cc0, cc1, cc2, cc3⟩ := hSw
        go_simp
        try with_reducible rfl
      try simp only [Act.put, List.setIfInBounds_toArray, List.set_cons_zero, List.set_cons_succ]
      refine wpAnyH_take (i := 6) (oi := ⟨_, _, _, _, _, _⟩) (v := ?_) rfl (by kernel_rfl) (by kernel_rfl) (by kernel_rfl) (fun _ _ _ h => h) (Or.inl ⟨by rfl, ?_⟩) (by assumption) ?_
      rotate_left
      · intro wz hSw
        try dsimp only at hSw
        obtain ⟨cc0, cc1, cc2, cc3⟩ := hSw
        go_simp
        try with_reducible rfl
      try simp only [Act.put, List.setIfInBounds_toArray, List.set_cons_zero, List.set_cons_succ]
      refine wpAnyH_take (i := 7) (oi := ⟨_, _, _, _, _, _⟩) (v := ?_) rfl (by kernel_rfl) (by kernel_rfl) (by kernel_rfl) (fun _ _ _ h => h) (Or.inl ⟨by rfl, ?_⟩) (by assumption) ?_
      rotate_left
      · intro wz hSw
        try dsimp only at hSw
        obtain ⟨cc0, cc1, cc2, cc3⟩ := hSw
        go_simp
        try with_reducible rfl
      try simp only [Act.put, List.setIfInBounds_toArray, List.set_cons_zero, List.set_cons_succ]
      refine wpAnyH_take (i := 8) (oi := ⟨_, _, _, _, _, _⟩) (v := ?_) rfl (by kernel_rfl) (by kernel_rfl) (by kernel_rfl) (fun _ _ _ h => h) (Or.inl ⟨by rfl, ?_⟩) (by assumption) ?_
      rotate_left
      · intro wz hSw
        try dsimp only at hSw
        obtain ⟨cc0, cc1, cc2, cc3⟩ := hSw
        go_simp
        try with_reducible rfl
      try simp only [Act.put, List.setIfInBounds_toArray, List.set_cons_zero, List.set_cons_succ]
      refine wpAnyH_take (i := 9) (oi := ⟨_, _, _, _, _, _⟩) (v := ?_) rfl (by kernel_rfl) (by kernel_rfl) (by kernel_rfl) (fun _ _ _ h => h) (Or.inl ⟨by rfl, ?_⟩) (by assumption) ?_
      rotate_left
      · intro wz hSw
        try dsimp only at hSw
        obtain ⟨cc0, cc1, cc2, cc3⟩ := hSw
        go_simp
        try with_reducible rfl
      try simp only [Act.put, List.setIfInBounds_toArray, List.set_cons_zero, List.set_cons_succ]
      refine wpAnyH_take (i := 10) (oi := ⟨_, _, _, _, _, _⟩) (v := ?_) rfl (by kernel_rfl) (by kernel_rfl) (by kernel_rfl) (fun _ _ _ h => h) (Or.inl ⟨by rfl, ?_⟩) (by assumption) ?_
      rotate_left
      · intro wz hSw
        try dsimp only at hSw
        obtain ⟨cc0, cc1, cc2, cc3⟩ := hSw
        go_simp
        try with_reducible rfl
      try simp only [Act.put, List.setIfInBounds_toArray, List.set_cons_zero, List.set_cons_succ]
      refine wpAnyH_take (i := 11) (oi := ⟨_, _, _, _, _, _⟩) (v := ?_) rfl (by kernel_rfl) (by kernel_rfl) (by kernel_rfl) (fun _ _ _ h => h) (Or.inl ⟨by rfl, ?_⟩) (by assumption) ?_
      rotate_left
      · intro wz hSw
        try dsimp only at hSw
        obtain ⟨cc0, cc1, cc2, cc3⟩ := hSw
        go_simp
        try with_reducible rfl
      try simp only [Act.put, List.setIfInBounds_toArray, List.set_cons_zero, List.set_cons_succ]
      refine wpAnyH_take (i := 12) (oi := ⟨_, _, _, _, _, _⟩) (v := ?_) rfl (by kernel_rfl) (by kernel_rfl) (by kernel_rfl) (fun _ _ _ h => h) (Or.inl ⟨by rfl, ?_⟩) (by assumption) ?_
      rotate_left
      · intro wz hSw
        try dsimp only at hSw
        obtain ⟨cc0, cc1, cc2, cc3⟩ := hSw
        go_simp
        try with_reducible rfl
      try simp only [Act.put, List.setIfInBounds_toArray, List.set_cons_zero, List.set_cons_succ]
      refine wpAnyH_take (i := 13) (oi := ⟨_, _, _, _, _, _⟩) (v := ?_) rfl (by kernel_rfl) (by kernel_rfl) (by kernel_rfl) (fun _ _ _ h => h) (Or.inl ⟨by rfl, ?_⟩) (by assumption) ?_
      rotate_left
      · intro wz hSw
        try dsimp only at hSw
        obtain ⟨cc0, cc1, cc2, cc3⟩ := hSw
        go_simp
        try with_reducible rfl
      try simp only [Act.put, List.setIfInBounds_toArray, List.set_cons_zero, List.set_cons_succ]
      refine wpAnyH_take (i := 14) (oi := ⟨_, _, _, _, _, _⟩) (v := ?_) rfl (by kernel_rfl) (by kernel_rfl) (by kernel_rfl) (fun _ _ _ h => h) (Or.inl ⟨by rfl, ?_⟩) (by assumption) ?_
      rotate_left
      · intro wz hSw
        try dsimp only at hSw
        obtain ⟨cc0, cc1, cc2, cc3⟩ := hSw
        go_simp
        try with_reducible rfl
      try simp only [Act.put, List.setIfInBounds_toArray, List.set_cons_zero, List.set_cons_succ]
      refine wpAnyH_take (i := 15) (oi := ⟨_, _, _, _, _, _⟩) (v := ?_) rfl (by kernel_rfl) (by kernel_rfl) (by kernel_rfl) (fun _ _ _ h => h) (Or.inl ⟨by rfl, ?_⟩) (by assumption) ?_
      rotate_left
      · intro wz hSw
        try dsimp only at hSw
        obtain ⟨cc0, cc1, cc2, cc3⟩ := hSw
        go_simp
        try with_reducible rfl
      try simp only [Act.put, List.setIfInBounds_toArray, List.set_cons_zero, List.set_cons_succ]
      refine wpAnyH_take (i := 16) (oi := ⟨_, _, _, _, _, _⟩) (v := ?_) rfl (by kernel_rfl) (by kernel_rfl) (by kernel_rfl) (fun _ _ _ h => h) (Or.inl ⟨by rfl, ?_⟩) (by assumption) ?_
      rotate_left
      · intro wz hSw
        try dsimp only at hSw
        obtain ⟨cc0, cc1, cc2, cc3⟩ := hSw
        go_simp
        try with_reducible rfl
      try simp only [Act.put, List.setIfInBounds_toArray, List.set_cons_zero, List.set_cons_succ]
      refine wpAnyH_take (i := 17) (oi := ⟨_, _, _, _, _, _⟩) (v := ?_) rfl (by kernel_rfl) (by kernel_rfl) (by kernel_rfl) (fun _ _ _ h => h) (Or.inl ⟨by rfl, ?_⟩) (by assumption) ?_
      rotate_left
      · intro wz hSw
        try dsimp only at hSw
        obtain ⟨cc0, cc1, cc2, cc3⟩ := hSw
        go_simp
        try with_reducible rfl
      try simp only [Act.put, List.setIfInBounds_toArray, List.set_cons_zero, List.set_cons_succ]
      refine wpAnyH_take (i := 18) (oi := ⟨_, _, _, _, _, _⟩) (v := ?_) rfl (by kernel_rfl) (by kernel_rfl) (by kernel_rfl) (fun _ _ _ h => h) (Or.inl ⟨by rfl, ?_⟩) (by assumption) ?_
      rotate_left
      · intro wz hSw
        try dsimp only at hSw
        obtain ⟨cc0, cc1, cc2, cc3⟩ := hSw
        go_simp
        try with_reducible rfl
      try simp only [Act.put, List.setIfInBounds_toArray, List.set_cons_zero, List.set_cons_succ]
      refine wpAnyH_take (i := 19) (oi := ⟨_, _, _, _, _, _⟩) (v := ?_) rfl (by kernel_rfl) (by kernel_rfl) (by kernel_rfl) (fun _ _ _ h => h) (Or.inl ⟨by rfl, ?_⟩) (by assumption) ?_
      rotate_left
      · intro wz hSw
        try dsimp only at hSw
        obtain ⟨cc0, cc1, cc2, cc3⟩ := hSw
        go_simp
        try with_reducible rfl
      try simp only [Act.put, List.setIfInBounds_toArray, List.set_cons_zero, List.set_cons_succ]
      refine wpAnyH_take (i := 20) (oi := ⟨_, _, _, _, _, _⟩) (v := ?_) rfl (by kernel_rfl) (by kernel_rfl) (by kernel_rfl) (fun _ _ _ h => h) (Or.inl ⟨by rfl, ?_⟩) (by assumption) ?_
      rotate_left
      · intro wz hSw
        try dsimp only at hSw
        obtain ⟨cc0, cc1, cc2, cc3⟩ := hSw
        go_simp
        try with_reducible rfl
      try simp only [Act.put, List.setIfInBounds_toArray, List.set_cons_zero, List.set_cons_succ]
      refine wpAnyH_take (i := 21) (oi := ⟨_, _, _, _, _, _⟩) (v := ?_) rfl (by kernel_rfl) (by kernel_rfl) (by kernel_rfl) (fun _ _ _ h => h) (Or.inl ⟨by rfl, ?_⟩) (by assumption) ?_
      rotate_left
      · intro wz hSw
        try dsimp only at hSw
        obtain ⟨cc0, cc1, cc2, cc3⟩ := hSw
        go_simp
        try with_reducible rfl
      try simp only [Act.put, List.setIfInBounds_toArray, List.set_cons_zero, List.set_cons_succ]
      refine wpAnyH_take (i := 22) (oi := ⟨_, _, _, _, _, _⟩) (v := ?_) rfl (by kernel_rfl) (by kernel_rfl) (by kernel_rfl) (fun _ _ _ h => h) (Or.inl ⟨by rfl, ?_⟩) (by assumption) ?_
      rotate_left
      · intro wz hSw
        try dsimp only at hSw
        obtain ⟨cc0, cc1, cc2, cc3⟩ := hSw
        go_simp
        try with_reducible rfl
      try simp only [Act.put, List.setIfInBounds_toArray, List.set_cons_zero, List.set_cons_succ]
      refine wpAnyH_take (i := 23) (oi := ⟨_, _, _, _, _, _⟩) (v := ?_) rfl (by kernel_rfl) (by kernel_rfl) (by kernel_rfl) (fun _ _ _ h => h) (Or.inl ⟨by rfl, ?_⟩) (by assumption) ?_
      rotate_left
      · intro wz hSw
        try dsimp only at hSw
        obtain ⟨cc0, cc1, cc2, cc3⟩ := hSw
        go_simp
        try with_reducible rfl
      try simp only [Act.put, List.setIfInBounds_toArray, List.set_cons_zero, List.set_cons_succ]
      refine wpAnyH_take (i := 24) (oi := ⟨_, _, _, _, _, _⟩) (v := ?_) rfl (by kernel_rfl) (by kernel_rfl) (by kernel_rfl) (fun _ _ _ h => h) (Or.inl ⟨by rfl, ?_⟩) (by assumption) ?_
      rotate_left
      · intro wz hSw
        try dsimp only at hSw
        obtain ⟨cc0, cc1, cc2, cc3⟩ := hSw
        go_simp
        try with_reducible rfl
      try simp only [Act.put, List.setIfInBounds_toArray, List.set_cons_zero, List.set_cons_succ]
      refine wpAnyH_take (i := 25) (oi := ⟨_, _, _, _, _, _⟩) (v := ?_) rfl (by kernel_rfl) (by kernel_rfl) (by kernel_rfl) (fun _ _ _ h => h) (Or.inl ⟨by rfl, ?_⟩) (by assumption) ?_
      rotate_left
      · intro wz hSw
        try dsimp only at hSw
        obtain ⟨cc0, cc1, cc2, cc3⟩ := hSw
        go_simp
        try with_reducible rfl
      try simp only [Act.put, List.setIfInBounds_toArray, List.set_cons_zero, List.set_cons_succ]
      refine wpAnyH_take (i := 26) (oi := ⟨_, _, _, _, _, _⟩) (v := ?_) rfl (by kernel_rfl) (by kernel_rfl) (by kernel_rfl) (fun _ _ _ h => h) (Or.inl ⟨by rfl, ?_⟩) (by assumption) ?_
      rotate_left
      · intro wz hSw
        try dsimp only at hSw
        obtain ⟨cc0, cc1, cc2, cc3⟩ := hSw
        go_simp
        try with_reducible rfl
      try simp only [Act.put, List.setIfInBounds_toArray, List.set_cons_zero, List.set_cons_succ]
      refine wpAnyH_take (i := 27) (oi := ⟨_, _, _, _, _, _⟩) (v := ?_) rfl (by kernel_rfl) (by kernel_rfl) (by kernel_rfl) (fun _ _ _ h => h) (Or.inl ⟨by rfl, ?_⟩) (by assumption) ?_
      rotate_left
      · intro wz hSw
        try dsimp only at hSw
        obtain ⟨cc0, cc1, cc2, cc3⟩ := hSw
        go_simp
        try with_reducible rfl
      try simp only [Act.put, List.setIfInBounds_toArray, List.set_cons_zero, List.set_cons_succ]
      refine wpAnyH_take (i := 28) (oi := ⟨_, _, _, _, _, _⟩) (v := ?_) rfl (by kernel_rfl) (by kernel_rfl) (by kernel_rfl) (fun _ _ _ h => h) (Or.inl ⟨by rfl, ?_⟩) (by assumption) ?_
      rotate_left
      · intro wz hSw
        try dsimp only at hSw
        obtain ⟨cc0, cc1, cc2, cc3⟩ := hSw
        go_simp
        try with_reducible rfl
      try simp only [Act.put, List.setIfInBounds_toArray, List.set_cons_zero, List.set_cons_succ]
      refine wpAnyH_take (i := 29) (oi := ⟨_, _, _, _, _, _⟩) (v := ?_) rfl (by kernel_rfl) (by kernel_rfl) (by kernel_rfl) (fun _ _ _ h => h) (Or.inl ⟨by rfl, ?_⟩) (by assumption) ?_
      rotate_left
      · intro wz hSw
        try dsimp only at hSw
        obtain ⟨cc0, cc1, cc2, cc3⟩ := hSw
        go_simp
        try with_reducible rfl
      try simp only [Act.put, List.setIfInBounds_toArray, List.set_cons_zero, List.set_cons_succ]
      refine wpAnyH_take (i := 30) (oi := ⟨_, _, _, _, _, _⟩) (v := ?_) rfl (by kernel_rfl) (by kernel_rfl) (by kernel_rfl) (fun _ _ _ h => h) (Or.inl ⟨by rfl, ?_⟩) (by assumption) ?_
      rotate_left
      · intro wz hSw
        try dsimp only at hSw
        obtain ⟨cc0, cc1, cc2, cc3⟩ := hSw
        go_simp
        try with_reducible rfl
      try simp only [Act.put, List.setIfInBounds_toArray, List.set_cons_zero, List.set_cons_succ]
      refine wpAnyH_take (i := 31) (oi := ⟨_, _, _, _, _, _⟩) (v := ?_) rfl (by kernel_rfl) (by kernel_rfl) (by kernel_rfl) (fun _ _ _ h => h) (Or.inl ⟨by rfl, ?_⟩) (by assumption) ?_
      rotate_left
      · intro wz hSw
        try dsimp only at hSw
        obtain ⟨cc0, cc1, cc2, cc3⟩ := hSw
        go_simp
        try with_reducible rfl
      try simp only [Act.put, List.setIfInBounds_toArray, List.set_cons_zero, List.set_cons_succ]
      refine wpAnyH_take (i := 32) (oi := ⟨_, _, _, _, _, _⟩) (v := ?_) rfl (by kernel_rfl) (by kernel_rfl) (by kernel_rfl) (fun _ _ _ h => h) (Or.inl ⟨by rfl, ?_⟩) (by assumption) ?_
      rotate_left
      · intro wz hSw
        try dsimp only at hSw
        obtain ⟨cc0, cc1, cc2, cc3⟩ := hSw
        go_simp
        try with_reducible rfl
      try simp only [Act.put, List.setIfInBounds_toArray, List.set_cons_zero, List.set_cons_succ]
      refine wpAnyH_take (i := 33) (oi := ⟨_, _, _, _, _, _⟩) (v := ?_) rfl (by kernel_rfl) (by kernel_rfl) (by kernel_rfl) (fun _ _ _ h => h) (Or.inl ⟨by rfl, ?_⟩) (by assumption) ?_
      rotate_left
      · intro wz hSw
        try dsimp only at hSw
        obtain ⟨cc0, cc1, cc2, cc3⟩ := hSw
        go_simp
        try with_reducible rfl
      try simp only [Act.put, List.setIfInBounds_toArray, List.set_cons_zero, List.set_cons_succ]
      refine wpAnyH_ready (rs := [34]) (by kernel_rfl) (by simp) ?_
      refine AllReadyH.cons (o := ⟨_, _, _, _, _, _⟩) rfl (fun K hK => ?_) AllReadyH.nil
      go_simp
      have hbel2 : Below w.heap.size w wr.drew := hbel.drew
      have hbase2 : w.heap.size ≤ wr.drew.heap.size := hbase
      refine hK.out _ _ (CC.out _ (hbel2.alloc hbase2 _)) (fun hHeld => ?_)
      clear hK K
      try simp only [Act.put, List.setIfInBounds_toArray, List.set_cons_zero, List.set_cons_succ]
      refine wpAnyH_ready (rs := [35]) (by kernel_rfl) (by simp) ?_
      refine AllReadyH.cons (o := ⟨_, _, _, _, _, _⟩) rfl (fun K hK => ?_) AllReadyH.nil
      have hown2 : wr.drew.ownsRow w.heap.size 44 1 u3 k (Ws (sched bs k)) := hown
      refine step_append_own rfl _ _ 57 rfl w.heap.size 44 i0 (.int .u32 0) 1 4 Tryd.underlying57 hi hz0 hz1 hz2 rfl (by decide) _ _ _ rfl (hown2.alloc _) ⟨wr.heap.size, 0, none⟩ 1 1 [.int .u32 ((a0 : Int) * 16777216 + (a1 : Int) * 65536 + (a2 : Int) * 256 + (a3 : Int))] rfl rfl one_cell (fun u hu => by simp at hu; subst hu; rfl) (by unfold maxLen; omega) (by omega) (by simp; omega) ?_
      intro v' w1 hown' hgrow
      have R := words_more (b := bs) hk6 (by rw [HW.out]; omega) hbase2 hown2 hbel2 hown' hgrow
      have R2 := R.1
      have R3 := R.2
      clear hown' hgrow hown hown2 hbel hbel2 R
      refine hK.out _ _ (CC.out _ R3) (fun hHeld => ?_)
      clear hK K
      try simp only [Act.put, List.setIfInBounds_toArray, List.set_cons_zero, List.set_cons_succ]
      refine wpAnyH_take (i := 36) (oi := ⟨_, _, _, _, _, _⟩) (v := ?_) rfl (by kernel_rfl) (by kernel_rfl) (by kernel_rfl) (fun _ _ _ h => h) (Or.inl ⟨by rfl, ?_⟩) (by assumption) ?_
      rotate_left
      · intro wz hSw
        go_simp
        try with_reducible rfl
      try simp only [Act.put, List.setIfInBounds_toArray, List.set_cons_zero, List.set_cons_succ]
      refine wpAnyH_done (by kernel_rfl) ?_ _
      go_wp2
      go_roundw
      case rel => exact ⟨k + 1, by go_num, by omega, R2, R3⟩
      case measure => simp [intOf]; omega
    · have hk7 : k = 16 := by omega
      subst hk7
      rw [show ((16 : Nat) : Int) = 16 from rfl]
      go_wp2_with fail
      go_loopw [3, 5] (fun o i wr => ∃ k : Nat, i = .int .i64 (k : Int) ∧ 16 ≤ k ∧ k ≤ 64 ∧ wr.ownsRow w.heap.size 44 1 o k (Ws (sched bs k)) ∧ Below w.heap.size w wr) (fun _ i _ => 64 - (intOf i).toNat)
      case atStart => exact ⟨16, rfl, by omega, by omega, hown, hbel⟩
      case round =>
        clear hown hbel hbase
        obtain ⟨k, rfl, hk1, hk2, hown, hbel⟩ := hrel
        have hbase : w.heap.size ≤ wr.heap.size := hbel.size
        by_cases hk6 : k < 64
        · have hk7 : (k : Int) < 64 := by omega
          obtain ⟨g, cap, hform, hcell, hgb⟩ := own_form hown (by omega)
          subst hform
          obtain ⟨p16, hp16⟩ : ∃ p, p = k - 16 := ⟨_, rfl⟩
          obtain ⟨p15, hp15⟩ : ∃ p, p = k - 15 := ⟨_, rfl⟩
          obtain ⟨p7, hp7⟩ : ∃ p, p = k - 7 := ⟨_, rfl⟩
          obtain ⟨p2, hp2⟩ : ∃ p, p = k - 2 := ⟨_, rfl⟩
          have w16 : IntKind.i64.wrap ((k : Int) - 16) = (p16 : Int) := by rw [IntWalk.i64_in _ (by omega)]; omega
          have w15 : IntKind.i64.wrap ((k : Int) - 15) = (p15 : Int) := by rw [IntWalk.i64_in _ (by omega)]; omega
          have w7 : IntKind.i64.wrap ((k : Int) - 7) = (p7 : Int) := by rw [IntWalk.i64_in _ (by omega)]; omega
          have w2 : IntKind.i64.wrap ((k : Int) - 2) = (p2 : Int) := by rw [IntWalk.i64_in _ (by omega)]; omega
          have b16 : (p16 : Int) < k := by omega
          have b15 : (p15 : Int) < k := by omega
          have b7 : (p7 : Int) < k := by omega
          have b2 : (p2 : Int) < k := by omega
          have d16 := hcell p16 (by omega)
          have d15 := hcell p15 (by omega)
          have d7 := hcell p7 (by omega)
          have d2 := hcell p2 (by omega)
          have hmore : more (sched bs k) k = (sched bs k).getD p16 0 + sig0 ((sched bs k).getD p15 0) + (sched bs k).getD p7 0 + sig1 ((sched bs k).getD p2 0) := by rw [more, hp16, hp15, hp7, hp2]
          obtain ⟨x16, hx16⟩ : ∃ x, x = (sched bs k).getD p16 0 := ⟨_, rfl⟩
          obtain ⟨x15, hx15⟩ : ∃ x, x = (sched bs k).getD p15 0 := ⟨_, rfl⟩
          obtain ⟨x7, hx7⟩ : ∃ x, x = (sched bs k).getD p7 0 := ⟨_, rfl⟩
          obtain ⟨x2, hx2⟩ : ∃ x, x = (sched bs k).getD p2 0 := ⟨_, rfl⟩
          rw [← hx16] at hmore d16
          rw [← hx15] at hmore d15
          rw [← hx7] at hmore d7
          rw [← hx2] at hmore d2
          have HM := Lib.hid hmore
          clear hmore hx16 hx15 hx7 hx2 hcell hp16 hp15 hp7 hp2
          obtain ⟨r1, hr1⟩ : ∃ r, r = rot x15 7 := ⟨_, rfl⟩
          obtain ⟨r2, hr2⟩ : ∃ r, r = rot x15 18 := ⟨_, rfl⟩
          obtain ⟨r3, hr3⟩ : ∃ r, r = rot x2 17 := ⟨_, rfl⟩
          obtain ⟨r4, hr4⟩ : ∃ r, r = rot x2 19 := ⟨_, rfl⟩
          have t1 := fun w => refTurn_lit x15 7 7 w rfl (by omega)
          have t2 := fun w => refTurn_lit x15 18 18 w rfl (by omega)
          have t3 := fun w => refTurn_lit x2 17 17 w rfl (by omega)
          have t4 := fun w => refTurn_lit x2 19 19 w rfl (by omega)
          rw [← hr1] at t1
          rw [← hr2] at t2
          rw [← hr3] at t3
          rw [← hr4] at t4
          have T1 := Lib.hid t1
          have T2 := Lib.hid t2
          have T3 := Lib.hid t3
          have T4 := Lib.hid t4
          obtain ⟨y1, hy1⟩ : ∃ y, y = x15 >>> 3 := ⟨_, rfl⟩
          obtain ⟨y2, hy2⟩ : ∃ y, y = x2 >>> 10 := ⟨_, rfl⟩
          have v1 : (x15.toNat : Int) / 8 = (y1.toNat : Int) := by rw [hy1]; exact shr_lit x15 3 8 rfl
          have v2 : (x2.toNat : Int) / 1024 = (y2.toNat : Int) := by rw [hy2]; exact shr_lit x2 10 1024 rfl
          obtain ⟨q1, hq1⟩ : ∃ q, q = r1 ^^^ r2 := ⟨_, rfl⟩
          obtain ⟨q2, hq2⟩ : ∃ q, q = r3 ^^^ r4 := ⟨_, rfl⟩
          obtain ⟨s0, hs0⟩ : ∃ q, q = q1 ^^^ y1 := ⟨_, rfl⟩
          obtain ⟨s1, hs1⟩ : ∃ q, q = q2 ^^^ y2 := ⟨_, rfl⟩
          have o1 : bits .xor .u32 (r1.toNat : Int) (r2.toNat : Int) = (q1.toNat : Int) := by rw [hq1]; exact xor_nat _ _
          have o2 : bits .xor .u32 (r3.toNat : Int) (r4.toNat : Int) = (q2.toNat : Int) := by rw [hq2]; exact xor_nat _ _
          have o3 : bits .xor .u32 (q1.toNat : Int) (y1.toNat : Int) = (s0.toNat : Int) := by rw [hs0]; exact xor_nat _ _
          have o4 : bits .xor .u32 (q2.toNat : Int) (y2.toNat : Int) = (s1.toNat : Int) := by rw [hs1]; exact xor_nat _ _
          have g0 : s0 = sig0 x15 := by rw [hs0, hq1, hy1, hr1, hr2, sig0]
          have g1 : s1 = sig1 x2 := by rw [hs1, hq2, hy2, hr3, hr4, sig1]
          obtain ⟨z1, hz1'⟩ : ∃ z, z = x16 + s0 := ⟨_, rfl⟩
          obtain ⟨z2, hz2'⟩ : ∃ z, z = z1 + x7 := ⟨_, rfl⟩
          obtain ⟨z3, hz3'⟩ : ∃ z, z = z2 + s1 := ⟨_, rfl⟩
          have n1 : IntKind.u32.wrap ((x16.toNat : Int) + (s0.toNat : Int)) = (z1.toNat : Int) := by rw [hz1']; exact add_nat _ _
          have n2 : IntKind.u32.wrap ((z1.toNat : Int) + (x7.toNat : Int)) = (z2.toNat : Int) := by rw [hz2']; exact add_nat _ _
          have n3 : IntKind.u32.wrap ((z2.toNat : Int) + (s1.toNat : Int)) = (z3.toNat : Int) := by rw [hz3']; exact add_nat _ _
          have hm3 : more (sched bs k) k = z3 := by rw [HM.out, hz3', hz2', hz1', g0, g1]
          have M3 := Lib.hid hm3
          clear t1 t2 t3 t4 hr1 hr2 hr3 hr4 hy1 hy2 hq1 hq2 hs0 hs1 g0 g1 hz1' hz2' hz3' hm3 HM
          go_wp2_with fail
          refine (T1.out _).mono ?_
          rintro e w1 ⟨rfl, m1, rfl⟩
          go_wp2_with fail
          refine (T2.out _).mono ?_
          rintro e w1 ⟨rfl, m2, rfl⟩
          go_wp2_with fail
          refine (T3.out _).mono ?_
          rintro e w1 ⟨rfl, m3, rfl⟩
          go_wp2_with fail
          refine (T4.out _).mono ?_
          rintro e w1 ⟨rfl, m4, rfl⟩
          have hown4 : ((wr.drewN (m1 + m2 + m3)).drewN m4).ownsRow w.heap.size 44 1 (.slice (some ⟨g, 0, none⟩) k cap) k (Ws (sched bs k)) := hown
          have hbel4 : Below w.heap.size w ((wr.drewN (m1 + m2 + m3)).drewN m4) := below_drewN (below_drewN hbel _) _
          have hgb4 : g < ((wr.drewN (m1 + m2 + m3)).drewN m4).heap.size := hgb
          have d164 : ((wr.drewN (m1 + m2 + m3)).drewN m4).cell? ⟨g, p16, none⟩ = some (.int .u32 ((x16.toNat : Nat) : Int)) := d16
          have d74 : ((wr.drewN (m1 + m2 + m3)).drewN m4).cell? ⟨g, p7, none⟩ = some (.int .u32 ((x7.toNat : Nat) : Int)) := d7
          obtain ⟨wz, hwz⟩ : ∃ wz, wz = (wr.drewN (m1 + m2 + m3)).drewN m4 := ⟨_, rfl⟩
          rw [← hwz] at hown4 hbel4 hgb4 d164 d74 ⊢
          clear hwz hown hbel hgb hbase d16 d15 d7 d2 T1 T2 T3 T4
          go_wp2_with fail
          have hown5 : wz.drew.ownsRow w.heap.size 44 1 (.slice (some ⟨g, 0, none⟩) k cap) k (Ws (sched bs k)) := hown4
          have hbel5 : Below w.heap.size w wz.drew := hbel4.drew
          have hbase5 : w.heap.size ≤ wz.drew.heap.size := hbel5.size
          refine wp_region_held_drew (S := fun _ => True) (by kernel_rfl) trivial (fun hHeld => ?_)
          refine wpAnyH_take (i := 0) (oi := ⟨_, _, _, _, _, _⟩) (v := ?_) rfl (by kernel_rfl) (by kernel_rfl) (by kernel_rfl) (fun _ _ _ h => h) (Or.inl ⟨by rfl, ?_⟩) (by assumption) ?_
          rotate_left
          · intro wz hSw
            try dsimp only at hSw
            go_simp
            try with_reducible rfl
          try simp only [Act.put, List.setIfInBounds_toArray, List.set_cons_zero, List.set_cons_succ]
          refine wpAnyH_take (i := 1) (oi := ⟨_, _, _, _, _, _⟩) (v := ?_) rfl (by kernel_rfl) (by kernel_rfl) (by kernel_rfl) (fun _ _ _ h => h) (Or.inl ⟨by rfl, ?_⟩) (by assumption) ?_
          rotate_left
          · intro wz hSw
            try dsimp only at hSw
            go_simp
            try with_reducible rfl
          try simp only [Act.put, List.setIfInBounds_toArray, List.set_cons_zero, List.set_cons_succ]
          refine wpAnyH_take (i := 2) (oi := ⟨_, _, _, _, _, _⟩) (v := ?_) rfl (by kernel_rfl) (by kernel_rfl) (by kernel_rfl) (fun _ _ _ h => h) (Or.inl ⟨by rfl, ?_⟩) (by assumption) ?_
          rotate_left
          · intro wz hSw
            try dsimp only at hSw
            go_simp
            try with_reducible rfl
          try simp only [Act.put, List.setIfInBounds_toArray, List.set_cons_zero, List.set_cons_succ]
          refine wpAnyH_take (i := 3) (oi := ⟨_, _, _, _, _, _⟩) (v := ?_) rfl (by kernel_rfl) (by kernel_rfl) (by kernel_rfl) (fun _ _ _ h => h) (Or.inl ⟨by rfl, ?_⟩) (by assumption) ?_
          rotate_left
          · intro wz hSw
            try dsimp only at hSw
            go_simp
            try with_reducible rfl
          try simp only [Act.put, List.setIfInBounds_toArray, List.set_cons_zero, List.set_cons_succ]
          refine wpAnyH_take (i := 4) (oi := ⟨_, _, _, _, _, _⟩) (v := ?_) rfl (by kernel_rfl) (by kernel_rfl) (by kernel_rfl) (fun _ _ _ h => h) (Or.inl ⟨by rfl, ?_⟩) (by assumption) ?_
          rotate_left
          · intro wz hSw
            try dsimp only at hSw
            go_simp
            try with_reducible rfl
          try simp only [Act.put, List.setIfInBounds_toArray, List.set_cons_zero, List.set_cons_succ]
          refine wpAnyH_take (i := 6) (oi := ⟨_, _, _, _, _, _⟩) (v := ?_) rfl (by kernel_rfl) (by kernel_rfl) (by kernel_rfl) (fun _ _ _ h => h) (Or.inl ⟨by rfl, ?_⟩) (by assumption) ?_
          rotate_left
          · intro wz hSw
            try dsimp only at hSw
            go_simp
            try with_reducible rfl
          try simp only [Act.put, List.setIfInBounds_toArray, List.set_cons_zero, List.set_cons_succ]
          refine wpAnyH_take (i := 8) (oi := ⟨_, _, _, _, _, _⟩) (v := ?_) rfl (by kernel_rfl) (by kernel_rfl) (by kernel_rfl) (fun _ _ _ h => h) (Or.inl ⟨by rfl, ?_⟩) (by assumption) ?_
          rotate_left
          · intro wz hSw
            try dsimp only at hSw
            go_simp
            try with_reducible rfl
          try simp only [Act.put, List.setIfInBounds_toArray, List.set_cons_zero, List.set_cons_succ]
          refine wpAnyH_take (i := 9) (oi := ⟨_, _, _, _, _, _⟩) (v := ?_) rfl (by kernel_rfl) (by kernel_rfl) (by kernel_rfl) (fun _ _ _ h => h) (Or.inl ⟨by rfl, ?_⟩) (by assumption) ?_
          rotate_left
          · intro wz hSw
            try dsimp only at hSw
            go_simp
            try with_reducible rfl
          try simp only [Act.put, List.setIfInBounds_toArray, List.set_cons_zero, List.set_cons_succ]
          refine wpAnyH_take (i := 10) (oi := ⟨_, _, _, _, _, _⟩) (v := ?_) rfl (by kernel_rfl) (by kernel_rfl) (by kernel_rfl) (fun _ _ _ h => h) (Or.inl ⟨by rfl, ?_⟩) (by assumption) ?_
          rotate_left
          · intro wz hSw
            try dsimp only at hSw
            go_simp
            try with_reducible rfl
          try simp only [Act.put, List.setIfInBounds_toArray, List.set_cons_zero, List.set_cons_succ]
          refine wpAnyH_take (i := 11) (oi := ⟨_, _, _, _, _, _⟩) (v := ?_) rfl (by kernel_rfl) (by kernel_rfl) (by kernel_rfl) (fun _ _ _ h => h) (Or.inl ⟨by rfl, ?_⟩) (by assumption) ?_
          rotate_left
          · intro wz hSw
            try dsimp only at hSw
            go_simp
            try with_reducible rfl
          try simp only [Act.put, List.setIfInBounds_toArray, List.set_cons_zero, List.set_cons_succ]
          refine wpAnyH_take (i := 14) (oi := ⟨_, _, _, _, _, _⟩) (v := ?_) rfl (by kernel_rfl) (by kernel_rfl) (by kernel_rfl) (fun _ _ _ h => h) (Or.inl ⟨by rfl, ?_⟩) (by assumption) ?_
          rotate_left
          · intro wz hSw
            try dsimp only at hSw
            go_simp
            try with_reducible rfl
          try simp only [Act.put, List.setIfInBounds_toArray, List.set_cons_zero, List.set_cons_succ]
          refine wpAnyH_ready (rs := [5, 12]) (by kernel_rfl) (by simp) ?_
          refine AllReadyH.cons (o := ⟨_, _, _, _, _, _⟩) rfl (fun K hK => ?_) (AllReadyH.cons (o := ⟨_, _, _, _, _, _⟩) rfl (fun K hK => ?_) AllReadyH.nil)
          · go_simp
            refine hK.out _ _ trivial (fun hHeld => ?_)
            clear hK K
            try simp only [Act.put, List.setIfInBounds_toArray, List.set_cons_zero, List.set_cons_succ]
            refine wpAnyH_take (i := 7) (oi := ⟨_, _, _, _, _, _⟩) (v := ?_) rfl (by kernel_rfl) (by kernel_rfl) (by kernel_rfl) (fun _ _ _ h => h) (Or.inl ⟨by rfl, ?_⟩) (by assumption) ?_
            rotate_left
            · intro wz hSw
              try dsimp only at hSw
              go_simp
              try with_reducible rfl
            try simp only [Act.put, List.setIfInBounds_toArray, List.set_cons_zero, List.set_cons_succ]
            refine wpAnyH_ready (rs := [12]) (by kernel_rfl) (by simp) ?_
            refine AllReadyH.cons (o := ⟨_, _, _, _, _, _⟩) rfl (fun K hK => ?_) AllReadyH.nil
            go_simp
            refine hK.out _ _ trivial (fun hHeld => ?_)
            clear hK K
            try simp only [Act.put, List.setIfInBounds_toArray, List.set_cons_zero, List.set_cons_succ]
            refine wpAnyH_take (i := 13) (oi := ⟨_, _, _, _, _, _⟩) (v := ?_) rfl (by kernel_rfl) (by kernel_rfl) (by kernel_rfl) (fun _ _ _ h => h) (Or.inl ⟨by rfl, ?_⟩) (by assumption) ?_
            rotate_left
            · intro wz hSw
              try dsimp only at hSw
              go_simp
              try with_reducible rfl
            try simp only [Act.put, List.setIfInBounds_toArray, List.set_cons_zero, List.set_cons_succ]
            refine wpAnyH_take (i := 15) (oi := ⟨_, _, _, _, _, _⟩) (v := ?_) rfl (by kernel_rfl) (by kernel_rfl) (by kernel_rfl) (fun _ _ _ h => h) (Or.inl ⟨by rfl, ?_⟩) (by assumption) ?_
            rotate_left
            · intro wz hSw
              try dsimp only at hSw
              go_simp
              try with_reducible rfl
            try simp only [Act.put, List.setIfInBounds_toArray, List.set_cons_zero, List.set_cons_succ]
            refine wpAnyH_ready (rs := [16]) (by kernel_rfl) (by simp) ?_
            refine AllReadyH.cons (o := ⟨_, _, _, _, _, _⟩) rfl (fun K hK => ?_) AllReadyH.nil
            go_simp
            refine hK.out _ _ trivial (fun hHeld => ?_)
            clear hK K
            try simp only [Act.put, List.setIfInBounds_toArray, List.set_cons_zero, List.set_cons_succ]
            refine wpAnyH_ready (rs := [17]) (by kernel_rfl) (by simp) ?_
            refine AllReadyH.cons (o := ⟨_, _, _, _, _, _⟩) rfl (fun K hK => ?_) AllReadyH.nil
            refine step_append_own rfl _ _ 57 rfl w.heap.size 44 i0 (.int .u32 0) 1 4 Tryd.underlying57 hi hz0 hz1 hz2 rfl (by decide) _ _ _ rfl (hown5.alloc _) ⟨wz.heap.size, 0, none⟩ 1 1 [.int .u32 (z3.toNat : Int)] rfl rfl one_cell (fun u hu => by simp at hu; subst hu; rfl) (by unfold maxLen; omega) (by omega) (by have := hbase5; simp at this ⊢; omega) ?_
            intro v' w1 hown' hgrow
            have R := words_more2 (b := bs) (by omega) M3.out hbase5 hown5 hbel5 hown' hgrow
            have R2 := R.1
            have R3 := R.2
            clear hown' hgrow R
            refine hK.out _ _ trivial (fun hHeld => ?_)
            clear hK K
            try simp only [Act.put, List.setIfInBounds_toArray, List.set_cons_zero, List.set_cons_succ]
            refine wpAnyH_take (i := 18) (oi := ⟨_, _, _, _, _, _⟩) (v := ?_) rfl (by kernel_rfl) (by kernel_rfl) (by kernel_rfl) (fun _ _ _ h => h) (Or.inl ⟨by rfl, ?_⟩) (by assumption) ?_
            rotate_left
            · intro wz hSw
              try dsimp only at hSw
              go_simp
              try with_reducible rfl
            try simp only [Act.put, List.setIfInBounds_toArray, List.set_cons_zero, List.set_cons_succ]
            refine wpAnyH_done (by kernel_rfl) ?_ _
            go_wp2
            go_roundw
            case rel =>
              exact ⟨k + 1, by go_num, by omega, by omega, R2, R3⟩
            case measure => simp [intOf]; omega
          · go_simp
            refine hK.out _ _ trivial (fun hHeld => ?_)
            clear hK K
            try simp only [Act.put, List.setIfInBounds_toArray, List.set_cons_zero, List.set_cons_succ]
            refine wpAnyH_ready (rs := [5]) (by kernel_rfl) (by simp) ?_
            refine AllReadyH.cons (o := ⟨_, _, _, _, _, _⟩) rfl (fun K hK => ?_) AllReadyH.nil
            go_simp
            refine hK.out _ _ trivial (fun hHeld => ?_)
            clear hK K
            try simp only [Act.put, List.setIfInBounds_toArray, List.set_cons_zero, List.set_cons_succ]
            refine wpAnyH_take (i := 7) (oi := ⟨_, _, _, _, _, _⟩) (v := ?_) rfl (by kernel_rfl) (by kernel_rfl) (by kernel_rfl) (fun _ _ _ h => h) (Or.inl ⟨by rfl, ?_⟩) (by assumption) ?_
            rotate_left
            · intro wz hSw
              try dsimp only at hSw
              go_simp
              try with_reducible rfl
            try simp only [Act.put, List.setIfInBounds_toArray, List.set_cons_zero, List.set_cons_succ]
            refine wpAnyH_take (i := 13) (oi := ⟨_, _, _, _, _, _⟩) (v := ?_) rfl (by kernel_rfl) (by kernel_rfl) (by kernel_rfl) (fun _ _ _ h => h) (Or.inl ⟨by rfl, ?_⟩) (by assumption) ?_
            rotate_left
            · intro wz hSw
              try dsimp only at hSw
              go_simp
              try with_reducible rfl
            try simp only [Act.put, List.setIfInBounds_toArray, List.set_cons_zero, List.set_cons_succ]
            refine wpAnyH_take (i := 15) (oi := ⟨_, _, _, _, _, _⟩) (v := ?_) rfl (by kernel_rfl) (by kernel_rfl) (by kernel_rfl) (fun _ _ _ h => h) (Or.inl ⟨by rfl, ?_⟩) (by assumption) ?_
            rotate_left
            · intro wz hSw
              try dsimp only at hSw
              go_simp
              try with_reducible rfl
            try simp only [Act.put, List.setIfInBounds_toArray, List.set_cons_zero, List.set_cons_succ]
            refine wpAnyH_ready (rs := [16]) (by kernel_rfl) (by simp) ?_
            refine AllReadyH.cons (o := ⟨_, _, _, _, _, _⟩) rfl (fun K hK => ?_) AllReadyH.nil
            go_simp
            refine hK.out _ _ trivial (fun hHeld => ?_)
            clear hK K
            try simp only [Act.put, List.setIfInBounds_toArray, List.set_cons_zero, List.set_cons_succ]
            refine wpAnyH_ready (rs := [17]) (by kernel_rfl) (by simp) ?_
            refine AllReadyH.cons (o := ⟨_, _, _, _, _, _⟩) rfl (fun K hK => ?_) AllReadyH.nil
            refine step_append_own rfl _ _ 57 rfl w.heap.size 44 i0 (.int .u32 0) 1 4 Tryd.underlying57 hi hz0 hz1 hz2 rfl (by decide) _ _ _ rfl (hown5.alloc _) ⟨wz.heap.size, 0, none⟩ 1 1 [.int .u32 (z3.toNat : Int)] rfl rfl one_cell (fun u hu => by simp at hu; subst hu; rfl) (by unfold maxLen; omega) (by omega) (by have := hbase5; simp at this ⊢; omega) ?_
            intro v' w1 hown' hgrow
            have R := words_more2 (b := bs) (by omega) M3.out hbase5 hown5 hbel5 hown' hgrow
            have R2 := R.1
            have R3 := R.2
            clear hown' hgrow R
            refine hK.out _ _ trivial (fun hHeld => ?_)
            clear hK K
            try simp only [Act.put, List.setIfInBounds_toArray, List.set_cons_zero, List.set_cons_succ]
            refine wpAnyH_take (i := 18) (oi := ⟨_, _, _, _, _, _⟩) (v := ?_) rfl (by kernel_rfl) (by kernel_rfl) (by kernel_rfl) (fun _ _ _ h => h) (Or.inl ⟨by rfl, ?_⟩) (by assumption) ?_
            rotate_left
            · intro wz hSw
              try dsimp only at hSw
              go_simp
              try with_reducible rfl
            try simp only [Act.put, List.setIfInBounds_toArray, List.set_cons_zero, List.set_cons_succ]
            refine wpAnyH_done (by kernel_rfl) ?_ _
            go_wp2
            go_roundw
            case rel =>
              exact ⟨k + 1, by go_num, by omega, by omega, R2, R3⟩
            case measure => simp [intOf]; omega
        · have hk7 : k = 64 := by omega
          subst hk7
          go_wp2
          go_ret
          exact ⟨_, rfl, hown, hbel⟩
end Go.Proofs.YtcbhjagcfbinoaaDoor.S3
