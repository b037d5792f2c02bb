/-
  SumRot, SumSched: joined.
-/
import Derived.Test.YtojbicpchjiplaaGreatDoorSumRefWords
import Derived.StillTailTactics
import Derived.Laws.Rows
import Derived.Laws.Tables
import Derived.Deep.WholeRow
/-
  Layer 3: the library's RotateLeft32 at a negative number, the program's right and rotations.
-/
namespace Go.Proofs.YtojbicpchjiplaaGreatDoor.S3
open Go.RowKit Sha

theorem rot_comm (x : BitVec 32) (n : Nat) : bits .or .u32 ((x.toNat : Int) * 2 ^ (32 - n) % 4294967296) ((x.toNat : Int) / 2 ^ n) = ((rot x n).toNat : Nat) := by
  have h1 := shr_nat x n
  have h2 := shl_nat x (32 - n)
  rw [Int.fdiv_eq_ediv_of_nonneg _ (by exact_mod_cast Nat.zero_le (2 ^ n))] at h1
  rw [IntKind.wrap_u32'] at h2
  rw [h1, h2, or_nat, rot, BitVec.or_comm]
theorem neg_and (n : Nat) (h1 : 1 ≤ n) (hn : n < 32) : bits .and .u64 (IntKind.u64.wrap (-(n : Int))) 31 = ((32 - n : Nat) : Int) := by
  have e : IntKind.u64.wrap (-(n : Int)) = ((18446744073709551616 - n : Nat) : Int) := by rw [IntKind.wrap_u64]; omega
  have := u64_and_nat (18446744073709551616 - n) 31 (by omega) (by decide)
  rw [show ((31 : Nat) : Int) = 31 from rfl] at this
  rw [e, this, show (31 : Nat) = 2 ^ 5 - 1 from rfl, Nat.and_two_pow_sub_one_eq_mod]
  omega

set_option maxHeartbeats 1000000 in
theorem rotl_any (x : BitVec 32) (n : Nat) (w : World) (h1 : 1 ≤ n) (hn : n < 32) :
    Calls Tryz.prog 168 #[.int .u32 (x.toNat : Nat), .int .i64 (-(n : Int))] w fun e w' => e = .returned (.int .u32 ((rot x n).toNat : Nat)) ∧ w' = w := by
  have ha := neg_and n h1 hn
  have hr := rot_comm x n
  obtain ⟨m, hm⟩ : ∃ m, m = 32 - n := ⟨_, rfl⟩
  rw [← hm] at ha hr
  have hm1 : (m : Int) < 32 := by omega
  have hm2 : (0 : Int) ≤ m := by omega
  have hm3 : IntKind.u64.wrap (32 - (m : Int)) = (n : Int) := by rw [IntWalk.u64_in _ (by omega)]; omega
  have hn1 : (n : Int) < 32 := by omega
  clear hm
  go_enter Tryz.func168, Tryz.ntmps168
  go_wp2
  go_ret
  exact ⟨rfl, rfl⟩

set_option maxHeartbeats 1000000 in
theorem right_any (x : BitVec 32) (n : Nat) (k : Int) (w : World) (hk : k = (n : Int)) (h1 : 1 ≤ n) (hn : n < 32) :
    Calls Tryz.prog 164 #[.int .u32 (x.toNat : Nat), .int .i64 k] w fun e w' => e = .returned (.int .u32 ((rot x n).toNat : Nat)) ∧ w' = w := by
  subst hk
  have hn1 : (n : Int) < 32 := by omega
  go_enter Tryz.func164, Tryz.ntmps164
  go_wp2_with fail
  refine (rotl_any x n _ h1 hn).mono ?_
  rintro e w1 ⟨rfl, rfl⟩
  go_wp2
  go_ret
  exact ⟨rfl, rfl⟩

set_option maxHeartbeats 2000000 in
theorem rotations_any (x : BitVec 32) (i j k : Nat) (w : World) (hi : 1 ≤ i ∧ i < 32) (hj : 1 ≤ j ∧ j < 32) (hk : 1 ≤ k ∧ k < 32) :
    Calls Tryz.prog 160 #[.int .u32 (x.toNat : Nat), .int .i64 (i : Int), .int .i64 (j : Int), .int .i64 (k : Int)] w fun e w' => e = .returned (.int .u32 ((rot x i ^^^ rot x j ^^^ rot x k).toNat : Nat)) ∧ w' = w := by
  have R1 := Lib.hid fun w => right_any x i i w rfl hi.1 hi.2
  have R2 := Lib.hid fun w => right_any x j j w rfl hj.1 hj.2
  have R3 := Lib.hid fun w => right_any x k k w rfl hk.1 hk.2
  have e1 := xor_nat (rot x i) (rot x j)
  have e2 := xor_nat (rot x i ^^^ rot x j) (rot x k)
  obtain ⟨a, ha⟩ : ∃ a, a = rot x i := ⟨_, rfl⟩
  obtain ⟨b, hb⟩ : ∃ b, b = rot x j := ⟨_, rfl⟩
  obtain ⟨c, hc⟩ : ∃ c, c = rot x k := ⟨_, rfl⟩
  rw [← ha] at R1 e1 e2 ⊢
  rw [← hb] at R2 e1 e2 ⊢
  rw [← hc] at R3 e2 ⊢
  obtain ⟨d, hd⟩ : ∃ d, d = a ^^^ b := ⟨_, rfl⟩
  rw [← hd] at e1 e2 ⊢
  obtain ⟨z, hz⟩ : ∃ z, z = d ^^^ c := ⟨_, rfl⟩
  rw [← hz] at e2 ⊢
  clear ha hb hc hd hz
  go_enter Tryz.func160, Tryz.ntmps160
  go_wp2_with fail
  refine (R1.out _).mono ?_
  rintro e w1 ⟨rfl, rfl⟩
  go_wp2_with fail
  refine (R2.out _).mono ?_
  rintro e w1 ⟨rfl, rfl⟩
  go_wp2_with fail
  refine (R3.out _).mono ?_
  rintro e w1 ⟨rfl, rfl⟩
  go_wp2
  go_ret
  exact ⟨rfl, rfl⟩
end Go.Proofs.YtojbicpchjiplaaGreatDoor.S3

/-
  Layer 3: the program's schedule.
-/
namespace Go.Proofs.YtojbicpchjiplaaGreatDoor.S3
open Go.RowKit Sha
attribute [local go_sem] B_size B_drop' B_take B_list B_app

/-- The array of the words so far. -/
def cells64 (b : List UInt8) (k : Nat) : Array Value := (Ws (sched b k) ++ List.replicate (64 - k) (Value.int .u32 0)).toArray
theorem cells64_get (b : List UInt8) (k j : Nat) (h : j < k) : (cells64 b k)[j]? = some (Value.int .u32 (((sched b k).getD j 0).toNat : Nat)) := by
  rw [cells64, List.getElem?_toArray, List.getElem?_append_left (by rw [Ws_length, sched_length]; exact h), Ws, List.getElem?_map, List.getD_eq_getElem?_getD, List.getElem?_eq_getElem (by rw [sched_length]; exact h)]
  rfl
theorem cells64_set (b : List UInt8) (k : Nat) (z : BitVec 32) (h : k < 64) (hz : z = if k < 16 then word b k else more (sched b k) k) :
    (cells64 b k).setIfInBounds k (Value.int .u32 (z.toNat : Nat)) = cells64 b (k + 1) := by
  have hl : (Ws (sched b k)).length = k := by rw [Ws_length, sched_length]
  rw [cells64, cells64, List.setIfInBounds_toArray, show 64 - k = (64 - (k + 1)) + 1 by omega, List.replicate_succ, List.set_append_right _ _ (by omega), hl, Nat.sub_self, List.set_cons_zero, sched, Ws_append, ← hz]
  simp [Ws]
theorem cells64_start (b : List UInt8) : cells64 b 0 = Array.replicate 64 (Value.int .u32 0) := by
  rw [cells64, sched, ← List.toArray_replicate]; rfl
theorem cells64_end (b : List UInt8) : cells64 b 64 = (Ws (sched b 64)).toArray := by
  simp [cells64]
theorem cells64_next (b : List UInt8) (k : Nat) (h : k < 64) : (cells64 b k)[k]? = some (Value.int .u32 0) := by
  have hl : (Ws (sched b k)).length = k := by rw [Ws_length, sched_length]
  rw [cells64, List.getElem?_toArray, List.getElem?_append_right (by omega), hl, Nat.sub_self, List.getElem?_replicate, if_pos (by omega)]
theorem or_add (x y n : Nat) (hx : x % 2 ^ n = 0) (hy : y < 2 ^ n) (h : x + y < 4294967296) : bits .or .u32 (x : Int) (y : Int) = ((x + y : Nat) : Int) := by
  rw [u32_or_nat x y (by omega) (by omega)]
  congr 1
  have : x = (x / 2 ^ n) <<< n := by rw [Nat.shiftLeft_eq, Nat.div_mul_cancel (Nat.dvd_of_mod_eq_zero hx)]
  rw [this, ← Nat.shiftLeft_add_eq_or_of_lt hy]
theorem info64 (b : List UInt8) : (Tryz.prog.info? 137).map (·.size) = some (Ws (sched b 64)).toArray.size := by
  rw [show (Ws (sched b 64)).toArray.size = 64 by simp [Ws_length, sched_length]]
  kernel_rfl
theorem one_Ws (l : List (BitVec 32)) : (Ws l).toArray.all (·.oneCell') = true := by
  simp [Ws, Value.oneCell']
theorem wpList_store_row {P : Program} {ops : Array Oper} {rest : List Oper} {o : Oper} {a : Act} {w : World} {Q : Exit → Act → World → Prop} (hgd : o.guard = none) (ty : TypeId) (x y : Operand) (ho : o.op = .store ty x y)
    (g : Nat) (cells : Array Value) (hx : a.eval x = .pointer (some ⟨g, 0, none⟩)) (hy : a.eval y = .agg cells)
    (t : TypeId) (old : Array Value) (hg : w.heap[g]? = some (.cells old t (0, 0))) (hi : (P.info? ty).map (·.size) = some cells.size)
    (hold : old.size = cells.size) (h1 : cells.all (·.oneCell') = true)
    (h : wpList P ops Q rest (a.put o.dst undef) (w.setRow g cells)) : wpList P ops Q (o :: rest) a w :=
  wpList_plain hgd fun _ hK => wp_store_row ty x y ho g cells hx hy t old hg hi hold h1 (hK _ _ h)
theorem alloc2_fst (w : World) (A B : Array Value) (t u : TypeId) : ((w.alloc (.cells A t)).alloc (.cells B u)).heap[w.heap.size]? = some (.cells A t (0, 0)) := by
  rw [Below.heap_alloc _ _ _ (by simp), heap_alloc_last]
theorem alloc2_snd (w : World) (A B : Array Value) (t u : TypeId) : ((w.alloc (.cells A t)).alloc (.cells B u)).heap[w.heap.size + 1]? = some (.cells B u (0, 0)) := by
  have := heap_alloc_last (w.alloc (.cells A t)) (.cells B u)
  simpa using this

set_option maxHeartbeats 2000000 in
set_option maxRecDepth 100000 in
theorem sched_any (l : List UInt8) (w : World) (hl : l.length ≤ 281474976710656) (h64 : 64 ≤ l.length) :
    Calls Tryz.prog 159 #[.string (B l)] w fun e w' => e = .returned (.agg (Ws (sched l 64)).toArray) ∧ Below w.heap.size w w' := by
  have hl3 : (64 : Int) ≤ l.length := by omega
  go_enter Tryz.func159, Tryz.ntmps159
  go_wp2_with fail
  go_loopw [8] (fun i wr => ∃ k : Nat, i = .int .i64 (k : Int) ∧ k ≤ 16 ∧ wr.heap[w.heap.size]? = some (.cells (Array.replicate 64 (.int .u32 0)) 137 (0, 0)) ∧ wr.heap[w.heap.size + 1]? = some (.cells (cells64 l k) 137 (0, 0)) ∧ Below w.heap.size w wr) (fun i _ => 16 - (intOf i).toNat)
  case atStart => exact ⟨0, rfl, by omega, alloc2_fst _ _ _ _ _, (alloc2_snd _ _ _ _ _).trans (by rw [cells64_start]; rfl), ((Below.refl _ _).alloc (Nat.le_refl _) _).alloc (by simp) _⟩
  case round =>
    obtain ⟨k, rfl, hk, ha, hb, hbel⟩ := hrel
    by_cases hk6 : k < 16
    · have hk7 : (k : Int) < 16 := by omega
      have hk0 : (0 : Int) ≤ k := by omega
      obtain ⟨m, hm⟩ : ∃ m, m = 4 * k := ⟨_, rfl⟩
      have hm9 : m + 3 < l.length := by omega
      have hm5 : (m : Int) + 3 < l.length := by omega
      have hm6 : (0 : Int) ≤ m := by omega
      have hwk : IntKind.i64.wrap (4 * (k : Int)) = (m : Int) := by rw [IntWalk.i64_in _ (by omega)]; omega
      have hw1 : IntKind.i64.wrap ((m : Int) + 1) = (m : Int) + 1 := IntWalk.i64_in _ (by omega)
      have hw2 : IntKind.i64.wrap ((m : Int) + 2) = (m : Int) + 2 := IntWalk.i64_in _ (by omega)
      have hw3 : IntKind.i64.wrap ((m : Int) + 3) = (m : Int) + 3 := IntWalk.i64_in _ (by omega)
      have b0 : (m : Int) < l.length := by omega
      have b1 : 0 ≤ (m : Int) + 1 ∧ (m : Int) + 1 < l.length := by omega
      have b2 : 0 ≤ (m : Int) + 2 ∧ (m : Int) + 2 < l.length := by omega
      have b3 : 0 ≤ (m : Int) + 3 ∧ (m : Int) + 3 < l.length := by omega
      have hn1 : ((m : Int) + 1).toNat = m + 1 := by omega
      have hn2 : ((m : Int) + 2).toNat = m + 2 := by omega
      have hn3 : ((m : Int) + 3).toNat = m + 3 := by omega
      obtain ⟨a0, ha0⟩ : ∃ a : Nat, a = (l[m]'(by omega)).toNat := ⟨_, rfl⟩
      obtain ⟨a1, ha1⟩ : ∃ a : Nat, a = (l[m + 1]'(by omega)).toNat := ⟨_, rfl⟩
      obtain ⟨a2, ha2⟩ : ∃ a : Nat, a = (l[m + 2]'(by omega)).toNat := ⟨_, rfl⟩
      obtain ⟨a3, ha3⟩ : ∃ a : Nat, a = (l[m + 3]'(by omega)).toNat := ⟨_, rfl⟩
      have hl0 := (l[m]'(by omega)).toNat_lt
      have hl1 := (l[m + 1]'(by omega)).toNat_lt
      have hl2 := (l[m + 2]'(by omega)).toNat_lt
      have hl3' := (l[m + 3]'(by omega)).toNat_lt
      have g0 : ∀ h, ((B l)[m]'h).toNat = a0 := fun h => ha0.symm
      have g1 : ∀ h, ((B l)[m + 1]'h).toNat = a1 := fun h => ha1.symm
      have g2 : ∀ h, ((B l)[m + 2]'h).toNat = a2 := fun h => ha2.symm
      have g3 : ∀ h, ((B l)[m + 3]'h).toNat = a3 := fun h => ha3.symm
      rw [← ha0] at hl0
      rw [← ha1] at hl1
      rw [← ha2] at hl2
      rw [← ha3] at hl3'
      have hword : (word l k).toNat = a0 * 16777216 + a1 * 65536 + a2 * 256 + a3 := by
        rw [word, ← hm, BitVec.toNat_ofNat, ha0, ha1, ha2, ha3]
        simp only [List.getD_eq_getElem?_getD]
        rw [List.getElem?_eq_getElem (by omega), List.getElem?_eq_getElem (by omega), List.getElem?_eq_getElem (by omega), List.getElem?_eq_getElem (by omega)]
        simp only [Option.getD_some]
        rw [← ha0, ← ha1, ← ha2, ← ha3]
        omega
      obtain ⟨p0, hp0⟩ : ∃ p, p = a0 * 16777216 := ⟨_, rfl⟩
      obtain ⟨p1, hp1⟩ : ∃ p, p = a1 * 65536 := ⟨_, rfl⟩
      obtain ⟨p2, hp2⟩ : ∃ p, p = a2 * 256 := ⟨_, rfl⟩
      obtain ⟨q1, hq1⟩ : ∃ p, p = p0 + p1 := ⟨_, rfl⟩
      obtain ⟨q2, hq2⟩ : ∃ p, p = q1 + p2 := ⟨_, rfl⟩
      obtain ⟨q3, hq3⟩ : ∃ p, p = q2 + a3 := ⟨_, rfl⟩
      have f0 : IntKind.u32.wrap ((a0 : Int) * 16777216) = (p0 : Int) := by rw [IntWalk.u32_in _ (by omega)]; omega
      have f1 : IntKind.u32.wrap ((a1 : Int) * 65536) = (p1 : Int) := by rw [IntWalk.u32_in _ (by omega)]; omega
      have f2 : IntKind.u32.wrap ((a2 : Int) * 256) = (p2 : Int) := by rw [IntWalk.u32_in _ (by omega)]; omega
      have f6 : IntKind.u32.wrap (a0 : Int) = (a0 : Int) := IntWalk.u32_in _ (by omega)
      have f7 : IntKind.u32.wrap (a1 : Int) = (a1 : Int) := IntWalk.u32_in _ (by omega)
      have f8 : IntKind.u32.wrap (a2 : Int) = (a2 : Int) := IntWalk.u32_in _ (by omega)
      have f9 : IntKind.u32.wrap (a3 : Int) = (a3 : Int) := IntWalk.u32_in _ (by omega)
      have o1 : bits .or .u32 (p0 : Int) (p1 : Int) = (q1 : Int) := by rw [hq1]; exact or_add _ _ 24 (by omega) (by omega) (by omega)
      have o2 : bits .or .u32 (q1 : Int) (p2 : Int) = (q2 : Int) := by rw [hq2]; exact or_add _ _ 16 (by omega) (by omega) (by omega)
      have o3 : bits .or .u32 (q2 : Int) (a3 : Int) = (q3 : Int) := by rw [hq3]; exact or_add _ _ 8 (by omega) (by omega) (by omega)
      have hq : q3 = (word l k).toNat := by omega
      have hset := cells64_set l k (word l k) (by omega) (by rw [if_pos hk6])
      rw [← hq] at hset
      have HSET := Lib.hid hset
      have HA := Lib.hid ha
      have HB := Lib.hid hb
      have HBEL := Lib.hid hbel
      have hc1 : wr.cell? ⟨w.heap.size + 1, k, none⟩ = some (.int .u32 0) := (cell_of_row _ _ _ _ _ _ hb).trans (cells64_next l k (by omega))
      have hc2 : wr.frozen? ⟨w.heap.size + 1, k, none⟩ = false := frozen_of_row _ _ _ _ _ hb
      clear hset hq hq1 hq2 hq3 hp0 hp1 hp2 hword ha0 ha1 ha2 ha3 hl0 hl1 hl2 hl3' ha hb hbel hm hm9
      go_wp2_with fail
      go_still_tail 30, (by kernel_rfl)
      show wpList _ _ _ _ _ wr.drew
      have hc3 : wr.drew.cell? ⟨w.heap.size + 1, k, none⟩ = some (.int .u32 0) := hc1
      have hc4 : wr.drew.frozen? ⟨w.heap.size + 1, k, none⟩ = false := hc2
      have hb3 : (k : Int) < 64 := by omega
      go_wp2
      go_roundw
      case rel =>
        have e := heap_setCell_same wr.drew (w.heap.size + 1) k _ _ (.int .u32 (q3 : Int)) HB.out
        rw [HSET.out] at e
        exact ⟨k + 1, by go_num, by omega, (heap_setCell_other _ _ _ _ (by simp)).trans HA.out, e, HBEL.out.drew.setCell (Nat.le_succ _) _⟩
      case measure => simp [intOf]; omega
    · have hk7 : k = 16 := by omega
      subst hk7
      rw [show ((16 : Nat) : Int) = 16 from rfl]
      go_wp2_with fail
      go_loopw [5] (fun i wr => ∃ k : Nat, i = .int .i64 (k : Int) ∧ 16 ≤ k ∧ k ≤ 64 ∧ wr.heap[w.heap.size]? = some (.cells (Array.replicate 64 (.int .u32 0)) 137 (0, 0)) ∧ wr.heap[w.heap.size + 1]? = some (.cells (cells64 l k) 137 (0, 0)) ∧ Below w.heap.size w wr) (fun i _ => 64 - (intOf i).toNat)
      case atStart => exact ⟨16, rfl, by omega, by omega, ha, hb, hbel⟩
      case round =>
        clear ha hb hbel
        obtain ⟨k, rfl, hk1, hk2, ha, hb, hbel⟩ := hrel
        by_cases hk6 : k < 64
        · have hk7 : (k : Int) < 64 := by omega
          have hcell : ∀ j, j < k → wr.cell? ⟨w.heap.size + 1, j, none⟩ = some (.int .u32 (((sched l k).getD j 0).toNat : Nat)) := fun j hj => (cell_of_row _ _ _ _ _ _ hb).trans (cells64_get l k j hj)
          obtain ⟨p16, hp16⟩ : ∃ p, p = k - 16 := ⟨_, rfl⟩
          obtain ⟨p15, hp15⟩ : ∃ p, p = k - 15 := ⟨_, rfl⟩
          obtain ⟨p7, hp7⟩ : ∃ p, p = k - 7 := ⟨_, rfl⟩
          obtain ⟨p2, hp2⟩ : ∃ p, p = k - 2 := ⟨_, rfl⟩
          have w16 : IntKind.i64.wrap ((k : Int) - 16) = (p16 : Int) := by rw [IntWalk.i64_in _ (by omega)]; omega
          have w15 : IntKind.i64.wrap ((k : Int) - 15) = (p15 : Int) := by rw [IntWalk.i64_in _ (by omega)]; omega
          have w7 : IntKind.i64.wrap ((k : Int) - 7) = (p7 : Int) := by rw [IntWalk.i64_in _ (by omega)]; omega
          have w2 : IntKind.i64.wrap ((k : Int) - 2) = (p2 : Int) := by rw [IntWalk.i64_in _ (by omega)]; omega
          have b16 : (p16 : Int) < 64 := by omega
          have b15 : (p15 : Int) < 64 := by omega
          have b7 : (p7 : Int) < 64 := by omega
          have b2 : (p2 : Int) < 64 := by omega
          have d16 := hcell p16 (by omega)
          have d15 := hcell p15 (by omega)
          have d7 := hcell p7 (by omega)
          have d2 := hcell p2 (by omega)
          have hmore : more (sched l k) k = (sched l k).getD p16 0 + sig0 ((sched l k).getD p15 0) + (sched l k).getD p7 0 + sig1 ((sched l k).getD p2 0) := by rw [more, hp16, hp15, hp7, hp2]
          obtain ⟨x16, hx16⟩ : ∃ x, x = (sched l k).getD p16 0 := ⟨_, rfl⟩
          obtain ⟨x15, hx15⟩ : ∃ x, x = (sched l k).getD p15 0 := ⟨_, rfl⟩
          obtain ⟨x7, hx7⟩ : ∃ x, x = (sched l k).getD p7 0 := ⟨_, rfl⟩
          obtain ⟨x2, hx2⟩ : ∃ x, x = (sched l k).getD p2 0 := ⟨_, rfl⟩
          rw [← hx16] at hmore d16
          rw [← hx15] at hmore d15
          rw [← hx7] at hmore d7
          rw [← hx2] at hmore d2
          have HM := Lib.hid hmore
          clear hmore hx16 hx15 hx7 hx2 hcell hp16 hp15 hp7 hp2
          obtain ⟨r1, hr1⟩ : ∃ r, r = rot x15 7 := ⟨_, rfl⟩
          obtain ⟨r2, hr2⟩ : ∃ r, r = rot x15 18 := ⟨_, rfl⟩
          obtain ⟨r3, hr3⟩ : ∃ r, r = rot x2 17 := ⟨_, rfl⟩
          obtain ⟨r4, hr4⟩ : ∃ r, r = rot x2 19 := ⟨_, rfl⟩
          have t1 := fun w => right_any x15 7 7 w rfl (by omega) (by omega)
          have t2 := fun w => right_any x15 18 18 w rfl (by omega) (by omega)
          have t3 := fun w => right_any x2 17 17 w rfl (by omega) (by omega)
          have t4 := fun w => right_any x2 19 19 w rfl (by omega) (by omega)
          rw [← hr1] at t1
          rw [← hr2] at t2
          rw [← hr3] at t3
          rw [← hr4] at t4
          have T1 := Lib.hid t1
          have T2 := Lib.hid t2
          have T3 := Lib.hid t3
          have T4 := Lib.hid t4
          obtain ⟨y1, hy1⟩ : ∃ y, y = x15 >>> 3 := ⟨_, rfl⟩
          obtain ⟨y2, hy2⟩ : ∃ y, y = x2 >>> 10 := ⟨_, rfl⟩
          have v1 : (x15.toNat : Int) / 8 = (y1.toNat : Int) := by rw [hy1]; exact shr_lit x15 3 8 rfl
          have v2 : (x2.toNat : Int) / 1024 = (y2.toNat : Int) := by rw [hy2]; exact shr_lit x2 10 1024 rfl
          obtain ⟨q1, hq1⟩ : ∃ q, q = r1 ^^^ r2 := ⟨_, rfl⟩
          obtain ⟨q2, hq2⟩ : ∃ q, q = r3 ^^^ r4 := ⟨_, rfl⟩
          obtain ⟨s0, hs0⟩ : ∃ q, q = q1 ^^^ y1 := ⟨_, rfl⟩
          obtain ⟨s1, hs1⟩ : ∃ q, q = q2 ^^^ y2 := ⟨_, rfl⟩
          have o1 : bits .xor .u32 (r1.toNat : Int) (r2.toNat : Int) = (q1.toNat : Int) := by rw [hq1]; exact xor_nat _ _
          have o2 : bits .xor .u32 (r3.toNat : Int) (r4.toNat : Int) = (q2.toNat : Int) := by rw [hq2]; exact xor_nat _ _
          have o3 : bits .xor .u32 (q1.toNat : Int) (y1.toNat : Int) = (s0.toNat : Int) := by rw [hs0]; exact xor_nat _ _
          have o4 : bits .xor .u32 (q2.toNat : Int) (y2.toNat : Int) = (s1.toNat : Int) := by rw [hs1]; exact xor_nat _ _
          have g0 : s0 = sig0 x15 := by rw [hs0, hq1, hy1, hr1, hr2, sig0]
          have g1 : s1 = sig1 x2 := by rw [hs1, hq2, hy2, hr3, hr4, sig1]
          obtain ⟨z1, hz1'⟩ : ∃ z, z = x16 + s0 := ⟨_, rfl⟩
          obtain ⟨z2, hz2'⟩ : ∃ z, z = z1 + x7 := ⟨_, rfl⟩
          obtain ⟨z3, hz3'⟩ : ∃ z, z = z2 + s1 := ⟨_, rfl⟩
          have n1 : IntKind.u32.wrap ((x16.toNat : Int) + (s0.toNat : Int)) = (z1.toNat : Int) := by rw [hz1']; exact add_nat _ _
          have n2 : IntKind.u32.wrap ((z1.toNat : Int) + (x7.toNat : Int)) = (z2.toNat : Int) := by rw [hz2']; exact add_nat _ _
          have n3 : IntKind.u32.wrap ((z2.toNat : Int) + (s1.toNat : Int)) = (z3.toNat : Int) := by rw [hz3']; exact add_nat _ _
          have hm3 : more (sched l k) k = z3 := by rw [HM.out, hz3', hz2', hz1', g0, g1]
          have hset := cells64_set l k z3 hk6 (by rw [if_neg (by omega), hm3])
          have HSET := Lib.hid hset
          have HA := Lib.hid ha
          have HB := Lib.hid hb
          have HBEL := Lib.hid hbel
          have hc1 : wr.cell? ⟨w.heap.size + 1, k, none⟩ = some (.int .u32 0) := (cell_of_row _ _ _ _ _ _ hb).trans (cells64_next l k hk6)
          have hc2 : wr.frozen? ⟨w.heap.size + 1, k, none⟩ = false := frozen_of_row _ _ _ _ _ hb
          clear t1 t2 t3 t4 hr1 hr2 hr3 hr4 hy1 hy2 hq1 hq2 hs0 hs1 g0 g1 hz1' hz2' hz3' hm3 HM hset ha hb hbel
          go_wp2_with fail
          go_quiet ((first | exact Calls.quiet_of_same (T1.out _) | exact Calls.quiet_of_same (T2.out _)))
          generalize hw1 : wr.drewN _ = w1
          have e16 : w1.cell? ⟨w.heap.size + 1, p16, none⟩ = some (.int .u32 (x16.toNat : Nat)) := by rw [← hw1]; exact d16
          have e7 : w1.cell? ⟨w.heap.size + 1, p7, none⟩ = some (.int .u32 (x7.toNat : Nat)) := by rw [← hw1]; exact d7
          have e2 : w1.cell? ⟨w.heap.size + 1, p2, none⟩ = some (.int .u32 (x2.toNat : Nat)) := by rw [← hw1]; exact d2
          have ec1 : w1.cell? ⟨w.heap.size + 1, k, none⟩ = some (.int .u32 0) := by rw [← hw1]; exact hc1
          have ec2 : w1.frozen? ⟨w.heap.size + 1, k, none⟩ = false := by rw [← hw1]; exact hc2
          have EA : Hid (w1.heap[w.heap.size]? = some (.cells (Array.replicate 64 (.int .u32 0)) 137 (0, 0))) := by rw [← hw1]; exact HA
          have EB : Hid (w1.heap[w.heap.size + 1]? = some (.cells (cells64 l k) 137 (0, 0))) := by rw [← hw1]; exact HB
          have EBEL : Hid (Below w.heap.size w w1) := by rw [← hw1]; exact Lib.hid (below_drewN HBEL.out _)
          clear hw1 HA HB HBEL hc1 hc2 d16 d15 d7 d2 T1 T2 v1 o1 o3
          go_wp2_with fail
          go_quiet ((first | exact Calls.quiet_of_same (T3.out _) | exact Calls.quiet_of_same (T4.out _)))
          clear T3 T4 v2 o2 o4
          generalize hwq : w1.drewN _ = wq
          have d16' : wq.drew.cell? ⟨w.heap.size + 1, p16, none⟩ = some (.int .u32 (x16.toNat : Nat)) := by rw [← hwq]; exact e16
          have d7' : wq.drew.cell? ⟨w.heap.size + 1, p7, none⟩ = some (.int .u32 (x7.toNat : Nat)) := by rw [← hwq]; exact e7
          have hc1' : wq.drew.cell? ⟨w.heap.size + 1, k, none⟩ = some (.int .u32 0) := by rw [← hwq]; exact ec1
          have hc2' : wq.drew.frozen? ⟨w.heap.size + 1, k, none⟩ = false := by rw [← hwq]; exact ec2
          have HAq : Hid (wq.drew.heap[w.heap.size]? = some (.cells (Array.replicate 64 (.int .u32 0)) 137 (0, 0))) := by rw [← hwq]; exact EA
          have HBq : Hid (wq.drew.heap[w.heap.size + 1]? = some (.cells (cells64 l k) 137 (0, 0))) := by rw [← hwq]; exact EB
          have HBELq : Hid (Below w.heap.size w wq.drew) := by rw [← hwq]; exact Lib.hid (below_drewN EBEL.out _).drew
          clear hwq EA EB EBEL ec1 ec2 e16 e7 e2
          go_wp2_with fail
          go_still_tail 14, (by kernel_rfl)
          show wpList _ _ _ _ _ wq.drew
          go_wp2
          go_roundw
          case rel =>
            have e := heap_setCell_same wq.drew (w.heap.size + 1) k _ _ (.int .u32 (z3.toNat : Int)) HBq.out
            rw [HSET.out] at e
            exact ⟨k + 1, by go_num, by omega, by omega, (heap_setCell_other _ _ _ _ (by simp)).trans HAq.out, e, HBELq.out.setCell (Nat.le_succ _) _⟩
          case measure => simp [intOf]; omega
        · have hk7 : k = 64 := by omega
          subst hk7
          rw [cells64_end] at hb
          have HA := Lib.hid ha
          have HB := Lib.hid hb
          clear ha hb
          go_wp2_with (first | (refine wpList_load_row rfl 137 _ rfl (w.heap.size + 1) rfl 137 _ (0, 0) _ HB.out Tryz.underlying137 rfl (info64 _) ?_) | (refine wpList_store_row rfl 137 _ _ rfl w.heap.size _ rfl rfl 137 _ HA.out (info64 _) (by simp [Ws_length, sched_length]) (one_Ws _) ?_))
          exact bodyPost_ret (v := .agg (Ws (sched l 64)).toArray) (results_cell_row Tryz.results159 _ _ w.heap.size 137 _ (0, 0) _ rfl (setRow_heap _ _ _ _ _ _ HA.out) Tryz.underlying137 rfl (info64 _)) rfl
            ⟨rfl, hbel.trans ⟨rfl, rfl, rfl, by simp [World.setRow], fun k hk => setRow_other _ _ _ _ (by omega)⟩⟩
end Go.Proofs.YtojbicpchjiplaaGreatDoor.S3
