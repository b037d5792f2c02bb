/-
  Layer 3: SumNumbers' walk.
-/
import Derived.Test.YtfldbgfeldhboaaDoorSumSmall
import Derived.Test.YtfldbgfeldhboaaDoorSumLaid
import Derived.Test.YtfldbgfeldhboaaDoorSumNumMath
namespace Go.Proofs.YtfldbgfeldhboaaDoor
open Go.RowKit
attribute [local go_sem] B_size B_drop' B_take B_list B_app

theorem val_inj : ∀ (x y : List UInt8), x.length = y.length → val x = val y → x = y
  | [], [], _, _ => rfl
  | a :: x, b :: y, h, hv => by
    have hl : x.length = y.length := by simpa using h
    have hx := val_lt x
    have hy := val_lt y
    rw [val, val, hl] at hv
    rw [hl] at hx
    obtain ⟨P, hP⟩ : ∃ P, P = 256 ^ y.length := ⟨_, rfl⟩
    rw [← hP] at hx hy hv
    rcases Nat.lt_trichotomy a.toNat b.toNat with h1 | h1 | h1
    · have h2 : (a.toNat + 1) * P ≤ b.toNat * P := Nat.mul_le_mul_right _ h1
      rw [Nat.add_mul, Nat.one_mul] at h2
      omega
    · rw [h1] at hv
      rw [UInt8.toNat_inj.1 h1, val_inj x y hl (by omega)]
    · have h2 : (b.toNat + 1) * P ≤ a.toNat * P := Nat.mul_le_mul_right _ h1
      rw [Nat.add_mul, Nat.one_mul] at h2
      omega
theorem conv_seven {w : World} {base g cap : Nat} {bk p : List UInt8} (h : w.ownsRow base 5 1 (.slice (some ⟨g, 0, none⟩) 8 cap) 8 (U bk)) (hb : bk.take 7 = p.take 7 ∧ (p.take 7).length = 7) :
    (convert 34 9 (.slice (some ⟨g, 0, none⟩) 7 cap)).run Tryd.prog w = .ok (.string (B (p.take 7))) w := by
  have := run_convert_bytes_back w 34 9 5 ⟨g, 0, none⟩ cap (p.take 7) Tryd.underlying34 Tryd.underlying5 Tryd.underlying9 (fun j hj => by
    refine h.cells (g := g) rfl j _ ?_
    have hj7 : j < 7 := by omega
    have : bk[j]? = some (p.take 7)[j] := by
      rw [← List.getElem?_eq_getElem hj, ← hb.1, List.getElem?_take_of_lt hj7]
    rw [U, List.getElem?_map, this]
    rfl)
  rw [hb.2] at this
  exact this
theorem cell_seven {w : World} {base g cap : Nat} {bk : List UInt8} {x : UInt8} (h : w.ownsRow base 5 1 (.slice (some ⟨g, 0, none⟩) 8 cap) 8 (U bk)) (hb : bk[7]? = some x) : w.cell? ⟨g, 7, none⟩ = some (.int .u8 (x.toNat : Nat)) := by
  have := h.cells (g := g) rfl 7 (.int .u8 (x.toNat : Nat)) (by rw [U, List.getElem?_map, hb]; rfl)
  have hadd : (⟨g, 0, none⟩ : Addr).add 7 = ⟨g, 7, none⟩ := by simp [Addr.add]
  rwa [hadd] at this
theorem back_byte (n j : Nat) (hj : j < 8) : (n : Int) * 8 / 2 ^ (56 - 8 * j) % 256 = ((backAt n j).toNat : Nat) := by
  have e : (2 : Nat) ^ (56 - 8 * j) = 256 ^ (7 - j) := by
    rw [show 56 - 8 * j = 8 * (7 - j) by omega, Nat.pow_mul]
  have e2 : ((2 : Int) ^ (56 - 8 * j)) = ((256 ^ (7 - j) : Nat) : Int) := by rw [← e]; simp
  have e3 : (backAt n j).toNat = n * 8 / 256 ^ (7 - j) % 256 := by rw [backAt, UInt8.toNat_ofNat']
  rw [e2, e3]
  simp

set_option maxHeartbeats 4000000 in
set_option maxRecDepth 100000 in
theorem numbers_walk (s t u : List UInt8) (w : World) (hs : s.length ≤ 140737488355328) (ht : t.length ≤ 140737488355328) (hu : u.length ≤ 140737488355328) (hW : Laid w) :
    Calls Tryd.prog 8 #[.string (B s), .string (B t), .string (B u)] w fun e w' => e = .returned (.bool true) ∧ Good w w' := by
  obtain ⟨i0, hi, hz0, hz1, hz2⟩ := info_parts infoByte
  have k1 : ∀ w, Calls Tryd.prog 18 #[.string (B s)] w fun e w' => e = .returned (.int .i64 (num s : Nat)) ∧ w = w' := fun w => num_any s w (by omega)
  have k2 : ∀ w, Calls Tryd.prog 18 #[.string (B t)] w fun e w' => e = .returned (.int .i64 (num t : Nat)) ∧ w = w' := fun w => num_any t w (by omega)
  have k3 : ∀ w, Calls Tryd.prog 18 #[.string (B (head8 s ++ u))] w fun e w' => e = .returned (.int .i64 (num s : Nat)) ∧ w = w' := fun w => by
    have := num_any (head8 s ++ u) w (by rw [List.length_append, head8_length]; omega)
    rw [num_head] at this; exact this
  have hnv := num_val s
  have hmv := num_val t
  have hnl := num_le s
  obtain ⟨n, hn⟩ : ∃ n, n = num s := ⟨_, rfl⟩
  obtain ⟨m, hm⟩ : ∃ m, m = num t := ⟨_, rfl⟩
  rw [← hn] at k1 k3 hnv hnl
  obtain ⟨pss, hps⟩ : ∃ p, p = head8 s := ⟨_, rfl⟩
  obtain ⟨ptt, hpt⟩ : ∃ p, p = head8 t := ⟨_, rfl⟩
  rw [← hps] at k3 hnv
  rw [← hpt] at hmv
  have HPs := Lib.hid hps
  have HPt := Lib.hid hpt
  clear hps hpt
  rw [← hm] at k2 hmv
  clear hn hm
  have K1 := Lib.hid k1
  have K2 := Lib.hid k2
  have K3 := Lib.hid k3
  have HNV := Lib.hid hnv
  have HMV := Lib.hid hmv
  clear k1 k2 k3 hnv hmv
  have hn0 : ¬ (n : Int) < 0 := by omega
  have hn1 : ¬ (2305843009213693951 : Int) < n := by omega
  go_enter Tryd.func8, Tryd.ntmps8
  go_wp2_with fail
  refine (small_any w _ hW (Below.refl _ _)).mono ?_
  rintro e w1 ⟨rfl, hbb⟩
  have B1 := Lib.hid hbb
  clear hbb
  go_wp2_with fail
  refine (K1.out _).mono ?_
  rintro e w2 ⟨rfl, rfl⟩
  clear K1
  go_wp2_with fail
  go_loopw [9] (fun v wr => ∃ (k : Nat) (qs : List UInt8), v = .string (B qs) ∧ Hid (qs = s ++ List.replicate k 0) ∧ qs.length = s.length + k ∧ k ≤ 8 - s.length ∧ Hid (Below w.heap.size w wr)) (fun v _ => 8 - strLen v)
  case atStart => exact ⟨0, s, rfl, Lib.hid (by simp), rfl, by omega, B1⟩
  case round =>
    clear B1
    obtain ⟨k, qs, rfl, HQ, hql, hk, B2⟩ := hrel
    by_cases hq8 : qs.length < 8
    · have hq9 : (qs.length : Int) < 8 := by omega
      have hq7 : ¬ (8 : Int) ≤ qs.length := by omega
      have z1 : ∀ w, (Op.stringOp .add (B qs) ⟨#[0]⟩).run Tryd.prog w = .ok (.string (B (qs ++ [0]))) w := fun w => by
        rw [run_string_add_sum w (B qs) ⟨#[0]⟩ (by rw [B_size]; show qs.length + 1 ≤ _; omega)]; exact congrArg (fun b => Result.ok (Value.string b) w) (B_app qs [0])
      obtain ⟨m, hm⟩ : ∃ m, m = qs.length := ⟨_, rfl⟩
      have HM := Lib.hid hm
      rw [← hm] at hq9 hq7
      replace hm := hm.symm
      have HQL : Hid (qs.length = s.length + k ∧ qs.length < 8) := Lib.hid ⟨hql, hq8⟩
      clear hql hq8
      go_wp2_with fail
      go_roundw
      case rel => exact ⟨k + 1, qs ++ [0], rfl, Lib.hid (by rw [HQ.out, List.append_assoc, List.replicate_succ']), by have := HQL.out; rw [List.length_append, List.length_singleton]; omega, by have := HQL.out; omega, B2⟩
      case measure =>
        have := HM.out
        have := HQL.out
        simp only [strLen, B_size, List.length_append, List.length_singleton]
        omega
    · have hq9 : (8 : Int) ≤ qs.length := by omega
      have hq7 : ¬ (qs.length : Int) < 8 := by omega
      have hk8 : k = 8 - s.length := by omega
      subst hk8
      have hhds : qs.take 8 = pss := by rw [HQ.out, HPs.out, head8]
      have HQLs : Hid (8 ≤ qs.length) := Lib.hid (by omega)
      clear hql hk hq8 HQ
      obtain ⟨ms, hms⟩ : ∃ m, m = qs.length := ⟨_, rfl⟩
      rw [← hms] at hq9 hq7
      have HMs := Lib.hid hms
      replace hms := hms.symm
      go_wp2_with fail
      go_loopw [10] (fun v wr => ∃ (k : Nat) (qt : List UInt8), v = .string (B qt) ∧ Hid (qt = t ++ List.replicate k 0) ∧ qt.length = t.length + k ∧ k ≤ 8 - t.length ∧ Hid (Below w.heap.size w wr)) (fun v _ => 8 - strLen v)
      case atStart => exact ⟨0, t, rfl, Lib.hid (by simp), rfl, by omega, B2⟩
      case round =>
        clear B2
        obtain ⟨k, qt, rfl, HQ, hql, hk, B3⟩ := hrel
        by_cases hq8 : qt.length < 8
        · have hq9 : (qt.length : Int) < 8 := by omega
          have hq7 : ¬ (8 : Int) ≤ qt.length := by omega
          have z1 : ∀ w, (Op.stringOp .add (B qt) ⟨#[0]⟩).run Tryd.prog w = .ok (.string (B (qt ++ [0]))) w := fun w => by
            rw [run_string_add_sum w (B qt) ⟨#[0]⟩ (by rw [B_size]; show qt.length + 1 ≤ _; omega)]; exact congrArg (fun b => Result.ok (Value.string b) w) (B_app qt [0])
          obtain ⟨m, hm⟩ : ∃ m, m = qt.length := ⟨_, rfl⟩
          have HM := Lib.hid hm
          rw [← hm] at hq9 hq7
          replace hm := hm.symm
          have HQL : Hid (qt.length = t.length + k ∧ qt.length < 8) := Lib.hid ⟨hql, hq8⟩
          clear hql hq8
          go_wp2_with fail
          go_roundw
          case rel => exact ⟨k + 1, qt ++ [0], rfl, Lib.hid (by rw [HQ.out, List.append_assoc, List.replicate_succ']), by have := HQL.out; rw [List.length_append, List.length_singleton]; omega, by have := HQL.out; omega, B3⟩
          case measure =>
            have := HM.out
            have := HQL.out
            simp only [strLen, B_size, List.length_append, List.length_singleton]
            omega
        · have hq9 : (8 : Int) ≤ qt.length := by omega
          have hq7 : ¬ (qt.length : Int) < 8 := by omega
          have hk8 : k = 8 - t.length := by omega
          subst hk8
          have hhdt : qt.take 8 = ptt := by rw [HQ.out, HPt.out, head8]
          have HQLt : Hid (8 ≤ qt.length) := Lib.hid (by omega)
          clear hql hk hq8 HQ
          obtain ⟨mt, hmt⟩ : ∃ m, m = qt.length := ⟨_, rfl⟩
          rw [← hmt] at hq9 hq7
          have HMt := Lib.hid hmt
          replace hmt := hmt.symm
          have hps : pss.length = 8 := by rw [HPs.out]; exact head8_length s
          have hpt : ptt.length = 8 := by rw [HPt.out]; exact head8_length t
          have z3 : ∀ w, (Op.stringOp .add (B pss) (B u)).run Tryd.prog w = .ok (.string (B (pss ++ u))) w := fun w => by
            rw [run_string_add_sum w (B pss) (B u) (by rw [B_size, B_size]; omega), B_app]
          have hless := less_val pss ptt (by rw [hps, hpt])
          have HPL := Lib.hid hps
          have HQL' := HPt
          clear hpt
          go_wp2_with fail
          refine (K3.out _).mono ?_
          rintro e w5 ⟨rfl, rfl⟩
          clear K3 z3 hhds hhdt
          have hback := back_eq pss hps
          rw [← HNV.out] at hback
          rcases Nat.lt_trichotomy (val pss) (val ptt) with hc | hc | hc
          · have hlt : Op.bytesLess pss ptt = true := by rw [hless]; exact decide_eq_true hc
            have hne : ¬ pss = ptt := fun e => by rw [e] at hc; omega
            have hnm : (n : Int) ≤ m := by have := HNV.out; have := HMV.out; omega
            have hnm2 : ¬ (m : Int) < n := by omega
            have HPEQ : (pss == ptt) = false := beq_eq_false_iff_ne.2 hne
            clear hless hc
            go_wp2_with fail
            refine (K2.out _).mono ?_
            rintro e w5 ⟨rfl, rfl⟩
            go_wp2_with fail
            clear hnm hnm2 hlt HPEQ hne
            generalize decide (m < n) = bb
            generalize hw3 : wr = w3 at B3 ⊢
            clear hw3
            go_loopw [11, 12] (fun o i wr => ∃ j : Nat, i = .int .i64 (j : Int) ∧ j ≤ 8 ∧ wr.ownsRow w3.heap.size 5 1 o ((List.range j).map (backAt n)).length (U ((List.range j).map (backAt n))) ∧ Below w3.heap.size w3 wr) (fun _ i _ => 8 - (intOf i).toNat)
            case atStart => exact ⟨0, rfl, by omega, World.ownsRow_nil _ _ _ _, Below.refl _ _⟩
            case round =>
              obtain ⟨j, rfl, hj, hown, hbel⟩ := hrel
              by_cases hj8 : j < 8
              · have hj9 : (j : Int) < 8 := by omega
                have h0 : 0 ≤ 56 - 8 * (j : Int) := by omega
                have v1 : IntKind.i64.wrap (8 * (j : Int)) = 8 * j := IntWalk.i64_in _ (by omega)
                have v2 : IntKind.i64.wrap (56 - 8 * (j : Int)) = 56 - 8 * j := IntWalk.i64_in _ (by omega)
                have v3 : IntKind.u64.wrap (n : Int) = n := IntWalk.u64_in _ (by omega)
                have v4 : IntKind.u64.wrap ((n : Int) * 8) = n * 8 := IntWalk.u64_in _ (by omega)
                have hbase := hbel.size
                have hby := back_byte n j hj8
                have hsucc : (List.range (j + 1)).map (backAt n) = (List.range j).map (backAt n) ++ [backAt n j] := by rw [List.range_succ, List.map_append]; rfl
                obtain ⟨q, hq⟩ : ∃ q, q = (List.range j).map (backAt n) := ⟨_, rfl⟩
                have hql : q.length = j := by rw [hq]; simp
                rw [← hq] at hown hsucc
                obtain ⟨by1, hb1⟩ : ∃ x, x = backAt n j := ⟨_, rfl⟩
                rw [← hb1] at hsucc hby
                have HSU := Lib.hid hsucc
                have HL := Lib.hid hql
                have HBY := Lib.hid hby
                clear hq hb1 hsucc hql hby hback
                go_wp2_with (at_builtin; refine wpList_append_own _ rfl _ _ 34 rfl w3.heap.size 5 i0 (.int .u8 0) 1 1 Tryd.underlying34 hi hz0 hz1 hz2 rfl (by decide) _ _ _ rfl (hown.alloc _) ⟨wr.heap.size, 0, none⟩ 1 1 [.int .u8 ((n : Int) * 8 / 2 ^ (56 - 8 * j) % 256)] rfl rfl one_cell (fun u hu => by simp at hu; subst hu; rfl) (by have := HL.out; unfold maxLen; omega) (by have := HL.out; omega) (by simp; omega) ?_; intro v' w6 hown' hgrow _)
                have R := own_more (r := [by1]) rfl (by rw [HBY.out]; rfl) hbase hown hbel hown' hgrow
                have R2 := R.1
                have R3 := R.2
                clear R hown' hgrow hown hbel
                rw [← HSU.out] at R2
                go_roundw
                case rel => exact ⟨j + 1, by go_num, by omega, R2, R3⟩
                case measure => simp [intOf]; omega
              · have hj8 : j = 8 := by omega
                subst hj8
                rw [show ((8 : Nat) : Int) = 8 from rfl]
                rw [hback] at hown
                have hpl := HPL.out
                obtain ⟨x7, hx7⟩ : ∃ x, x = (pss.getD 7 0).toNat := ⟨_, rfl⟩
                have hx8 : x7 < 256 := by rw [hx7]; exact (pss.getD 7 0).toNat_lt
                have gx : ∀ h, ((B pss)[7]'h).toNat = x7 := fun h => by rw [hx7, List.getD_eq_getElem?_getD, List.getElem?_eq_getElem (by omega)]; rfl
                obtain ⟨by7, hb7⟩ : ∃ b, b = UInt8.ofNat (x7 / 8 * 8) := ⟨_, rfl⟩
                have hw7 : (x7 : Int) / 8 * 8 = (by7.toNat : Nat) := by rw [hb7, UInt8.toNat_ofNat']; omega
                have hw7w : IntKind.u8.wrap ((by7.toNat : Nat) : Int) = (by7.toNat : Nat) := by rw [← hw7]; exact IntWalk.u8_in _ (by omega)
                have hw8 : IntKind.u8.wrap ((x7 : Int) / 8) = (x7 : Int) / 8 := IntWalk.u8_in _ (by omega)
                rw [← hx7, ← hb7] at hown
                obtain ⟨bk, hbk⟩ : ∃ b, b = pss.take 7 ++ [by7] := ⟨_, rfl⟩
                have hbl : bk.length = 8 := by rw [hbk]; simp [hpl]
                rw [← hbk, hbl] at hown
                have HB7 : Hid (bk[7]? = some by7) := Lib.hid (by rw [hbk, List.getElem?_append_right (by simp [hpl])]; simp [hpl])
                have HBK7 : Hid (bk.take 7 = pss.take 7 ∧ (pss.take 7).length = 7) := Lib.hid ⟨by rw [hbk, List.take_append_of_le_length (by simp [hpl]), List.take_take, Nat.min_self], by simp [hpl]⟩
                obtain ⟨g, cap, hv, hcap⟩ : ∃ g cap, u11 = .slice (some ⟨g, 0, none⟩) 8 cap ∧ 8 ≤ cap := by
                  rcases hown.2 with ⟨_, h0⟩ | ⟨g, cap, cur, hv, _, _, hnc, _⟩
                  · cases h0
                  · exact ⟨g, cap, hv, hnc⟩
                subst hv
                have hcap7 : (7 : Int) ≤ cap := by omega
                have hxb : (x7 : Int) ≤ 255 := by omega
                have hd := B3.out.trans (hbel.mono B3.out.size)
                have HD := Lib.hid hd
                clear hx7 hb7 hbk hbl hbel hd hback hx8
                go_wp2_with fail
                refine wp_region_held_drew (S := fun wz => wz.ownsRow w3.heap.size 5 1 (.slice (some ⟨g, 0, none⟩) 8 cap) 8 (U bk)) (by kernel_rfl) hown (fun hHeld => ?_)
                refine wpAnyH_take (i := 0) (oi := ⟨_, _, _, _, _, _⟩) (v := ?_) rfl (by kernel_rfl) (by kernel_rfl) (by kernel_rfl) (fun _ _ _ h => h) (Or.inl ⟨by rfl, ?_⟩) (by assumption) ?_
                rotate_left
                · intro wz hSw
                  try dsimp only at hSw
                  go_simp
                  try with_reducible rfl
                try simp only [Act.put, List.setIfInBounds_toArray, List.set_cons_zero, List.set_cons_succ]
                refine wpAnyH_take (i := 1) (oi := ⟨_, _, _, _, _, _⟩) (v := ?_) rfl (by kernel_rfl) (by kernel_rfl) (by kernel_rfl) (fun _ _ _ h => h) (Or.inl ⟨by rfl, ?_⟩) (by assumption) ?_
                rotate_left
                · intro wz hSw
                  try dsimp only at hSw
                  go_simp
                  try with_reducible rfl
                try simp only [Act.put, List.setIfInBounds_toArray, List.set_cons_zero, List.set_cons_succ]
                refine wpAnyH_take (i := 2) (oi := ⟨_, _, _, _, _, _⟩) (v := ?_) rfl (by kernel_rfl) (by kernel_rfl) (by kernel_rfl) (fun _ _ _ h => h) (Or.inl ⟨by rfl, ?_⟩) (by assumption) ?_
                rotate_left
                · intro wz hSw
                  try dsimp only at hSw
                  go_simp
                  try with_reducible rfl
                try simp only [Act.put, List.setIfInBounds_toArray, List.set_cons_zero, List.set_cons_succ]
                refine wpAnyH_take (i := 3) (oi := ⟨_, _, _, _, _, _⟩) (v := ?_) rfl (by kernel_rfl) (by kernel_rfl) (by kernel_rfl) (fun _ _ _ h => h) (Or.inl ⟨by rfl, ?_⟩) (by assumption) ?_
                rotate_left
                · intro wz hSw
                  try dsimp only at hSw
                  go_simp
                  try with_reducible rfl
                try simp only [Act.put, List.setIfInBounds_toArray, List.set_cons_zero, List.set_cons_succ]
                refine wpAnyH_take (i := 4) (oi := ⟨_, _, _, _, _, _⟩) (v := .string (B (pss.take 7))) rfl (by kernel_rfl) (by kernel_rfl) (by kernel_rfl) (fun _ _ _ h => h) (Or.inl ⟨by rfl, ?_⟩) (by assumption) ?_
                · intro wz hSw
                  try dsimp only at hSw
                  have hcv := conv_seven hSw HBK7.out
                  go_simp
                try simp only [Act.put, List.setIfInBounds_toArray, List.set_cons_zero, List.set_cons_succ]
                refine wpAnyH_take (i := 5) (oi := ⟨_, _, _, _, _, _⟩) (v := ?_) rfl (by kernel_rfl) (by kernel_rfl) (by kernel_rfl) (fun _ _ _ h => h) (Or.inl ⟨by rfl, ?_⟩) (by assumption) ?_
                rotate_left
                · intro wz hSw
                  try dsimp only at hSw
                  go_simp
                  try with_reducible rfl
                try simp only [Act.put, List.setIfInBounds_toArray, List.set_cons_zero, List.set_cons_succ]
                refine wpAnyH_take (i := 6) (oi := ⟨_, _, _, _, _, _⟩) (v := ?_) rfl (by kernel_rfl) (by kernel_rfl) (by kernel_rfl) (fun _ _ _ h => h) (Or.inl ⟨by rfl, ?_⟩) (by assumption) ?_
                rotate_left
                · intro wz hSw
                  try dsimp only at hSw
                  go_simp
                  try with_reducible rfl
                try simp only [Act.put, List.setIfInBounds_toArray, List.set_cons_zero, List.set_cons_succ]
                refine wpAnyH_take (i := 7) (oi := ⟨_, _, _, _, _, _⟩) (v := ?_) rfl (by kernel_rfl) (by kernel_rfl) (by kernel_rfl) (fun _ _ _ h => h) (Or.inl ⟨by rfl, ?_⟩) (by assumption) ?_
                rotate_left
                · intro wz hSw
                  try dsimp only at hSw
                  go_simp
                  try with_reducible rfl
                try simp only [Act.put, List.setIfInBounds_toArray, List.set_cons_zero, List.set_cons_succ]
                refine wpAnyH_take (i := 8) (oi := ⟨_, _, _, _, _, _⟩) (v := ?_) rfl (by kernel_rfl) (by kernel_rfl) (by kernel_rfl) (fun _ _ _ h => h) (Or.inl ⟨by rfl, ?_⟩) (by assumption) ?_
                rotate_left
                · intro wz hSw
                  try dsimp only at hSw
                  go_simp
                  try with_reducible rfl
                try simp only [Act.put, List.setIfInBounds_toArray, List.set_cons_zero, List.set_cons_succ]
                refine wpAnyH_take (i := 9) (oi := ⟨_, _, _, _, _, _⟩) (v := ?_) rfl (by kernel_rfl) (by kernel_rfl) (by kernel_rfl) (fun _ _ _ h => h) (Or.inl ⟨by rfl, ?_⟩) (by assumption) ?_
                rotate_left
                · intro wz hSw
                  try dsimp only at hSw
                  go_simp
                  try with_reducible rfl
                try simp only [Act.put, List.setIfInBounds_toArray, List.set_cons_zero, List.set_cons_succ]
                refine wpAnyH_take (i := 10) (oi := ⟨_, _, _, _, _, _⟩) (v := ?_) rfl (by kernel_rfl) (by kernel_rfl) (by kernel_rfl) (fun _ _ _ h => h) (Or.inl ⟨by rfl, ?_⟩) (by assumption) ?_
                rotate_left
                · intro wz hSw
                  try dsimp only at hSw
                  go_simp
                  try with_reducible rfl
                try simp only [Act.put, List.setIfInBounds_toArray, List.set_cons_zero, List.set_cons_succ]
                refine wpAnyH_take (i := 11) (oi := ⟨_, _, _, _, _, _⟩) (v := ?_) rfl (by kernel_rfl) (by kernel_rfl) (by kernel_rfl) (fun _ _ _ h => h) (Or.inl ⟨by rfl, ?_⟩) (by assumption) ?_
                rotate_left
                · intro wz hSw
                  try dsimp only at hSw
                  go_simp
                  try with_reducible rfl
                try simp only [Act.put, List.setIfInBounds_toArray, List.set_cons_zero, List.set_cons_succ]
                refine wpAnyH_take (i := 12) (oi := ⟨_, _, _, _, _, _⟩) (v := .int .u8 (by7.toNat : Nat)) rfl (by kernel_rfl) (by kernel_rfl) (by kernel_rfl) (fun _ _ _ h => h) (Or.inl ⟨by rfl, ?_⟩) (by assumption) ?_
                · intro wz hSw
                  try dsimp only at hSw
                  have hcl := cell_seven hSw HB7.out
                  go_simp
                try simp only [Act.put, List.setIfInBounds_toArray, List.set_cons_zero, List.set_cons_succ]
                refine wpAnyH_take (i := 13) (oi := ⟨_, _, _, _, _, _⟩) (v := ?_) rfl (by kernel_rfl) (by kernel_rfl) (by kernel_rfl) (fun _ _ _ h => h) (Or.inl ⟨by rfl, ?_⟩) (by assumption) ?_
                rotate_left
                · intro wz hSw
                  try dsimp only at hSw
                  go_simp
                  try with_reducible rfl
                try simp only [Act.put, List.setIfInBounds_toArray, List.set_cons_zero, List.set_cons_succ]
                refine wpAnyH_take (i := 14) (oi := ⟨_, _, _, _, _, _⟩) (v := ?_) rfl (by kernel_rfl) (by kernel_rfl) (by kernel_rfl) (fun _ _ _ h => h) (Or.inl ⟨by rfl, ?_⟩) (by assumption) ?_
                rotate_left
                · intro wz hSw
                  try dsimp only at hSw
                  go_simp
                  try with_reducible rfl
                try simp only [Act.put, List.setIfInBounds_toArray, List.set_cons_zero, List.set_cons_succ]
                refine wpAnyH_take (i := 15) (oi := ⟨_, _, _, _, _, _⟩) (v := ?_) rfl (by kernel_rfl) (by kernel_rfl) (by kernel_rfl) (fun _ _ _ h => h) (Or.inl ⟨by rfl, ?_⟩) (by assumption) ?_
                rotate_left
                · intro wz hSw
                  try dsimp only at hSw
                  go_simp
                  try with_reducible rfl
                try simp only [Act.put, List.setIfInBounds_toArray, List.set_cons_zero, List.set_cons_succ]
                refine wpAnyH_take (i := 16) (oi := ⟨_, _, _, _, _, _⟩) (v := ?_) rfl (by kernel_rfl) (by kernel_rfl) (by kernel_rfl) (fun _ _ _ h => h) (Or.inl ⟨by rfl, ?_⟩) (by assumption) ?_
                rotate_left
                · intro wz hSw
                  try dsimp only at hSw
                  go_simp
                  try with_reducible rfl
                try simp only [Act.put, List.setIfInBounds_toArray, List.set_cons_zero, List.set_cons_succ]
                refine wpAnyH_take (i := 17) (oi := ⟨_, _, _, _, _, _⟩) (v := ?_) rfl (by kernel_rfl) (by kernel_rfl) (by kernel_rfl) (fun _ _ _ h => h) (Or.inl ⟨by rfl, ?_⟩) (by assumption) ?_
                rotate_left
                · intro wz hSw
                  try dsimp only at hSw
                  go_simp
                  try with_reducible rfl
                try simp only [Act.put, List.setIfInBounds_toArray, List.set_cons_zero, List.set_cons_succ]
                refine wpAnyH_take (i := 18) (oi := ⟨_, _, _, _, _, _⟩) (v := ?_) rfl (by kernel_rfl) (by kernel_rfl) (by kernel_rfl) (fun _ _ _ h => h) (Or.inl ⟨by rfl, ?_⟩) (by assumption) ?_
                rotate_left
                · intro wz hSw
                  try dsimp only at hSw
                  go_simp
                  try with_reducible rfl
                try simp only [Act.put, List.setIfInBounds_toArray, List.set_cons_zero, List.set_cons_succ]
                refine wpAnyH_take (i := 19) (oi := ⟨_, _, _, _, _, _⟩) (v := ?_) rfl (by kernel_rfl) (by kernel_rfl) (by kernel_rfl) (fun _ _ _ h => h) (Or.inl ⟨by rfl, ?_⟩) (by assumption) ?_
                rotate_left
                · intro wz hSw
                  try dsimp only at hSw
                  go_simp
                  try with_reducible rfl
                try simp only [Act.put, List.setIfInBounds_toArray, List.set_cons_zero, List.set_cons_succ]
                refine wpAnyH_done (by kernel_rfl) ?_ _
                go_wp2
                go_ret
                exact ⟨rfl, Good.of HD.out.drew⟩
          · have hlt : Op.bytesLess pss ptt = false := by rw [hless]; exact decide_eq_false (by omega)
            have hps8 := HPL.out
            have hpt8 : ptt.length = 8 := by rw [HPt.out]; exact head8_length t
            have heq : (pss == ptt) = true := by rw [beq_iff_eq]; exact val_inj pss ptt (by omega) hc
            clear hless hc hps8 hpt8
            go_wp2_with fail
            clear hlt heq
            generalize hw3 : wr = w3 at B3 ⊢
            clear hw3
            go_loopw [11, 12] (fun o i wr => ∃ j : Nat, i = .int .i64 (j : Int) ∧ j ≤ 8 ∧ wr.ownsRow w3.heap.size 5 1 o ((List.range j).map (backAt n)).length (U ((List.range j).map (backAt n))) ∧ Below w3.heap.size w3 wr) (fun _ i _ => 8 - (intOf i).toNat)
            case atStart => exact ⟨0, rfl, by omega, World.ownsRow_nil _ _ _ _, Below.refl _ _⟩
            case round =>
              obtain ⟨j, rfl, hj, hown, hbel⟩ := hrel
              by_cases hj8 : j < 8
              · have hj9 : (j : Int) < 8 := by omega
                have h0 : 0 ≤ 56 - 8 * (j : Int) := by omega
                have v1 : IntKind.i64.wrap (8 * (j : Int)) = 8 * j := IntWalk.i64_in _ (by omega)
                have v2 : IntKind.i64.wrap (56 - 8 * (j : Int)) = 56 - 8 * j := IntWalk.i64_in _ (by omega)
                have v3 : IntKind.u64.wrap (n : Int) = n := IntWalk.u64_in _ (by omega)
                have v4 : IntKind.u64.wrap ((n : Int) * 8) = n * 8 := IntWalk.u64_in _ (by omega)
                have hbase := hbel.size
                have hby := back_byte n j hj8
                have hsucc : (List.range (j + 1)).map (backAt n) = (List.range j).map (backAt n) ++ [backAt n j] := by rw [List.range_succ, List.map_append]; rfl
                obtain ⟨q, hq⟩ : ∃ q, q = (List.range j).map (backAt n) := ⟨_, rfl⟩
                have hql : q.length = j := by rw [hq]; simp
                rw [← hq] at hown hsucc
                obtain ⟨by1, hb1⟩ : ∃ x, x = backAt n j := ⟨_, rfl⟩
                rw [← hb1] at hsucc hby
                have HSU := Lib.hid hsucc
                have HL := Lib.hid hql
                have HBY := Lib.hid hby
                clear hq hb1 hsucc hql hby hback
                go_wp2_with (at_builtin; refine wpList_append_own _ rfl _ _ 34 rfl w3.heap.size 5 i0 (.int .u8 0) 1 1 Tryd.underlying34 hi hz0 hz1 hz2 rfl (by decide) _ _ _ rfl (hown.alloc _) ⟨wr.heap.size, 0, none⟩ 1 1 [.int .u8 ((n : Int) * 8 / 2 ^ (56 - 8 * j) % 256)] rfl rfl one_cell (fun u hu => by simp at hu; subst hu; rfl) (by have := HL.out; unfold maxLen; omega) (by have := HL.out; omega) (by simp; omega) ?_; intro v' w6 hown' hgrow _)
                have R := own_more (r := [by1]) rfl (by rw [HBY.out]; rfl) hbase hown hbel hown' hgrow
                have R2 := R.1
                have R3 := R.2
                clear R hown' hgrow hown hbel
                rw [← HSU.out] at R2
                go_roundw
                case rel => exact ⟨j + 1, by go_num, by omega, R2, R3⟩
                case measure => simp [intOf]; omega
              · have hj8 : j = 8 := by omega
                subst hj8
                rw [show ((8 : Nat) : Int) = 8 from rfl]
                rw [hback] at hown
                have hpl := HPL.out
                obtain ⟨x7, hx7⟩ : ∃ x, x = (pss.getD 7 0).toNat := ⟨_, rfl⟩
                have hx8 : x7 < 256 := by rw [hx7]; exact (pss.getD 7 0).toNat_lt
                have gx : ∀ h, ((B pss)[7]'h).toNat = x7 := fun h => by rw [hx7, List.getD_eq_getElem?_getD, List.getElem?_eq_getElem (by omega)]; rfl
                obtain ⟨by7, hb7⟩ : ∃ b, b = UInt8.ofNat (x7 / 8 * 8) := ⟨_, rfl⟩
                have hw7 : (x7 : Int) / 8 * 8 = (by7.toNat : Nat) := by rw [hb7, UInt8.toNat_ofNat']; omega
                have hw7w : IntKind.u8.wrap ((by7.toNat : Nat) : Int) = (by7.toNat : Nat) := by rw [← hw7]; exact IntWalk.u8_in _ (by omega)
                have hw8 : IntKind.u8.wrap ((x7 : Int) / 8) = (x7 : Int) / 8 := IntWalk.u8_in _ (by omega)
                rw [← hx7, ← hb7] at hown
                obtain ⟨bk, hbk⟩ : ∃ b, b = pss.take 7 ++ [by7] := ⟨_, rfl⟩
                have hbl : bk.length = 8 := by rw [hbk]; simp [hpl]
                rw [← hbk, hbl] at hown
                have HB7 : Hid (bk[7]? = some by7) := Lib.hid (by rw [hbk, List.getElem?_append_right (by simp [hpl])]; simp [hpl])
                have HBK7 : Hid (bk.take 7 = pss.take 7 ∧ (pss.take 7).length = 7) := Lib.hid ⟨by rw [hbk, List.take_append_of_le_length (by simp [hpl]), List.take_take, Nat.min_self], by simp [hpl]⟩
                obtain ⟨g, cap, hv, hcap⟩ : ∃ g cap, u11 = .slice (some ⟨g, 0, none⟩) 8 cap ∧ 8 ≤ cap := by
                  rcases hown.2 with ⟨_, h0⟩ | ⟨g, cap, cur, hv, _, _, hnc, _⟩
                  · cases h0
                  · exact ⟨g, cap, hv, hnc⟩
                subst hv
                have hcap7 : (7 : Int) ≤ cap := by omega
                have hxb : (x7 : Int) ≤ 255 := by omega
                have hd := B3.out.trans (hbel.mono B3.out.size)
                have HD := Lib.hid hd
                clear hx7 hb7 hbk hbl hbel hd hback hx8
                go_wp2_with fail
                refine wp_region_held_drew (S := fun wz => wz.ownsRow w3.heap.size 5 1 (.slice (some ⟨g, 0, none⟩) 8 cap) 8 (U bk)) (by kernel_rfl) hown (fun hHeld => ?_)
                refine wpAnyH_take (i := 0) (oi := ⟨_, _, _, _, _, _⟩) (v := ?_) rfl (by kernel_rfl) (by kernel_rfl) (by kernel_rfl) (fun _ _ _ h => h) (Or.inl ⟨by rfl, ?_⟩) (by assumption) ?_
                rotate_left
                · intro wz hSw
                  try dsimp only at hSw
                  go_simp
                  try with_reducible rfl
                try simp only [Act.put, List.setIfInBounds_toArray, List.set_cons_zero, List.set_cons_succ]
                refine wpAnyH_take (i := 1) (oi := ⟨_, _, _, _, _, _⟩) (v := ?_) rfl (by kernel_rfl) (by kernel_rfl) (by kernel_rfl) (fun _ _ _ h => h) (Or.inl ⟨by rfl, ?_⟩) (by assumption) ?_
                rotate_left
                · intro wz hSw
                  try dsimp only at hSw
                  go_simp
                  try with_reducible rfl
                try simp only [Act.put, List.setIfInBounds_toArray, List.set_cons_zero, List.set_cons_succ]
                refine wpAnyH_take (i := 2) (oi := ⟨_, _, _, _, _, _⟩) (v := ?_) rfl (by kernel_rfl) (by kernel_rfl) (by kernel_rfl) (fun _ _ _ h => h) (Or.inl ⟨by rfl, ?_⟩) (by assumption) ?_
                rotate_left
                · intro wz hSw
                  try dsimp only at hSw
                  go_simp
                  try with_reducible rfl
                try simp only [Act.put, List.setIfInBounds_toArray, List.set_cons_zero, List.set_cons_succ]
                refine wpAnyH_take (i := 3) (oi := ⟨_, _, _, _, _, _⟩) (v := ?_) rfl (by kernel_rfl) (by kernel_rfl) (by kernel_rfl) (fun _ _ _ h => h) (Or.inl ⟨by rfl, ?_⟩) (by assumption) ?_
                rotate_left
                · intro wz hSw
                  try dsimp only at hSw
                  go_simp
                  try with_reducible rfl
                try simp only [Act.put, List.setIfInBounds_toArray, List.set_cons_zero, List.set_cons_succ]
                refine wpAnyH_take (i := 4) (oi := ⟨_, _, _, _, _, _⟩) (v := .string (B (pss.take 7))) rfl (by kernel_rfl) (by kernel_rfl) (by kernel_rfl) (fun _ _ _ h => h) (Or.inl ⟨by rfl, ?_⟩) (by assumption) ?_
                · intro wz hSw
                  try dsimp only at hSw
                  have hcv := conv_seven hSw HBK7.out
                  go_simp
                try simp only [Act.put, List.setIfInBounds_toArray, List.set_cons_zero, List.set_cons_succ]
                refine wpAnyH_take (i := 5) (oi := ⟨_, _, _, _, _, _⟩) (v := ?_) rfl (by kernel_rfl) (by kernel_rfl) (by kernel_rfl) (fun _ _ _ h => h) (Or.inl ⟨by rfl, ?_⟩) (by assumption) ?_
                rotate_left
                · intro wz hSw
                  try dsimp only at hSw
                  go_simp
                  try with_reducible rfl
                try simp only [Act.put, List.setIfInBounds_toArray, List.set_cons_zero, List.set_cons_succ]
                refine wpAnyH_take (i := 6) (oi := ⟨_, _, _, _, _, _⟩) (v := ?_) rfl (by kernel_rfl) (by kernel_rfl) (by kernel_rfl) (fun _ _ _ h => h) (Or.inl ⟨by rfl, ?_⟩) (by assumption) ?_
                rotate_left
                · intro wz hSw
                  try dsimp only at hSw
                  go_simp
                  try with_reducible rfl
                try simp only [Act.put, List.setIfInBounds_toArray, List.set_cons_zero, List.set_cons_succ]
                refine wpAnyH_take (i := 7) (oi := ⟨_, _, _, _, _, _⟩) (v := ?_) rfl (by kernel_rfl) (by kernel_rfl) (by kernel_rfl) (fun _ _ _ h => h) (Or.inl ⟨by rfl, ?_⟩) (by assumption) ?_
                rotate_left
                · intro wz hSw
                  try dsimp only at hSw
                  go_simp
                  try with_reducible rfl
                try simp only [Act.put, List.setIfInBounds_toArray, List.set_cons_zero, List.set_cons_succ]
                refine wpAnyH_take (i := 8) (oi := ⟨_, _, _, _, _, _⟩) (v := ?_) rfl (by kernel_rfl) (by kernel_rfl) (by kernel_rfl) (fun _ _ _ h => h) (Or.inl ⟨by rfl, ?_⟩) (by assumption) ?_
                rotate_left
                · intro wz hSw
                  try dsimp only at hSw
                  go_simp
                  try with_reducible rfl
                try simp only [Act.put, List.setIfInBounds_toArray, List.set_cons_zero, List.set_cons_succ]
                refine wpAnyH_take (i := 9) (oi := ⟨_, _, _, _, _, _⟩) (v := ?_) rfl (by kernel_rfl) (by kernel_rfl) (by kernel_rfl) (fun _ _ _ h => h) (Or.inl ⟨by rfl, ?_⟩) (by assumption) ?_
                rotate_left
                · intro wz hSw
                  try dsimp only at hSw
                  go_simp
                  try with_reducible rfl
                try simp only [Act.put, List.setIfInBounds_toArray, List.set_cons_zero, List.set_cons_succ]
                refine wpAnyH_take (i := 10) (oi := ⟨_, _, _, _, _, _⟩) (v := ?_) rfl (by kernel_rfl) (by kernel_rfl) (by kernel_rfl) (fun _ _ _ h => h) (Or.inl ⟨by rfl, ?_⟩) (by assumption) ?_
                rotate_left
                · intro wz hSw
                  try dsimp only at hSw
                  go_simp
                  try with_reducible rfl
                try simp only [Act.put, List.setIfInBounds_toArray, List.set_cons_zero, List.set_cons_succ]
                refine wpAnyH_take (i := 11) (oi := ⟨_, _, _, _, _, _⟩) (v := ?_) rfl (by kernel_rfl) (by kernel_rfl) (by kernel_rfl) (fun _ _ _ h => h) (Or.inl ⟨by rfl, ?_⟩) (by assumption) ?_
                rotate_left
                · intro wz hSw
                  try dsimp only at hSw
                  go_simp
                  try with_reducible rfl
                try simp only [Act.put, List.setIfInBounds_toArray, List.set_cons_zero, List.set_cons_succ]
                refine wpAnyH_take (i := 12) (oi := ⟨_, _, _, _, _, _⟩) (v := .int .u8 (by7.toNat : Nat)) rfl (by kernel_rfl) (by kernel_rfl) (by kernel_rfl) (fun _ _ _ h => h) (Or.inl ⟨by rfl, ?_⟩) (by assumption) ?_
                · intro wz hSw
                  try dsimp only at hSw
                  have hcl := cell_seven hSw HB7.out
                  go_simp
                try simp only [Act.put, List.setIfInBounds_toArray, List.set_cons_zero, List.set_cons_succ]
                refine wpAnyH_take (i := 13) (oi := ⟨_, _, _, _, _, _⟩) (v := ?_) rfl (by kernel_rfl) (by kernel_rfl) (by kernel_rfl) (fun _ _ _ h => h) (Or.inl ⟨by rfl, ?_⟩) (by assumption) ?_
                rotate_left
                · intro wz hSw
                  try dsimp only at hSw
                  go_simp
                  try with_reducible rfl
                try simp only [Act.put, List.setIfInBounds_toArray, List.set_cons_zero, List.set_cons_succ]
                refine wpAnyH_take (i := 14) (oi := ⟨_, _, _, _, _, _⟩) (v := ?_) rfl (by kernel_rfl) (by kernel_rfl) (by kernel_rfl) (fun _ _ _ h => h) (Or.inl ⟨by rfl, ?_⟩) (by assumption) ?_
                rotate_left
                · intro wz hSw
                  try dsimp only at hSw
                  go_simp
                  try with_reducible rfl
                try simp only [Act.put, List.setIfInBounds_toArray, List.set_cons_zero, List.set_cons_succ]
                refine wpAnyH_take (i := 15) (oi := ⟨_, _, _, _, _, _⟩) (v := ?_) rfl (by kernel_rfl) (by kernel_rfl) (by kernel_rfl) (fun _ _ _ h => h) (Or.inl ⟨by rfl, ?_⟩) (by assumption) ?_
                rotate_left
                · intro wz hSw
                  try dsimp only at hSw
                  go_simp
                  try with_reducible rfl
                try simp only [Act.put, List.setIfInBounds_toArray, List.set_cons_zero, List.set_cons_succ]
                refine wpAnyH_take (i := 16) (oi := ⟨_, _, _, _, _, _⟩) (v := ?_) rfl (by kernel_rfl) (by kernel_rfl) (by kernel_rfl) (fun _ _ _ h => h) (Or.inl ⟨by rfl, ?_⟩) (by assumption) ?_
                rotate_left
                · intro wz hSw
                  try dsimp only at hSw
                  go_simp
                  try with_reducible rfl
                try simp only [Act.put, List.setIfInBounds_toArray, List.set_cons_zero, List.set_cons_succ]
                refine wpAnyH_take (i := 17) (oi := ⟨_, _, _, _, _, _⟩) (v := ?_) rfl (by kernel_rfl) (by kernel_rfl) (by kernel_rfl) (fun _ _ _ h => h) (Or.inl ⟨by rfl, ?_⟩) (by assumption) ?_
                rotate_left
                · intro wz hSw
                  try dsimp only at hSw
                  go_simp
                  try with_reducible rfl
                try simp only [Act.put, List.setIfInBounds_toArray, List.set_cons_zero, List.set_cons_succ]
                refine wpAnyH_take (i := 18) (oi := ⟨_, _, _, _, _, _⟩) (v := ?_) rfl (by kernel_rfl) (by kernel_rfl) (by kernel_rfl) (fun _ _ _ h => h) (Or.inl ⟨by rfl, ?_⟩) (by assumption) ?_
                rotate_left
                · intro wz hSw
                  try dsimp only at hSw
                  go_simp
                  try with_reducible rfl
                try simp only [Act.put, List.setIfInBounds_toArray, List.set_cons_zero, List.set_cons_succ]
                refine wpAnyH_take (i := 19) (oi := ⟨_, _, _, _, _, _⟩) (v := ?_) rfl (by kernel_rfl) (by kernel_rfl) (by kernel_rfl) (fun _ _ _ h => h) (Or.inl ⟨by rfl, ?_⟩) (by assumption) ?_
                rotate_left
                · intro wz hSw
                  try dsimp only at hSw
                  go_simp
                  try with_reducible rfl
                try simp only [Act.put, List.setIfInBounds_toArray, List.set_cons_zero, List.set_cons_succ]
                refine wpAnyH_done (by kernel_rfl) ?_ _
                go_wp2
                go_ret
                exact ⟨rfl, Good.of HD.out.drew⟩
          · have hlt : Op.bytesLess pss ptt = false := by rw [hless]; exact decide_eq_false (by omega)
            have hne : ¬ pss = ptt := fun e => by rw [e] at hc; omega
            have hnm : (m : Int) ≤ n := by have := HNV.out; have := HMV.out; omega
            have hnm2 : ¬ (n : Int) < m := by omega
            have HPEQ : (pss == ptt) = false := beq_eq_false_iff_ne.2 hne
            clear hless hc
            go_wp2_with fail
            refine (K2.out _).mono ?_
            rintro e w5 ⟨rfl, rfl⟩
            go_wp2_with fail
            clear hnm hnm2 hlt HPEQ hne
            generalize decide (n < m) = bb
            generalize hw3 : wr = w3 at B3 ⊢
            clear hw3
            go_loopw [11, 12] (fun o i wr => ∃ j : Nat, i = .int .i64 (j : Int) ∧ j ≤ 8 ∧ wr.ownsRow w3.heap.size 5 1 o ((List.range j).map (backAt n)).length (U ((List.range j).map (backAt n))) ∧ Below w3.heap.size w3 wr) (fun _ i _ => 8 - (intOf i).toNat)
            case atStart => exact ⟨0, rfl, by omega, World.ownsRow_nil _ _ _ _, Below.refl _ _⟩
            case round =>
              obtain ⟨j, rfl, hj, hown, hbel⟩ := hrel
              by_cases hj8 : j < 8
              · have hj9 : (j : Int) < 8 := by omega
                have h0 : 0 ≤ 56 - 8 * (j : Int) := by omega
                have v1 : IntKind.i64.wrap (8 * (j : Int)) = 8 * j := IntWalk.i64_in _ (by omega)
                have v2 : IntKind.i64.wrap (56 - 8 * (j : Int)) = 56 - 8 * j := IntWalk.i64_in _ (by omega)
                have v3 : IntKind.u64.wrap (n : Int) = n := IntWalk.u64_in _ (by omega)
                have v4 : IntKind.u64.wrap ((n : Int) * 8) = n * 8 := IntWalk.u64_in _ (by omega)
                have hbase := hbel.size
                have hby := back_byte n j hj8
                have hsucc : (List.range (j + 1)).map (backAt n) = (List.range j).map (backAt n) ++ [backAt n j] := by rw [List.range_succ, List.map_append]; rfl
                obtain ⟨q, hq⟩ : ∃ q, q = (List.range j).map (backAt n) := ⟨_, rfl⟩
                have hql : q.length = j := by rw [hq]; simp
                rw [← hq] at hown hsucc
                obtain ⟨by1, hb1⟩ : ∃ x, x = backAt n j := ⟨_, rfl⟩
                rw [← hb1] at hsucc hby
                have HSU := Lib.hid hsucc
                have HL := Lib.hid hql
                have HBY := Lib.hid hby
                clear hq hb1 hsucc hql hby hback
                go_wp2_with (at_builtin; refine wpList_append_own _ rfl _ _ 34 rfl w3.heap.size 5 i0 (.int .u8 0) 1 1 Tryd.underlying34 hi hz0 hz1 hz2 rfl (by decide) _ _ _ rfl (hown.alloc _) ⟨wr.heap.size, 0, none⟩ 1 1 [.int .u8 ((n : Int) * 8 / 2 ^ (56 - 8 * j) % 256)] rfl rfl one_cell (fun u hu => by simp at hu; subst hu; rfl) (by have := HL.out; unfold maxLen; omega) (by have := HL.out; omega) (by simp; omega) ?_; intro v' w6 hown' hgrow _)
                have R := own_more (r := [by1]) rfl (by rw [HBY.out]; rfl) hbase hown hbel hown' hgrow
                have R2 := R.1
                have R3 := R.2
                clear R hown' hgrow hown hbel
                rw [← HSU.out] at R2
                go_roundw
                case rel => exact ⟨j + 1, by go_num, by omega, R2, R3⟩
                case measure => simp [intOf]; omega
              · have hj8 : j = 8 := by omega
                subst hj8
                rw [show ((8 : Nat) : Int) = 8 from rfl]
                rw [hback] at hown
                have hpl := HPL.out
                obtain ⟨x7, hx7⟩ : ∃ x, x = (pss.getD 7 0).toNat := ⟨_, rfl⟩
                have hx8 : x7 < 256 := by rw [hx7]; exact (pss.getD 7 0).toNat_lt
                have gx : ∀ h, ((B pss)[7]'h).toNat = x7 := fun h => by rw [hx7, List.getD_eq_getElem?_getD, List.getElem?_eq_getElem (by omega)]; rfl
                obtain ⟨by7, hb7⟩ : ∃ b, b = UInt8.ofNat (x7 / 8 * 8) := ⟨_, rfl⟩
                have hw7 : (x7 : Int) / 8 * 8 = (by7.toNat : Nat) := by rw [hb7, UInt8.toNat_ofNat']; omega
                have hw7w : IntKind.u8.wrap ((by7.toNat : Nat) : Int) = (by7.toNat : Nat) := by rw [← hw7]; exact IntWalk.u8_in _ (by omega)
                have hw8 : IntKind.u8.wrap ((x7 : Int) / 8) = (x7 : Int) / 8 := IntWalk.u8_in _ (by omega)
                rw [← hx7, ← hb7] at hown
                obtain ⟨bk, hbk⟩ : ∃ b, b = pss.take 7 ++ [by7] := ⟨_, rfl⟩
                have hbl : bk.length = 8 := by rw [hbk]; simp [hpl]
                rw [← hbk, hbl] at hown
                have HB7 : Hid (bk[7]? = some by7) := Lib.hid (by rw [hbk, List.getElem?_append_right (by simp [hpl])]; simp [hpl])
                have HBK7 : Hid (bk.take 7 = pss.take 7 ∧ (pss.take 7).length = 7) := Lib.hid ⟨by rw [hbk, List.take_append_of_le_length (by simp [hpl]), List.take_take, Nat.min_self], by simp [hpl]⟩
                obtain ⟨g, cap, hv, hcap⟩ : ∃ g cap, u11 = .slice (some ⟨g, 0, none⟩) 8 cap ∧ 8 ≤ cap := by
                  rcases hown.2 with ⟨_, h0⟩ | ⟨g, cap, cur, hv, _, _, hnc, _⟩
                  · cases h0
                  · exact ⟨g, cap, hv, hnc⟩
                subst hv
                have hcap7 : (7 : Int) ≤ cap := by omega
                have hxb : (x7 : Int) ≤ 255 := by omega
                have hd := B3.out.trans (hbel.mono B3.out.size)
                have HD := Lib.hid hd
                clear hx7 hb7 hbk hbl hbel hd hback hx8
                go_wp2_with fail
                refine wp_region_held_drew (S := fun wz => wz.ownsRow w3.heap.size 5 1 (.slice (some ⟨g, 0, none⟩) 8 cap) 8 (U bk)) (by kernel_rfl) hown (fun hHeld => ?_)
                refine wpAnyH_take (i := 0) (oi := ⟨_, _, _, _, _, _⟩) (v := ?_) rfl (by kernel_rfl) (by kernel_rfl) (by kernel_rfl) (fun _ _ _ h => h) (Or.inl ⟨by rfl, ?_⟩) (by assumption) ?_
                rotate_left
                · intro wz hSw
                  try dsimp only at hSw
                  go_simp
                  try with_reducible rfl
                try simp only [Act.put, List.setIfInBounds_toArray, List.set_cons_zero, List.set_cons_succ]
                refine wpAnyH_take (i := 1) (oi := ⟨_, _, _, _, _, _⟩) (v := ?_) rfl (by kernel_rfl) (by kernel_rfl) (by kernel_rfl) (fun _ _ _ h => h) (Or.inl ⟨by rfl, ?_⟩) (by assumption) ?_
                rotate_left
                · intro wz hSw
                  try dsimp only at hSw
                  go_simp
                  try with_reducible rfl
                try simp only [Act.put, List.setIfInBounds_toArray, List.set_cons_zero, List.set_cons_succ]
                refine wpAnyH_take (i := 2) (oi := ⟨_, _, _, _, _, _⟩) (v := ?_) rfl (by kernel_rfl) (by kernel_rfl) (by kernel_rfl) (fun _ _ _ h => h) (Or.inl ⟨by rfl, ?_⟩) (by assumption) ?_
                rotate_left
                · intro wz hSw
                  try dsimp only at hSw
                  go_simp
                  try with_reducible rfl
                try simp only [Act.put, List.setIfInBounds_toArray, List.set_cons_zero, List.set_cons_succ]
                refine wpAnyH_take (i := 3) (oi := ⟨_, _, _, _, _, _⟩) (v := ?_) rfl (by kernel_rfl) (by kernel_rfl) (by kernel_rfl) (fun _ _ _ h => h) (Or.inl ⟨by rfl, ?_⟩) (by assumption) ?_
                rotate_left
                · intro wz hSw
                  try dsimp only at hSw
                  go_simp
                  try with_reducible rfl
                try simp only [Act.put, List.setIfInBounds_toArray, List.set_cons_zero, List.set_cons_succ]
                refine wpAnyH_take (i := 4) (oi := ⟨_, _, _, _, _, _⟩) (v := .string (B (pss.take 7))) rfl (by kernel_rfl) (by kernel_rfl) (by kernel_rfl) (fun _ _ _ h => h) (Or.inl ⟨by rfl, ?_⟩) (by assumption) ?_
                · intro wz hSw
                  try dsimp only at hSw
                  have hcv := conv_seven hSw HBK7.out
                  go_simp
                try simp only [Act.put, List.setIfInBounds_toArray, List.set_cons_zero, List.set_cons_succ]
                refine wpAnyH_take (i := 5) (oi := ⟨_, _, _, _, _, _⟩) (v := ?_) rfl (by kernel_rfl) (by kernel_rfl) (by kernel_rfl) (fun _ _ _ h => h) (Or.inl ⟨by rfl, ?_⟩) (by assumption) ?_
                rotate_left
                · intro wz hSw
                  try dsimp only at hSw
                  go_simp
                  try with_reducible rfl
                try simp only [Act.put, List.setIfInBounds_toArray, List.set_cons_zero, List.set_cons_succ]
                refine wpAnyH_take (i := 6) (oi := ⟨_, _, _, _, _, _⟩) (v := ?_) rfl (by kernel_rfl) (by kernel_rfl) (by kernel_rfl) (fun _ _ _ h => h) (Or.inl ⟨by rfl, ?_⟩) (by assumption) ?_
                rotate_left
                · intro wz hSw
                  try dsimp only at hSw
                  go_simp
                  try with_reducible rfl
                try simp only [Act.put, List.setIfInBounds_toArray, List.set_cons_zero, List.set_cons_succ]
                refine wpAnyH_take (i := 7) (oi := ⟨_, _, _, _, _, _⟩) (v := ?_) rfl (by kernel_rfl) (by kernel_rfl) (by kernel_rfl) (fun _ _ _ h => h) (Or.inl ⟨by rfl, ?_⟩) (by assumption) ?_
                rotate_left
                · intro wz hSw
                  try dsimp only at hSw
                  go_simp
                  try with_reducible rfl
                try simp only [Act.put, List.setIfInBounds_toArray, List.set_cons_zero, List.set_cons_succ]
                refine wpAnyH_take (i := 8) (oi := ⟨_, _, _, _, _, _⟩) (v := ?_) rfl (by kernel_rfl) (by kernel_rfl) (by kernel_rfl) (fun _ _ _ h => h) (Or.inl ⟨by rfl, ?_⟩) (by assumption) ?_
                rotate_left
                · intro wz hSw
                  try dsimp only at hSw
                  go_simp
                  try with_reducible rfl
                try simp only [Act.put, List.setIfInBounds_toArray, List.set_cons_zero, List.set_cons_succ]
                refine wpAnyH_take (i := 9) (oi := ⟨_, _, _, _, _, _⟩) (v := ?_) rfl (by kernel_rfl) (by kernel_rfl) (by kernel_rfl) (fun _ _ _ h => h) (Or.inl ⟨by rfl, ?_⟩) (by assumption) ?_
                rotate_left
                · intro wz hSw
                  try dsimp only at hSw
                  go_simp
                  try with_reducible rfl
                try simp only [Act.put, List.setIfInBounds_toArray, List.set_cons_zero, List.set_cons_succ]
                refine wpAnyH_take (i := 10) (oi := ⟨_, _, _, _, _, _⟩) (v := ?_) rfl (by kernel_rfl) (by kernel_rfl) (by kernel_rfl) (fun _ _ _ h => h) (Or.inl ⟨by rfl, ?_⟩) (by assumption) ?_
                rotate_left
                · intro wz hSw
                  try dsimp only at hSw
                  go_simp
                  try with_reducible rfl
                try simp only [Act.put, List.setIfInBounds_toArray, List.set_cons_zero, List.set_cons_succ]
                refine wpAnyH_take (i := 11) (oi := ⟨_, _, _, _, _, _⟩) (v := ?_) rfl (by kernel_rfl) (by kernel_rfl) (by kernel_rfl) (fun _ _ _ h => h) (Or.inl ⟨by rfl, ?_⟩) (by assumption) ?_
                rotate_left
                · intro wz hSw
                  try dsimp only at hSw
                  go_simp
                  try with_reducible rfl
                try simp only [Act.put, List.setIfInBounds_toArray, List.set_cons_zero, List.set_cons_succ]
                refine wpAnyH_take (i := 12) (oi := ⟨_, _, _, _, _, _⟩) (v := .int .u8 (by7.toNat : Nat)) rfl (by kernel_rfl) (by kernel_rfl) (by kernel_rfl) (fun _ _ _ h => h) (Or.inl ⟨by rfl, ?_⟩) (by assumption) ?_
                · intro wz hSw
                  try dsimp only at hSw
                  have hcl := cell_seven hSw HB7.out
                  go_simp
                try simp only [Act.put, List.setIfInBounds_toArray, List.set_cons_zero, List.set_cons_succ]
                refine wpAnyH_take (i := 13) (oi := ⟨_, _, _, _, _, _⟩) (v := ?_) rfl (by kernel_rfl) (by kernel_rfl) (by kernel_rfl) (fun _ _ _ h => h) (Or.inl ⟨by rfl, ?_⟩) (by assumption) ?_
                rotate_left
                · intro wz hSw
                  try dsimp only at hSw
                  go_simp
                  try with_reducible rfl
                try simp only [Act.put, List.setIfInBounds_toArray, List.set_cons_zero, List.set_cons_succ]
                refine wpAnyH_take (i := 14) (oi := ⟨_, _, _, _, _, _⟩) (v := ?_) rfl (by kernel_rfl) (by kernel_rfl) (by kernel_rfl) (fun _ _ _ h => h) (Or.inl ⟨by rfl, ?_⟩) (by assumption) ?_
                rotate_left
                · intro wz hSw
                  try dsimp only at hSw
                  go_simp
                  try with_reducible rfl
                try simp only [Act.put, List.setIfInBounds_toArray, List.set_cons_zero, List.set_cons_succ]
                refine wpAnyH_take (i := 15) (oi := ⟨_, _, _, _, _, _⟩) (v := ?_) rfl (by kernel_rfl) (by kernel_rfl) (by kernel_rfl) (fun _ _ _ h => h) (Or.inl ⟨by rfl, ?_⟩) (by assumption) ?_
                rotate_left
                · intro wz hSw
                  try dsimp only at hSw
                  go_simp
                  try with_reducible rfl
                try simp only [Act.put, List.setIfInBounds_toArray, List.set_cons_zero, List.set_cons_succ]
                refine wpAnyH_take (i := 16) (oi := ⟨_, _, _, _, _, _⟩) (v := ?_) rfl (by kernel_rfl) (by kernel_rfl) (by kernel_rfl) (fun _ _ _ h => h) (Or.inl ⟨by rfl, ?_⟩) (by assumption) ?_
                rotate_left
                · intro wz hSw
                  try dsimp only at hSw
                  go_simp
                  try with_reducible rfl
                try simp only [Act.put, List.setIfInBounds_toArray, List.set_cons_zero, List.set_cons_succ]
                refine wpAnyH_take (i := 17) (oi := ⟨_, _, _, _, _, _⟩) (v := ?_) rfl (by kernel_rfl) (by kernel_rfl) (by kernel_rfl) (fun _ _ _ h => h) (Or.inl ⟨by rfl, ?_⟩) (by assumption) ?_
                rotate_left
                · intro wz hSw
                  try dsimp only at hSw
                  go_simp
                  try with_reducible rfl
                try simp only [Act.put, List.setIfInBounds_toArray, List.set_cons_zero, List.set_cons_succ]
                refine wpAnyH_take (i := 18) (oi := ⟨_, _, _, _, _, _⟩) (v := ?_) rfl (by kernel_rfl) (by kernel_rfl) (by kernel_rfl) (fun _ _ _ h => h) (Or.inl ⟨by rfl, ?_⟩) (by assumption) ?_
                rotate_left
                · intro wz hSw
                  try dsimp only at hSw
                  go_simp
                  try with_reducible rfl
                try simp only [Act.put, List.setIfInBounds_toArray, List.set_cons_zero, List.set_cons_succ]
                refine wpAnyH_take (i := 19) (oi := ⟨_, _, _, _, _, _⟩) (v := ?_) rfl (by kernel_rfl) (by kernel_rfl) (by kernel_rfl) (fun _ _ _ h => h) (Or.inl ⟨by rfl, ?_⟩) (by assumption) ?_
                rotate_left
                · intro wz hSw
                  try dsimp only at hSw
                  go_simp
                  try with_reducible rfl
                try simp only [Act.put, List.setIfInBounds_toArray, List.set_cons_zero, List.set_cons_succ]
                refine wpAnyH_done (by kernel_rfl) ?_ _
                go_wp2
                go_ret
                exact ⟨rfl, Good.of HD.out.drew⟩

theorem sumNumbers_walk (s t u : ByteArray) (w : World) (hW : Laid w) (hs : s.size ≤ 140737488355328) (ht : t.size ≤ 140737488355328) (hu : u.size ≤ 140737488355328) :
    Calls Tryd.prog 8 #[.string s, .string t, .string u] w fun e w' => e = .returned (.bool true) ∧ Good w w' :=
  numbers_walk s.data.toList t.data.toList u.data.toList w hs ht hu hW
end Go.Proofs.YtfldbgfeldhboaaDoor
