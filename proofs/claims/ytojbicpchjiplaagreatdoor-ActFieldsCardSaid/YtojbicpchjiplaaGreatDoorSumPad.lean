/-
  SumMark, SumPad: joined.
-/
import Derived.Test.YtojbicpchjiplaaGreatDoorSumMem
import Derived.Laws.IdiomStrings
import Derived.Test.YtojbicpchjiplaaGreatDoorSumHexAny
import Derived.Test.YtojbicpchjiplaaGreatDoorSumEat
/-
  Layer 3: bytes of a string as a slice of the call's own ('[]byte(s)'), appended to byte by byte.
-/
namespace Go.Proofs.YtojbicpchjiplaaGreatDoor.S3
open Go.RowKit

/-- v is a slice of the bytes l at the head of a block from base on; no cell of the block is frozen. -/
def holdsU (w : World) (base : Nat) (v : Value) (l : List UInt8) : Prop :=
  ∃ g cap cur fr, v = .slice (some ⟨g, 0, none⟩) l.length cap ∧ base ≤ g ∧ w.heap[g]? = some (.cells cur 5 fr) ∧ (fr.2 = 0 ∨ cur.size ≤ fr.1) ∧ l.length ≤ cap ∧ cap ≤ maxLen ∧ cur.size = cap ∧ cur.toList.take l.length = U l

theorem holdsU_cells {w : World} {base g n cap : Nat} {l : List UInt8} (h : holdsU w base (.slice (some ⟨g, 0, none⟩) n cap) l) : ∀ j u, (U l)[j]? = some u → w.cell? ((⟨g, 0, none⟩ : Addr).add j) = some u := by
  intro j u hu
  obtain ⟨g', cap', cur, fr, hv, _, hg, _, _, _, _, ht⟩ := h
  cases hv
  have hadd : (⟨g, 0, none⟩ : Addr).add j = ⟨g, j, none⟩ := by unfold Addr.add; split <;> simp_all
  rw [hadd, cell_of_row w g j cur _ fr hg]
  rw [← ht, List.getElem?_take] at hu
  split at hu
  · simpa using hu
  · cases hu
theorem holdsU_len {w : World} {base : Nat} {v : Value} {l : List UInt8} (h : holdsU w base v l) : ∃ g cap, v = .slice (some ⟨g, 0, none⟩) l.length cap := by
  obtain ⟨g, cap, _, _, hv, _⟩ := h
  exact ⟨g, cap, hv⟩
theorem holdsU_lt {w : World} {base : Nat} {v : Value} {l : List UInt8} (h : holdsU w base v l) : ∀ k, v.ownBlock = some k → base ≤ k ∧ k < w.heap.size := by
  obtain ⟨g, cap, cur, fr, rfl, hb, hg, _⟩ := h
  intro k hk
  simp [Value.ownBlock] at hk
  subst hk
  exact ⟨hb, (Array.getElem?_eq_some_iff.1 hg).1⟩
theorem holdsU_alloc {w : World} {base : Nat} {v : Value} {l : List UInt8} (h : holdsU w base v l) (o : Obj) : holdsU (w.alloc o) base v l := by
  obtain ⟨g, cap, cur, fr, rfl, hb, hg, hr⟩ := h
  refine ⟨g, cap, cur, fr, rfl, hb, ?_, hr⟩
  rw [heap_alloc_old w o (Array.getElem?_eq_some_iff.1 hg).1]; exact hg
/-- The conversion of a string. -/
theorem conv_made (l : List UInt8) (w : World) (base : Nat) (hl : l.length ≤ maxLen) (hb : base ≤ w.heap.size) :
    ∃ v' w', (convert 9 100 (.string (B l))).run Tryz.prog w = .ok v' w' ∧ holdsU w' base v' l ∧ Below w.heap.size w w' := by
  have hs : (B l).size = l.length := B_size l
  refine ⟨_, _, run_bytes_of_string w 9 100 5 (B l) Tryz.underlying9 Tryz.underlying100 Tryz.underlying5, ⟨w.heap.size, _, _, _, by rw [hs], hb, heap_alloc_new w.drew _, Or.inr (Nat.le_refl _), ?_, ?_, ?_, ?_⟩, ?_⟩
  · exact grownCap_ge w _ _ _
  · exact grownCap_le_maxLen w _ _ _ hl
  · have := grownCap_ge w l.length 0 5
    simp only [bytesRow, Array.size_append, Array.size_map, Array.size_replicate]
    rw [show (B l).data.size = (B l).size from rfl]
    rw [hs]
    omega
  · simp [bytesRow, B, U]
  · exact ⟨rfl, rfl, rfl, by simp, fun k hk => heap_alloc_old w.drew _ hk⟩
/-- One byte more. -/
theorem run_append_one {w : World} {base : Nat} {v : Value} {l : List UInt8} (ty : TypeId) (h : holdsU w base v l) (x : UInt8) (a : Addr) (c : Nat) (hx : w.cell? (a.add 0) = some (.int .u8 (x.toNat : Nat))) (hl : l.length + 1 ≤ 70368744177664) (hbase : base ≤ w.heap.size) :
    ∃ v' w', (Builtin.append_ #[100, 100] ty #[v, .slice (some a) 1 c]).run Tryz.prog w = .ok v' w' ∧ holdsU w' base v' (l ++ [x]) ∧ w.grownBy w' v.ownBlock := by
  obtain ⟨i, hi, hz, hsize, hby⟩ := info_parts infoByte
  have hcells : ∀ g cap, v = .slice (some ⟨g, 0, none⟩) l.length cap → ∀ j u, (U l)[j]? = some u → w.cell? ((⟨g, 0, none⟩ : Addr).add j) = some u := fun g cap e => by subst e; exact holdsU_cells h
  obtain ⟨g, cap, cur, fr, rfl, hb, hg, hfr, hlc, hcm, hcs, ht⟩ := h
  have hnews : ∀ j u, [Value.int .u8 (x.toNat : Nat)][j]? = some u → w.cell? (a.add j) = some u := by
    intro j u hj
    match j, hj with
    | 0, hj => simp at hj; subst hj; exact hx
  have hU : U (l ++ [x]) = U l ++ [Value.int .u8 (x.toNat : Nat)] := by simp [U]
  by_cases hroom : l.length + 1 ≤ cap
  · have hf := run_firstCells_some (P := Tryz.prog) w 1 1 a 1 c [.int .u8 (x.toNat : Nat)] rfl hnews
    have hlt : l.length < cur.size := by omega
    have hadd : (⟨g, l.length, none⟩ : Addr).add 0 = ⟨g, l.length, none⟩ := by simp [Addr.add]
    have hcell : w.cell? ⟨g, l.length, none⟩ = some cur[l.length] := by rw [cell_of_row w g l.length cur _ fr hg]; simp [hlt]
    have hfro : w.frozen? ⟨g, l.length, none⟩ = false := by
      simp only [World.frozen?, hg]
      rcases hfr with h0 | h0
      · simp [h0]
      · have : ¬ fr.1 ≤ l.length := by omega
        simp [this]
    have hst : (storeCells ⟨g, l.length, none⟩ [.int .u8 (x.toNat : Nat)]).run Tryz.prog w = .ok () (w.setRow g (cur.setIfInBounds l.length (.int .u8 (x.toNat : Nat)))) := by
      simp only [storeCells, Sem.run_bind]
      rw [hadd, run_store Tryz.prog w _ (.int .u8 (x.toNat : Nat)) _ rfl, hcell]
      simp [hfro, setCell_eq_setRow w g l.length cur _ fr _ hg]
    refine ⟨.slice (some ⟨g, 0, none⟩) (l.length + 1) cap, w.setRow g (cur.setIfInBounds l.length (.int .u8 (x.toNat : Nat))), ?_, ⟨g, cap, _, fr, by simp, hb, setRow_heap w g cur _ _ fr hg, by simpa using hfr, by simpa using hroom, hcm, by simpa using hcs, ?_⟩, ⟨rfl, rfl, rfl, by simp, fun k _ hk => setRow_other w g k _ (fun e => hk (by simp [Value.ownBlock, e]))⟩⟩
    · simp [Builtin.append_, run_underlying Tryz.underlying100, sizeOf, typeInfo, hi, hsize, Builtin.lenOf, hroom, hf, Addr.add_lit, hst]
    · rw [hU, Array.toList_setIfInBounds, List.length_append, List.length_singleton, ← ht]
      rw [List.take_add_one]
      simp [hlt, List.take_set_of_le]
  · have hr := run_append_grow (P := Tryz.prog) w 100 ty 5 i _ Tryz.underlying100 hi hz ⟨g, 0, none⟩ l.length cap (U l) (by rw [hsize, U_length, Nat.mul_one]) (hcells g cap rfl) a 1 c [.int .u8 (x.toNat : Nat)] (by rw [hsize]; rfl) hnews (by omega) (by omega) (growslice_fits (by omega) (by rw [hby]; omega))
    have hge := grownCap_ge w (l.length + 1) cap 5
    refine ⟨_, _, hr, ⟨w.heap.size, grownCap w (l.length + 1) cap 5, _, (0, 0), by simp, hbase, heap_alloc_new w.drew _, Or.inl rfl, by simpa using hge, grownCap_le_maxLen w _ _ _ (by unfold maxLen; omega), ?_, ?_⟩, ⟨rfl, rfl, rfl, by simp, fun k hk _ => heap_alloc_old w.drew _ hk⟩⟩
    · simp only [Array.size_append, List.size_toArray, size_zeroCells, U_length, List.length_singleton]
      rw [show (Value.int IntKind.u8 0).cells.size = 1 from rfl]
      omega
    · rw [hU]
      simp only [Array.toList_append, List.append_assoc]
      rw [← List.append_assoc]
      exact List.take_left' (by simp [U])
/-- As a step of a region. -/
theorem wpList_append_one {ops : Array Oper} {rest : List Oper} {o : Oper} {a : Act} {wb w : World} {Q : Exit → Act → World → Prop} (hgd : o.guard = none) (s x : Operand)
    (ho : o.op = .call { callee := .builtin .append, args := #[s, x], argTypes := #[100, 100] }) (base : Nat) (v : Value) (l : List UInt8) (hs : a.eval s = v) (h : holdsU w base v l) (hb : Below base wb w) (hbase : base ≤ w.heap.size)
    (b : UInt8) (z : Int) (hz : z = (b.toNat : Nat)) (t : TypeId) (hx : a.eval x = .slice (some ⟨w.heap.size, 0, none⟩) 1 1) (hl : l.length + 1 ≤ 70368744177664)
    (k : ∀ v' w', holdsU w' base v' (l ++ [b]) → Below base wb w' → base ≤ w'.heap.size → wpList Tryz.prog ops Q rest (a.put o.dst v') w') : wpList Tryz.prog ops Q (o :: rest) a (w.alloc (.cells #[.int .u8 z] t)) := by
  subst hz
  refine wpList_plain hgd fun K hK => ?_
  obtain ⟨v', w', hr, h2, h3⟩ := run_append_one o.type (holdsU_alloc h (.cells #[.int .u8 (b.toNat : Nat)] t)) b ⟨w.heap.size, 0, none⟩ 1 (by simp [Addr.add]) hl (by simp; omega)
  have hb2 : Below base wb w' := (hb.alloc hbase _).grown h3 (by simp; omega) (fun k hk => ((holdsU_lt (w := w) h) k hk).1)
  unfold Oper.wp execOp
  simp only [ho, resolve, invoke, builtin, Sem.run_bind, Sem.run_pure, Result.andThen_ok, List.map_toArray, List.map_cons, List.map_nil, hs, hx, hr]
  refine hK _ _ (k v' w' h2 hb2 ?_)
  have := h3.size
  simp at this
  omega
/-- 'string(b)'. -/
theorem conv_back {w : World} {base : Nat} {v : Value} {l : List UInt8} (h : holdsU w base v l) : (convert 100 9 v).run Tryz.prog w = .ok (.string (B l)) w := by
  obtain ⟨g, cap, hv⟩ := holdsU_len h
  subst hv
  exact run_convert_bytes_back w 100 9 5 ⟨g, 0, none⟩ cap l Tryz.underlying100 Tryz.underlying5 Tryz.underlying9 (fun j hj => holdsU_cells h j _ (by simp [U, hj]))
end Go.Proofs.YtojbicpchjiplaaGreatDoor.S3

/-
  Layer 3: the program's pad.
-/
namespace Go.Proofs.YtojbicpchjiplaaGreatDoor.S3
open Go.RowKit Sha
attribute [local go_sem] B_size B_drop' B_take B_list B_app

theorem pad_byte (n j : Nat) (hj : j < 8) : (n : Int) * 8 / 2 ^ (56 - 8 * j) % 256 = ((UInt8.ofNat (8 * n / 256 ^ (7 - j))).toNat : Nat) := by
  have e : (2 : Nat) ^ (56 - 8 * j) = 256 ^ (7 - j) := by
    rw [show 56 - 8 * j = 8 * (7 - j) by omega, Nat.pow_mul]
  have e2 : ((2 : Int) ^ (56 - 8 * j)) = ((256 ^ (7 - j) : Nat) : Int) := by rw [← e]; simp
  have e3 : (UInt8.ofNat (8 * n / 256 ^ (7 - j))).toNat = 8 * n / 256 ^ (7 - j) % 256 := by simp
  rw [e2, e3, Nat.mul_comm 8 n]
  simp
/-- A slice's length: the first loop's measure. -/
def lenOfV : Value → Nat | .slice _ n _ => n | _ => 0
set_option maxHeartbeats 1000000 in
set_option maxRecDepth 100000 in
theorem pad_any (r : List UInt8) (n : Nat) (w : World) (hr : r.length < 64) (hn : n ≤ 281474976710656) :
    Calls Tryz.prog 153 #[.string (B r), .int .i64 (n : Int)] w fun e w' => e = .returned (.string (B (r ++ [128] ++ List.replicate ((119 - r.length) % 64) 0 ++ (List.range 8).map fun k => UInt8.ofNat (8 * n / 256 ^ (7 - k))))) ∧ Below w.heap.size w w' := by
  obtain ⟨v0, wc, hcv, hu0, hb0⟩ := conv_made r w w.heap.size (by unfold maxLen; omega) (Nat.le_refl _)
  obtain ⟨g0, cap0, rfl⟩ := holdsU_len hu0
  go_enter Tryz.func153, Tryz.ntmps153
  go_wp2_with (at_builtin; refine wpList_append_one rfl _ _ rfl w.heap.size _ r rfl hu0 hb0 hb0.size 128 _ rfl _ rfl (by omega) ?_; intro v1 w1 hu1 hb1 hs1)
  clear hcv hu0 hb0
  obtain ⟨z, hz⟩ : ∃ z, z = (119 - r.length) % 64 := ⟨_, rfl⟩
  go_loopw [5] (fun o wr => ∃ (k : Nat) (q : List UInt8), k ≤ z ∧ q = r ++ [128] ++ List.replicate k 0 ∧ holdsU wr w.heap.size o q ∧ Below w.heap.size w wr ∧ w.heap.size ≤ wr.heap.size) (fun o _ => 128 - lenOfV o)
  case atStart => exact ⟨0, r ++ [128], by omega, by simp, hu1, hb1, hs1⟩
  case round =>
    clear hu1 hb1 hs1
    obtain ⟨k, q, hk, hq, hu, hb, hs⟩ := hrel
    have hql : q.length = r.length + 1 + k := by rw [hq]; simp only [List.length_append, List.length_replicate, List.length_singleton]
    obtain ⟨g1, cap1, hv⟩ := holdsU_len hu
    obtain ⟨m, hm⟩ : ∃ m, m = q.length := ⟨_, rfl⟩
    rw [← hm] at hv
    subst hv
    have HQ := Lib.hid hq
    have HL := Lib.hid hql
    have HU := Lib.hid hu
    have HM := Lib.hid hm
    have hm2 : m ≤ 128 := by omega
    by_cases hkz : k < z
    · have hne : ¬ ((m : Int) % 64 = 56) := by omega
      clear hq hql hu hm
      go_wp2_with (at_builtin; refine wpList_append_one rfl _ _ rfl w.heap.size _ q rfl HU.out hb hs 0 _ rfl _ rfl (by have := HL.out; omega) ?_; intro v1 w1 hu1 hb1 hs1)
      go_roundw
      case rel => exact ⟨k + 1, q ++ [0], by omega, by rw [HQ.out, List.replicate_succ', List.append_assoc], hu1, hb1, hs1⟩
      case measure =>
        obtain ⟨g2, cap2, rfl⟩ := holdsU_len hu1
        have := HL.out
        have := HM.out
        simp only [lenOfV, List.length_append, List.length_singleton]
        omega
    · have hkz : k = z := by omega
      have hne : (m : Int) % 64 = 56 := by omega
      clear hql hu hm
      subst hkz
      have hzz : q = r ++ [128] ++ List.replicate ((119 - r.length) % 64) 0 := by rw [HQ.out, hz]
      have HZ := Lib.hid hzz
      clear hq hz hzz HL HM
      go_wp2_with fail
      clear hne
      rw [HZ.out] at HU
      obtain ⟨p, hp⟩ : ∃ p, p = r ++ [128] ++ List.replicate ((119 - r.length) % 64) 0 := ⟨_, rfl⟩
      have hpl : p.length ≤ 128 := by rw [hp]; simp only [List.length_append, List.length_replicate, List.length_singleton]; omega
      rw [← hp] at HU
      have hu := HU.out
      clear HU HQ HZ
      go_loopw [5, 6] (fun o s wr => ∃ j : Nat, s = .int .i64 (56 - 8 * (j : Int)) ∧ j ≤ 8 ∧ holdsU wr w.heap.size o (p ++ (List.range j).map fun k => UInt8.ofNat (8 * n / 256 ^ (7 - k))) ∧ Below w.heap.size w wr ∧ w.heap.size ≤ wr.heap.size) (fun _ s _ => (intOf s + 8).toNat)
      case atStart => exact ⟨0, rfl, by omega, by simpa using hu, hb, hs⟩
      case round =>
        clear hu hb hs
        obtain ⟨j, rfl, hj, hu, hb, hs⟩ := hrel
        by_cases hj8 : j < 8
        · have h0 : 0 ≤ 56 - 8 * (j : Int) := by omega
          obtain ⟨q, hq⟩ : ∃ q, q = p ++ (List.range j).map fun k => UInt8.ofNat (8 * n / 256 ^ (7 - k)) := ⟨_, rfl⟩
          have hql : q.length ≤ 136 := by rw [hq]; simp only [List.length_append, List.length_map, List.length_range]; omega
          have hq1 : (p ++ (List.range (j + 1)).map fun k => UInt8.ofNat (8 * n / 256 ^ (7 - k))) = q ++ [UInt8.ofNat (8 * n / 256 ^ (7 - j))] := by
            rw [List.range_succ, List.map_append, ← List.append_assoc, ← hq]; rfl
          rw [← hq] at hu
          have HQ := Lib.hid hq1
          have HL := Lib.hid hql
          clear hq hq1 hql
          have hby := pad_byte n j hj8
          obtain ⟨by1, hb1⟩ : ∃ x, x = UInt8.ofNat (8 * n / 256 ^ (7 - j)) := ⟨_, rfl⟩
          rw [← hb1] at HQ hby
          have HBY := Lib.hid hby
          clear hb1 hby
          go_wp2_with (at_builtin; refine wpList_append_one rfl _ _ rfl w.heap.size _ q rfl hu hb hs by1 _ HBY.out _ rfl (by have := HL.out; omega) ?_; intro v1 w1 hu1 hb1 hs1)
          go_roundw
          case rel => exact ⟨j + 1, by go_num, by omega, by rw [HQ.out]; exact hu1, hb1, hs1⟩
          case measure => simp [intOf]; omega
        · have hj8 : j = 8 := by omega
          subst hj8
          have hcv := conv_back hu
          obtain ⟨res, hres⟩ : ∃ q, q = p ++ (List.range 8).map fun k => UInt8.ofNat (8 * n / 256 ^ (7 - k)) := ⟨_, rfl⟩
          rw [← hres] at hcv
          rw [hp] at hres
          have HRES := Lib.hid hres
          clear hres hp hu
          go_wp2_with fail
          go_ret
          exact ⟨by rw [← HRES.out]; rfl, hb⟩
end Go.Proofs.YtojbicpchjiplaaGreatDoor.S3
