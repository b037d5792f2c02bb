/-
  Layer 3: the program's Sha.
-/
import Derived.Test.YtojbicpchjiplaaGreatDoorSumAbs
import Derived.Test.YtojbicpchjiplaaGreatDoorSumPad
namespace Go.Proofs.YtojbicpchjiplaaGreatDoor.S3
open Go.RowKit Sha
attribute [local go_sem] B_size B_drop' B_take B_list B_app

theorem info8 (b : List (BitVec 32)) (h : b.length = 8) : (Tryz.prog.info? 129).map (·.size) = some (Ws b).toArray.size := by
  rw [show (Ws b).toArray.size = 8 by simp [Ws_length, h]]
  kernel_rfl
theorem eat_length (n : Nat) : ∀ (h : List (BitVec 32)) (q : List UInt8), q.length ≤ n → h.length = 8 → (eat h q).length = 8 := by
  induction n with
  | zero => intro h q hq hh; rw [eat_small (by omega)]; exact hh
  | succ n ih =>
    intro h q hq hh
    by_cases h64 : q.length < 64
    · rw [eat_small h64]; exact hh
    · rw [eat_step h64]; exact ih _ _ (by rw [List.length_drop]; omega) (next_length _ _ hh)
theorem four_cells {w : World} {a b c d : Value} {t : TypeId} : ∀ (j : Nat) (u : Value), [a, b, c, d][j]? = some u → (w.alloc (.cells #[a, b, c, d] t)).cell? ((⟨w.heap.size, 0, none⟩ : Addr).add j) = some u := by
  intro j u hj
  match j, hj with
  | 0, hj => simp at hj; subst hj; simp [Addr.add]
  | 1, hj => simp at hj; subst hj; simp [Addr.add]
  | 2, hj => simp at hj; subst hj; simp [Addr.add]
  | 3, hj => simp at hj; subst hj; simp [Addr.add]
theorem U_be (x : BitVec 32) : U (be x) = [.int .u8 ((x.toNat : Int) / 16777216), .int .u8 ((x.toNat : Int) / 65536 % 256), .int .u8 ((x.toNat : Int) / 256 % 256), .int .u8 ((x.toNat : Int) % 256)] := by
  have h : ∀ n p, (2 : Nat) ^ n = p → ((⟨(x >>> n).setWidth 8⟩ : UInt8).toNat : Int) = (x.toNat : Int) / (p : Nat) % 256 := by
    intro n p hp
    have : (⟨(x >>> n).setWidth 8⟩ : UInt8).toNat = x.toNat / p % 256 := by
      show ((x >>> n).setWidth 8).toNat = _
      rw [BitVec.toNat_setWidth, BitVec.toNat_ushiftRight, Nat.shiftRight_eq_div_pow, hp]
    rw [this]; omega
  have h0 : ((⟨x.setWidth 8⟩ : UInt8).toNat : Int) = (x.toNat : Int) % 256 := by
    have : (⟨x.setWidth 8⟩ : UInt8).toNat = x.toNat % 256 := by
      show (x.setWidth 8).toNat = _
      rw [BitVec.toNat_setWidth]
    rw [this]; omega
  have h1 : ((⟨(x >>> 24).setWidth 8⟩ : UInt8).toNat : Int) = (x.toNat : Int) / 16777216 := by rw [h 24 16777216 (by decide)]; have := x.isLt; omega
  have h2 := h 16 65536 (by decide)
  have h3 := h 8 256 (by decide)
  simp only [U, be, List.map_cons, List.map_nil, h1, h2, h3, h0]
  simp
/-- The padded message, the whole blocks apart. -/
theorem padded_parts (l : List UInt8) : padded l = l.take (l.length / 64 * 64) ++ (l.drop (l.length / 64 * 64) ++ [128] ++ List.replicate ((119 - (l.drop (l.length / 64 * 64)).length) % 64) 0 ++ (List.range 8).map fun k => UInt8.ofNat (8 * l.length / 256 ^ (7 - k))) := by
  have e : (119 - (l.drop (l.length / 64 * 64)).length) % 64 = (119 - l.length % 64) % 64 := by rw [List.length_drop]; omega
  rw [e, padded]
  simp only [← List.append_assoc]
  rw [List.take_append_drop]

set_option maxHeartbeats 2000000 in
set_option maxRecDepth 100000 in
theorem sha_any (W w : World) (l : List UInt8) (hl : l.length ≤ 281474976710656) (hW : Laid W) (hbel : Below W.heap.size W w) :
    Calls Tryz.prog 136 #[.string (B l)] w fun e w' => e = .returned (.string (B (sha l))) ∧ Below W.heap.size W w' := by
  obtain ⟨t, fr, hini⟩ := hW.ini
  have hi1 : w.heap[0]? = some (.cells (Ws firsts).toArray t fr) := (hbel.block _ hW.big.2).trans hini
  have hA : (w.alloc (.cells #[.int .u32 0, .int .u32 0, .int .u32 0, .int .u32 0, .int .u32 0, .int .u32 0, .int .u32 0, .int .u32 0] 129)).heap[w.heap.size]? = some (.cells #[.int .u32 0, .int .u32 0, .int .u32 0, .int .u32 0, .int .u32 0, .int .u32 0, .int .u32 0, .int .u32 0] 129 (0, 0)) := heap_alloc_last _ _
  go_enter Tryz.func136, Tryz.ntmps136
  go_wp2_with (first | (refine wpList_load_row rfl 129 _ rfl 0 rfl _ _ _ _ hi1 Tryz.underlying129 rfl (info8 _ rfl) ?_) | (refine wpList_store_row rfl 129 _ _ rfl w.heap.size _ rfl rfl 129 _ hA (info8 _ firsts_length) (by simp [Ws_length, firsts_length]) (one_Ws _) ?_))
  have hc : ((w.alloc (.cells #[.int .u32 0, .int .u32 0, .int .u32 0, .int .u32 0, .int .u32 0, .int .u32 0, .int .u32 0, .int .u32 0] 129)).setRow w.heap.size (Ws firsts).toArray).heap[w.heap.size]? = some (.cells (Ws firsts).toArray 129 (0, 0)) := setRow_heap _ _ _ _ _ _ hA
  have hb : Below W.heap.size W ((w.alloc (.cells #[.int .u32 0, .int .u32 0, .int .u32 0, .int .u32 0, .int .u32 0, .int .u32 0, .int .u32 0, .int .u32 0] 129)).setRow w.heap.size (Ws firsts).toArray) := by
    have h0 := hbel.alloc hbel.size (.cells #[.int .u32 0, .int .u32 0, .int .u32 0, .int .u32 0, .int .u32 0, .int .u32 0, .int .u32 0, .int .u32 0] 129)
    exact h0.trans ⟨rfl, rfl, rfl, by simp [World.setRow], fun k hk => setRow_other _ _ _ _ (by have := hbel.size; omega)⟩
  have hg := hbel.size
  obtain ⟨g, hgg⟩ : ∃ g, g = w.heap.size := ⟨_, rfl⟩
  rw [← hgg] at hc hb hg ⊢
  generalize hww : (World.setRow _ g (Ws firsts).toArray) = w1 at hc hb ⊢
  have hg1 : g < w1.heap.size := (Array.getElem?_eq_some_iff.1 hc).1
  clear hww hi1 hbel hgg hini hA
  obtain ⟨n, hn⟩ : ∃ n, n = l.length / 64 := ⟨_, rfl⟩
  obtain ⟨m, hm⟩ : ∃ m, m = l.length / 64 * 64 := ⟨_, rfl⟩
  have hd : (l.drop m).length < 64 := by rw [List.length_drop]; omega
  have hpp := padded_parts l
  rw [← hm] at hpp
  have hsha := sha_eat l
  rw [hpp, eat_append n _ _ _ (by rw [List.length_take]; omega)] at hsha
  obtain ⟨pd, hpd⟩ : ∃ pd, pd = l.drop m ++ [128] ++ List.replicate ((119 - (l.drop m).length) % 64) 0 ++ (List.range 8).map fun k => UInt8.ofNat (8 * l.length / 256 ^ (7 - k)) := ⟨_, rfl⟩
  have hpl : pd.length ≤ 281474976710656 := by rw [hpd]; simp only [List.length_append, List.length_replicate, List.length_map, List.length_range, List.length_singleton]; omega
  rw [← hpd] at hsha
  have HP := Lib.hid hpd
  have HS := Lib.hid hsha
  clear hpp hpd hsha
  go_wp2_with fail
  rw [← hm]
  refine (absorb_any W _ (l.take m) firsts g (by rw [List.length_take]; omega) hW hb hg rfl hc).mono ?_
  rintro e w2 ⟨rfl, hb2, hc2⟩
  have hg2 : g < w2.heap.size := (Array.getElem?_eq_some_iff.1 hc2).1
  clear hc hb hg1
  go_wp2_with fail
  rw [← hm]
  refine (pad_any (l.drop m) l.length w2 hd hl).mono ?_
  rintro e w3 ⟨rfl, b3⟩
  rw [← HP.out]
  have hc3 : w3.heap[g]? = some (.cells (Ws (eat firsts (l.take m))).toArray 129 (0, 0)) := (b3.block g hg2).trans hc2
  have hb3 : Below W.heap.size W w3 := hb2.trans (b3.mono hb2.size)
  clear hc2 hb2 b3 hd
  obtain ⟨h1, hh1⟩ : ∃ h, h = eat firsts (l.take m) := ⟨_, rfl⟩
  have h18 : h1.length = 8 := by rw [hh1]; exact eat_length _ _ _ (Nat.le_refl _) firsts_length
  rw [← hh1] at HS hc3
  have HM := Lib.hid hm
  clear hh1 hm
  go_wp2_with fail
  refine (absorb_any W w3 pd h1 g hpl hW hb3 hg h18 hc3).mono ?_
  rintro e w4 ⟨rfl, hb4, hc4⟩
  obtain ⟨st, hst⟩ : ∃ h, h = eat h1 pd := ⟨_, rfl⟩
  have st8 : st.length = 8 := by rw [hst]; exact eat_length _ _ _ (Nat.le_refl _) h18
  rw [← hst] at HS hc4
  have hg4 : g < w4.heap.size := (Array.getElem?_eq_some_iff.1 hc4).1
  clear hst hc3 hb3 HM HP hg2
  obtain ⟨i0, hi, hz0, hz1, hz2⟩ := info_parts infoByte
  have hW4 := hb4.size
  go_wp2_with (first | (at_make; refine wpList_make_own _ rfl _ _ 100 rfl w4.heap.size 5 i0 (.int .u8 0) 1 Tryz.underlying100 hi hz0 hz1 _ _ _ 32 rfl rfl (by omega) (by rw [hz2]; omega) (by unfold maxLen; omega) (Nat.le_refl _) ?_; intro w0 hown0 hgrow0; have b0 := below_grown hgrow0; have hc0 : w0.heap[g]? = some (.cells (Ws st).toArray 129 (0, 0)) := (b0.block g hg4).trans hc4; have hb0 : Below W.heap.size W w0 := hb4.trans (b0.mono hW4)) | (refine wpList_load_row rfl 129 _ rfl g rfl _ _ _ _ hc0 Tryz.underlying129 rfl (info8 _ st8) ?_))
  have hb4' := hb4
  clear hgrow0 hc0 hc4 hb4 hb0
  obtain ⟨S, hS⟩ : ∃ S, S = (Ws st).toArray := ⟨_, rfl⟩
  rw [← hS]
  have hSi : ∀ k, k < 8 → S[k]? = some (.int .u32 ((st.getD k 0).toNat : Nat)) := by
    intro k hk
    rw [hS, List.getElem?_toArray, Ws, List.getElem?_map, List.getD_eq_getElem?_getD, List.getElem?_eq_getElem (by omega)]; rfl
  have HSI := Lib.hid hSi
  clear hS hSi
  have hbb : Below w4.heap.size w4 w0 := b0
  go_loopw [5, 26] (fun o i wr => ∃ k : Nat, i = .int .i64 (k : Int) ∧ k ≤ 8 ∧ wr.ownsRow w4.heap.size 5 1 o ((st.take k).flatMap be).length (U ((st.take k).flatMap be)) ∧ Below w4.heap.size w4 wr) (fun _ i _ => 8 - (intOf i).toNat)
  case atStart => exact ⟨0, rfl, by omega, hown0, hbb⟩
  case round =>
    clear hown0 hbb b0
    obtain ⟨k, rfl, hk, hown, hbel⟩ := hrel
    by_cases hk6 : k < 8
    · have hk7 : (k : Int) < 8 := by omega
      have hbase := hbel.size
      obtain ⟨x, hx⟩ : ∃ x, x = st.getD k 0 := ⟨_, rfl⟩
      have hw := HSI.out k hk6
      rw [← hx] at hw
      have hidx : ∀ w : World, (Instr.index 129 (.agg S) (.int .i64 (k : Int))).run Tryz.prog w = .ok (.int .u32 (x.toNat : Nat)) w := fun w => run_index_cell 129 127 8 S k _ w rfl (by kernel_rfl) (by kernel_rfl) hk6 hw
      have hsucc : (st.take (k + 1)).flatMap be = (st.take k).flatMap be ++ be x := by
        rw [List.take_add_one, List.flatMap_append, hx, List.getD_eq_getElem?_getD, List.getElem?_eq_getElem (by omega)]; simp
      have hql : ((st.take k).flatMap be).length = 4 * k := by
        have : ∀ l : List (BitVec 32), (l.flatMap be).length = 4 * l.length := by
          intro l
          induction l with
          | nil => rfl
          | cons a l ih => rw [List.flatMap_cons, List.length_append, ih, List.length_cons, show (be a).length = 4 from rfl]; omega
        rw [this, List.length_take]; omega
      obtain ⟨q, hq⟩ : ∃ q, q = (st.take k).flatMap be := ⟨_, rfl⟩
      rw [← hq] at hown hsucc hql
      have HQ := Lib.hid hsucc
      have HL := Lib.hid hql
      have HBE := Lib.hid (U_be x)
      clear hx hw hsucc hql hq
      go_wp2_with (at_builtin; refine wpList_append_own _ rfl _ _ 100 rfl w4.heap.size 5 i0 (.int .u8 0) 1 1 Tryz.underlying100 hi hz0 hz1 hz2 rfl (by decide) _ _ _ rfl (hown.alloc _) ⟨wr.heap.size, 0, none⟩ 4 4 [.int .u8 ((x.toNat : Int) / 16777216), .int .u8 ((x.toNat : Int) / 65536 % 256), .int .u8 ((x.toNat : Int) / 256 % 256), .int .u8 ((x.toNat : Int) % 256)] rfl rfl four_cells (fun u hu => by simp at hu; rcases hu with rfl | rfl | rfl | rfl <;> rfl) (by have := HL.out; unfold maxLen; omega) (by have := HL.out; omega) (by simp; omega) ?_; intro v' w1 hown' hgrow _)
      have R := own_more (r := be x) rfl (by rw [← HBE.out]) hbase hown hbel hown' hgrow
      have R2 := R.1
      have R3 := R.2
      clear R hown' hgrow hown hbel
      rw [← HQ.out] at R2
      go_roundw
      case rel => exact ⟨k + 1, by go_num, by omega, R2, R3⟩
      case measure => simp [intOf]; omega
    · have hk7 : k = 8 := by omega
      subst hk7
      rw [List.take_of_length_le (by omega), ← HS.out] at hown
      have hcv := conv_own hown
      have hfin := hb4'.trans (hbel.mono hW4)
      go_wp2
      go_ret
      exact ⟨rfl, hfin⟩
end Go.Proofs.YtojbicpchjiplaaGreatDoor.S3
