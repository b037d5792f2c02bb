/-
  Layer 3: the reference's Sha.
-/
import Derived.Test.YtcbhjagcfbinoaaDoorSumRefNext
import Derived.Test.YtcbhjagcfbinoaaDoorSumPad
namespace Go.Proofs.YtcbhjagcfbinoaaDoor.S3
open Go.RowKit Sha
attribute [local go_sem] B_size B_drop' B_take B_list B_app

theorem ref_byte (n j : Nat) (hj : j < 8) : 8 * (n : Int) / 2 ^ (56 - 8 * j) % 256 = ((UInt8.ofNat (8 * n / 256 ^ (7 - j))).toNat : Nat) := by
  rw [← pad_byte n j hj, Int.mul_comm]
/-- The byte i of a state. -/
def outb (hs : List (BitVec 32)) (i : Nat) : UInt8 := UInt8.ofNat ((hs.getD (i / 4) 0).toNat / 2 ^ (24 - 8 * (i % 4)))
theorem be_eq (x : BitVec 32) : be x = [UInt8.ofNat (x.toNat / 2 ^ 24), UInt8.ofNat (x.toNat / 2 ^ 16), UInt8.ofNat (x.toNat / 2 ^ 8), UInt8.ofNat (x.toNat / 2 ^ 0)] := by
  have h : ∀ n, (⟨(x >>> n).setWidth 8⟩ : UInt8) = UInt8.ofNat (x.toNat / 2 ^ n) := by
    intro n
    apply UInt8.toNat_inj.1
    rw [UInt8.toNat_ofNat']
    show ((x >>> n).setWidth 8).toNat = _
    rw [BitVec.toNat_setWidth, BitVec.toNat_ushiftRight, Nat.shiftRight_eq_div_pow]
  have h0 : (⟨x.setWidth 8⟩ : UInt8) = UInt8.ofNat (x.toNat / 2 ^ 0) := by
    apply UInt8.toNat_inj.1
    rw [UInt8.toNat_ofNat', Nat.pow_zero, Nat.div_one]
    show (x.setWidth 8).toNat = _
    rw [BitVec.toNat_setWidth]
  rw [be, h 24, h 16, h 8, h0]
theorem out_eq (hs : List (BitVec 32)) (h : hs.length = 8) : (List.range 32).map (outb hs) = hs.flatMap be := by
  match hs, h with
  | [x0, x1, x2, x3, x4, x5, x6, x7], _ =>
    simp only [List.flatMap_cons, List.flatMap_nil, be_eq]
    rfl
theorem out_byte (hs : List (BitVec 32)) (i : Nat) : ((hs.getD (i / 4) 0).toNat : Int) / 2 ^ (24 - 8 * (i % 4)) % 256 = ((outb hs i).toNat : Nat) := by
  have e2 : ((2 : Int) ^ (24 - 8 * (i % 4))) = ((2 ^ (24 - 8 * (i % 4)) : Nat) : Int) := by simp
  rw [outb, UInt8.toNat_ofNat', e2]
  simp
theorem holdsU_cap {w : World} {base g n cap : Nat} {l : List UInt8} (h : holdsU w base (.slice (some ⟨g, 0, none⟩) n cap) l) : n ≤ cap := by
  obtain ⟨_, _, _, _, hv, _, _, _, hc, _⟩ := h
  cases hv
  exact hc
theorem add_blk (a : Addr) (k : Nat) : (a.add k).block = a.block := by unfold Addr.add; split <;> rfl
theorem blocks_length (p : List UInt8) (n : Nat) : (blocks p n).length = 8 := by
  induction n with
  | zero => rfl
  | succ n ih => rw [blocks]; exact next_length _ _ ih

set_option maxHeartbeats 4000000 in
set_option maxRecDepth 100000 in
theorem refSha_any (l : List UInt8) (w : World) (hl : l.length ≤ 4000) :
    Calls Tryd.prog 30 #[.string (B l)] w fun e w' => e = .returned (.string (B (sha l))) ∧ Below w.heap.size w w' := by
  have hl3 : (l.length : Int) ≤ 4000 := by omega
  obtain ⟨i0, hi, hz0, hz1, hz2⟩ := info_parts infoByte
  obtain ⟨v0, wc, hcv, hu0, hb0⟩ := conv_made l w w.heap.size (by unfold maxLen; omega) (Nat.le_refl _)
  obtain ⟨g0, cap0, rfl⟩ := holdsU_len hu0
  go_enter Tryd.func30, Tryd.ntmps30
  go_wp2_with (at_builtin; refine wpList_append_one rfl _ _ rfl w.heap.size _ l rfl hu0 hb0 hb0.size 128 _ rfl _ rfl (by omega) ?_; intro v1 w1 hu1 hb1 hs1)
  clear hcv hu0 hb0
  obtain ⟨z, hz⟩ : ∃ z, z = (119 - l.length % 64) % 64 := ⟨_, rfl⟩
  go_loopw [3] (fun o wr => ∃ (k : Nat) (q : List UInt8), k ≤ z ∧ q = l ++ [128] ++ List.replicate k 0 ∧ holdsU wr w.heap.size o q ∧ Below w.heap.size w wr ∧ w.heap.size ≤ wr.heap.size) (fun o _ => 8000 - lenOfV o)
  case atStart => exact ⟨0, l ++ [128], by omega, by simp, hu1, hb1, hs1⟩
  case round =>
    clear hu1 hb1 hs1
    obtain ⟨k, q, hk, hq, hu, hb, hs⟩ := hrel
    have hql : q.length = l.length + 1 + k := by rw [hq]; simp only [List.length_append, List.length_replicate, List.length_singleton]
    obtain ⟨g1, cap1, hv⟩ := holdsU_len hu
    obtain ⟨m, hm⟩ : ∃ m, m = q.length := ⟨_, rfl⟩
    rw [← hm] at hv
    subst hv
    have HQ := Lib.hid hq
    have HL := Lib.hid hql
    have HU := Lib.hid hu
    have HM := Lib.hid hm
    have hm2 : m ≤ 6000 := by omega
    by_cases hkz : k < z
    · have hne : ¬ ((m : Int) % 64 = 56) := by omega
      clear hq hql hu hm
      go_wp2_with (at_builtin; refine wpList_append_one rfl _ _ rfl w.heap.size _ q rfl HU.out hb hs 0 _ rfl _ rfl (by have := HL.out; omega) ?_; intro v1 w1 hu1 hb1 hs1)
      go_roundw
      case rel => exact ⟨k + 1, q ++ [0], by omega, by rw [HQ.out, List.replicate_succ', List.append_assoc], hu1, hb1, hs1⟩
      case measure =>
        obtain ⟨g2, cap2, rfl⟩ := holdsU_len hu1
        have := HL.out
        have := HM.out
        simp only [lenOfV, List.length_append, List.length_singleton]
        omega
    · have hkz : k = z := by omega
      have hne : (m : Int) % 64 = 56 := by omega
      have hql2 : q.length + 8 = 64 * ((l.length + 1 + z + 8) / 64) := by omega
      clear hql hu hm
      subst hkz
      have hzz : q = l ++ [128] ++ List.replicate ((119 - l.length % 64) % 64) 0 := by rw [HQ.out, hz]
      have HZ := Lib.hid hzz
      have HQ2 := Lib.hid hql2
      clear hq hz hzz HL HM hql2
      go_wp2_with fail
      clear hne
      have hpp : padded l = q ++ (List.range 8).map fun k => UInt8.ofNat (8 * l.length / 256 ^ (7 - k)) := by rw [padded, HZ.out]
      have HPP := Lib.hid hpp
      have hu := HU.out
      clear HU HQ HZ hpp
      obtain ⟨hq8, hqlen⟩ : ∃ x, x = q.length := ⟨_, rfl⟩
      have HQL := Lib.hid hqlen
      have hqb : hq8 ≤ 2000000 := by
        have h1 := hu
        obtain ⟨_, _, hv⟩ := holdsU_len h1
        cases hv
        omega
      clear hqlen
      go_loopw [3, 5] (fun o s wr => ∃ j : Nat, s = .int .i64 (56 - 8 * (j : Int)) ∧ j ≤ 8 ∧ holdsU wr w.heap.size o (q ++ (List.range j).map fun k => UInt8.ofNat (8 * l.length / 256 ^ (7 - k))) ∧ Below w.heap.size w wr ∧ w.heap.size ≤ wr.heap.size) (fun _ s _ => (intOf s + 8).toNat)
      case atStart => exact ⟨0, rfl, by omega, by simpa using hu, hb, hs⟩
      case round =>
        clear hu hb hs
        obtain ⟨j, rfl, hj, hu, hb, hs⟩ := hrel
        by_cases hj8 : j < 8
        · have h0 : 0 ≤ 56 - 8 * (j : Int) := by omega
          obtain ⟨q2, hq⟩ : ∃ x, x = q ++ (List.range j).map fun k => UInt8.ofNat (8 * l.length / 256 ^ (7 - k)) := ⟨_, rfl⟩
          have hql : q2.length ≤ 3000000 := by have := HQL.out; rw [hq]; simp only [List.length_append, List.length_map, List.length_range]; omega
          have hq1 : (q ++ (List.range (j + 1)).map fun k => UInt8.ofNat (8 * l.length / 256 ^ (7 - k))) = q2 ++ [UInt8.ofNat (8 * l.length / 256 ^ (7 - j))] := by
            rw [List.range_succ, List.map_append, ← List.append_assoc, ← hq]; rfl
          rw [← hq] at hu
          have HQ := Lib.hid hq1
          have HL := Lib.hid hql
          clear hq hq1 hql
          have hby := ref_byte l.length j hj8
          obtain ⟨by1, hb1⟩ : ∃ x, x = UInt8.ofNat (8 * l.length / 256 ^ (7 - j)) := ⟨_, rfl⟩
          rw [← hb1] at HQ hby
          have HBY := Lib.hid hby
          clear hb1 hby
          go_wp2_with (at_builtin; refine wpList_append_one rfl _ _ rfl w.heap.size _ q2 rfl hu hb hs by1 _ HBY.out _ rfl (by have := HL.out; omega) ?_; intro v1 w1 hu1 hb1 hs1)
          go_roundw
          case rel => exact ⟨j + 1, by go_num, by omega, by rw [HQ.out]; exact hu1, hb1, hs1⟩
          case measure => simp [intOf]; omega
        · have hj8 : j = 8 := by omega
          subst hj8
          rw [← HPP.out] at hu
          have hsha : sha l = (blocks (padded l) ((padded l).length / 64)).flatMap be := rfl
          have hp64 := padded_length l
          have hpl : (padded l).length ≤ 3000000 := by have := HQL.out; rw [HPP.out]; simp only [List.length_append, List.length_map, List.length_range]; omega
          obtain ⟨p, hp⟩ : ∃ p, p = padded l := ⟨_, rfl⟩
          rw [← hp] at hu hsha hp64 hpl
          obtain ⟨n, hn⟩ : ∃ n, n = p.length / 64 := ⟨_, rfl⟩
          rw [← hn] at hsha
          have hn64 : p.length = 64 * n := by omega
          obtain ⟨gp, cp, rfl⟩ := holdsU_len hu
          have hcells := holdsU_cells hu
          have hgp := (holdsU_lt hu gp rfl).2
          have hcp := holdsU_cap hu
          rw [hn64] at hcp ⊢
          have HSHA := Lib.hid hsha
          have HPL : Hid (p.length = 64 * n ∧ 64 * n ≤ 3000000) := Lib.hid ⟨hn64, by omega⟩
          have HC : Hid (∀ j u, (U p)[j]? = some u → wr.cell? ((⟨gp, 0, none⟩ : Addr).add j) = some u) := Lib.hid hcells
          clear hsha hp hn hcells hu hp64 hn64 HPP HQL
          generalize hwr : wr = wx at HC hgp hb hs ⊢
          clear hwr
          go_wp2_with fail
          refine (refFirsts_any wx).mono ?_
          rintro e wf ⟨vh, rfl, hvh, bf⟩
          go_wp2_with fail
          go_loopw [6, 7] (fun o i wr => ∃ j : Nat, i = .int .i64 ((64 * j : Nat) : Int) ∧ j ≤ n ∧ wr.ownsRow wx.heap.size 44 1 o 8 (Ws (blocks p j)) ∧ Below wx.heap.size wx wr) (fun _ i _ => 64 * n - (intOf i).toNat)
          case atStart => exact ⟨0, rfl, by omega, hvh, bf⟩
          case round =>
            clear hvh bf
            obtain ⟨j, rfl, hj, hown, hbel⟩ := hrel
            obtain ⟨gh, ch, rfl, hcl, hlt⟩ := own_form hown (by decide)
            have hch := own_cap hown
            obtain ⟨m, hm⟩ : ∃ m, m = 64 * j := ⟨_, rfl⟩
            rw [← hm]
            by_cases hjn : j < n
            · have hm1 : (m : Int) < 64 * n := by omega
              have hm2 : IntKind.i64.wrap ((m : Int) + 64) = m + 64 := IntWalk.i64_in _ (by have := HPL.out; omega)
              have hm3 : (m : Int) + 64 ≤ cp := by omega
              have hm4 : m + 64 ≤ cp := by omega
              have hmm : (m : Int) ≤ m + 64 := by omega
              have hbytes : BytesAt wr ⟨gp, m, none⟩ ((p.drop m).take 64) := by
                refine ⟨Nat.lt_of_lt_of_le hgp hbel.size, fun jj hjj => ?_⟩
                have hj64 : jj < 64 := by rw [List.length_take] at hjj; omega
                have hpm : m + jj < p.length := by have := HPL.out; omega
                have hadd : (⟨gp, m, none⟩ : Addr).add jj = (⟨gp, 0, none⟩ : Addr).add (m + jj) := by
                  have e : ∀ a k, (⟨gp, a, none⟩ : Addr).add k = ⟨gp, a + k, none⟩ := fun a k => by unfold Addr.add; split <;> simp_all
                  rw [e, e, Nat.zero_add]
                have e2 : ((p.drop m).take 64)[jj] = p[m + jj] := by rw [List.getElem_take, List.getElem_drop]
                rw [hadd, e2]
                have hc := HC.out (m + jj) (.int .u8 (p[m + jj].toNat : Nat)) (by rw [U, List.getElem?_map, List.getElem?_eq_getElem hpm]; rfl)
                rw [hbel.cell (p := (⟨gp, 0, none⟩ : Addr).add (m + jj)) (by rw [add_blk]; exact hgp)]
                exact hc
              have hlen : ((p.drop m).take 64).length = 64 := by have := HPL.out; rw [List.length_take, List.length_drop]; omega
              have hnext := refNext_any (blocks p j) ((p.drop m).take 64) gh ch gp m (cp - m) wr (blocks_length p j) hch hlt hcl hbytes hlen (by omega)
              have HN := Lib.hid hnext
              have hbb : blocks p (j + 1) = next (blocks p j) ((p.drop m).take 64) := by rw [blocks, hm]
              have HB := Lib.hid hbb
              have HM := Lib.hid hm
              clear hcl hlt hown hbytes hlen hnext hbb hm
              go_wp2_with fail
              refine HN.out.mono ?_
              rintro e w5 ⟨v, rfl, hv, b5⟩
              go_wp2_with fail
              go_roundw
              case rel => exact ⟨j + 1, by have := HM.out; go_num, by omega, by rw [HB.out]; exact own_base hv hbel.size, hbel.trans (b5.mono hbel.size)⟩
              case measure =>
                have := HM.out
                simp [intOf]; omega
            · have hjn : j = n := by omega
              subst hjn
              obtain ⟨st, hst⟩ : ∃ s, s = blocks p j := ⟨_, rfl⟩
              have st8 : st.length = 8 := by rw [hst]; exact blocks_length p j
              rw [← hst] at hcl HSHA
              have hout := out_eq st st8
              rw [← HSHA.out] at hout
              have HOUT := Lib.hid hout
              have HCL := Lib.hid hcl
              have BX := Lib.hid hbel
              have hnlt : ¬ (m : Int) < 64 * (j : Int) := by omega
              clear hst hown hbel hout hcl hm HSHA HC hcp
              go_wp2_with fail
              clear hnlt
              generalize hwr : wr = wy at BX HCL hlt ⊢
              clear hwr
              go_loopw [8, 9] (fun o i wr => ∃ j : Nat, i = .int .i64 (j : Int) ∧ j ≤ 32 ∧ wr.ownsRow wy.heap.size 5 1 o ((List.range j).map (outb st)).length (U ((List.range j).map (outb st))) ∧ Below wy.heap.size wy wr) (fun _ i _ => 32 - (intOf i).toNat)
              case atStart => exact ⟨0, rfl, by omega, World.ownsRow_nil _ _ _ _, Below.refl _ _⟩
              case round =>
                obtain ⟨i, rfl, hi32, hown, hbel⟩ := hrel
                by_cases hi6 : i < 32
                · have hi7 : (i : Int) < 32 := by omega
                  obtain ⟨qq, hqq⟩ : ∃ x, x = i / 4 := ⟨_, rfl⟩
                  obtain ⟨mm, hmm⟩ : ∃ x, x = i % 4 := ⟨_, rfl⟩
                  have e1 : (i : Int) / 4 = (qq : Int) := by omega
                  have e2 : (i : Int) % 4 = (mm : Int) := by omega
                  have e3 : (i : Int).tmod 4 = (mm : Int) := by rw [Int.tmod_eq_emod_of_nonneg (by omega)]; exact e2
                  have e4 : (i : Int).tdiv 4 = (qq : Int) := by rw [Int.tdiv_eq_ediv_of_nonneg (by omega)]; exact e1
                  have e5 : IntKind.i64.wrap (qq : Int) = qq := IntWalk.i64_in _ (by omega)
                  have e6 : IntKind.i64.wrap (mm : Int) = mm := IntWalk.i64_in _ (by omega)
                  have e7 : IntKind.i64.wrap (8 * (mm : Int)) = 8 * mm := IntWalk.i64_in _ (by omega)
                  have e8 : IntKind.i64.wrap (24 - 8 * (mm : Int)) = 24 - 8 * mm := IntWalk.i64_in _ (by omega)
                  have e9 : 0 ≤ 24 - 8 * (mm : Int) := by omega
                  have q8 : (qq : Int) < 8 := by omega
                  have q0 : (0 : Int) ≤ qq := by omega
                  have hq8' : qq < 8 := by omega
                  have hby := out_byte st i
                  rw [← hqq, ← hmm] at hby
                  obtain ⟨x, hx⟩ : ∃ x, x = st.getD qq 0 := ⟨_, rfl⟩
                  have hcx : wr.cell? ⟨gh, qq, none⟩ = some (.int .u32 (x.toNat : Nat)) := by rw [hbel.cell (p := ⟨gh, qq, none⟩) hlt, hx]; exact HCL.out qq hq8'
                  rw [← hx] at hby
                  have hsucc : (List.range (i + 1)).map (outb st) = (List.range i).map (outb st) ++ [outb st i] := by rw [List.range_succ, List.map_append]; rfl
                  obtain ⟨q2, hq2⟩ : ∃ q, q = (List.range i).map (outb st) := ⟨_, rfl⟩
                  have hql : q2.length = i := by rw [hq2]; simp
                  rw [← hq2] at hown hsucc
                  obtain ⟨by1, hb1⟩ : ∃ x, x = outb st i := ⟨_, rfl⟩
                  rw [← hb1] at hsucc hby
                  have HSU := Lib.hid hsucc
                  have HL := Lib.hid hql
                  have HBY := Lib.hid hby
                  have hbase := hbel.size
                  clear hqq hmm hx hq2 hb1 hsucc hql hby
                  go_wp2_with (at_builtin; refine wpList_append_own _ rfl _ _ 48 rfl wy.heap.size 5 i0 (.int .u8 0) 1 1 Tryd.underlying48 hi hz0 hz1 hz2 rfl (by decide) _ _ _ rfl (hown.alloc _) ⟨wr.heap.size, 0, none⟩ 1 1 [.int .u8 ((x.toNat : Int) / 2 ^ (24 - 8 * mm) % 256)] rfl rfl one_cell (fun u hu => by simp at hu; subst hu; rfl) (by have := HL.out; unfold maxLen; omega) (by have := HL.out; omega) (by simp; omega) ?_; intro v' w6 hown' hgrow _)
                  have R := own_more (r := [by1]) rfl (by rw [HBY.out]; rfl) hbase hown hbel hown' hgrow
                  have R2 := R.1
                  have R3 := R.2
                  clear R hown' hgrow hown hbel
                  rw [← HSU.out] at R2
                  go_roundw
                  case rel => exact ⟨i + 1, by go_num, by omega, R2, R3⟩
                  case measure => simp [intOf]; omega
                · have hi8 : i = 32 := by omega
                  subst hi8
                  rw [HOUT.out] at hown
                  have hcv := conv_own hown
                  have hfin := (hb.trans (BX.out.mono hb.size)).trans (hbel.mono (hb.trans (BX.out.mono hb.size)).size)
                  have HF := Lib.hid hfin
                  clear hfin
                  go_wp2
                  go_ret
                  exact ⟨rfl, HF.out⟩
end Go.Proofs.YtcbhjagcfbinoaaDoor.S3
