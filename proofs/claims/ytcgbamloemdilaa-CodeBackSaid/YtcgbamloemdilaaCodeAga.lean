/-
  CodeAgain: the walk of the law.
-/
import Derived.Test.YtcgbamloemdilaaCodeCut
namespace Go.Proofs.Ytcgbamloemdilaa
open Go.RowKit Go.ChangeShapes Go.WideShapes Go.Deep
open Cd
attribute [local go_sem] B_size B_drop' B_take B_list B_app

/-- A value that was read out of so many bytes is small. -/
theorem read_small {m : Nat} {x : Sm} {N : Nat} (hm : m < 5) (h : okV m x) (hl : (encV m x).length ≤ N) : (-9223372036854775808 ≤ x.1 ∧ x.1 ≤ 9223372036854775807) ∧ x.2.1.length ≤ N ∧ x.2.2.1.length ≤ N ∧ (encM encT x.2.2.1).length ≤ N ∧ (∀ l ∈ x.2.2.1, l.length ≤ maxLen) ∧ x.2.2.2.length ≤ N ∧ (m = 0 → 0 ≤ x.1) := by
  obtain ⟨n, s, ls, zs⟩ := x
  match m, hm with
  | 0, _ =>
    obtain ⟨h1, h2, h3⟩ := h
    simp only [Prod.mk.injEq] at h1 h2 h3
    obtain ⟨rfl, rfl, rfl⟩ := h3
    unfold okN at h2
    refine ⟨⟨by omega, by omega⟩, Nat.zero_le _, Nat.zero_le _, Nat.zero_le _, (fun l hl => by cases hl), Nat.zero_le _, fun _ => h1⟩
  | 1, _ =>
    obtain ⟨h1, h3⟩ := h
    simp only [Prod.mk.injEq] at h1 h3
    obtain ⟨rfl, rfl, rfl⟩ := h3
    unfold okI most at h1
    refine ⟨⟨by omega, by omega⟩, Nat.zero_le _, Nat.zero_le _, Nat.zero_le _, (fun l hl => by cases hl), Nat.zero_le _, (fun h => by cases h)⟩
  | 2, _ =>
    obtain ⟨h1, h2, h3⟩ := h
    simp only [Prod.mk.injEq] at h1 h2 h3
    subst h2
    obtain ⟨rfl, rfl⟩ := h3
    have e : (encV 2 (0, s, [], [])).length = (encN s.length).length + s.length := by show (encN s.length ++ s).length = _; rw [List.length_append]
    refine ⟨⟨by omega, by omega⟩, by show s.length ≤ N; omega, Nat.zero_le _, Nat.zero_le _, (fun l hl => by cases hl), Nat.zero_le _, (fun h => by cases h)⟩
  | 3, _ =>
    obtain ⟨h1, h2, h3, h4⟩ := h
    simp only at h1 h2 h3 h4
    subst h2
    subst h3
    subst h4
    have e : (encV 3 (0, [], ls, [])).length = (encN ls.length).length + (encM encT ls).length := by show (encN ls.length ++ encM encT ls).length = _; rw [List.length_append]
    have e2 := encM_length (enc := encT) (ok := okT) (fun s _ => encT_ne s) ls h1.2
    refine ⟨⟨by omega, by omega⟩, Nat.zero_le _, by show ls.length ≤ N; omega, by show (encM encT ls).length ≤ N; omega, fun l hl => ?_, Nat.zero_le _, (fun h => by cases h)⟩
    have := h1.2 l hl
    unfold okT okN at this
    unfold maxLen
    omega
  | 4, _ =>
    obtain ⟨h1, h2, h3, h4⟩ := h
    simp only at h1 h2 h3 h4
    subst h2
    subst h3
    subst h4
    have e : (encV 4 (0, [], [], zs)).length = (encN zs.length).length + (encM encI zs).length := by show (encN zs.length ++ encM encI zs).length = _; rw [List.length_append]
    have e2 := encM_length (enc := encI) (ok := okI) encI_ne zs h1.2
    refine ⟨⟨by omega, by omega⟩, Nat.zero_le _, Nat.zero_le _, Nat.zero_le _, (fun l hl => by cases hl), by show zs.length ≤ N; omega, (fun h => by cases h)⟩

/-- What reading leaves, where it does not fail. -/
theorem read_some {m : Nat} {r : List UInt8} {r' : List UInt8} (h : rest ((some r).bind (decV m)) = some r') :
    okV m (val z0 ((some r).bind (decV m))) ∧ r = encV m (val z0 ((some r).bind (decV m))) ++ r' := by
  rcases hd : (some r).bind (decV m) with _ | ⟨x, r2⟩
  · rw [hd] at h; cases h
  · rw [hd] at h
    have e : r2 = r' := by injection h
    subst e
    obtain ⟨e1, e2⟩ := (codecV m).again r x r2 hd
    exact ⟨e2, e1⟩

/-- What the law's loop keeps: t has been written, the rest is left. -/
def RA (p : Nat) (s : List UInt8) (w : World) (o i : Value) (wr : World) : Prop :=
  ∃ (k : Nat) (t r : List UInt8), i = .int .i64 (k : Int) ∧ k ≤ 20 ∧ o = .string (B t) ∧ s = t ++ r ∧ Rd 59 wr p (some r) ∧ Below w.heap.size w wr

set_option maxHeartbeats 4000000 in
set_option maxRecDepth 100000 in
theorem codeAgain_walk (s : List UInt8) (A : Option Addr) (zs : List Int) (c : Nat) (w : World) (hs : s.length ≤ maxLen)
    (hr : Row w w.heap.size A (Zs zs)) (hz : zs.length ≤ maxLen) (hwf : ∀ z ∈ zs, (Lit.int .i64 z).wf = true) :
    Calls Try.prog 6 #[.string (B s), .slice A zs.length c] w fun e w' => e = .returned (.bool true) ∧ Below w.heap.size w w' := by
  unfold maxLen at hs hz
  have hs2 : (s.length : Int) ≤ 9223372036854775807 := by omega
  have hz2 : (zs.length : Int) ≤ 9223372036854775807 := by omega
  have HR := Lib.hid hr
  have HW := Lib.hid hwf
  clear hr hwf
  by_cases hs3 : s.length ≤ 5000
  · have hs4 : (s.length : Int) ≤ 5000 := by omega
    by_cases hz3 : zs.length ≤ 20
    · have hz4 : (zs.length : Int) ≤ 20 := by omega
      go_enter Try.func6, Try.ntmps6
      go_wp2_with fail
      refine (small_any _).mono ?_
      rintro e w1 ⟨rfl, hb⟩
      have B1 := Lib.hid hb
      clear hb
      go_wp2_with fail
      refine (opens s _).mono ?_
      rintro e w2 ⟨p, rfl, hp1, hp2, hrd, hb⟩
      have B2 := Lib.hid (good_step B1.out hb)
      have hp3 : w.heap.size ≤ p := Nat.le_trans B1.out.size hp1
      have R1 := Lib.hid hrd
      clear hb hrd hp1 hp2 B1
      go_wp2_with fail
      go_loopw [7, 8] (fun o i wr => RA p s w o i wr) (fun _ i _ => zs.length - (intOf i).toNat)
      case atStart => exact ⟨0, [], s, rfl, by omega, rfl, rfl, R1.out, B2.out⟩
      case round =>
        obtain ⟨k, t, r, rfl, hk20, rfl, hst, hrd, hbel⟩ := hrel
        clear R1 B2
        have HB := Lib.hid hbel
        have H1 := Lib.hid hrd
        have hlen : s.length = t.length + r.length := by rw [hst, List.length_append]
        have hrl : r.length ≤ 5000 := by omega
        have htl : (t.length : Int) ≤ 5000 := by omega
        have HST := Lib.hid hst
        have HLEN := Lib.hid hlen
        clear hbel hrd hst hlen
        by_cases hlt : k < zs.length
        · have hlt' : (k : Int) < zs.length := by omega
          obtain ⟨a, rfl, hab, hcell⟩ := (HR.out.below HB.out).num hlt
          have hwx := HW.out _ (List.getElem_mem hlt)
          obtain ⟨x, hx⟩ : ∃ x, x = zs[k] := ⟨_, rfl⟩
          rw [← hx] at hcell hwx
          have hbx := bounds_i64 hwx
          have HBX := Lib.hid hbx
          clear hx hwx hbx
          have hk1 := fun w => kind_any ⟨x, 0, [], none, [], 0, none, [], 0⟩ w HBX.out
          have hkl := kd_lt ⟨x, 0, [], none, [], 0, none, [], 0⟩
          obtain ⟨m, hm⟩ : ∃ m, m = Vl.kd ⟨x, 0, [], none, [], 0, none, [], 0⟩ := ⟨_, rfl⟩
          rw [← hm] at hk1 hkl
          have HK := Lib.hid hk1
          have HKL := Lib.hid hkl
          clear hm hk1 hkl
          go_wp2_with fail
          refine (HK.out _).mono ?_
          rintro e w3 ⟨rfl, hb⟩
          have R3 := Lib.hid (rd_below H1.out hb (blk_lt H1.out))
          have B3 := Lib.hid (good_step HB.out hb)
          clear hb hcell
          go_wp2_with fail
          refine (read_any p m _ w3 HKL.out R3.out (by show r.length ≤ _; omega)).mono ?_
          rintro e w4 ⟨v, rfl, hvk, hvs, hvf, hin, hrd, hg⟩
          have B4 := Lib.hid (below_grown B3.out hg B3.out.size hp3)
          have HVK := Lib.hid hvk
          have HVS := Lib.hid hvs
          have HVF := Lib.hid hvf
          have HIN := Lib.hid hin
          have HS' := Lib.hid (show ∀ r', rest ((some r).bind (decV m)) = some r' → v.Fit ∧ v.Sz ∧ (v.kd = 0 → 0 ≤ v.n) ∧ v.kd = m ∧ r = encV m (v.sm m) ++ r' from by
            intro r' h
            obtain ⟨hok, hr⟩ := read_some h
            have hsmall := read_small (N := 5000) HKL.out hok (by have := congrArg List.length hr; rw [List.length_append] at this; omega)
            have hvf := HVF.out
            rw [← hvf.1, ← hvf.2.1, ← hvf.2.2.1, ← hvf.2.2.2] at hsmall
            obtain ⟨g1, g2, g3, g4, g5, g6, g7⟩ := hsmall
            have hkm := HKL.out
            have hkd : v.kd = m := by unfold Vl.kd; rw [HVK.out]; omega
            refine ⟨⟨by rw [HVK.out]; omega, g1, by unfold maxLen; omega, by unfold maxLen; omega, g5, by unfold maxLen; omega⟩, ⟨by omega, by omega, by omega, by omega⟩, fun h => g7 (hkd.symm.trans h), hkd, ?_⟩
            rw [HVS.out]
            exact hr)
          obtain ⟨st', hst'⟩ : ∃ st', st' = rest ((some r).bind (decV m)) := ⟨_, rfl⟩
          rw [← hst'] at HS' hrd
          have R4 := Lib.hid (rd_alloc hrd (.cells v.cells 45))
          have B5 := Lib.hid (B4.out.alloc B4.out.size (.cells v.cells 45))
          have X5 := Lib.hid (bx_new w4 v)
          have I5 := Lib.hid (show v.In (w4.alloc (.cells v.cells 45)) (w4.heap.size + 1) from (HIN.out.below ((Below.refl _ _).alloc (Nat.le_refl _) _)).more (by omega))
          clear hrd hvk hvs hvf hin hg hst' R3 B3 B4 HVK HVS HVF HIN HK
          obtain ⟨g5, hg5⟩ : ∃ g5, g5 = w4.heap.size := ⟨_, rfl⟩
          have hz5 : (w4.alloc (.cells v.cells 45)).heap.size = g5 + 1 := by rw [hg5]; simp
          have ecl : v.cells = #[.int .i64 v.k, .int .i64 v.n, .string (B v.s), .slice v.A v.ls.length v.c, .slice v.A' v.zs.length v.c'] := rfl
          rw [ecl]
          have HZ5 := Lib.hid hz5
          have HG5 := Lib.hid hg5
          clear hz5 hg5 ecl
          go_wp2_with fail
          obtain ⟨w5, hw5⟩ : ∃ w5, w5 = w4.alloc (.cells v.cells 45) := ⟨_, rfl⟩
          have ew5 : w4.alloc (.cells #[.int .i64 v.k, .int .i64 v.n, .string (B v.s), .slice v.A v.ls.length v.c, .slice v.A' v.zs.length v.c'] 45) = w5 := hw5.symm
          rw [ew5]
          rw [← hw5] at R4 B5 X5 I5 HZ5
          rw [← HG5.out] at X5 I5 ⊢
          clear hw5 ew5
          have hgw : g5 < w5.heap.size := by rw [HZ5.out]; omega
          have I6 := Lib.hid (I5.out.more (show g5 + 1 ≤ w5.heap.size by omega))
          clear I5 HZ5
          refine (left_any p st' w5 R4.out).mono ?_
          rintro e w6 ⟨rfl, rfl⟩
          rcases st' with _ | r'
          · have d1 : (((lft none).length : Nat) : Int) = 0 := rfl
            rw [d1]
            clear d1
            go_wp2_with fail
            refine (done_any p none w5 R4.out).mono ?_
            rintro e w6 ⟨rfl, rfl⟩
            have d1 : dn none = false := rfl
            rw [d1]
            clear d1
            go_wp2_with fail
            refine (num_fails p none w5 R4.out (by decide) rfl).mono ?_
            rintro e w6 ⟨rfl, hrd, hg⟩
            have R6 := Lib.hid hrd
            have B6 := Lib.hid (below_grown B5.out hg B5.out.size hp3)
            clear hrd hg
            go_wp2_with fail
            refine (take_any p none 0 w6 R6.out (by decide)).mono ?_
            rintro e w7 ⟨rfl, hrd, hg⟩
            have R7 := Lib.hid (show Rd 59 w7 p none from hrd)
            have B7 := Lib.hid (below_grown B6.out hg B6.out.size hp3)
            have d1 : (val [] ((none : St).bind (takeI 0))) = [] := rfl
            rw [d1]
            clear hrd hg d1
            go_wp2_with fail
            have L7 := list_any p none w7 R7.out (by decide)
            refine (L7.mono fun e w' h => lr_of (n := 0) h rfl).mono ?_
            rintro e w8 ⟨A1, c1, rfl, -, hrd, hg⟩
            have R8 := Lib.hid (show Rd 59 w8 p none from hrd)
            have B8 := Lib.hid (below_grown B7.out hg B7.out.size hp3)
            clear hrd hg L7
            go_wp2_with fail
            refine (done_any p none w8 R8.out).mono ?_
            rintro e w9 ⟨rfl, rfl⟩
            have d1 : dn none = false := rfl
            rw [d1]
            clear d1
            go_wp2
            go_ret
            exact ⟨rfl, B8.out⟩
          · obtain ⟨hfit, hsz, h00, hkd, hre⟩ := HS'.out r' rfl
            have d1 : lft (some r') = r' := rfl
            rw [d1]
            clear d1
            have HWR0 := fun w h => write_any v w h hfit hsz h00
            rw [hkd] at HWR0
            obtain ⟨q, hq⟩ : ∃ q, q = encV m (v.sm m) := ⟨_, rfl⟩
            rw [← hq] at HWR0 hre
            have hlr : r.length = q.length + r'.length := by rw [hre, List.length_append]
            have hst2 : s = (t ++ q) ++ r' := by rw [HST.out, hre, List.append_assoc]
            have htk : s.take (s.length - r'.length) = t ++ q := by
              have e1 : s.length - r'.length = (t ++ q).length := by rw [HLEN.out, hlr, List.length_append]; omega
              rw [e1, hst2]
              exact List.take_left
            have hql : (q.length : Int) ≤ 5000 := by omega
            have hrl' : (r'.length : Int) ≤ 5000 := by omega
            have hsl := HLEN.out
            have hrs : (r'.length : Int) ≤ s.length := by omega
            have hrs' : r'.length ≤ s.length := by omega
            have esub : (s.length : Int) - r'.length = ((s.length - r'.length : Nat) : Int) := by omega
            obtain ⟨d, hd⟩ : ∃ d, d = s.length - r'.length := ⟨_, rfl⟩
            rw [← hd] at esub htk
            have hdl : d ≤ s.length := by omega
            have hdl' : (d : Int) ≤ s.length := by omega
            have HSUB := Lib.hid esub
            have HWR := Lib.hid HWR0
            have HTK := Lib.hid htk
            have HST2 := Lib.hid hst2
            clear hq HWR0 hre hlr htk hst2 hsl esub hd hfit hsz h00 hkd HS' HST HLEN
            by_cases hnil : r' = []
            · subst hnil
              go_wp2_with fail
              refine (done_any p (some []) w5 R4.out).mono ?_
              rintro e w6 ⟨rfl, rfl⟩
              have d1 : dn (some []) = true := rfl
              rw [d1]
              clear d1
              obtain ⟨c0, c1, c2, c3, c4⟩ := bx_cells X5.out
              go_wp2_with fail
              refine (HWR.out _ I6.out).mono ?_
              rintro e w6 ⟨rfl, hb⟩
              have R6 := Lib.hid (rd_below R4.out hb (blk_lt R4.out))
              have B6 := Lib.hid (good_step B5.out hb)
              have htq : t ++ q = s := by have := HST2.out; rw [List.append_nil] at this; exact this.symm
              have hcm : ((t ++ q) != s) = false := by rw [htq]; simp
              have hce : ((t ++ q) == s) = true := by rw [htq]; simp
              have hns : s = (t ++ q) ++ [] := HST2.out
              have HNS := Lib.hid hns
              clear hb c0 c1 c2 c3 c4 htq hns
              go_wp2_with fail
              go_roundw
              case rel => exact ⟨k + 1, t ++ q, [], by go_num, by omega, rfl, HNS.out, R6.out, B6.out⟩
              case measure => simp [intOf]; omega
            · have hne : ((r'.length : Int) == 0) = false := by
                have := List.length_pos_iff.2 hnil
                simp
                omega
              obtain ⟨c0, c1, c2, c3, c4⟩ := bx_cells X5.out
              go_wp2_with fail
              refine (HWR.out _ I6.out).mono ?_
              rintro e w6 ⟨rfl, hb⟩
              have R6 := Lib.hid (rd_below R4.out hb (blk_lt R4.out))
              have B6 := Lib.hid (good_step B5.out hb)
              have esub := HSUB.out
              have htk := HTK.out
              clear hb c0 c1 c2 c3 c4 hne
              go_wp2_with fail
              go_roundw
              case rel => exact ⟨k + 1, t ++ q, r', by go_num, by omega, rfl, HST2.out, R6.out, B6.out⟩
              case measure => simp [intOf]; omega
        · have hge : (zs.length : Int) ≤ k := by omega
          clear hrl htl
          go_wp2
          go_ret
          exact ⟨rfl, HB.out⟩
    · have hz4 : (20 : Int) < zs.length := by omega
      go_enter Try.func6, Try.ntmps6
      go_wp2_with fail
      refine (small_any _).mono ?_
      rintro e w1 ⟨rfl, hb⟩
      go_wp2
      go_ret
      exact ⟨rfl, hb⟩
  · have hs4 : (5000 : Int) < s.length := by omega
    go_enter Try.func6, Try.ntmps6
    go_wp2_with fail
    refine (small_any _).mono ?_
    rintro e w1 ⟨rfl, hb⟩
    go_wp2
    go_ret
    exact ⟨rfl, hb⟩
end Go.Proofs.Ytcgbamloemdilaa
