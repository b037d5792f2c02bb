/-
  CodeBack: the walk of the law.
-/
import Derived.Test.YtcgbamloemdilaaCodeAga
import Derived.Deep.RegionWith
namespace Go.Proofs.Ytcgbamloemdilaa
open Go.RowKit Go.ChangeShapes Go.WideShapes Go.Deep
open Cd
attribute [local go_sem] B_size B_drop' B_take B_list B_app

/-- The slice value of address A holds these values, below block bd. -/
def Vals (w : World) (bd : Nat) (A : Option Addr) (vs : List Vl) : Prop :=
  (vs = [] ∨ ∃ a, A = some a ∧ a.block < bd ∧ ∀ (i : Nat) (h : i < vs.length) (j : Nat) (u : Value), (vs[i]).cells[j]? = some u → w.cell? (a.add (i * 5 + j)) = some u) ∧ ∀ v ∈ vs, v.In w bd ∧ v.Fit
theorem Vals.below {w w' : World} {bd : Nat} {A : Option Addr} {vs : List Vl} (h : Vals w bd A vs) (hb : Below bd w w') : Vals w' bd A vs := by
  refine ⟨?_, fun v hv => ⟨(h.2 v hv).1.below hb, (h.2 v hv).2⟩⟩
  rcases h.1 with h1 | ⟨a, rfl, hlt, hc⟩
  · exact .inl h1
  · exact .inr ⟨a, rfl, hlt, fun i hi j u hu => (hb.cell (p := a.add (i * 5 + j)) (by rw [add_block]; exact hlt)).trans (hc i hi j u hu)⟩
theorem add_pos_ (p : Addr) (j : Nat) (hj : j ≠ 0) : p.add j = ⟨p.block, p.off + j, none⟩ := by
  unfold Addr.add
  rw [if_neg hj]
/-- The five cells of a value at an address. -/
def At5 (w : World) (p : Addr) (v : Vl) : Prop := w.cell? p = some (.int .i64 v.k) ∧ w.cell? ⟨p.block, p.off + 1, none⟩ = some (.int .i64 v.n) ∧ w.cell? ⟨p.block, p.off + 2, none⟩ = some (.string (B v.s)) ∧ w.cell? ⟨p.block, p.off + 3, none⟩ = some (.slice v.A v.ls.length v.c) ∧ w.cell? ⟨p.block, p.off + 4, none⟩ = some (.slice v.A' v.zs.length v.c')
theorem Vals.at_ {w : World} {bd : Nat} {A : Option Addr} {vs : List Vl} (h : Vals w bd A vs) {k : Nat} (hk : k < vs.length) : ∃ a, A = some a ∧ a.block < bd ∧ At5 w (a.add (k * 5)) vs[k] := by
  rcases h.1 with rfl | ⟨a, rfl, hlt, hc⟩
  · simp at hk
  · refine ⟨a, rfl, hlt, hc k hk 0 _ rfl, ?_, ?_, ?_, ?_⟩
    · rw [← add_pos_ _ 1 (by omega), Go.Deep.add_add]; exact hc k hk 1 _ rfl
    · rw [← add_pos_ _ 2 (by omega), Go.Deep.add_add]; exact hc k hk 2 _ rfl
    · rw [← add_pos_ _ 3 (by omega), Go.Deep.add_add]; exact hc k hk 3 _ rfl
    · rw [← add_pos_ _ 4 (by omega), Go.Deep.add_add]; exact hc k hk 4 _ rfl

theorem sm_len {v : Vl} (h : VOk v) (m : Nat) : (v.sm m).2.1.length ≤ 1000 ∧ (v.sm m).2.2.1.length ≤ 100 ∧ (encM encT (v.sm m).2.2.1).length ≤ 100900 ∧ (v.sm m).2.2.2.length ≤ 100 := by
  have h3 := light_encM' h.2.2.1
  match m with
  | 0 => exact ⟨Nat.zero_le _, Nat.zero_le _, Nat.zero_le _, Nat.zero_le _⟩
  | 1 => exact ⟨Nat.zero_le _, Nat.zero_le _, Nat.zero_le _, Nat.zero_le _⟩
  | 2 => exact ⟨h.2.1, Nat.zero_le _, Nat.zero_le _, Nat.zero_le _⟩
  | 3 => exact ⟨Nat.zero_le _, h.2.2.1.1, h3, Nat.zero_le _⟩
  | _ + 4 => exact ⟨Nat.zero_le _, Nat.zero_le _, Nat.zero_le _, h.1⟩
theorem in_drew_ {v : Vl} {w : World} (h : v.In w w.heap.size) : v.In w.drew w.drew.heap.size := h
theorem encVs_le (xs : List (Nat × Sm)) : ∀ k, (encVs (xs.drop k)).length ≤ (encVs xs).length := by
  induction xs with
  | nil => intro k; simp [encVs]
  | cons x r ih =>
    intro k
    cases k with
    | zero => exact Nat.le_refl _
    | succ k =>
      have := ih k
      rw [List.drop_succ_cons, encVs, List.length_append]
      omega

set_option maxHeartbeats 4000000 in
set_option maxRecDepth 100000 in
theorem codeBack_walk (A : Option Addr) (vs : List Vl) (c : Nat) (t : List UInt8) (w : World) (hv : Vals w w.heap.size A vs) (hn : vs.length ≤ maxLen) (ht : t.length ≤ maxLen) :
    Calls Try.prog 5 #[.slice A vs.length c, .string (B t)] w fun e w' => e = .returned (.bool true) ∧ Below w.heap.size w w' := by
  unfold maxLen at hn ht
  have hn2 : (vs.length : Int) ≤ 9223372036854775807 := by omega
  have ht2 : (t.length : Int) ≤ 9223372036854775807 := by omega
  have HV := Lib.hid hv
  clear hv
  by_cases hn3 : vs.length ≤ 20
  · have hn4 : (vs.length : Int) ≤ 20 := by omega
    by_cases ht3 : t.length ≤ 1000
    · have ht4 : (t.length : Int) ≤ 1000 := by omega
      obtain ⟨xs, hxs⟩ : ∃ xs : List (Nat × Sm), xs = vs.map fun v => (v.kd, v.sm v.kd) := ⟨_, rfl⟩
      have HX := Lib.hid hxs
      clear hxs
      go_enter Try.func5, Try.ntmps5
      go_wp2_with fail
      refine (small_any _).mono ?_
      rintro e w1 ⟨rfl, hb⟩
      have B1 := Lib.hid hb
      clear hb
      go_wp2_with fail
      go_loopw [6, 7] (fun o i wr => ∃ k : Nat, i = .int .i64 (k : Int) ∧ k ≤ vs.length ∧ o = .string (B (encVs (xs.take k))) ∧ (encVs (xs.take k)).length ≤ k * 200000 ∧ (∀ v ∈ vs.take k, VOk v) ∧ Below w.heap.size w wr) (fun _ i _ => vs.length - (intOf i).toNat)
      case atStart => exact ⟨0, rfl, by omega, rfl, Nat.zero_le _, by simp, B1.out⟩
      case round =>
        obtain ⟨k, rfl, hk, rfl, hln, hall, hbel⟩ := hrel
        clear B1
        have HB := Lib.hid hbel
        have HA := Lib.hid hall
        clear hbel hall
        by_cases hlt : k < vs.length
        · have hlt' : (k : Int) < vs.length := by omega
          obtain ⟨a, rfl, hab, h5⟩ := (HV.out.below HB.out).at_ hlt
          have hmem := HV.out.2 _ (List.getElem_mem hlt)
          have htk := List.take_succ_eq_append_getElem hlt
          have hxk : k < xs.length := by rw [HX.out, List.length_map]; exact hlt
          have hxt := encVs_take xs k hxk
          have hxv : xs[k] = (vs[k].kd, vs[k].sm vs[k].kd) := by
            have : xs[k]? = some (vs[k].kd, vs[k].sm vs[k].kd) := by rw [HX.out, List.getElem?_map, List.getElem?_eq_getElem hlt]; rfl
            rw [List.getElem?_eq_getElem hxk] at this
            injection this
          rw [hxv] at hxt
          obtain ⟨v, hv⟩ : ∃ v, v = vs[k] := ⟨_, rfl⟩
          rw [← hv] at h5 hmem htk hxt
          obtain ⟨x0, x1, x2, x3, x4⟩ := h5
          have HM := Lib.hid hmem
          have HTK := Lib.hid htk
          have HXT := Lib.hid hxt
          have H5 := Lib.hid (show At5 wr (a.add (k * 5)) v from ⟨x0, x1, x2, x3, x4⟩)
          clear hmem htk hxt hxv hv hxk
          go_wp2_with fail
          refine (valid_any v wr (HM.out.1.step HB.out) HM.out.2).mono ?_
          rintro e w2 ⟨b, rfl, hbv, hb⟩
          have B2 := Lib.hid (good_step HB.out hb)
          have hbx : At5 w2 (a.add (k * 5)) v := by
            obtain ⟨z0, z1, z2, z3, z4⟩ := H5.out
            have hlt5 : (a.add (k * 5)).block < wr.heap.size := by rw [add_block]; exact Nat.lt_of_lt_of_le hab HB.out.size
            exact ⟨(hb.cell hlt5).trans z0, (hb.cell (p := ⟨_, _, none⟩) hlt5).trans z1, (hb.cell (p := ⟨_, _, none⟩) hlt5).trans z2, (hb.cell (p := ⟨_, _, none⟩) hlt5).trans z3, (hb.cell (p := ⟨_, _, none⟩) hlt5).trans z4⟩
          clear hb x0 x1 x2 x3 x4
          cases b
          · clear hbv hbx
            go_wp2
            go_ret
            exact ⟨rfl, B2.out⟩
          · have HVK := Lib.hid (hbv.1 rfl)
            clear hbv
            obtain ⟨x0, x1, x2, x3, x4⟩ := hbx
            have HWR := write_any v w2 (HM.out.1.step B2.out) HM.out.2 (vok_sz HVK.out) (vok_pos HVK.out)
            have hql := encV_len HVK.out
            obtain ⟨q, hq⟩ : ∃ q, q = encV v.kd (v.sm v.kd) := ⟨_, rfl⟩
            have hxt := HXT.out
            have hxt2 : encVs (xs.take (k + 1)) = encVs (xs.take k) ++ q := by rw [hq]; exact hxt
            rw [← hq] at HWR hql
            have HW := Lib.hid HWR
            have HXT2 := Lib.hid hxt2
            have hsuc : (k + 1) * 200000 = k * 200000 + 200000 := by omega
            have hln2 : (encVs (xs.take k) ++ q).length ≤ (k + 1) * 200000 := by rw [List.length_append]; omega
            have HLN := Lib.hid hln2
            obtain ⟨y, hy⟩ : ∃ y, y = encVs (xs.take k) := ⟨_, rfl⟩
            have hk20 : k ≤ 20 := by omega
            rw [← hy] at hln ⊢
            rw [← hy] at HXT2 HLN
            have hyl : y.length ≤ 4000000 := by omega
            have R := Lib.hid (show ∀ u ∈ vs.take (k + 1), VOk u from by
              intro u hu
              rw [HTK.out, List.mem_append, List.mem_singleton] at hu
              rcases hu with hu | rfl
              · exact HA.out u hu
              · exact HVK.out)
            clear HWR hq hxt hxt2 hln2 hsuc hy
            go_wp2_with fail
            refine HW.out.mono ?_
            rintro e w3 ⟨rfl, hb⟩
            have B3 := Lib.hid (good_step B2.out hb)
            clear hb x0 x1 x2 x3 x4
            go_wp2_with fail
            go_roundw
            case rel => exact ⟨k + 1, by go_num, hlt, by rw [HXT2.out], by rw [HXT2.out]; exact HLN.out, R.out, B3.out⟩
            case measure => simp [intOf]; omega
        · have hge : (vs.length : Int) ≤ k := by omega
          obtain rfl : k = vs.length := by omega
          have hall2 := HA.out
          have hxl : xs.length = vs.length := by rw [HX.out, List.length_map]
          have exx : encVs (xs.take vs.length) = encVs xs := by rw [← hxl, List.take_length]
          rw [exx] at hln ⊢
          rw [List.take_length] at hall2
          have HALL := Lib.hid hall2
          have hyl : (encVs xs).length ≤ 4000000 := by omega
          have HYL := Lib.hid hyl
          have HXL := Lib.hid hxl
          obtain ⟨y, hy⟩ : ∃ y, y = encVs xs := ⟨_, rfl⟩
          rw [← hy] at hyl ⊢
          have HY := Lib.hid hy
          clear hall2 hxl exx hln HA hy
          go_wp2_with fail
          refine (opens (y ++ t) _).mono ?_
          rintro e w2 ⟨p, rfl, hp1, hp2, hrd, hb⟩
          have B2 := Lib.hid (good_step HB.out hb)
          have hp3 : w.heap.size ≤ p := Nat.le_trans HB.out.size hp1
          rw [HY.out] at hrd
          have R2 := Lib.hid hrd
          clear hb hrd hp1 hp2 HB hge
          go_wp2_with fail
          go_loopw [9] (fun i wr => ∃ k : Nat, i = .int .i64 (k : Int) ∧ k ≤ vs.length ∧ Rd 59 wr p (some (encVs (xs.drop k) ++ t)) ∧ Below w.heap.size w wr) (fun i _ => vs.length - (intOf i).toNat)
          case atStart => exact ⟨0, rfl, by omega, R2.out, B2.out⟩
          case round =>
            obtain ⟨k, rfl, hk2, hrd, hbel⟩ := hrel
            clear R2 B2
            have HB := Lib.hid hbel
            have H1 := Lib.hid hrd
            have hlk : (lft (some (encVs (xs.drop k) ++ t))).length ≤ 1099511627776 := by
              have h1 := encVs_le xs k
              have h2 := HYL.out
              show (encVs (xs.drop k) ++ t).length ≤ _
              rw [List.length_append]
              omega
            have HLK := Lib.hid hlk
            clear hbel hrd hlk
            by_cases hlt : k < vs.length
            · have hlt' : (k : Int) < vs.length := by omega
              obtain ⟨a, rfl, hab, h5⟩ := (HV.out.below HB.out).at_ hlt
              have hmem := HV.out.2 _ (List.getElem_mem hlt)
              have hvok := HALL.out _ (List.getElem_mem hlt)
              have hxk : k < xs.length := by rw [HXL.out]; exact hlt
              have hxd := encVs_drop xs k hxk
              have hxv : xs[k] = (vs[k].kd, vs[k].sm vs[k].kd) := by
                have : xs[k]? = some (vs[k].kd, vs[k].sm vs[k].kd) := by rw [HX.out, List.getElem?_map, List.getElem?_eq_getElem hlt]; rfl
                rw [List.getElem?_eq_getElem hxk] at this
                injection this
              rw [hxv] at hxd
              obtain ⟨v, hv⟩ : ∃ v, v = vs[k] := ⟨_, rfl⟩
              rw [← hv] at h5 hmem hvok hxd
              obtain ⟨x0, x1, x2, x3, x4⟩ := h5
              have HM := Lib.hid hmem
              have HVK := Lib.hid hvok
              have H50 := Lib.hid (show ∀ wk, Below w.heap.size w wk → At5 wk (a.add (k * 5)) v from fun wk hb => by
                obtain ⟨a', ha', _, h⟩ := (HV.out.below hb).at_ hlt
                injection ha' with ha'
                subst ha'
                rw [← hv] at h
                exact h)
              have hback := (codecV v.kd).back (v.sm v.kd) (encVs (xs.drop (k + 1)) ++ t) (vok_ok hvok hmem.2)
              have hst : encVs (xs.drop k) ++ t = encV v.kd (v.sm v.kd) ++ (encVs (xs.drop (k + 1)) ++ t) := by
                have h1 : encVs (xs.drop k) = encV v.kd (v.sm v.kd) ++ encVs (xs.drop (k + 1)) := hxd
                rw [h1, List.append_assoc]
              rw [← hst] at hback
              have hsl := sm_len hvok v.kd
              have hsame : ∀ b : Vl, b.sm v.kd = v.sm v.kd → decide (v.sm v.kd = b.sm v.kd) = true := fun b h => by rw [h]; exact decide_eq_true rfl
              have HBK := Lib.hid hback
              have HSL := Lib.hid hsl
              have HSA := Lib.hid hsame
              have HKD := Lib.hid (kd_lt v)
              clear hmem hvok hxd hxv hv hxk hback hst hsl hsame
              go_wp2_with fail
              refine (kind_any v wr HM.out.2.1).mono ?_
              rintro e w3 ⟨rfl, hb⟩
              have R3 := Lib.hid (rd_below H1.out hb (blk_lt H1.out))
              have B3 := Lib.hid (good_step HB.out hb)
              clear hb x0 x1 x2 x3 x4
              go_wp2_with fail
              refine (read_any p v.kd _ w3 HKD.out R3.out HLK.out).mono ?_
              rintro e w4 ⟨u, rfl, huk, hus, huf, hin, hrd, hg⟩
              have e4 : (some (encVs (xs.drop k) ++ t)).bind (decV v.kd) = some (v.sm v.kd, encVs (xs.drop (k + 1)) ++ t) := HBK.out
              rw [e4] at hus huf hrd
              have husm : u.sm v.kd = v.sm v.kd := hus
              have R4 := Lib.hid (show Rd 59 w4 p (some (encVs (xs.drop (k + 1)) ++ t)) from hrd)
              have B4 := Lib.hid (below_grown B3.out hg B3.out.size hp3)
              have husz : u.Sz := by
                obtain ⟨g1, g2, g3, g4⟩ := huf
                obtain ⟨s1, s2, s3, s4⟩ := HSL.out
                have g1' : u.ls = (v.sm v.kd).2.2.1 := g1
                have g2' : u.zs = (v.sm v.kd).2.2.2 := g2
                have g3' : u.s = (v.sm v.kd).2.1 := g3
                exact ⟨by rw [g3']; omega, by rw [g1']; omega, by rw [g1']; omega, by rw [g2']; omega⟩
              have SM := fun w h1 h2 => same_any v u w h1 h2 HM.out.2 (vok_sz HVK.out) husz
              rw [HSA.out u husm] at SM
              have HSM := Lib.hid SM
              have HIN := Lib.hid hin
              have B5 := Lib.hid (B4.out.alloc B4.out.size (.cells u.cells 45))
              have R5 := Lib.hid (rd_alloc R4.out (.cells u.cells 45))
              have X5 := Lib.hid (bx_new w4 u)
              have I5 := Lib.hid (show u.In (w4.alloc (.cells u.cells 45)) (w4.heap.size + 1) from (HIN.out.below ((Below.refl _ _).alloc (Nat.le_refl _) _)).more (by omega))
              obtain ⟨g5, hg5⟩ : ∃ g5, g5 = w4.heap.size := ⟨_, rfl⟩
              have hz5 : (w4.alloc (.cells u.cells 45)).heap.size = g5 + 1 := by rw [hg5]; simp
              have ecl : u.cells = #[.int .i64 u.k, .int .i64 u.n, .string (B u.s), .slice u.A u.ls.length u.c, .slice u.A' u.zs.length u.c'] := rfl
              rw [ecl]
              have HZ5 := Lib.hid hz5
              have HG5 := Lib.hid hg5
              clear hz5 hg5 ecl huk hus huf hin hrd hg e4 husm husz SM R3 B3 HBK HSL HSA H1
              go_wp2_with fail
              obtain ⟨w5, hw5⟩ : ∃ w5, w5 = w4.alloc (.cells u.cells 45) := ⟨_, rfl⟩
              have ew5 : w4.alloc (.cells #[.int .i64 u.k, .int .i64 u.n, .string (B u.s), .slice u.A u.ls.length u.c, .slice u.A' u.zs.length u.c'] 45) = w5 := hw5.symm
              rw [ew5]
              rw [← hw5] at R5 B5 X5 I5 HZ5
              rw [← HG5.out] at X5 I5 ⊢
              have I6 := Lib.hid (I5.out.more (show g5 + 1 ≤ w5.heap.size by rw [HZ5.out]; omega))
              have i1 := HM.out.1.step B5.out
              have i2 := I6.out
              have J1 := Lib.hid i1
              have J2 := Lib.hid i2
              obtain ⟨c0, c1, c2, c3, c4⟩ := bx_cells X5.out
              obtain ⟨x0, x1, x2, x3, x4⟩ := H50.out w5 B5.out
              clear hw5 ew5 I5 HZ5 HG5 R4 B4 X5 HIN I6 i1 i2
              go_region_with (go_at_call 46; refine (HSM.out _ (in_drew_ J1.out) (in_drew_ J2.out)).mono ?_; rintro e w6 ⟨rfl, hb⟩)
              all_goals
                have R6 := Lib.hid (rd_below (w := w5.drew) (by exact R5.out) hb (by exact blk_lt R5.out))
                have B6 := Lib.hid (good_step B5.out.drew hb)
                clear hb c0 c1 c2 c3 c4 x0 x1 x2 x3 x4
                go_wp2
                go_roundw
                case rel => exact ⟨k + 1, by go_num, hlt, R6.out, B6.out⟩
                case measure => simp [intOf]; omega
            · have hge : (vs.length : Int) ≤ k := by omega
              obtain rfl : k = vs.length := by omega
              have hdr : xs.drop vs.length = [] := by rw [← HXL.out]; exact List.drop_length
              have hrd := H1.out
              rw [hdr] at hrd
              have R3 := Lib.hid (show Rd 59 wr p (some t) from hrd)
              clear hdr hrd H1 HLK
              go_wp2_with fail
              refine (left_any p (some t) wr R3.out).mono ?_
              rintro e w3 ⟨rfl, rfl⟩
              have d1 : lft (some t) = t := rfl
              rw [d1]
              clear d1
              have et : (some t).bind (takeI (t.length : Int)) = some (t, []) := by simp [takeI, takeN]
              have HT := take_any p (some t) (t.length : Int) wr R3.out (by show t.length ≤ _; omega)
              rw [et] at HT
              have HT2 : Calls Try.prog 38 #[.pointer (some ⟨p, 0, none⟩), .int .i64 (t.length : Int)] wr (RRes 59 p wr (.string (B t)) (some [])) := HT
              have HT3 := Lib.hid HT2
              clear HT HT2 et
              go_wp2_with fail
              refine HT3.out.mono ?_
              rintro e w3 ⟨rfl, hrd, hg⟩
              have R4 := Lib.hid hrd
              have B4 := Lib.hid (below_grown HB.out hg HB.out.size hp3)
              clear hrd hg
              go_wp2_with fail
              refine (done_any p (some []) w3 R4.out).mono ?_
              rintro e w4 ⟨rfl, rfl⟩
              have d1 : dn (some []) = true := rfl
              rw [d1]
              clear d1
              go_wp2
              go_ret
              exact ⟨rfl, B4.out⟩
    · have ht4 : (1000 : Int) < t.length := by omega
      go_enter Try.func5, Try.ntmps5
      go_wp2_with fail
      refine (small_any _).mono ?_
      rintro e w1 ⟨rfl, hb⟩
      go_wp2
      go_ret
      exact ⟨rfl, hb⟩
  · have hn4 : (20 : Int) < vs.length := by omega
    go_enter Try.func5, Try.ntmps5
    go_wp2_with fail
    refine (small_any _).mono ?_
    rintro e w1 ⟨rfl, hb⟩
    go_wp2
    go_ret
    exact ⟨rfl, hb⟩
end Go.Proofs.Ytcgbamloemdilaa
