/-
  Layer 7: ShareJoins' walk.
-/
import Derived.Test.YtjpgadiobgbchaaDoorShareChosen
import Derived.Deep.Slices
import Derived.OwnWalk
import Derived.Laws.OwnMore
import Derived.Laws.AppendOwnNone
namespace Go.Proofs.YtjpgadiobgbchaaDoor
open Go.RowKit
namespace Sh
attribute [local go_sem] S3.B_size S3.B_app S3.B_list

/-- A slice of ints in a world. -/
structure Ri (w : World) (A : Option Addr) (zs : List Int) : Prop where
  row : S2.Row w w.heap.size A (S2.Zs zs)
theorem Ri.step {w w' : World} {A : Option Addr} {zs : List Int} (h : Ri w A zs) (hb : Below w.heap.size w w') : Ri w' A zs := ⟨(h.row.below hb).more hb.size⟩
theorem Ri.alloc {w : World} {A : Option Addr} {zs : List Int} (h : Ri w A zs) (o : Obj) : Ri (w.alloc o) A zs := h.step ((Below.refl _ _).alloc (Nat.le_refl _) o)
theorem Rw_get {w : World} {a : Addr} {l : List (Int × Int)} (h : Rw w (some a) l) (j : Nat) (u : Value) (hu : (Sc l)[j]? = some u) : w.cell? (a.add j) = some u := by
  rcases h.row with h0 | ⟨b, e, _, hc⟩
  · rw [h0] at hu
    simp at hu
  · cases e
    exact hc j u hu
theorem joinP_yes' {l : List (Int × Int)} {T : Nat} (hv : Valid l) (h1 : 1 ≤ T) (h2 : T ≤ l.length) : joinP l (T : Int) = (joinV l T, true) := by
  unfold joinP
  rw [Int.toNat_natCast]
  exact if_pos ⟨by omega, by omega, hv.take T⟩
theorem joinP_no' {l : List (Int × Int)} {t : Int} (h : (l.length : Int) < t) : joinP l t = (0, false) := if_neg fun h2 => by have := h2.2.1; omega
theorem coefs_cons (s : Int) (x : List UInt8) (T : Nat) (h : 1 ≤ T) : ∃ c, coefs s x T = s :: c ∧ c.length + 1 = T := by
  obtain ⟨k, rfl⟩ : ∃ k, T = k + 1 := ⟨T - 1, by omega⟩
  unfold coefs
  rw [List.range_succ_eq_map, List.map_cons]
  exact ⟨_, rfl, by simp⟩
theorem Ch.valid {sh M : List (Int × Int)} (h : Ch sh M) (hv : Valid sh) : Valid M := ⟨fun p hp => hv.x p (h.sub p hp), fun p hp => hv.y p (h.sub p hp), h.one⟩
theorem take_app (M rest : List (Int × Int)) (T : Nat) (h : T ≤ M.length) : (M.take T ++ rest).take T = M.take T := by
  have e : (M.take T).length = T := by rw [List.length_take]; omega
  conv => lhs; arg 1; rw [← e]
  exact List.take_left

set_option maxHeartbeats 8000000 in
set_option maxRecDepth 100000 in
theorem joins_walk (L : Landed) (s t n : Int) (x : List UInt8) (B2 B3 : Option Addr) (order : List Int) (rest : List (Int × Int)) (c2 c3 : Nat) (W : World) (hW : S3.Laid W) (is : S4.isI64 s) (it : S4.isI64 t) (in_ : S4.isI64 n) (ho : Ri W B2 order) (hom : order.length ≤ 4611686018427387904) (hr : Rw W B3 rest) (hrm : rest.length ≤ 4611686018427387904) (hc : rest.length ≤ c3) (hB : B3 = none → rest = [] ∧ c3 = 0) :
    Calls Tryd.prog 4 #[.int .i64 s, .int .i64 t, .int .i64 n, .string (S3.B x), .slice B2 order.length c2, .slice B3 rest.length c3] W fun e w' => e = .returned (.bool true) ∧ Below W.heap.size W w' := by
  have KS := Lib.hid (fun W hW => small_ok L W hW)
  have A := Lib.hid (Lk.At.start hW)
  have RO := Lib.hid ho
  have RR := Lib.hid hr
  have hrm' : (rest.length : Int) ≤ 4611686018427387904 := by omega
  by_cases h1 : 1000 < x.length
  · have hx' : (1000 : Int) < (x.length : Int) := by omega
    clear is it in_ ho hr hW hB
    go_enter Tryd.func4, Tryd.ntmps4
    go_wp2_with fail
    refine (KS.out _ A.out.laid _ (Below.refl _ _)).mono ?_
    rintro e w1 ⟨rfl, hb⟩
    replace A := Lib.hid (A.out.step hb)
    replace RO := Lib.hid (RO.out.step hb)
    replace RR := Lib.hid (RR.out.step hb)
    clear hb
    go_wp2
    go_ret
    exact ⟨rfl, A.out.bel⟩
  have hx1 : (x.length : Int) ≤ 1000 := by omega
  by_cases h2 : 24 < rest.length
  · have hx' : (24 : Int) < (rest.length : Int) := by omega
    clear is it in_ ho hr hW hB
    go_enter Tryd.func4, Tryd.ntmps4
    go_wp2_with fail
    refine (KS.out _ A.out.laid _ (Below.refl _ _)).mono ?_
    rintro e w1 ⟨rfl, hb⟩
    replace A := Lib.hid (A.out.step hb)
    replace RO := Lib.hid (RO.out.step hb)
    replace RR := Lib.hid (RR.out.step hb)
    clear hb
    go_wp2
    go_ret
    exact ⟨rfl, A.out.bel⟩
  have hr24 : (rest.length : Int) ≤ 24 := by omega
  by_cases hok : SplitOk s t n
  · obtain ⟨o1, o2, o3, o4, o5⟩ := hok
    obtain ⟨T, rfl⟩ := Int.eq_ofNat_of_zero_le (show 0 ≤ t by omega)
    obtain ⟨N, rfl⟩ := Int.eq_ofNat_of_zero_le (show 0 ≤ n by omega)
    have k1 := fun w hw => L.splitYes s T N x w hw (by omega) (by omega) (by omega) (by omega) o4 o5
    have hsl := shares_len (coefs s x T) N
    have hfit := shares_fit (coefs s x T) N
    rw [coefs_len] at hfit
    have hva := shares_valid (coefs s x T) N (by omega)
    obtain ⟨cf, hcf, hcl⟩ := coefs_cons s x T (by omega)
    have hjs : ∀ M : List (Int × Int), (∀ p ∈ M.take T, p ∈ shares (coefs s x T) N) → Valid (M.take T) → T ≤ M.length → joinV M T = s := fun M h1 h2 h3 => by
      rw [hcf] at h1
      rw [← hcl] at h1 h2 h3 ⊢
      exact joins ⟨o4, o5⟩ h1 h2.apart h3
    generalize shares (coefs s x T) N = sh at k1 hsl hfit hva hjs
    have kc : ∀ (w : World) (A : Option Addr) (c : Nat), Rw w A sh → Ri w B2 order → Calls Tryd.prog 16 #[.slice A N c, .slice B2 order.length c2] w fun e w' => (∃ (M : List (Int × Int)) (v : Value), e = .returned v ∧ M.length ≤ 24 ∧ Ch sh M ∧ w'.ownsRow w.heap.size 38 2 v M.length (Sc M)) ∧ Below w.heap.size w w' := fun w A c h1 h2 => by
      have k := chosen_any A B2 sh order c c2 w h1 h2.row (by omega) hom
      rw [hsl] at k
      exact k
    have K1 := Lib.hid k1
    have KC := Lib.hid kc
    have HV := Lib.hid hva
    have HFI := Lib.hid hfit
    have HJS := Lib.hid hjs
    have HIT := Lib.hid it
    have HB3 := Lib.hid hB
    have HC3 := Lib.hid hc
    have HWL := Lib.hid hW
    have hT1 : (1 : Int) ≤ (T : Int) := o1
    have hTN : (T : Int) ≤ (N : Int) := o2
    have hN64 : (N : Int) ≤ 64 := o3
    clear k1 kc hva hfit hjs hcf hcl hsl is it in_ ho hr hW hB hc o1 o2 o3 hom hrm
    go_enter Tryd.func4, Tryd.ntmps4
    go_wp2_with fail
    refine (KS.out _ A.out.laid _ (Below.refl _ _)).mono ?_
    rintro e w1 ⟨rfl, hb⟩
    replace A := Lib.hid (A.out.step hb)
    replace RO := Lib.hid (RO.out.step hb)
    replace RR := Lib.hid (RR.out.step hb)
    clear hb
    go_wp2_with fail
    refine (K1.out w1 A.out.laid).mono ?_
    rintro e w2 ⟨⟨A1, c1, rfl, ho1⟩, hb⟩
    replace A := Lib.hid (A.out.step hb)
    replace RO := Lib.hid (RO.out.step hb)
    replace RR := Lib.hid (RR.out.step hb)
    have R1 := Lib.hid (Rw.own ho1)
    clear ho1
    clear hb
    go_wp2_with fail
    refine (KC.out _ _ _ R1.out RO.out).mono ?_
    rintro e w3 ⟨⟨M, v3, rfl, hM24, hch, ho3⟩, hb⟩
    replace A := Lib.hid (A.out.step hb)
    replace RO := Lib.hid (RO.out.step hb)
    replace RR := Lib.hid (RR.out.step hb)
    replace R1 := Lib.hid (R1.out.step hb)
    obtain ⟨A3, c4, rfl, hc4⟩ := own_sl' ho3
    have RM := Lib.hid (Rw.own ho3)
    clear ho3
    clear hb
    have hvM := hch.valid HV.out
    have hfM : fitP M (T : Int) = true := decide_eq_true ⟨hT1, hvM, by rw [Int.toNat_natCast]; exact HFI.out.sub hch.sub⟩
    have kf := fun w h => L.fits A3 M c4 (T : Int) w h (by omega) hc4 HIT.out
    have kj := fun w h => L.join A3 M c4 (T : Int) w h (by omega) hc4 HIT.out
    rw [hfM] at kf
    have KF := Lib.hid kf
    have hM24' : (M.length : Int) ≤ 24 := by omega
    clear kf hfM
    by_cases hTM : T ≤ M.length
    · have hTM' : (T : Int) ≤ (M.length : Int) := by omega
      have hj1 := HJS.out M (fun p hp => hch.sub p (List.mem_of_mem_take hp)) (hvM.take T) hTM
      rw [joinP_yes' hvM (by omega) hTM, hj1] at kj
      have hcat : ∀ (w : World) (A : Option Addr) (c : Nat), Rw w A (M.take T ++ rest) → (M.take T ++ rest).length ≤ c → Calls Tryd.prog 12 #[.slice A (T + rest.length) c, .int .i64 (T : Int)] w fun e w' => e = .returned (.tuple #[.int .i64 s, .bool true]) ∧ Below w.heap.size w w' := fun w A c h hc => by
        have hlen : (M.take T ++ rest).length = T + rest.length := by rw [List.length_append, List.length_take]; omega
        have ht := take_app M rest T hTM
        have k := L.join A (M.take T ++ rest) c (T : Int) w h (by omega) hc HIT.out
        have e : joinP (M.take T ++ rest) (T : Int) = (s, true) := by
          have h1 : joinV (M.take T ++ rest) T = s := HJS.out _ (fun p hp => hch.sub p (List.mem_of_mem_take (by rw [ht] at hp; exact hp))) (by rw [ht]; exact hvM.take T) (by omega)
          unfold joinP
          rw [Int.toNat_natCast, ht, h1]
          exact if_pos ⟨hT1, by omega, hvM.take T⟩
        rw [e, hlen] at k
        exact k
      have KJ := Lib.hid kj
      have KK := Lib.hid hcat
      obtain ⟨a3, rfl, _, _, _⟩ := row_at RM.out.row (show 0 < M.length by omega)
      clear kj hcat hj1 hvM
      go_wp2_with fail
      refine (KF.out _ RM.out).mono ?_
      rintro e u1 ⟨rfl, hb⟩
      replace A := Lib.hid (A.out.step hb)
      replace RM := Lib.hid (RM.out.step hb)
      replace RR := Lib.hid (RR.out.step hb)
      clear hb
      go_wp2_with fail
      refine (KJ.out _ RM.out).mono ?_
      rintro e u2 ⟨rfl, hb⟩
      replace A := Lib.hid (A.out.step hb)
      replace RM := Lib.hid (RM.out.step hb)
      replace RR := Lib.hid (RR.out.step hb)
      clear hb
      have hTc : (T : Int) ≤ (c4 : Int) := by omega
      have A2W := Lib.hid A.out.bel.size
      obtain ⟨i0, hi0, hz0, hz1, hz2⟩ := info_parts infoShare
      have hT24 : T ≤ 24 := by omega
      have hbs := ((Below.refl u2.heap.size u2).alloc (Nat.le_refl _) (.cells #[] 38)).size
      have own0 := World.ownsRow_lit (base := u2.heap.size) (size := 2) (e := 38) u2 #[] 0 (Nat.le_refl _) (by decide) rfl
      have hlt : (Sc (M.take T)).length = T * 2 := by rw [Sc_len, List.length_take]; omega
      have RT := (RM.out.take T).alloc (.cells #[] 38)
      go_wp2_with (at_builtin; refine wpList_append_own _ rfl _ _ 22 rfl u2.heap.size 38 i0 (.agg #[.int .i64 0, .int .i64 0]) 2 16 Tryd.underlying22 hi0 hz0 hz1 hz2 rfl (by decide) _ _ _ rfl own0 a3 T c4 (Sc (M.take T)) rfl hlt (fun j u hu => Rw_get RT j u hu) (Sc_one _) (by unfold maxLen; omega) (by omega) hbs ?_)
      intro v1 u3 ho hg _
      have hb1 := ((Below.refl u2.heap.size u2).alloc (Nat.le_refl _) (.cells #[] 38)).grown hg (by simp) (own_ge own0)
      have own1 : u3.ownsRow u2.heap.size 38 2 v1 T (Sc (M.take T)) := by simpa using ho
      replace A := Lib.hid (A.out.step hb1)
      replace RR := Lib.hid (RR.out.step hb1)
      have hsz := hb1.size
      clear ho hg own0 hlt RT hb1 RM RO R1 hTc
      cases B3 with
      | none =>
        obtain ⟨rfl, rfl⟩ := HB3.out rfl
        go_wp2_with (at_builtin; refine wpList_append_own_none rfl _ _ 22 rfl u2.heap.size 38 i0 2 Tryd.underlying22 hi0 _ _ _ rfl own1 rfl ?_)
        have HOW : Hid (u3.ownsRow u2.heap.size 38 2 v1 (T + ([] : List (Int × Int)).length) (Sc (M.take T ++ []))) := Lib.hid (by rw [List.append_nil]; exact own1)
        clear own1 HB3 RR
        generalize ([] : List (Int × Int)) = rest at *
        have ho2 := HOW.out
        obtain ⟨A6, c6, rfl, hc6⟩ := own_sl' ho2
        have RQ := Lib.hid (Rw.own ho2)
        have hc7 : (M.take T ++ rest).length ≤ c6 := by rw [List.length_append, List.length_take]; omega
        clear ho2
        go_wp2_with fail
        refine (KK.out _ _ _ RQ.out hc7).mono ?_
        rintro e u5 ⟨rfl, hb⟩
        replace A := Lib.hid (A.out.step hb)
        clear hb
        go_wp2
        go_ret
        exact ⟨rfl, A.out.bel⟩
      | some b3 =>
        have hlr : (Sc rest).length = rest.length * 2 := Sc_len rest
        go_wp2_with (at_builtin; refine wpList_append_own _ rfl _ _ 22 rfl u2.heap.size 38 i0 (.agg #[.int .i64 0, .int .i64 0]) 2 16 Tryd.underlying22 hi0 hz0 hz1 hz2 rfl (by decide) _ _ _ rfl own1 b3 rest.length c3 (Sc rest) rfl hlr (fun j u hu => Rw_get RR.out j u hu) (Sc_one _) (by unfold maxLen; omega) (by omega) hsz ?_)
        intro v2 u4 ho hg _
        have hb2 := (Below.refl u3.heap.size u3)
        have HOW : Hid (u4.ownsRow u2.heap.size 38 2 v2 (T + rest.length) (Sc (M.take T ++ rest))) := Lib.hid (by rw [Sc_append]; exact ho)
        have hA4 : Below W.heap.size W u4 := A.out.bel.grown hg A.out.bel.size (fun g hg2 => by have h1 := own_ge own1 g hg2; have h2 := A2W.out; omega)
        replace A := Lib.hid (Lk.At.from HWL.out hA4)
        clear ho hg own1 hlr RR hb2 hA4
        have ho2 := HOW.out
        obtain ⟨A6, c6, rfl, hc6⟩ := own_sl' ho2
        have RQ := Lib.hid (Rw.own ho2)
        have hc7 : (M.take T ++ rest).length ≤ c6 := by rw [List.length_append, List.length_take]; omega
        clear ho2
        go_wp2_with fail
        refine (KK.out _ _ _ RQ.out hc7).mono ?_
        rintro e u5 ⟨rfl, hb⟩
        replace A := Lib.hid (A.out.step hb)
        clear hb
        go_wp2
        go_ret
        exact ⟨rfl, A.out.bel⟩
    · have hTM' : (M.length : Int) < (T : Int) := by omega
      rw [joinP_no' (by omega)] at kj
      have KJ := Lib.hid kj
      clear kj hvM
      go_wp2_with fail
      refine (KF.out _ RM.out).mono ?_
      rintro e w51 ⟨rfl, hb⟩
      replace A := Lib.hid (A.out.step hb)
      replace RO := Lib.hid (RO.out.step hb)
      replace RR := Lib.hid (RR.out.step hb)
      replace R1 := Lib.hid (R1.out.step hb)
      replace RM := Lib.hid (RM.out.step hb)
      clear hb
      go_wp2_with fail
      refine (KJ.out _ RM.out).mono ?_
      rintro e w52 ⟨rfl, hb⟩
      replace A := Lib.hid (A.out.step hb)
      replace RO := Lib.hid (RO.out.step hb)
      replace RR := Lib.hid (RR.out.step hb)
      replace R1 := Lib.hid (R1.out.step hb)
      replace RM := Lib.hid (RM.out.step hb)
      clear hb
      go_wp2
      go_ret
      exact ⟨rfl, A.out.bel⟩
  · have k1 := fun w hw => L.splitNo s t n x w hw is it in_ (by omega) hok
    have K1 := Lib.hid k1
    have hok' : ¬ (1 ≤ t ∧ t ≤ n ∧ n ≤ 64 ∧ 0 ≤ s ∧ s < 2305843009213693951) := hok
    clear k1 is it in_ hok hW ho hr hB hc hom hrm
    by_cases q0 : t < 1
    · clear hok'
      go_enter Tryd.func4, Tryd.ntmps4
      go_wp2_with fail
      refine (KS.out _ A.out.laid _ (Below.refl _ _)).mono ?_
      rintro e w1 ⟨rfl, hb⟩
      replace A := Lib.hid (A.out.step hb)
      replace RO := Lib.hid (RO.out.step hb)
      replace RR := Lib.hid (RR.out.step hb)
      clear hb
      go_wp2_with fail
      refine (K1.out w1 A.out.laid).mono ?_
      rintro e w2 ⟨⟨A1, c1, rfl⟩, hb⟩
      replace A := Lib.hid (A.out.step hb)
      replace RO := Lib.hid (RO.out.step hb)
      replace RR := Lib.hid (RR.out.step hb)
      clear hb
      go_wp2
      go_ret
      exact ⟨rfl, A.out.bel⟩
    by_cases q1 : n < t
    · clear hok'
      go_enter Tryd.func4, Tryd.ntmps4
      go_wp2_with fail
      refine (KS.out _ A.out.laid _ (Below.refl _ _)).mono ?_
      rintro e w1 ⟨rfl, hb⟩
      replace A := Lib.hid (A.out.step hb)
      replace RO := Lib.hid (RO.out.step hb)
      replace RR := Lib.hid (RR.out.step hb)
      clear hb
      go_wp2_with fail
      refine (K1.out w1 A.out.laid).mono ?_
      rintro e w2 ⟨⟨A1, c1, rfl⟩, hb⟩
      replace A := Lib.hid (A.out.step hb)
      replace RO := Lib.hid (RO.out.step hb)
      replace RR := Lib.hid (RR.out.step hb)
      clear hb
      go_wp2
      go_ret
      exact ⟨rfl, A.out.bel⟩
    by_cases q2 : 64 < n
    · clear hok'
      go_enter Tryd.func4, Tryd.ntmps4
      go_wp2_with fail
      refine (KS.out _ A.out.laid _ (Below.refl _ _)).mono ?_
      rintro e w1 ⟨rfl, hb⟩
      replace A := Lib.hid (A.out.step hb)
      replace RO := Lib.hid (RO.out.step hb)
      replace RR := Lib.hid (RR.out.step hb)
      clear hb
      go_wp2_with fail
      refine (K1.out w1 A.out.laid).mono ?_
      rintro e w2 ⟨⟨A1, c1, rfl⟩, hb⟩
      replace A := Lib.hid (A.out.step hb)
      replace RO := Lib.hid (RO.out.step hb)
      replace RR := Lib.hid (RR.out.step hb)
      clear hb
      go_wp2
      go_ret
      exact ⟨rfl, A.out.bel⟩
    by_cases q3 : s < 0
    · clear hok'
      go_enter Tryd.func4, Tryd.ntmps4
      go_wp2_with fail
      refine (KS.out _ A.out.laid _ (Below.refl _ _)).mono ?_
      rintro e w1 ⟨rfl, hb⟩
      replace A := Lib.hid (A.out.step hb)
      replace RO := Lib.hid (RO.out.step hb)
      replace RR := Lib.hid (RR.out.step hb)
      clear hb
      go_wp2_with fail
      refine (K1.out w1 A.out.laid).mono ?_
      rintro e w2 ⟨⟨A1, c1, rfl⟩, hb⟩
      replace A := Lib.hid (A.out.step hb)
      replace RO := Lib.hid (RO.out.step hb)
      replace RR := Lib.hid (RR.out.step hb)
      clear hb
      go_wp2
      go_ret
      exact ⟨rfl, A.out.bel⟩
    by_cases q4 : 2305843009213693951 ≤ s
    · clear hok'
      go_enter Tryd.func4, Tryd.ntmps4
      go_wp2_with fail
      refine (KS.out _ A.out.laid _ (Below.refl _ _)).mono ?_
      rintro e w1 ⟨rfl, hb⟩
      replace A := Lib.hid (A.out.step hb)
      replace RO := Lib.hid (RO.out.step hb)
      replace RR := Lib.hid (RR.out.step hb)
      clear hb
      go_wp2_with fail
      refine (K1.out w1 A.out.laid).mono ?_
      rintro e w2 ⟨⟨A1, c1, rfl⟩, hb⟩
      replace A := Lib.hid (A.out.step hb)
      replace RO := Lib.hid (RO.out.step hb)
      replace RR := Lib.hid (RR.out.step hb)
      clear hb
      go_wp2
      go_ret
      exact ⟨rfl, A.out.bel⟩
    exact absurd ⟨by omega, by omega, by omega, by omega, by omega⟩ hok'
end Sh
end Go.Proofs.YtjpgadiobgbchaaDoor
