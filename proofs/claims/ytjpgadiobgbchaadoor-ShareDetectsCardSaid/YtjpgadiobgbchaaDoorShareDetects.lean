/-
  Layer 7: ShareDetects' walk.
-/
import Derived.Test.YtjpgadiobgbchaaDoorShareWith
import Derived.Deep.Slices
namespace Go.Proofs.YtjpgadiobgbchaaDoor
open Go.RowKit
namespace Sh
attribute [local go_sem] S3.B_size S3.B_app S3.B_list

theorem Sc_set : ∀ (l : List (Int × Int)) (i : Nat) (h : i < l.length) (y : Int), Sc (l.set i ((l[i]).1, y)) = (Sc l).set (i * 2 + 1) (.int .i64 y)
  | p :: l, 0, _, y => by rw [List.set_cons_zero, Sc_cons, Sc_cons]; rfl
  | p :: l, i + 1, h, y => by
    have ih := Sc_set l i (by simpa using h) y
    rw [List.set_cons_succ, Sc_cons, Sc_cons, show (i + 1) * 2 + 1 = i * 2 + 1 + 2 by omega, List.set_cons_succ, List.set_cons_succ]
    rw [← ih]
    rfl
theorem own_addr {w : World} {base n k c : Nat} {e : TypeId} {A : Option Addr} {xs : List Value} (h : w.ownsRow base e k (.slice A n c) n xs) (hn : 1 ≤ n) : ∃ g, A = some ⟨g, 0, none⟩ ∧ n ≤ c ∧ base ≤ g ∧ g < w.heap.size ∧ ∀ j, w.frozen? ⟨g, j, none⟩ = false := by
  rcases h.2 with ⟨_, h0⟩ | ⟨g, cap, cur, hv, hb, hh, hc, _⟩
  · omega
  · injection hv with h1 h2 h3
    subst h1
    subst h3
    exact ⟨g, rfl, hc, hb, (Array.getElem?_eq_some_iff.1 hh).1, h.frozenAt⟩
theorem Rw_cell {w : World} {g : Nat} {l : List (Int × Int)} (h : Rw w (some ⟨g, 0, none⟩) l) (j : Nat) (u : Value) (hu : (Sc l)[j]? = some u) : w.cell? ⟨g, j, none⟩ = some u := by
  rcases h.row with h0 | ⟨a, e, _, hc⟩
  · rw [h0] at hu
    simp at hu
  · cases e
    have h1 := hc j u hu
    rw [Addr.add_lit, Nat.zero_add] at h1
    exact h1
theorem Rw_set {w : World} {g : Nat} {l : List (Int × Int)} (h : Rw w (some ⟨g, 0, none⟩) l) (hg : g < w.heap.size) {i : Nat} (hi : i < l.length) (y : Int) : Rw (w.setCell ⟨g, i * 2 + 1, none⟩ (.int .i64 y)) (some ⟨g, 0, none⟩) (l.set i ((l[i]).1, y)) := by
  refine ⟨.inr ⟨_, rfl, by simpa [World.setCell] using hg, fun j u hu => ?_⟩⟩
  rw [Addr.add_lit, Nat.zero_add]
  rw [Sc_set l i hi] at hu
  by_cases hj : j = i * 2 + 1
  · subst hj
    rw [List.getElem?_set_self (by rw [Sc_len]; omega)] at hu
    cases hu
    exact World.cell?_setCell_same w ⟨g, i * 2 + 1, none⟩ _ (Rw_cell h _ _ (Sc_at l i hi).2)
  · rw [List.getElem?_set_ne (Ne.symm hj)] at hu
    rw [World.cell?_setCell_other w _ _ _ (fun e => hj (by cases e; rfl))]
    exact Rw_cell h j u hu
theorem Rw_far {w : World} {g : Nat} {b : Addr} {l : List (Int × Int)} (h : Rw w (some b) l) (hne : g ≠ b.block) (j : Nat) (u : Value) : Rw (w.setCell ⟨g, j, none⟩ u) (some b) l := by
  rcases h.row with h0 | ⟨a, e, hlt, hc⟩
  · exact ⟨.inl h0⟩
  · cases e
    refine ⟨.inr ⟨_, rfl, by simpa [World.setCell] using hlt, fun k v hv => ?_⟩⟩
    rw [World.cell?_setCell_far w ⟨g, j, none⟩ _ _ (by rw [S2.add_block]; exact hne)]
    exact hc k v hv
theorem Sc_drop (l : List (Int × Int)) (t : Nat) : Sc (l.drop t) = (Sc l).drop (t * 2) := by
  rcases Nat.le_total t l.length with h | h
  · have e1 : Sc l = Sc (l.take t) ++ Sc (l.drop t) := by rw [← Sc_append, List.take_append_drop]
    have e : (Sc (l.take t)).length = t * 2 := by rw [Sc_len, List.length_take]; omega
    rw [e1, ← e, List.drop_left]
  · rw [List.drop_eq_nil_of_le h, List.drop_eq_nil_of_le (by rw [Sc_len]; omega)]
    rfl

set_option maxHeartbeats 8000000 in
set_option maxRecDepth 100000 in
theorem detects_walk (L : Landed) (s t n : Int) (x : List UInt8) (i y : Int) (W : World) (hW : S3.Laid W) (is : S4.isI64 s) (it : S4.isI64 t) (in_ : S4.isI64 n) (ia : S4.isI64 i) :
    Calls Tryd.prog 7 #[.int .i64 s, .int .i64 t, .int .i64 n, .string (S3.B x), .int .i64 i, .int .i64 y] W fun e w' => e = .returned (.bool true) ∧ Below W.heap.size W w' := by
  have KS := Lib.hid (fun W hW => small_ok L W hW)
  have A := Lib.hid (Lk.At.start hW)
  by_cases h1 : 1000 < x.length
  · have hx' : (1000 : Int) < (x.length : Int) := by omega
    clear is it in_ ia hW
    go_enter Tryd.func7, Tryd.ntmps7
    go_wp2_with fail
    refine (KS.out _ A.out.laid _ (Below.refl _ _)).mono ?_
    rintro e w1 ⟨rfl, hb⟩
    replace A := Lib.hid (A.out.step hb)
    clear hb
    go_wp2
    go_ret
    exact ⟨rfl, A.out.bel⟩
  have hx1 : (x.length : Int) ≤ 1000 := by omega
  by_cases h2 : 24 < n
  · have hx' : 24 < n := by omega
    clear is it in_ ia hW
    go_enter Tryd.func7, Tryd.ntmps7
    go_wp2_with fail
    refine (KS.out _ A.out.laid _ (Below.refl _ _)).mono ?_
    rintro e w1 ⟨rfl, hb⟩
    replace A := Lib.hid (A.out.step hb)
    clear hb
    go_wp2
    go_ret
    exact ⟨rfl, A.out.bel⟩
  by_cases h3 : n ≤ t
  · have hx' : n ≤ t := by omega
    clear is it in_ ia hW
    go_enter Tryd.func7, Tryd.ntmps7
    go_wp2_with fail
    refine (KS.out _ A.out.laid _ (Below.refl _ _)).mono ?_
    rintro e w1 ⟨rfl, hb⟩
    replace A := Lib.hid (A.out.step hb)
    clear hb
    go_wp2
    go_ret
    exact ⟨rfl, A.out.bel⟩
  by_cases h4 : i < 0
  · have hx' : i < 0 := by omega
    clear is it in_ ia hW
    go_enter Tryd.func7, Tryd.ntmps7
    go_wp2_with fail
    refine (KS.out _ A.out.laid _ (Below.refl _ _)).mono ?_
    rintro e w1 ⟨rfl, hb⟩
    replace A := Lib.hid (A.out.step hb)
    clear hb
    go_wp2
    go_ret
    exact ⟨rfl, A.out.bel⟩
  by_cases h5 : n ≤ i
  · have hx' : n ≤ i := by omega
    clear is it in_ ia hW
    go_enter Tryd.func7, Tryd.ntmps7
    go_wp2_with fail
    refine (KS.out _ A.out.laid _ (Below.refl _ _)).mono ?_
    rintro e w1 ⟨rfl, hb⟩
    replace A := Lib.hid (A.out.step hb)
    clear hb
    go_wp2
    go_ret
    exact ⟨rfl, A.out.bel⟩
  by_cases h6 : y < 0
  · have hx' : y < 0 := by omega
    clear is it in_ ia hW
    go_enter Tryd.func7, Tryd.ntmps7
    go_wp2_with fail
    refine (KS.out _ A.out.laid _ (Below.refl _ _)).mono ?_
    rintro e w1 ⟨rfl, hb⟩
    replace A := Lib.hid (A.out.step hb)
    clear hb
    go_wp2
    go_ret
    exact ⟨rfl, A.out.bel⟩
  by_cases h7 : 2305843009213693951 ≤ y
  · have hx' : 2305843009213693951 ≤ y := by omega
    clear is it in_ ia hW
    go_enter Tryd.func7, Tryd.ntmps7
    go_wp2_with fail
    refine (KS.out _ A.out.laid _ (Below.refl _ _)).mono ?_
    rintro e w1 ⟨rfl, hb⟩
    replace A := Lib.hid (A.out.step hb)
    clear hb
    go_wp2
    go_ret
    exact ⟨rfl, A.out.bel⟩
  by_cases hok : SplitOk s t n
  · obtain ⟨o1, o2, o3, o4, o5⟩ := hok
    obtain ⟨T, rfl⟩ := Int.eq_ofNat_of_zero_le (show 0 ≤ t by omega)
    obtain ⟨N, rfl⟩ := Int.eq_ofNat_of_zero_le (show 0 ≤ n by omega)
    obtain ⟨j, rfl⟩ := Int.eq_ofNat_of_zero_le (show 0 ≤ i by omega)
    have k1 := fun w hw => L.splitYes s T N x w hw (by omega) (by omega) (by omega) (by omega) o4 o5
    have hjN : j < N := by omega
    have hsl := shares_len (coefs s x T) N
    have hfit := shares_fit (coefs s x T) N
    rw [coefs_len] at hfit
    have hva := shares_valid (coefs s x T) N (by omega)
    generalize shares (coefs s x T) N = sh at k1 hsl hfit hva
    have hjl : j < sh.length := by omega
    have hdt := detects hva hfit (by omega) j hjl y ⟨by omega, by omega⟩
    obtain ⟨bb, hbb⟩ : ∃ b, b = decide ((sh[j]).2 = y) := ⟨_, rfl⟩
    have hvs : Valid (sh.set j ((sh[j]).1, y)) := by
      refine (valid_iff _).2 fun k hk => ?_
      rw [List.length_set] at hk
      have hok := (valid_iff sh).1 hva k hk
      have hp : ∀ m, px (sh.set j ((sh[j]).1, y)) m = px sh m := fun m => by
        unfold px
        rw [List.getD_eq_getElem?_getD, List.getD_eq_getElem?_getD, List.getElem?_set]
        split
        · rename_i e
          subst e
          rw [List.getElem?_eq_getElem hjl]
          rfl
        · rfl
      refine ⟨by rw [hp]; exact hok.1, ?_, fun m hm => by rw [hp, hp]; exact hok.2.2 m hm⟩
      by_cases hkj : k = j
      · subst hkj
        rw [py_get (by rw [List.length_set]; exact hk), List.getElem_set_self]
        dsimp only
        omega
      · rw [py_get (by rw [List.length_set]; exact hk), List.getElem_set_ne (Ne.symm hkj), ← py_get hk]
        exact hok.2.1
    have hf1 : fitP (sh.set j ((sh[j]).1, y)) (T : Int) = bb := by
      rw [hbb]
      unfold fitP
      apply decide_eq_decide.2
      rw [Int.toNat_natCast]
      exact ⟨fun h => hdt.1 h.2.2, fun h => ⟨by omega, hvs, hdt.2 h⟩⟩
    have hrest : sh.take j ++ sh.drop (j + 1) = sh.eraseIdx j := (List.eraseIdx_eq_take_drop_succ sh j).symm
    have hf2 : fitP (sh.take j ++ sh.drop (j + 1)) (T : Int) = true := by
      rw [hrest]
      refine decide_eq_true ⟨by omega, hva.sub (List.eraseIdx_sublist sh j), ?_⟩
      rw [Int.toNat_natCast]
      exact hfit.sub fun p hp => List.mem_of_mem_eraseIdx hp
    have hrl : (sh.take j ++ sh.drop (j + 1)).length = N - 1 := by rw [hrest, List.length_eraseIdx_of_lt hjl]; omega
    have KF1 : Hid (∀ (w : World) (A : Option Addr) (c : Nat), Rw w A (sh.set j ((sh[j]).1, y)) → N ≤ c → Calls Tryd.prog 14 #[.slice A N c, .int .i64 (T : Int)] w fun e w' => e = .returned (.bool bb) ∧ Below w.heap.size w w') := Lib.hid fun w A c h hc => by
      have k := L.fits A _ c (T : Int) w h (by rw [List.length_set]; omega) (by rw [List.length_set]; omega) it
      rw [hf1, List.length_set, hsl] at k
      exact k
    have KF2 : Hid (∀ (w : World) (A : Option Addr) (c : Nat), Rw w A (sh.take j ++ sh.drop (j + 1)) → N - 1 ≤ c → Calls Tryd.prog 14 #[.slice A (N - 1) c, .int .i64 (T : Int)] w fun e w' => e = .returned (.bool true) ∧ Below w.heap.size w w') := Lib.hid fun w A c h hc => by
      have k := L.fits A _ c (T : Int) w h (by rw [hrl]; omega) (by rw [hrl]; omega) it
      rw [hf2, hrl] at k
      exact k
    have K1 := Lib.hid k1
    have HSL := Lib.hid hsl
    have HJL := Lib.hid hjl
    have HBB := Lib.hid hbb
    have hjN' : (j : Int) < (N : Int) := by omega
    have hN24 : (N : Int) ≤ 24 := by omega
    have hTN : (T : Int) < (N : Int) := by omega
    have hT1 : (1 : Int) ≤ (T : Int) := o1
    have HWL := Lib.hid hW
    clear k1 hfit hva hdt hbb hvs hf1 hrest hf2 hrl hsl is it in_ ia hW o1 o2 o3
    go_enter Tryd.func7, Tryd.ntmps7
    go_wp2_with fail
    refine (KS.out _ A.out.laid _ (Below.refl _ _)).mono ?_
    rintro e w1 ⟨rfl, hb⟩
    replace A := Lib.hid (A.out.step hb)
    clear hb
    go_wp2_with fail
    have A1W := Lib.hid A.out.bel.size
    refine (K1.out w1 A.out.laid).mono ?_
    rintro e w2 ⟨⟨A1, c1, rfl, ho1⟩, hb⟩
    replace A := Lib.hid (A.out.step hb)
    clear hb
    obtain ⟨g, rfl, hNc, hgb, hgs, hfz⟩ := own_addr ho1 (by omega)
    have R1 := Lib.hid (Rw.own ho1)
    have hx := Rw_cell R1.out _ _ (Sc_at sh j HJL.out).1
    have hy := Rw_cell R1.out _ _ (Sc_at sh j HJL.out).2
    clear ho1
    have hgW : Hid (W.heap.size ≤ g) := Lib.hid (by have := A1W.out; omega)
    obtain ⟨X, hX⟩ : ∃ x, x = (sh[j]'HJL.out).1 := ⟨_, rfl⟩
    obtain ⟨Y, hY⟩ : ∃ x, x = (sh[j]'HJL.out).2 := ⟨_, rfl⟩
    rw [← hX] at hx
    rw [← hY] at hy
    have hcmp : (Y == y) = bb := by rw [HBB.out, ← hY]; rfl
    have hj24 : (j : Int) ≤ 24 := by omega
    have hwj : IntKind.i64.wrap ((j : Int) + 1) = ((j + 1 : Nat) : Int) := by
      rw [IntWalk.i64_in _ (by omega)]
      rfl
    have hjc : (j : Int) ≤ (c1 : Int) := by omega
    have hjN2 : ((j + 1 : Nat) : Int) ≤ (N : Int) := by omega
    have hNc2 : (N : Int) ≤ (c1 : Int) := by omega
    have HCM := Lib.hid hcmp
    clear hX hY hcmp
    have hj1 : 0 ≤ (j : Int) + 1 := by omega
    have hj1N : (j : Int) + 1 ≤ (N : Int) := by omega
    obtain ⟨ad, hif, had⟩ : ∃ ad : Addr, (if c1 = j + 1 then some ⟨g, 0, none⟩ else some ⟨g, (j + 1) * 2, none⟩) = some ad ∧ ∀ (k : Nat) (u : Value), (Sc (sh.drop (j + 1)))[k]? = some u → ad.block = g ∧ w2.cell? (ad.add k) = some u := by
      by_cases hc : c1 = j + 1
      · refine ⟨⟨g, 0, none⟩, if_pos hc, fun k u hu => ?_⟩
        rw [List.drop_eq_nil_of_le (by have := HSL.out; omega)] at hu
        simp [Sc] at hu
      · refine ⟨⟨g, (j + 1) * 2, none⟩, if_neg hc, fun k u hu => ⟨rfl, ?_⟩⟩
        rw [Sc_drop, List.getElem?_drop] at hu
        rw [Addr.add_lit]
        exact Rw_cell R1.out _ _ hu
    have HAD := Lib.hid had
    have HGS := Lib.hid hgs
    have HFZ := Lib.hid hfz
    have hlt : ∀ (k : Nat) (u : Value), (Sc (sh.take j))[k]? = some u → w2.cell? ((⟨g, 0, none⟩ : Addr).add k) = some u := by
      intro k u hu
      rw [Sc_take] at hu
      rw [Addr.add_lit, Nat.zero_add]
      rw [List.getElem?_take] at hu
      split at hu
      · exact Rw_cell R1.out _ _ hu
      · cases hu
    have HTK := Lib.hid hlt
    have HLT : Hid ((Sc (sh.take j)).length = j * 2) := Lib.hid (by rw [Sc_len, List.length_take]; have := HSL.out; omega)
    have HLD : Hid ((Sc (sh.drop (j + 1))).length = (N - (j + 1)) * 2) := Lib.hid (by rw [Sc_len, List.length_drop, HSL.out])
    clear had hlt hgs hfz
    obtain ⟨i0, hi0, hz0, hz1, hz2⟩ := info_parts infoShare
    go_wp2
    have B := Lib.hid ((Below.refl w2.heap.size w2).drew)
    refine wp_region_held_drew (S := (fun _ => True)) (by kernel_rfl) trivial (fun hHeld => ?_)
    generalize w2.drew = wd at *
    refine wpAnyH_take (i := 1) (oi := ⟨_, _, _, _, _, _⟩) (v := ?_) rfl (by kernel_rfl) (by kernel_rfl) (by kernel_rfl) (fun _ _ _ h => h) (Or.inl ⟨by rfl, ?_⟩) (by assumption) ?_
    rotate_left
    · intro wz hSw
      try dsimp only at hSw
      go_simp
      try with_reducible rfl
    try simp only [Act.put, List.setIfInBounds_toArray, List.set_cons_zero, List.set_cons_succ]
    refine wpAnyH_take (i := 2) (oi := ⟨_, _, _, _, _, _⟩) (v := ?_) rfl (by kernel_rfl) (by kernel_rfl) (by kernel_rfl) (fun _ _ _ h => h) (Or.inl ⟨by rfl, ?_⟩) (by assumption) ?_
    rotate_left
    · intro wz hSw
      try dsimp only at hSw
      go_simp
      try with_reducible rfl
    try simp only [Act.put, List.setIfInBounds_toArray, List.set_cons_zero, List.set_cons_succ]
    refine wpAnyH_take (i := 3) (oi := ⟨_, _, _, _, _, _⟩) (v := ?_) rfl (by kernel_rfl) (by kernel_rfl) (by kernel_rfl) (fun _ _ _ h => h) (Or.inl ⟨by rfl, ?_⟩) (by assumption) ?_
    rotate_left
    · intro wz hSw
      try dsimp only at hSw
      go_simp
      try with_reducible rfl
    try simp only [Act.put, List.setIfInBounds_toArray, List.set_cons_zero, List.set_cons_succ]
    refine wpAnyH_take (i := 5) (oi := ⟨_, _, _, _, _, _⟩) (v := ?_) rfl (by kernel_rfl) (by kernel_rfl) (by kernel_rfl) (fun _ _ _ h => h) (Or.inl ⟨by rfl, ?_⟩) (by assumption) ?_
    rotate_left
    · intro wz hSw
      try dsimp only at hSw
      go_simp
      try with_reducible rfl
    try simp only [Act.put, List.setIfInBounds_toArray, List.set_cons_zero, List.set_cons_succ]
    refine wpAnyH_take (i := 6) (oi := ⟨_, _, _, _, _, _⟩) (v := ?_) rfl (by kernel_rfl) (by kernel_rfl) (by kernel_rfl) (fun _ _ _ h => h) (Or.inl ⟨by rfl, ?_⟩) (by assumption) ?_
    rotate_left
    · intro wz hSw
      try dsimp only at hSw
      go_simp
      try with_reducible rfl
    try simp only [Act.put, List.setIfInBounds_toArray, List.set_cons_zero, List.set_cons_succ]
    refine wpAnyH_take (i := 7) (oi := ⟨_, _, _, _, _, _⟩) (v := ?_) rfl (by kernel_rfl) (by kernel_rfl) (by kernel_rfl) (fun _ _ _ h => h) (Or.inl ⟨by rfl, ?_⟩) (by assumption) ?_
    rotate_left
    · intro wz hSw
      try dsimp only at hSw
      go_simp
      try with_reducible rfl
    try simp only [Act.put, List.setIfInBounds_toArray, List.set_cons_zero, List.set_cons_succ]
    refine wpAnyH_take (i := 8) (oi := ⟨_, _, _, _, _, _⟩) (v := ?_) rfl (by kernel_rfl) (by kernel_rfl) (by kernel_rfl) (fun _ _ _ h => h) (Or.inl ⟨by rfl, ?_⟩) (by assumption) ?_
    rotate_left
    · intro wz hSw
      try dsimp only at hSw
      go_simp
      try with_reducible rfl
    try simp only [Act.put, List.setIfInBounds_toArray, List.set_cons_zero, List.set_cons_succ]
    refine wpAnyH_ready (rs := [0]) (by kernel_rfl) (by simp) ?_
    refine AllReadyH.cons (o := ⟨_, _, _, _, _, _⟩) rfl (fun K hK => ?_) AllReadyH.nil
    go_simp
    have own9 := Lib.hid (World.ownsRow_lit (base := w2.heap.size) (size := 2) (e := 38) wd #[] 0 B.out.size (by decide) rfl)
    replace B := Lib.hid (B.out.alloc B.out.size (.cells #[] 38))
    clear hHeld
    refine hK.out _ _ trivial (fun hHeld => ?_)
    clear hK K
    try simp only [Act.put, List.setIfInBounds_toArray, List.set_cons_zero, List.set_cons_succ]
    generalize wd.alloc (.cells #[] 38) = x1 at *
    refine wpAnyH_ready (rs := [4]) (by kernel_rfl) (by simp) ?_
    refine AllReadyH.cons (o := ⟨_, _, _, _, _, _⟩) rfl (fun K hK => ?_) AllReadyH.nil
    refine S3.step_append_own rfl _ _ 22 rfl w2.heap.size 38 i0 (.agg #[.int .i64 0, .int .i64 0]) 2 16 Tryd.underlying22 hi0 hz0 hz1 hz2 rfl (by decide) _ _ _ rfl own9.out ⟨g, 0, none⟩ j c1 (Sc (sh.take j)) rfl HLT.out (fun k u hu => (B.out.cell (p := (⟨g, 0, none⟩ : Addr).add k) (by rw [S2.add_block]; exact HGS.out)).trans (HTK.out k u hu)) (Sc_one _) (by unfold maxLen; omega) (by omega) B.out.size ?_
    intro v14 x2 ho hg
    replace B := Lib.hid (B.out.grown hg B.out.size (own_ge own9.out))
    have own14 : Hid (x2.ownsRow w2.heap.size 38 2 v14 j (Sc (sh.take j))) := Lib.hid (by rw [Nat.zero_add] at ho; exact ho)
    clear ho hg own9
    clear hHeld
    refine hK.out _ _ trivial (fun hHeld => ?_)
    clear hK K
    try simp only [Act.put, List.setIfInBounds_toArray, List.set_cons_zero, List.set_cons_succ]
    refine wpAnyH_ready (rs := [9]) (by kernel_rfl) (by simp) ?_
    refine AllReadyH.cons (o := ⟨_, _, _, _, _, _⟩) rfl (fun K hK => ?_) AllReadyH.nil
    refine S3.step_append_own rfl _ _ 22 rfl w2.heap.size 38 i0 (.agg #[.int .i64 0, .int .i64 0]) 2 16 Tryd.underlying22 hi0 hz0 hz1 hz2 rfl (by decide) _ _ _ rfl own14.out ad (N - (j + 1)) (c1 - (j + 1)) (Sc (sh.drop (j + 1))) rfl HLD.out (fun k u hu => (B.out.cell (p := ad.add k) (by rw [S2.add_block, (HAD.out k u hu).1]; exact HGS.out)).trans (HAD.out k u hu).2) (Sc_one _) (by unfold maxLen; omega) (by omega) B.out.size ?_
    intro v24 x3 ho hg
    replace B := Lib.hid (B.out.grown hg B.out.size (own_ge own14.out))
    have own24 : Hid (x3.ownsRow w2.heap.size 38 2 v24 (N - 1) (Sc (sh.take j ++ sh.drop (j + 1)))) := Lib.hid (by rw [Sc_append]; rw [show j + (N - (j + 1)) = N - 1 by omega] at ho; exact ho)
    clear ho hg own14
    clear hHeld
    refine hK.out _ _ trivial (fun hHeld => ?_)
    clear hK K
    try simp only [Act.put, List.setIfInBounds_toArray, List.set_cons_zero, List.set_cons_succ]
    refine wpAnyH_take (i := 10) (oi := ⟨_, _, _, _, _, _⟩) (v := ?_) rfl (by kernel_rfl) (by kernel_rfl) (by kernel_rfl) (fun _ _ _ h => h) (Or.inl ⟨by rfl, ?_⟩) (by assumption) ?_
    rotate_left
    · intro wz hSw
      try dsimp only at hSw
      go_simp
      try with_reducible rfl
    try simp only [Act.put, List.setIfInBounds_toArray, List.set_cons_zero, List.set_cons_succ]
    refine wpAnyH_done (by kernel_rfl) ?_ _
    clear hHeld
    obtain ⟨a24, c24, rfl, hc24⟩ := own_some own24.out (by omega)
    have R2 := Lib.hid (Rw.own own24.out)
    have hge24 := own_ge own24.out a24.block rfl
    replace R1 := Lib.hid (R1.out.step B.out)
    have hy3 := (B.out.cell (p := ⟨g, j * 2 + 1, none⟩) HGS.out).trans hy
    have hfz3 := (B.out.frozen (p := ⟨g, j * 2 + 1, none⟩) HGS.out).trans (HFZ.out _)
    have R1' := Lib.hid (Rw_set R1.out (Nat.lt_of_lt_of_le HGS.out B.out.size) HJL.out y)
    have R2' := Lib.hid (Rw_far R2.out (show g ≠ a24.block from fun e => by have := HGS.out; omega) (j * 2 + 1) (.int .i64 y))
    have B' : Hid (Below W.heap.size W (x3.setCell ⟨g, j * 2 + 1, none⟩ (.int .i64 y))) := Lib.hid ((A.out.bel.trans (B.out.mono A.out.bel.size)).setCell (p := ⟨g, j * 2 + 1, none⟩) hgW.out _)
    replace A := Lib.hid (Lk.At.from HWL.out B'.out)
    clear own24 R1 R2 B B' hx hy HTK HAD HLT HLD hif hge24 HFZ
    go_wp2_with fail
    generalize x3.setCell ⟨g, j * 2 + 1, none⟩ (.int .i64 y) = x4 at *
    clear hy3 hfz3 h1 h2 h3 h4 h5 h6 h7 o4 o5
    have hcm := HCM.out
    clear HCM HBB
    cases bb with
    | false =>
      have hYy : (Y == y) = false := hcm
      clear hcm
      refine (KF1.out _ _ _ R1'.out hNc).mono ?_
      rintro e x5 ⟨rfl, hb⟩
      replace A := Lib.hid (A.out.step hb)
      replace R2' := Lib.hid (R2'.out.step hb)
      clear hb
      go_wp2_with fail
      refine (KF2.out _ _ _ R2'.out hc24).mono ?_
      rintro e x6 ⟨rfl, hb⟩
      replace A := Lib.hid (A.out.step hb)
      clear hb
      go_wp2
      go_ret
      exact ⟨rfl, A.out.bel⟩
    | true =>
      have hYy : (Y == y) = true := hcm
      clear hcm
      refine (KF1.out _ _ _ R1'.out hNc).mono ?_
      rintro e x5 ⟨rfl, hb⟩
      replace A := Lib.hid (A.out.step hb)
      replace R2' := Lib.hid (R2'.out.step hb)
      clear hb
      go_wp2_with fail
      refine (KF2.out _ _ _ R2'.out hc24).mono ?_
      rintro e x6 ⟨rfl, hb⟩
      replace A := Lib.hid (A.out.step hb)
      clear hb
      go_wp2
      go_ret
      exact ⟨rfl, A.out.bel⟩
  · have k1 := fun w hw => L.splitNo s t n x w hw is it in_ (by omega) hok
    have K1 := Lib.hid k1
    clear k1 is it in_ ia hok hW
    go_enter Tryd.func7, Tryd.ntmps7
    go_wp2_with fail
    refine (KS.out _ A.out.laid _ (Below.refl _ _)).mono ?_
    rintro e w1 ⟨rfl, hb⟩
    replace A := Lib.hid (A.out.step hb)
    clear hb
    go_wp2_with fail
    refine (K1.out w1 A.out.laid).mono ?_
    rintro e w2 ⟨⟨A1, c1, rfl⟩, hb⟩
    replace A := Lib.hid (A.out.step hb)
    clear hb
    go_wp2
    go_ret
    exact ⟨rfl, A.out.bel⟩
end Sh
end Go.Proofs.YtjpgadiobgbchaaDoor
