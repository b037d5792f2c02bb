/-
  Layer 7: ShareAdds' walk.
-/
import Derived.Test.YtjpgadiobgbchaaDoorShareHides
import Derived.Deep.Slices
import Derived.Maps.AppendAt
namespace Go.Proofs.YtjpgadiobgbchaaDoor
open Go.RowKit
namespace Sh
attribute [local go_sem] S3.B_size S3.B_app S3.B_list

theorem step_append_at {P : Program} {o : Oper} {a : Act} {w : World} {ops : Array Oper} {K : Act → World → Prop} {Q : Exit → Act → World → Prop} {E : Prop}
    (hg : o.guard = none) (s x : Operand) (t : TypeId) (hop : o.op = Op.call { callee := Callee.builtin Builtin.append, args := #[s, x], argTypes := #[t, t] })
    (base : Nat) (e : TypeId) (i : TypeInfo) (z : Value) (size bytes : Nat) (h1 : P.underlying t = some (.slice e)) (h2 : P.info? e = some i) (h3 : i.zero = some z) (h4 : i.size = size) (h5 : i.bytes = bytes) (h6 : z.cells.size = size) (h7 : 0 < size)
    (v : Value) (k : Nat) (xs : List Value) (hs : a.eval s = v) (hown : w.ownsRow base e size v k xs)
    (ad : Addr) (m c : Nat) (news : List Value) (hx : a.eval x = .slice (some ad) m c) (hn : news.length = m * size) (hc : ∀ j u, news[j]? = some u → w.cell? (ad.add j) = some u) (h1c : ∀ u ∈ news, u.oneCell' = true)
    (b1 : k + m ≤ maxLen) (b2 : (k + m) * bytes ≤ 140737488355328) (b3 : base ≤ w.heap.size)
    (hK : ∀ v' w', w'.ownsRow base e size v' (k + m) (xs ++ news) → w.grownBy w' v.ownBlock → (v'.ownBlock = v.ownBlock ∨ v'.ownBlock = some w.heap.size) → K (a.put o.dst v') w') :
    if Region.wanted o (yielded ops a.tmps) = true then Oper.wp P o a w K Q else E := by
  have hw : Region.wanted o (yielded ops a.tmps) = true := by simp [Region.wanted, hg]
  rw [if_pos hw]
  obtain ⟨v', w', hrun, r1, r2, _, r3⟩ := run_append_own_at (P := P) (w := w) base t o.type e i z size bytes h1 h2 h3 h4 h5 h6 h7 v k xs hown ad m c news hn hc h1c b1 b2 b3
  unfold Oper.wp
  simp [execOp, hop, resolve, invoke, builtin, hs, hx, hrun, Result.andThen]
  exact hK v' w' r1 r2 r3
/-- Two slices of the call's own do not share their array. -/
def Dj (u v : Value) : Prop := u.ownBlock = none ∨ u.ownBlock ≠ v.ownBlock
theorem Dj.symm {u v : Value} (h : Dj u v) : Dj v u := by
  unfold Dj at *
  cases hu : u.ownBlock with
  | none =>
    cases hv : v.ownBlock with
    | none => exact .inl rfl
    | some g => exact .inr (by simp)
  | some g =>
    rw [hu] at h
    rcases h with h | h
    · cases h
    · exact .inr (Ne.symm h)
theorem Dj.step {u v v' : Value} {N : Nat} (h : Dj u v) (hv : v'.ownBlock = v.ownBlock ∨ v'.ownBlock = some N) (hu : ∀ g, u.ownBlock = some g → g < N) : Dj u v' := by
  unfold Dj at *
  rcases hv with e | e
  · rw [e]; exact h
  · rw [e]
    cases hb : u.ownBlock with
    | none => exact .inl rfl
    | some g =>
      right
      intro h2
      injection h2 with h2
      have := hu g hb
      omega
theorem own_in {w : World} {base n k : Nat} {e : TypeId} {v : Value} {xs : List Value} (h : w.ownsRow base e k v n xs) : ∀ g, v.ownBlock = some g → g < w.heap.size := by
  intro g hg
  rcases h.2 with ⟨rfl, _⟩ | ⟨g', cap, cur, rfl, _, hh, _⟩
  · cases hg
  · simp only [Value.ownBlock, Option.some.injEq] at hg
    subst hg
    exact (Array.getElem?_eq_some_iff.1 hh).1
theorem own_sl {w : World} {base n k : Nat} {e : TypeId} {v : Value} {xs : List Value} (h : w.ownsRow base e k v n xs) : ∃ (A : Option Addr) (c : Nat), v = .slice A n c ∧ n ≤ c := by
  rcases h.2 with ⟨rfl, rfl⟩ | ⟨g', cap, cur, rfl, _, _, hc, _⟩
  · exact ⟨none, 0, rfl, Nat.le_refl _⟩
  · exact ⟨_, cap, rfl, hc⟩
theorem joinP_yes {l : List (Int × Int)} {T : Nat} (hv : Valid l) (h1 : 1 ≤ T) (h2 : T ≤ l.length) : joinP l (T : Int) = (joinV l T, true) := by
  unfold joinP
  rw [Int.toNat_natCast]
  exact if_pos ⟨by omega, by omega, hv.take T⟩
theorem joinP_no {l : List (Int × Int)} {t : Int} (h : ¬ (1 ≤ t ∧ t ≤ l.length)) : joinP l t = (0, false) := if_neg fun h2 => h ⟨h2.1, h2.2.1⟩
/-- What the law's loop keeps. -/
structure St (W0 : World) (l : List (Int × Int)) (ys : List Int) (i j : Nat) (vm vs : Value) (w : World) : Prop where
  m : w.ownsRow W0.heap.size 38 2 vm i (Sc ((like l ys).take i))
  s : w.ownsRow W0.heap.size 38 2 vs j (Sc ((plus l ys).take j))
  d : Dj vm vs
  bel : Below W0.heap.size W0 w
theorem St.step {W0 : World} {l : List (Int × Int)} {ys : List Int} {i j : Nat} {vm vs : Value} {w w' : World} (h : St W0 l ys i j vm vs w) (hb : Below w.heap.size w w') : St W0 l ys i j vm vs w' :=
  ⟨own_below h.m hb, own_below h.s hb, h.d, h.bel.trans (hb.mono h.bel.size)⟩
theorem St.alloc {W0 : World} {l : List (Int × Int)} {ys : List Int} {i j : Nat} {vm vs : Value} {w : World} (h : St W0 l ys i j vm vs w) (o : Obj) : St W0 l ys i j vm vs (w.alloc o) := h.step ((Below.refl _ _).alloc (Nat.le_refl _) o)
theorem like_at {l : List (Int × Int)} {ys : List Int} {i : Nat} (h1 : i < l.length) (h2 : i < ys.length) : (like l ys).take (i + 1) = (like l ys).take i ++ [((l[i]).1, ys[i])] := by
  have hl : i < (like l ys).length := by unfold like; simp; omega
  rw [List.take_add_one, List.getElem?_eq_getElem hl]
  simp [like]
theorem plus_at {l : List (Int × Int)} {ys : List Int} {i : Nat} (h1 : i < l.length) (h2 : i < ys.length) : (plus l ys).take (i + 1) = (plus l ys).take i ++ [((l[i]).1, ((l[i]).2 + ys[i]) % 2305843009213693951)] := by
  have hl : i < (plus l ys).length := by unfold plus; simp; omega
  rw [List.take_add_one, List.getElem?_eq_getElem hl]
  simp [plus]
theorem St.addM {W0 : World} {l : List (Int × Int)} {ys : List Int} {i : Nat} {vm vs v' : Value} {w w' : World} (h : St W0 l ys i i vm vs w) (h1 : i < l.length) (h2 : i < ys.length)
    (ho : w'.ownsRow W0.heap.size 38 2 v' (i + 1) (Sc ((like l ys).take i) ++ [.int .i64 (l[i]).1, .int .i64 ys[i]])) (hg : w.grownBy w' vm.ownBlock) (hv : v'.ownBlock = vm.ownBlock ∨ v'.ownBlock = some w.heap.size) : St W0 l ys (i + 1) i v' vs w' :=
  ⟨by rw [like_at h1 h2, Sc_append]; exact ho, h.s.kept hg h.d.symm, (h.d.symm.step hv (own_in h.s)).symm, h.bel.grown hg h.bel.size (own_ge h.m)⟩
theorem St.addS {W0 : World} {l : List (Int × Int)} {ys : List Int} {i : Nat} {vm vs v' : Value} {w w' : World} (h : St W0 l ys (i + 1) i vm vs w) (h1 : i < l.length) (h2 : i < ys.length)
    (ho : w'.ownsRow W0.heap.size 38 2 v' (i + 1) (Sc ((plus l ys).take i) ++ [.int .i64 (l[i]).1, .int .i64 (((l[i]).2 + ys[i]) % 2305843009213693951)])) (hg : w.grownBy w' vs.ownBlock) (hv : v'.ownBlock = vs.ownBlock ∨ v'.ownBlock = some w.heap.size) : St W0 l ys (i + 1) (i + 1) vm v' w' :=
  ⟨h.m.kept hg h.d, by rw [plus_at h1 h2, Sc_append]; exact ho, h.d.step hv (own_in h.m), h.bel.grown hg h.bel.size (own_ge h.s)⟩

set_option maxHeartbeats 8000000 in
set_option maxRecDepth 100000 in
theorem adds_walk (L : Landed) (B B2 : Option Addr) (l : List (Int × Int)) (ys : List Int) (c c2 : Nat) (t : Int) (W : World) (hW : S3.Laid W) (hl : Rw W B l) (hy : S2.Row W W.heap.size B2 (S2.Zs ys)) (hz : ∀ y ∈ ys, S4.isI64 y) (hc : l.length ≤ c) (hlm : l.length ≤ 4611686018427387904) (it : S4.isI64 t) :
    Calls Tryd.prog 6 #[.slice B l.length c, .slice B2 ys.length c2, .int .i64 t] W fun e w' => e = .returned (.bool true) ∧ Below W.heap.size W w' := by
  have KS := Lib.hid (fun W hW => small_ok L W hW)
  have A := Lib.hid (Lk.At.start hW)
  have RL := Lib.hid hl
  have hlm' : (l.length : Int) ≤ 4611686018427387904 := by omega
  by_cases h1 : 16 < l.length
  · have hx' : (16 : Int) < (l.length : Int) := by omega
    clear hl it hW
    go_enter Tryd.func6, Tryd.ntmps6
    go_wp2_with fail
    refine (KS.out _ A.out.laid _ (Below.refl _ _)).mono ?_
    rintro e w1 ⟨rfl, hb⟩
    replace A := Lib.hid (A.out.step hb)
    replace RL := Lib.hid (RL.out.step hb)
    clear hb
    go_wp2
    go_ret
    exact ⟨rfl, A.out.bel⟩
  have hl16 : (l.length : Int) ≤ 16 := by omega
  by_cases h2 : ys.length = l.length
  · have KV : Hid (∀ w, Rw w B l → Calls Tryd.prog 17 #[.slice B l.length c] w fun e w' => e = .returned (.bool (validB l)) ∧ Below w.heap.size w w') := Lib.hid fun w h => rvalid_any B l c w h.row (by omega)
    rw [h2]
    by_cases hv : Valid l
    · rw [validB_true hv] at KV
      have HV := Lib.hid hv
      have HY := Lib.hid h2
      have HYR := Lib.hid hy
      have HZ := Lib.hid hz
      have HIT := Lib.hid it
      have HWL := Lib.hid hW
      have HC := Lib.hid hc
      clear hl it hW hv hy hz hlm hlm' h1 h2 hc
      go_enter Tryd.func6, Tryd.ntmps6
      go_wp2_with fail
      refine (KS.out _ A.out.laid _ (Below.refl _ _)).mono ?_
      rintro e w1 ⟨rfl, hb⟩
      replace A := Lib.hid (A.out.step hb)
      replace RL := Lib.hid (RL.out.step hb)
      clear hb
      go_wp2_with fail
      refine (KV.out _ RL.out).mono ?_
      rintro e w2 ⟨rfl, hb⟩
      replace A := Lib.hid (A.out.step hb)
      replace RL := Lib.hid (RL.out.step hb)
      clear hb
      go_wp2
      obtain ⟨W0, rfl⟩ : ∃ W, W = w2 := ⟨_, rfl⟩
      obtain ⟨i0, hi0, hz0, hz1, hz2⟩ := info_parts infoShare
      go_loopw [8, 9, 10] (fun vm vs vi wr => ∃ i : Nat, i ≤ l.length ∧ vi = .int .i64 (i : Int) ∧ St W0 l ys i i vm vs wr ∧ ∀ (k : Nat) (h : k < ys.length), k < i → 0 ≤ ys[k] ∧ ys[k] < 2305843009213693951) (fun _ _ vi _ => l.length - (intOf vi).toNat)
      case atStart => exact ⟨0, by omega, rfl, ⟨World.ownsRow_nil _ _ _ _, World.ownsRow_nil _ _ _ _, .inl rfl, Below.refl _ _⟩, fun k _ hk => absurd hk (by omega)⟩
      case round =>
        obtain ⟨i, hi, rfl, hst, hrg⟩ := hrel
        by_cases hlt : i < l.length
        · have hlt' : (i : Int) < (l.length : Int) := by omega
          have hyl : i < ys.length := by have := HY.out; omega
          have hbW : Below W.heap.size W wr := A.out.bel.trans (hst.bel.mono A.out.bel.size)
          obtain ⟨b2, rfl, hb2, hyc⟩ := (HYR.out.below A.out.bel).num hyl
          obtain ⟨a, rfl, hab, hxc, hxd⟩ := row_at RL.out.row hlt
          have hzi := HZ.out _ (List.getElem_mem hyl)
          have hpr := HV.out.y _ (List.getElem_mem hlt)
          obtain ⟨x, hx⟩ : ∃ x, x = l[i].1 := ⟨_, rfl⟩
          obtain ⟨u, hu⟩ : ∃ x, x = l[i].2 := ⟨_, rfl⟩
          obtain ⟨y, hyd⟩ : ∃ x, x = ys[i] := ⟨_, rfl⟩
          rw [← hx] at hxc
          rw [← hu] at hxd hpr
          rw [← hyd] at hyc hzi
          have HX : Hid (∀ wc, Below W0.heap.size W0 wc → wc.cell? (a.add (i * 2)) = some (.int .i64 x) ∧ wc.cell? ⟨(a.add (i * 2)).block, (a.add (i * 2)).off + 1, none⟩ = some (.int .i64 u) ∧ wc.cell? (b2.add i) = some (.int .i64 y)) := Lib.hid fun wc hb =>
            ⟨(hb.cell (p := a.add (i * 2)) (by rw [S2.add_block]; exact hab)).trans hxc, (hb.cell (p := ⟨(a.add (i * 2)).block, (a.add (i * 2)).off + 1, none⟩) (by rw [S2.add_block]; exact hab)).trans hxd, (hb.cell (p := b2.add i) (by rw [S2.add_block]; have := A.out.bel.size; omega)).trans hyc⟩
          have hycr := (HX.out wr hst.bel).2.2
          clear hxc hxd hyc
          by_cases g1 : y < 0
          · go_wp2
            go_ret
            exact ⟨rfl, hbW⟩
          by_cases g2 : 2305843009213693951 ≤ y
          · go_wp2
            go_ret
            exact ⟨rfl, hbW⟩
          have k1 := fun w => S4.add_any u y w (by unfold S4.isI64; omega) hzi
          have hrg2 : ∀ (k : Nat) (h : k < ys.length), k < i + 1 → 0 ≤ ys[k] ∧ ys[k] < 2305843009213693951 := fun k h hk => by
            rcases Nat.lt_or_ge k i with h1 | h1
            · exact hrg k h h1
            · obtain rfl : k = i := by omega
              rw [← hyd]; omega
          have HRG := Lib.hid hrg2
          obtain ⟨z, hzd⟩ : ∃ z, z = (u + y) % 2305843009213693951 := ⟨_, rfl⟩
          rw [← hzd] at k1
          have K1 := Lib.hid k1
          have HXE := Lib.hid (And.intro hx (And.intro hu (And.intro hyd hzd)))
          have HLT := Lib.hid (And.intro hlt hyl)
          clear hrg hrg2 hzi hpr hbW k1 hx hu hyd hzd
          go_wp2
          have hst2 := hst.step (Below.refl _ _).drew
          clear hst hycr
          refine wp_region_held_drew (S := (fun w' => w'.cell? (a.add (i * 2)) = some (.int .i64 x) ∧ w'.cell? (b2.add i) = some (.int .i64 y))) (by kernel_rfl) ⟨(HX.out _ hst2.bel).1, (HX.out _ hst2.bel).2.2⟩ (fun hHeld => ?_)
          generalize wr.drew = wd1 at *
          refine wpAnyH_take (i := 0) (oi := ⟨_, _, _, _, _, _⟩) (v := ?_) rfl (by kernel_rfl) (by kernel_rfl) (by kernel_rfl) (fun _ _ _ h => h) (Or.inl ⟨by rfl, ?_⟩) (by assumption) ?_
          rotate_left
          · intro wz hSw
            try dsimp only at hSw
            go_simp
            try with_reducible rfl
          try simp only [Act.put, List.setIfInBounds_toArray, List.set_cons_zero, List.set_cons_succ]
          refine wpAnyH_take (i := 1) (oi := ⟨_, _, _, _, _, _⟩) (v := ?_) rfl (by kernel_rfl) (by kernel_rfl) (by kernel_rfl) (fun _ _ _ h => h) (Or.inl ⟨by rfl, ?_⟩) (by assumption) ?_
          rotate_left
          · intro wz hSw
            try dsimp only at hSw
            go_simp
            try with_reducible rfl
          try simp only [Act.put, List.setIfInBounds_toArray, List.set_cons_zero, List.set_cons_succ]
          refine wpAnyH_take (i := 2) (oi := ⟨_, _, _, _, _, _⟩) (v := ?_) rfl (by kernel_rfl) (by kernel_rfl) (by kernel_rfl) (fun _ _ _ h => h) (Or.inl ⟨by rfl, ?_⟩) (by assumption) ?_
          rotate_left
          · intro wz hSw
            try dsimp only at hSw
            go_simp
            try with_reducible rfl
          try simp only [Act.put, List.setIfInBounds_toArray, List.set_cons_zero, List.set_cons_succ]
          refine wpAnyH_take (i := 3) (oi := ⟨_, _, _, _, _, _⟩) (v := ?_) rfl (by kernel_rfl) (by kernel_rfl) (by kernel_rfl) (fun _ _ _ h => h) (Or.inl ⟨by rfl, ?_⟩) (by assumption) ?_
          rotate_left
          · intro wz hSw
            try dsimp only at hSw
            go_simp
            try with_reducible rfl
          try simp only [Act.put, List.setIfInBounds_toArray, List.set_cons_zero, List.set_cons_succ]
          refine wpAnyH_take (i := 4) (oi := ⟨_, _, _, _, _, _⟩) (v := ?_) rfl (by kernel_rfl) (by kernel_rfl) (by kernel_rfl) (fun _ _ _ h => h) (Or.inl ⟨by rfl, ?_⟩) (by assumption) ?_
          rotate_left
          · intro wz hSw
            try dsimp only at hSw
            go_simp
            try with_reducible rfl
          try simp only [Act.put, List.setIfInBounds_toArray, List.set_cons_zero, List.set_cons_succ]
          refine wpAnyH_take (i := 5) (oi := ⟨_, _, _, _, _, _⟩) (v := ?_) rfl (by kernel_rfl) (by kernel_rfl) (by kernel_rfl) (fun _ _ _ h => h) (Or.inl ⟨by rfl, ?_⟩) (by assumption) ?_
          rotate_left
          · intro wz hSw
            try dsimp only at hSw
            go_simp
            try with_reducible rfl
          try simp only [Act.put, List.setIfInBounds_toArray, List.set_cons_zero, List.set_cons_succ]
          refine wpAnyH_take (i := 6) (oi := ⟨_, _, _, _, _, _⟩) (v := ?_) rfl (by kernel_rfl) (by kernel_rfl) (by kernel_rfl) (fun _ _ _ h => h) (Or.inl ⟨by rfl, ?_⟩) (by assumption) ?_
          rotate_left
          · intro wz hSw
            try dsimp only at hSw
            go_simp
            try with_reducible rfl
          try simp only [Act.put, List.setIfInBounds_toArray, List.set_cons_zero, List.set_cons_succ]
          refine wpAnyH_take (i := 7) (oi := ⟨_, _, _, _, _, _⟩) (v := ?_) rfl (by kernel_rfl) (by kernel_rfl) (by kernel_rfl) (fun _ _ _ h => h) (Or.inl ⟨by rfl, ?_⟩) (by assumption) ?_
          rotate_left
          · intro wz hSw
            try dsimp only at hSw
            go_simp
            try with_reducible rfl
          try simp only [Act.put, List.setIfInBounds_toArray, List.set_cons_zero, List.set_cons_succ]
          refine wpAnyH_take (i := 8) (oi := ⟨_, _, _, _, _, _⟩) (v := ?_) rfl (by kernel_rfl) (by kernel_rfl) (by kernel_rfl) (fun _ _ _ h => h) (Or.inl ⟨by rfl, ?_⟩) (by assumption) ?_
          rotate_left
          · intro wz hSw
            try dsimp only at hSw
            go_simp
            try with_reducible rfl
          try simp only [Act.put, List.setIfInBounds_toArray, List.set_cons_zero, List.set_cons_succ]
          refine wpAnyH_take (i := 9) (oi := ⟨_, _, _, _, _, _⟩) (v := ?_) rfl (by kernel_rfl) (by kernel_rfl) (by kernel_rfl) (fun _ _ _ h => h) (Or.inl ⟨by rfl, ?_⟩) (by assumption) ?_
          rotate_left
          · intro wz hSw
            try dsimp only at hSw
            go_simp
            try with_reducible rfl
          try simp only [Act.put, List.setIfInBounds_toArray, List.set_cons_zero, List.set_cons_succ]
          refine wpAnyH_take (i := 10) (oi := ⟨_, _, _, _, _, _⟩) (v := ?_) rfl (by kernel_rfl) (by kernel_rfl) (by kernel_rfl) (fun _ _ _ h => h) (Or.inl ⟨by rfl, ?_⟩) (by assumption) ?_
          rotate_left
          · intro wz hSw
            try dsimp only at hSw
            go_simp
            try with_reducible rfl
          try simp only [Act.put, List.setIfInBounds_toArray, List.set_cons_zero, List.set_cons_succ]
          refine wpAnyH_ready (rs := [11]) (by kernel_rfl) (by simp) ?_
          refine AllReadyH.cons (o := ⟨_, _, _, _, _, _⟩) rfl (fun K hK => ?_) AllReadyH.nil
          go_simp
          have BL := Lib.hid (Lk.Bl.new wd1 [.int .i64 x, .int .i64 y] 38)
          replace hst2 := hst2.alloc (.cells #[.int .i64 x, .int .i64 y] 38)
          clear hHeld
          refine hK.out _ _ ⟨(HX.out _ hst2.bel).1, (HX.out _ hst2.bel).2.2⟩ (fun hHeld => ?_)
          clear hK K
          try simp only [Act.put, List.setIfInBounds_toArray, List.set_cons_zero, List.set_cons_succ]
          generalize wd1.alloc (.cells #[.int .i64 x, .int .i64 y] 38) = y1 at *
          refine wpAnyH_ready (rs := [12]) (by kernel_rfl) (by simp) ?_
          refine AllReadyH.cons (o := ⟨_, _, _, _, _, _⟩) rfl (fun K hK => ?_) AllReadyH.nil
          refine step_append_at rfl _ _ 22 rfl W0.heap.size 38 i0 (.agg #[.int .i64 0, .int .i64 0]) 2 16 Tryd.underlying22 hi0 hz0 hz1 hz2 rfl (by decide) _ _ _ rfl hst2.m ⟨wd1.heap.size, 0, none⟩ 1 1 [.int .i64 x, .int .i64 y] rfl rfl (Bl_two BL.out) (fun u hu => by simp at hu; rcases hu with rfl | rfl <;> rfl) (by unfold maxLen; omega) (by omega) hst2.bel.size ?_
          intro v1' z1 ho hg hv
          replace hst2 := hst2.addM HLT.out.1 HLT.out.2 (by rw [← HXE.out.1, ← HXE.out.2.2.1]; exact ho) hg hv
          clear ho hg hv BL
          clear hHeld
          refine hK.out _ _ ⟨(HX.out _ hst2.bel).1, (HX.out _ hst2.bel).2.2⟩ (fun hHeld => ?_)
          clear hK K
          try simp only [Act.put, List.setIfInBounds_toArray, List.set_cons_zero, List.set_cons_succ]
          refine wpAnyH_take (i := 13) (oi := ⟨_, _, _, _, _, _⟩) (v := ?_) rfl (by kernel_rfl) (by kernel_rfl) (by kernel_rfl) (fun _ _ _ h => h) (Or.inl ⟨by rfl, ?_⟩) (by assumption) ?_
          rotate_left
          · intro wz hSw
            try dsimp only at hSw
            go_simp
            try with_reducible rfl
          try simp only [Act.put, List.setIfInBounds_toArray, List.set_cons_zero, List.set_cons_succ]
          refine wpAnyH_done (by kernel_rfl) ?_ _
          clear hHeld
          go_wp2
          replace hst2 := hst2.step (Below.refl _ _).drew
          refine wp_region_held_drew (S := (fun w' => w'.cell? (a.add (i * 2)) = some (.int .i64 x) ∧ w'.cell? ⟨(a.add (i * 2)).block, (a.add (i * 2)).off + 1, none⟩ = some (.int .i64 u) ∧ w'.cell? (b2.add i) = some (.int .i64 y))) (by kernel_rfl) ⟨(HX.out _ hst2.bel).1, (HX.out _ hst2.bel).2.1, (HX.out _ hst2.bel).2.2⟩ (fun hHeld => ?_)
          generalize z1.drew = wd2 at *
          refine wpAnyH_take (i := 0) (oi := ⟨_, _, _, _, _, _⟩) (v := ?_) rfl (by kernel_rfl) (by kernel_rfl) (by kernel_rfl) (fun _ _ _ h => h) (Or.inl ⟨by rfl, ?_⟩) (by assumption) ?_
          rotate_left
          · intro wz hSw
            try dsimp only at hSw
            go_simp
            try with_reducible rfl
          try simp only [Act.put, List.setIfInBounds_toArray, List.set_cons_zero, List.set_cons_succ]
          refine wpAnyH_take (i := 1) (oi := ⟨_, _, _, _, _, _⟩) (v := ?_) rfl (by kernel_rfl) (by kernel_rfl) (by kernel_rfl) (fun _ _ _ h => h) (Or.inl ⟨by rfl, ?_⟩) (by assumption) ?_
          rotate_left
          · intro wz hSw
            try dsimp only at hSw
            go_simp
            try with_reducible rfl
          try simp only [Act.put, List.setIfInBounds_toArray, List.set_cons_zero, List.set_cons_succ]
          refine wpAnyH_take (i := 2) (oi := ⟨_, _, _, _, _, _⟩) (v := ?_) rfl (by kernel_rfl) (by kernel_rfl) (by kernel_rfl) (fun _ _ _ h => h) (Or.inl ⟨by rfl, ?_⟩) (by assumption) ?_
          rotate_left
          · intro wz hSw
            try dsimp only at hSw
            go_simp
            try with_reducible rfl
          try simp only [Act.put, List.setIfInBounds_toArray, List.set_cons_zero, List.set_cons_succ]
          refine wpAnyH_take (i := 3) (oi := ⟨_, _, _, _, _, _⟩) (v := ?_) rfl (by kernel_rfl) (by kernel_rfl) (by kernel_rfl) (fun _ _ _ h => h) (Or.inl ⟨by rfl, ?_⟩) (by assumption) ?_
          rotate_left
          · intro wz hSw
            try dsimp only at hSw
            go_simp
            try with_reducible rfl
          try simp only [Act.put, List.setIfInBounds_toArray, List.set_cons_zero, List.set_cons_succ]
          refine wpAnyH_take (i := 4) (oi := ⟨_, _, _, _, _, _⟩) (v := ?_) rfl (by kernel_rfl) (by kernel_rfl) (by kernel_rfl) (fun _ _ _ h => h) (Or.inl ⟨by rfl, ?_⟩) (by assumption) ?_
          rotate_left
          · intro wz hSw
            try dsimp only at hSw
            go_simp
            try with_reducible rfl
          try simp only [Act.put, List.setIfInBounds_toArray, List.set_cons_zero, List.set_cons_succ]
          refine wpAnyH_take (i := 5) (oi := ⟨_, _, _, _, _, _⟩) (v := ?_) rfl (by kernel_rfl) (by kernel_rfl) (by kernel_rfl) (fun _ _ _ h => h) (Or.inl ⟨by rfl, ?_⟩) (by assumption) ?_
          rotate_left
          · intro wz hSw
            try dsimp only at hSw
            go_simp
            try with_reducible rfl
          try simp only [Act.put, List.setIfInBounds_toArray, List.set_cons_zero, List.set_cons_succ]
          refine wpAnyH_take (i := 6) (oi := ⟨_, _, _, _, _, _⟩) (v := ?_) rfl (by kernel_rfl) (by kernel_rfl) (by kernel_rfl) (fun _ _ _ h => h) (Or.inl ⟨by rfl, ?_⟩) (by assumption) ?_
          rotate_left
          · intro wz hSw
            try dsimp only at hSw
            go_simp
            try with_reducible rfl
          try simp only [Act.put, List.setIfInBounds_toArray, List.set_cons_zero, List.set_cons_succ]
          refine wpAnyH_take (i := 7) (oi := ⟨_, _, _, _, _, _⟩) (v := ?_) rfl (by kernel_rfl) (by kernel_rfl) (by kernel_rfl) (fun _ _ _ h => h) (Or.inl ⟨by rfl, ?_⟩) (by assumption) ?_
          rotate_left
          · intro wz hSw
            try dsimp only at hSw
            go_simp
            try with_reducible rfl
          try simp only [Act.put, List.setIfInBounds_toArray, List.set_cons_zero, List.set_cons_succ]
          refine wpAnyH_take (i := 8) (oi := ⟨_, _, _, _, _, _⟩) (v := ?_) rfl (by kernel_rfl) (by kernel_rfl) (by kernel_rfl) (fun _ _ _ h => h) (Or.inl ⟨by rfl, ?_⟩) (by assumption) ?_
          rotate_left
          · intro wz hSw
            try dsimp only at hSw
            go_simp
            try with_reducible rfl
          try simp only [Act.put, List.setIfInBounds_toArray, List.set_cons_zero, List.set_cons_succ]
          refine wpAnyH_take (i := 9) (oi := ⟨_, _, _, _, _, _⟩) (v := ?_) rfl (by kernel_rfl) (by kernel_rfl) (by kernel_rfl) (fun _ _ _ h => h) (Or.inl ⟨by rfl, ?_⟩) (by assumption) ?_
          rotate_left
          · intro wz hSw
            try dsimp only at hSw
            go_simp
            try with_reducible rfl
          try simp only [Act.put, List.setIfInBounds_toArray, List.set_cons_zero, List.set_cons_succ]
          refine wpAnyH_take (i := 10) (oi := ⟨_, _, _, _, _, _⟩) (v := ?_) rfl (by kernel_rfl) (by kernel_rfl) (by kernel_rfl) (fun _ _ _ h => h) (Or.inl ⟨by rfl, ?_⟩) (by assumption) ?_
          rotate_left
          · intro wz hSw
            try dsimp only at hSw
            go_simp
            try with_reducible rfl
          try simp only [Act.put, List.setIfInBounds_toArray, List.set_cons_zero, List.set_cons_succ]
          refine wpAnyH_take (i := 11) (oi := ⟨_, _, _, _, _, _⟩) (v := ?_) rfl (by kernel_rfl) (by kernel_rfl) (by kernel_rfl) (fun _ _ _ h => h) (Or.inl ⟨by rfl, ?_⟩) (by assumption) ?_
          rotate_left
          · intro wz hSw
            try dsimp only at hSw
            go_simp
            try with_reducible rfl
          try simp only [Act.put, List.setIfInBounds_toArray, List.set_cons_zero, List.set_cons_succ]
          refine wpAnyH_take (i := 12) (oi := ⟨_, _, _, _, _, _⟩) (v := ?_) rfl (by kernel_rfl) (by kernel_rfl) (by kernel_rfl) (fun _ _ _ h => h) (Or.inl ⟨by rfl, ?_⟩) (by assumption) ?_
          rotate_left
          · intro wz hSw
            try dsimp only at hSw
            go_simp
            try with_reducible rfl
          try simp only [Act.put, List.setIfInBounds_toArray, List.set_cons_zero, List.set_cons_succ]
          refine wpAnyH_take (i := 13) (oi := ⟨_, _, _, _, _, _⟩) (v := ?_) rfl (by kernel_rfl) (by kernel_rfl) (by kernel_rfl) (fun _ _ _ h => h) (Or.inl ⟨by rfl, ?_⟩) (by assumption) ?_
          rotate_left
          · intro wz hSw
            try dsimp only at hSw
            go_simp
            try with_reducible rfl
          try simp only [Act.put, List.setIfInBounds_toArray, List.set_cons_zero, List.set_cons_succ]
          refine wpAnyH_take (i := 14) (oi := ⟨_, _, _, _, _, _⟩) (v := ?_) rfl (by kernel_rfl) (by kernel_rfl) (by kernel_rfl) (fun _ _ _ h => h) (Or.inl ⟨by rfl, ?_⟩) (by assumption) ?_
          rotate_left
          · intro wz hSw
            try dsimp only at hSw
            go_simp
            try with_reducible rfl
          try simp only [Act.put, List.setIfInBounds_toArray, List.set_cons_zero, List.set_cons_succ]
          refine wpAnyH_ready (rs := [15]) (by kernel_rfl) (by simp) ?_
          refine AllReadyH.cons (o := ⟨_, _, _, _, _, _⟩) rfl (fun K hK => ?_) AllReadyH.nil
          go_simp
          refine (K1.out _).mono ?_
          rintro e wq ⟨rfl, hq⟩
          obtain rfl := hq.symm
          clear hq
          clear hHeld
          refine hK.out _ _ ⟨(HX.out _ hst2.bel).1, (HX.out _ hst2.bel).2.1, (HX.out _ hst2.bel).2.2⟩ (fun hHeld => ?_)
          clear hK K
          try simp only [Act.put, List.setIfInBounds_toArray, List.set_cons_zero, List.set_cons_succ]
          refine wpAnyH_take (i := 16) (oi := ⟨_, _, _, _, _, _⟩) (v := ?_) rfl (by kernel_rfl) (by kernel_rfl) (by kernel_rfl) (fun _ _ _ h => h) (Or.inl ⟨by rfl, ?_⟩) (by assumption) ?_
          rotate_left
          · intro wz hSw
            try dsimp only at hSw
            go_simp
            try with_reducible rfl
          try simp only [Act.put, List.setIfInBounds_toArray, List.set_cons_zero, List.set_cons_succ]
          refine wpAnyH_ready (rs := [17]) (by kernel_rfl) (by simp) ?_
          refine AllReadyH.cons (o := ⟨_, _, _, _, _, _⟩) rfl (fun K hK => ?_) AllReadyH.nil
          go_simp
          have BL := Lib.hid (Lk.Bl.new wd2 [.int .i64 x, .int .i64 z] 38)
          replace hst2 := hst2.alloc (.cells #[.int .i64 x, .int .i64 z] 38)
          clear hHeld
          refine hK.out _ _ ⟨(HX.out _ hst2.bel).1, (HX.out _ hst2.bel).2.1, (HX.out _ hst2.bel).2.2⟩ (fun hHeld => ?_)
          clear hK K
          try simp only [Act.put, List.setIfInBounds_toArray, List.set_cons_zero, List.set_cons_succ]
          generalize wd2.alloc (.cells #[.int .i64 x, .int .i64 z] 38) = y2 at *
          refine wpAnyH_ready (rs := [18]) (by kernel_rfl) (by simp) ?_
          refine AllReadyH.cons (o := ⟨_, _, _, _, _, _⟩) rfl (fun K hK => ?_) AllReadyH.nil
          refine step_append_at rfl _ _ 22 rfl W0.heap.size 38 i0 (.agg #[.int .i64 0, .int .i64 0]) 2 16 Tryd.underlying22 hi0 hz0 hz1 hz2 rfl (by decide) _ _ _ rfl hst2.s ⟨wd2.heap.size, 0, none⟩ 1 1 [.int .i64 x, .int .i64 z] rfl rfl (Bl_two BL.out) (fun u hu => by simp at hu; rcases hu with rfl | rfl <;> rfl) (by unfold maxLen; omega) (by omega) hst2.bel.size ?_
          intro v2' z2 ho hg hv
          replace hst2 := hst2.addS HLT.out.1 HLT.out.2 (by rw [← HXE.out.1, ← HXE.out.2.1, ← HXE.out.2.2.1, ← HXE.out.2.2.2]; exact ho) hg hv
          clear ho hg hv BL
          clear hHeld
          refine hK.out _ _ ⟨(HX.out _ hst2.bel).1, (HX.out _ hst2.bel).2.1, (HX.out _ hst2.bel).2.2⟩ (fun hHeld => ?_)
          clear hK K
          try simp only [Act.put, List.setIfInBounds_toArray, List.set_cons_zero, List.set_cons_succ]
          refine wpAnyH_take (i := 19) (oi := ⟨_, _, _, _, _, _⟩) (v := ?_) rfl (by kernel_rfl) (by kernel_rfl) (by kernel_rfl) (fun _ _ _ h => h) (Or.inl ⟨by rfl, ?_⟩) (by assumption) ?_
          rotate_left
          · intro wz hSw
            try dsimp only at hSw
            go_simp
            try with_reducible rfl
          try simp only [Act.put, List.setIfInBounds_toArray, List.set_cons_zero, List.set_cons_succ]
          refine wpAnyH_done (by kernel_rfl) ?_ _
          clear hHeld
          go_wp2
          go_roundw
          case rel => exact ⟨i + 1, hlt, by go_num, hst2, HRG.out⟩
          case measure => simp [intOf]; omega
        · obtain rfl : i = l.length := by omega
          have hyv : ∀ y ∈ ys, 0 ≤ y ∧ y < 2305843009213693951 := fun y hy => by
            obtain ⟨k, hk, rfl⟩ := List.mem_iff_getElem.1 hy
            exact hrg k hk (by have := HY.out; omega)
          have hvl := like_valid HY.out HV.out hyv
          have hvp := plus_valid HY.out HV.out
          have hll := like_len HY.out
          have hlp := plus_len HY.out
          obtain ⟨hm, hs, _, hbel⟩ := hst
          rw [List.take_of_length_le (by omega)] at hm hs
          obtain ⟨A1, c1, rfl, hc1⟩ := own_sl hm
          obtain ⟨A2, c2', rfl, hc2⟩ := own_sl hs
          have RM := Lib.hid (Rw.own hm)
          have RS := Lib.hid (Rw.own hs)
          replace RL := Lib.hid (RL.out.step hbel)
          replace A := Lib.hid (A.out.step hbel)
          have kf1 := fun w h => L.fits B l c t w h (by omega) HC.out HIT.out
          have kf2 := fun w h => L.fits A1 (like l ys) c1 t w h (by omega) (by omega) HIT.out
          have kf3 := fun w h => L.fits A2 (plus l ys) c2' t w h (by omega) (by omega) HIT.out
          have kj1 := fun w h => L.join B l c t w h (by omega) HC.out HIT.out
          have kj2 := fun w h => L.join A1 (like l ys) c1 t w h (by omega) (by omega) HIT.out
          have kj3 := fun w h => L.join A2 (plus l ys) c2' t w h (by omega) (by omega) HIT.out
          have hff : fitP l t = true → fitP (plus l ys) t = fitP (like l ys) t := fun h => by
            have h1 := of_decide_eq_true h
            have h2 := adds_fit HY.out h1.2.2
            unfold fitP
            apply decide_eq_decide.2
            exact ⟨fun g => ⟨h1.1, hvl, h2.2 g.2.2⟩, fun g => ⟨h1.1, hvp, h2.1 g.2.2⟩⟩
          rw [hll] at kf2 kj2
          rw [hlp] at kf3 kj3
          obtain ⟨f1, hf1⟩ : ∃ f, f = fitP l t := ⟨_, rfl⟩
          obtain ⟨f2, hf2⟩ : ∃ f, f = fitP (like l ys) t := ⟨_, rfl⟩
          rw [← hf1] at kf1 hff
          rw [← hf2] at kf2 hff
          have HFF := Lib.hid hff
          clear hff hf1 hf2 hm hs hbel hrg
          by_cases hj : 1 ≤ t ∧ t ≤ l.length
          · obtain ⟨T, rfl⟩ := Int.eq_ofNat_of_zero_le (show 0 ≤ t by omega)
            rw [joinP_yes HV.out (by omega) (by omega)] at kj1
            rw [joinP_yes hvl (by omega) (by omega)] at kj2
            rw [joinP_yes hvp (by omega) (by omega), adds HY.out HV.out (by omega)] at kj3
            have r1 := joinV_in l T
            have r2 := joinV_in (like l ys) T
            generalize joinV l T = p at *
            generalize joinV (like l ys) T = q at *
            have ka := fun w => S4.add_any p q w (by unfold S4.isI64; omega) (by unfold S4.isI64; omega)
            generalize (p + q) % 2305843009213693951 = r at *
            have KJ1 := Lib.hid kj1
            have KJ2 := Lib.hid kj2
            have KJ3 := Lib.hid kj3
            have KA := Lib.hid ka
            have KF1 := Lib.hid kf1
            have KF2 := Lib.hid kf2
            clear kj1 kj2 kj3 ka kf1 kf2 hvl hvp hll hlp hj r1 r2
            cases f1 with
            | true =>
              rw [HFF.out rfl] at kf3
              have KF3 := Lib.hid kf3
              clear kf3 HFF
              go_wp2_with fail
              refine (KJ1.out _ RL.out).mono ?_
              rintro e w1 ⟨rfl, hb⟩
              replace A := Lib.hid (A.out.step hb)
              replace RL := Lib.hid (RL.out.step hb)
              replace RM := Lib.hid (RM.out.step hb)
              replace RS := Lib.hid (RS.out.step hb)
              clear hb
              go_wp2_with fail
              refine (KJ2.out _ RM.out).mono ?_
              rintro e w2 ⟨rfl, hb⟩
              replace A := Lib.hid (A.out.step hb)
              replace RL := Lib.hid (RL.out.step hb)
              replace RM := Lib.hid (RM.out.step hb)
              replace RS := Lib.hid (RS.out.step hb)
              clear hb
              go_wp2_with fail
              refine (KJ3.out _ RS.out).mono ?_
              rintro e w3 ⟨rfl, hb⟩
              replace A := Lib.hid (A.out.step hb)
              replace RL := Lib.hid (RL.out.step hb)
              replace RM := Lib.hid (RM.out.step hb)
              replace RS := Lib.hid (RS.out.step hb)
              clear hb
              go_wp2_with fail
              refine (KA.out _).mono ?_
              rintro e w4 ⟨rfl, hq⟩
              obtain rfl := hq.symm

              go_wp2_with fail
              refine (KF1.out _ RL.out).mono ?_
              rintro e w5 ⟨rfl, hb⟩
              replace A := Lib.hid (A.out.step hb)
              replace RL := Lib.hid (RL.out.step hb)
              replace RM := Lib.hid (RM.out.step hb)
              replace RS := Lib.hid (RS.out.step hb)
              clear hb
              go_wp2_with fail
              refine (KF2.out _ RM.out).mono ?_
              rintro e w6 ⟨rfl, hb⟩
              replace A := Lib.hid (A.out.step hb)
              replace RL := Lib.hid (RL.out.step hb)
              replace RM := Lib.hid (RM.out.step hb)
              replace RS := Lib.hid (RS.out.step hb)
              clear hb
              go_wp2_with fail
              refine (KF3.out _ RS.out).mono ?_
              rintro e w7 ⟨rfl, hb⟩
              replace A := Lib.hid (A.out.step hb)
              replace RL := Lib.hid (RL.out.step hb)
              replace RM := Lib.hid (RM.out.step hb)
              replace RS := Lib.hid (RS.out.step hb)
              clear hb
              go_wp2
              go_ret
              exact ⟨rfl, A.out.bel⟩
            | false =>
              clear kf3 HFF KF2
              go_wp2_with fail
              refine (KJ1.out _ RL.out).mono ?_
              rintro e w1 ⟨rfl, hb⟩
              replace A := Lib.hid (A.out.step hb)
              replace RL := Lib.hid (RL.out.step hb)
              replace RM := Lib.hid (RM.out.step hb)
              replace RS := Lib.hid (RS.out.step hb)
              clear hb
              go_wp2_with fail
              refine (KJ2.out _ RM.out).mono ?_
              rintro e w2 ⟨rfl, hb⟩
              replace A := Lib.hid (A.out.step hb)
              replace RL := Lib.hid (RL.out.step hb)
              replace RM := Lib.hid (RM.out.step hb)
              replace RS := Lib.hid (RS.out.step hb)
              clear hb
              go_wp2_with fail
              refine (KJ3.out _ RS.out).mono ?_
              rintro e w3 ⟨rfl, hb⟩
              replace A := Lib.hid (A.out.step hb)
              replace RL := Lib.hid (RL.out.step hb)
              replace RM := Lib.hid (RM.out.step hb)
              replace RS := Lib.hid (RS.out.step hb)
              clear hb
              go_wp2_with fail
              refine (KA.out _).mono ?_
              rintro e w4 ⟨rfl, hq⟩
              obtain rfl := hq.symm

              go_wp2_with fail
              refine (KF1.out _ RL.out).mono ?_
              rintro e w5 ⟨rfl, hb⟩
              replace A := Lib.hid (A.out.step hb)
              replace RL := Lib.hid (RL.out.step hb)
              replace RM := Lib.hid (RM.out.step hb)
              replace RS := Lib.hid (RS.out.step hb)
              clear hb
              go_wp2
              go_ret
              exact ⟨rfl, A.out.bel⟩
          · rw [joinP_no hj] at kj1
            rw [joinP_no (by rw [hll]; exact hj)] at kj2
            rw [joinP_no (by rw [hlp]; exact hj)] at kj3
            have KJ1 := Lib.hid kj1
            have KJ2 := Lib.hid kj2
            have KJ3 := Lib.hid kj3
            have KF1 := Lib.hid kf1
            have KF2 := Lib.hid kf2
            clear kj1 kj2 kj3 kf1 kf2 hvl hvp hll hlp hj
            cases f1 with
            | true =>
              rw [HFF.out rfl] at kf3
              have KF3 := Lib.hid kf3
              clear kf3 HFF
              go_wp2_with fail
              refine (KJ1.out _ RL.out).mono ?_
              rintro e w1 ⟨rfl, hb⟩
              replace A := Lib.hid (A.out.step hb)
              replace RL := Lib.hid (RL.out.step hb)
              replace RM := Lib.hid (RM.out.step hb)
              replace RS := Lib.hid (RS.out.step hb)
              clear hb
              go_wp2_with fail
              refine (KJ2.out _ RM.out).mono ?_
              rintro e w2 ⟨rfl, hb⟩
              replace A := Lib.hid (A.out.step hb)
              replace RL := Lib.hid (RL.out.step hb)
              replace RM := Lib.hid (RM.out.step hb)
              replace RS := Lib.hid (RS.out.step hb)
              clear hb
              go_wp2_with fail
              refine (KJ3.out _ RS.out).mono ?_
              rintro e w3 ⟨rfl, hb⟩
              replace A := Lib.hid (A.out.step hb)
              replace RL := Lib.hid (RL.out.step hb)
              replace RM := Lib.hid (RM.out.step hb)
              replace RS := Lib.hid (RS.out.step hb)
              clear hb
              go_wp2_with fail
              refine (KF1.out _ RL.out).mono ?_
              rintro e w4 ⟨rfl, hb⟩
              replace A := Lib.hid (A.out.step hb)
              replace RL := Lib.hid (RL.out.step hb)
              replace RM := Lib.hid (RM.out.step hb)
              replace RS := Lib.hid (RS.out.step hb)
              clear hb
              go_wp2_with fail
              refine (KF2.out _ RM.out).mono ?_
              rintro e w5 ⟨rfl, hb⟩
              replace A := Lib.hid (A.out.step hb)
              replace RL := Lib.hid (RL.out.step hb)
              replace RM := Lib.hid (RM.out.step hb)
              replace RS := Lib.hid (RS.out.step hb)
              clear hb
              go_wp2_with fail
              refine (KF3.out _ RS.out).mono ?_
              rintro e w6 ⟨rfl, hb⟩
              replace A := Lib.hid (A.out.step hb)
              replace RL := Lib.hid (RL.out.step hb)
              replace RM := Lib.hid (RM.out.step hb)
              replace RS := Lib.hid (RS.out.step hb)
              clear hb
              go_wp2
              go_ret
              exact ⟨rfl, A.out.bel⟩
            | false =>
              clear kf3 HFF KF2
              go_wp2_with fail
              refine (KJ1.out _ RL.out).mono ?_
              rintro e w1 ⟨rfl, hb⟩
              replace A := Lib.hid (A.out.step hb)
              replace RL := Lib.hid (RL.out.step hb)
              replace RM := Lib.hid (RM.out.step hb)
              replace RS := Lib.hid (RS.out.step hb)
              clear hb
              go_wp2_with fail
              refine (KJ2.out _ RM.out).mono ?_
              rintro e w2 ⟨rfl, hb⟩
              replace A := Lib.hid (A.out.step hb)
              replace RL := Lib.hid (RL.out.step hb)
              replace RM := Lib.hid (RM.out.step hb)
              replace RS := Lib.hid (RS.out.step hb)
              clear hb
              go_wp2_with fail
              refine (KJ3.out _ RS.out).mono ?_
              rintro e w3 ⟨rfl, hb⟩
              replace A := Lib.hid (A.out.step hb)
              replace RL := Lib.hid (RL.out.step hb)
              replace RM := Lib.hid (RM.out.step hb)
              replace RS := Lib.hid (RS.out.step hb)
              clear hb
              go_wp2_with fail
              refine (KF1.out _ RL.out).mono ?_
              rintro e w4 ⟨rfl, hb⟩
              replace A := Lib.hid (A.out.step hb)
              replace RL := Lib.hid (RL.out.step hb)
              replace RM := Lib.hid (RM.out.step hb)
              replace RS := Lib.hid (RS.out.step hb)
              clear hb
              go_wp2
              go_ret
              exact ⟨rfl, A.out.bel⟩
    · have hv2 : validB l = false := by unfold validB; exact decide_eq_false hv
      rw [hv2] at KV
      clear hv hv2 hl it hW hy hz hlm hlm' h1 h2
      go_enter Tryd.func6, Tryd.ntmps6
      go_wp2_with fail
      refine (KS.out _ A.out.laid _ (Below.refl _ _)).mono ?_
      rintro e w1 ⟨rfl, hb⟩
      replace A := Lib.hid (A.out.step hb)
      replace RL := Lib.hid (RL.out.step hb)
      clear hb
      go_wp2_with fail
      refine (KV.out _ RL.out).mono ?_
      rintro e w2 ⟨rfl, hb⟩
      replace A := Lib.hid (A.out.step hb)
      replace RL := Lib.hid (RL.out.step hb)
      clear hb
      go_wp2
      go_ret
      exact ⟨rfl, A.out.bel⟩
  · have h2' : ((ys.length : Int) == (l.length : Int)) = false := by simpa using (by omega : ¬ (ys.length : Int) = (l.length : Int))
    clear hl it hW hy hz
    go_enter Tryd.func6, Tryd.ntmps6
    go_wp2_with fail
    refine (KS.out _ A.out.laid _ (Below.refl _ _)).mono ?_
    rintro e w1 ⟨rfl, hb⟩
    replace A := Lib.hid (A.out.step hb)
    replace RL := Lib.hid (RL.out.step hb)
    clear hb
    go_wp2
    go_ret
    exact ⟨rfl, A.out.bel⟩
end Sh
end Go.Proofs.YtjpgadiobgbchaaDoor
