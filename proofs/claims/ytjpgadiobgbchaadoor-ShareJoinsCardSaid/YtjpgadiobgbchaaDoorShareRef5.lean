/-
  Layer 7: the reference's Coefficient and Split.
-/
import Derived.Test.YtjpgadiobgbchaaDoorShareRef4
import Derived.Deep.Slices
import Derived.OwnWalk
import Derived.Laws.OwnMore
import Derived.WalkSpells
namespace Go.Proofs.YtjpgadiobgbchaaDoor
open Go.RowKit
namespace Sh
attribute [local go_sem] S3.B_size S3.B_app S3.B_list

/-- The coefficient with number i. -/
def coef (s : List UInt8) (i : Int) : Int := (S5.Sg.hash (S2.Cd.encT s ++ S5.Sg.encZ i) : Nat) % 2305843009213693951
def coefs (secret : Int) (s : List UInt8) (t : Nat) : List Int := (List.range t).map fun i => if i = 0 then secret else coef s (i : Nat)
theorem coefs_len (secret : Int) (s : List UInt8) (t : Nat) : (coefs secret s t).length = t := by simp [coefs]
theorem coefs_succ (secret : Int) (s : List UInt8) (t : Nat) (h : 1 ≤ t) : coefs secret s (t + 1) = coefs secret s t ++ [coef s (t : Nat)] := by
  unfold coefs
  rw [List.range_succ, List.map_append]
  simp
  omega
theorem coefs_one (secret : Int) (s : List UInt8) : coefs secret s 1 = [secret] := rfl
theorem shares_succ (c : List Int) (n : Nat) : shares c (n + 1) = shares c n ++ [(((n + 1 : Nat) : Int), ev c ((n + 1 : Nat) : Int) % 2305843009213693951)] := by
  unfold shares
  rw [List.range_succ, List.map_append]
  rfl
theorem encT_len (s : List UInt8) : (S2.Cd.encT s).length ≤ s.length + 9 := by
  have := S2.Cd.encN_len s.length
  unfold S2.Cd.encT
  rw [List.length_append]
  omega
theorem own_ge {w : World} {base n k : Nat} {e : TypeId} {v : Value} {xs : List Value} (h : w.ownsRow base e k v n xs) : ∀ g, v.ownBlock = some g → base ≤ g := by
  intro g hg
  rcases h.2 with ⟨rfl, _⟩ | ⟨g', cap, cur, rfl, hb, _⟩
  · cases hg
  · simp only [Value.ownBlock, Option.some.injEq] at hg
    omega
theorem own_some {w : World} {base n k : Nat} {e : TypeId} {v : Value} {xs : List Value} (h : w.ownsRow base e k v n xs) (hn : 1 ≤ n) : ∃ a cap, v = .slice (some a) n cap ∧ n ≤ cap := by
  rcases h.2 with ⟨_, h0⟩ | ⟨g', cap, cur, rfl, _, _, hc, _⟩
  · omega
  · exact ⟨_, cap, rfl, hc⟩
theorem two_cell {w : World} {u v : Value} {t : TypeId} : ∀ (j : Nat) (x : Value), [u, v][j]? = some x → (w.alloc (.cells #[u, v] t)).cell? ((⟨w.heap.size, 0, none⟩ : Addr).add j) = some x := by
  intro j x hj
  match j, hj with
  | 0, hj => simp at hj; subst hj; simp [Addr.add]
  | 1, hj => simp at hj; subst hj; simp [Addr.add]

set_option maxHeartbeats 8000000 in
set_option maxRecDepth 100000 in
theorem rcoef_any (s : List UInt8) (i : Int) (w : World) (hs : s.length ≤ 2000) (hi : S5.Sg.isI i) :
    Calls Tryd.prog 26 #[.string (S3.B s), .int .i64 i] w fun e w' => e = .returned (.int .i64 (coef s i)) ∧ Below w.heap.size w w' := by
  have k1 := S5.Sg.rtext_ok w s (by omega)
  have k2 := S5.Sg.rnum_ok w i hi
  have l1 := encT_len s
  have l2 := S5.Sg.encZ_len i
  have hc : coef s i = (S5.Sg.hash (S2.Cd.encT s ++ S5.Sg.encZ i) : Nat) % 2305843009213693951 := rfl
  rw [hc]
  generalize S2.Cd.encT s = a at *
  generalize S5.Sg.encZ i = b at *
  have k3 := S5.Sg.rsha_ok w (a ++ b) (by rw [List.length_append]; omega)
  have h32 := S5.Sg.sha_len (a ++ b)
  unfold S5.Sg.hash
  generalize S3.Sha.sha (a ++ b) = d at *
  have k4 := S5.Sg.rhnum_ok w d (by rw [h32]; decide)
  generalize S3.num d = h at *
  have k5 := fun w' => S4.refMod_any (h : Int) 2305843009213693951 w' (.inl rfl)
  have l3 : a.length ≤ 2009 := by omega
  have K1 := Lib.hid k1
  have K2 := Lib.hid k2
  have K3 := Lib.hid k3
  have K4 := Lib.hid k4
  have K5 := Lib.hid k5
  clear k1 k2 k3 k4 k5 h32 l1 hs hi hc
  go_enter Tryd.func26, Tryd.ntmps26
  go_wp2_with fail
  refine (K1.out w (Below.refl _ _)).mono ?_
  rintro e w1 ⟨rfl, hb1⟩
  go_wp2_with fail
  refine (K2.out w1 hb1).mono ?_
  rintro e w2 ⟨rfl, hb2⟩
  clear hb1
  go_wp2_with fail
  refine (K3.out w2 hb2).mono ?_
  rintro e w3 ⟨rfl, hb3⟩
  clear hb2
  go_wp2_with fail
  refine (K4.out w3 hb3).mono ?_
  rintro e w4 ⟨rfl, hb4⟩
  clear hb3
  go_wp2_with fail
  refine (K5.out _).mono ?_
  rintro e w5 ⟨rfl, rfl⟩
  go_wp2
  go_ret
  exact ⟨rfl, hb4⟩

set_option maxHeartbeats 8000000 in
set_option maxRecDepth 100000 in
theorem rsplit_no (s t n : Int) (x : List UInt8) (w : World) (h : ¬ (1 ≤ t ∧ t ≤ n ∧ n ≤ 64 ∧ 0 ≤ s ∧ s < 2305843009213693951)) :
    Calls Tryd.prog 10 #[.int .i64 s, .int .i64 t, .int .i64 n, .string (S3.B x)] w fun e w' => e = .returned (.tuple #[.slice none 0 0, .bool false]) ∧ Below w.heap.size w w' := by
  by_cases h1 : t < 1
  · clear h
    go_enter Tryd.func10, Tryd.ntmps10
    go_wp2
    go_ret2
    exact ⟨rfl, Below.refl _ _⟩
  by_cases h2 : n < t
  · clear h
    go_enter Tryd.func10, Tryd.ntmps10
    go_wp2
    go_ret2
    exact ⟨rfl, Below.refl _ _⟩
  by_cases h3 : 64 < n
  · clear h
    go_enter Tryd.func10, Tryd.ntmps10
    go_wp2
    go_ret2
    exact ⟨rfl, Below.refl _ _⟩
  by_cases h4 : s < 0
  · clear h
    go_enter Tryd.func10, Tryd.ntmps10
    go_wp2
    go_ret2
    exact ⟨rfl, Below.refl _ _⟩
  by_cases h5 : 2305843009213693951 ≤ s
  · clear h
    go_enter Tryd.func10, Tryd.ntmps10
    go_wp2
    go_ret2
    exact ⟨rfl, Below.refl _ _⟩
  exact absurd ⟨by omega, by omega, by omega, by omega, by omega⟩ h

set_option maxHeartbeats 8000000 in
set_option maxRecDepth 100000 in
theorem rsplit_yes (s : Int) (T N : Nat) (x : List UInt8) (w : World) (h1 : 1 ≤ T) (h2 : T ≤ N) (h3 : N ≤ 64) (h4 : 0 ≤ s) (h5 : s < 2305843009213693951) (hx : x.length ≤ 2000) :
    Calls Tryd.prog 10 #[.int .i64 s, .int .i64 (T : Int), .int .i64 (N : Int), .string (S3.B x)] w fun e w' => (∃ v, e = .returned (.tuple #[v, .bool true]) ∧ w'.ownsRow w.heap.size 38 2 v N (Sc (shares (coefs s x T) N))) ∧ Below w.heap.size w w' := by
  have g1 : (1 : Int) ≤ (T : Int) := by omega
  have g2 : (T : Int) ≤ (N : Int) := by omega
  have g3 : (N : Int) ≤ 64 := by omega
  have hl0 := World.ownsRow_lit (base := w.heap.size) (size := 1) (e := 3) w #[.int .i64 s] 1 (Nat.le_refl _) (by decide) rfl
  have HL0 := Lib.hid hl0
  clear hl0
  go_enter Tryd.func10, Tryd.ntmps10
  go_wp2_with fail
  have hb0 := (Below.refl w.heap.size w).alloc (Nat.le_refl _) (.cells #[.int .i64 s] 3)
  generalize w.alloc (.cells #[.int .i64 s] 3) = w0 at *
  obtain ⟨i0, hi0, hz0, hz1, hz2⟩ := info_parts infoInt
  have HX := Lib.hid hx
  clear hx
  go_loopw [10, 11] (fun vc vi wr => ∃ i : Nat, 1 ≤ i ∧ i ≤ T ∧ vi = .int .i64 (i : Int) ∧ wr.ownsRow w.heap.size 3 1 vc i (S2.Zs (coefs s x i)) ∧ Below w.heap.size w wr) (fun _ vi _ => T - (intOf vi).toNat)
  case atStart => exact ⟨1, by omega, h1, rfl, HL0.out, hb0⟩
  case round =>
    obtain ⟨i, hi1, hiT, rfl, hown, hbel⟩ := hrel
    clear HL0 hb0
    by_cases hlt : i < T
    · have hlt' : (i : Int) < (T : Int) := by omega
      have k1 := rcoef_any x (i : Int) wr HX.out (by unfold S5.Sg.isI S4.isI64; omega)
      have hcs := coefs_succ s x i hi1
      generalize coef x (i : Int) = c at k1 hcs
      have K1 := Lib.hid k1
      have HCS := Lib.hid hcs
      have HO := Lib.hid hown
      have HBEL := Lib.hid hbel
      clear k1 hcs hown hbel
      go_wp2_with fail
      refine K1.out.mono ?_
      rintro e w1 ⟨rfl, hb⟩
      have hown1 := own_below HO.out hb
      have hbel1 := HBEL.out.trans (hb.mono HBEL.out.size)
      have hsz := hbel1.size
      clear hb K1 HO HBEL
      go_wp2_with (at_builtin; refine wpList_append_own _ rfl _ _ 31 rfl w.heap.size 3 i0 (.int .i64 0) 1 8 Tryd.underlying31 hi0 hz0 hz1 hz2 rfl (by decide) _ _ _ rfl (hown1.alloc _) ⟨w1.heap.size, 0, none⟩ 1 1 [.int .i64 c] rfl rfl S2.one_cell (fun u hu => by simp at hu; rcases hu with rfl | rfl <;> rfl) (by unfold maxLen; omega) (by omega) (by simp; omega) ?_)
      intro v' w3 hown3 hgrow _
      have hbel3 := (hbel1.alloc hsz _).grown hgrow (by simp; omega) (own_ge hown1)
      have e3 : S2.Zs (coefs s x i) ++ [Value.int .i64 c] = S2.Zs (coefs s x (i + 1)) := by rw [HCS.out]; simp [S2.Zs]
      rw [e3] at hown3
      have HO3 := Lib.hid hown3
      have HB3 := Lib.hid hbel3
      clear hown3 hbel3 hgrow hown1 hbel1 hsz e3
      go_wp2
      go_roundw
      case rel => exact ⟨i + 1, by omega, hlt, by go_num, HO3.out, HB3.out⟩
      case measure => simp [intOf]; omega
    · obtain rfl : i = T := by omega
      obtain ⟨W2, rfl⟩ : ∃ W, W = wr := ⟨_, rfl⟩
      obtain ⟨a, cap, rfl, _⟩ := own_some hown hi1
      have hrow := row_own hown
      have hcl := coefs_len s x i
      obtain ⟨cs, hcs⟩ : ∃ cs, cs = coefs s x i := ⟨_, rfl⟩
      rw [← hcs] at hrow hcl
      have HCQ := Lib.hid hcs
      have HR := Lib.hid hrow
      have HCL := Lib.hid hcl
      have HBW := Lib.hid hbel
      have hbw := hbel.size
      clear hown hrow hcl hcs hbel hi0 hz0 hz1 hz2
      obtain ⟨i0, hi0, hz0, hz1, hz2⟩ := info_parts infoShare
      go_wp2
      go_loopw [12, 13] (fun vo vx wk => ∃ m : Nat, m ≤ N ∧ vx = .int .i64 ((m + 1 : Nat) : Int) ∧ wk.ownsRow W2.heap.size 38 2 vo m (Sc (shares cs m)) ∧ Below W2.heap.size W2 wk) (fun _ vx _ => N + 1 - (intOf vx).toNat)
      case atStart => exact ⟨0, by omega, rfl, World.ownsRow_nil _ _ _ _, Below.refl _ _⟩
      case round =>
        obtain ⟨m, hm, rfl, hown, hbel⟩ := hrel
        obtain ⟨W3, rfl⟩ : ∃ W, W = wr := ⟨_, rfl⟩
        obtain ⟨X, hX⟩ : ∃ X : Int, X = ((m + 1 : Nat) : Int) := ⟨_, rfl⟩
        have hss := shares_succ cs m
        rw [← hX] at hss ⊢
        have HX2 := Lib.hid hX
        have HSS := Lib.hid hss
        have HO := Lib.hid hown
        have HB := Lib.hid hbel
        have hX1 : 1 ≤ X := by omega
        have hX2 : X ≤ 65 := by omega
        clear hss hown hbel
        by_cases hlt : X ≤ (N : Int)
        · have hmN : m < N := by omega
          clear hX
          go_wp2
          go_loopw [14, 15] (fun vy vi wq => ∃ j : Nat, j ≤ i ∧ vi = .int .i64 ((j : Int) - 1) ∧ vy = .int .i64 (ev (cs.drop j) X % 2305843009213693951) ∧ Below W3.heap.size W3 wq) (fun _ vi _ => (intOf vi + 1).toNat)
          case atStart => exact ⟨i, Nat.le_refl _, rfl, by rw [List.drop_eq_nil_of_le (by have := HCL.out; omega)]; rfl, Below.refl _ _⟩
          case round =>
            obtain ⟨j, hj, rfl, rfl, hbq⟩ := hrel
            cases j with
            | zero =>
              rw [List.drop_zero, show (((0 : Nat) : Int) - 1) = -1 by omega]
              obtain ⟨y, hy⟩ : ∃ y, y = ev cs X % 2305843009213693951 := ⟨_, rfl⟩
              have hSS := HSS.out
              rw [← hy] at hSS ⊢
              have hown1 := own_below HO.out hbq
              have hbel1 := HB.out.trans (hbq.mono HB.out.size)
              have hsz := hbel1.size
              have HS2 := Lib.hid hSS
              clear hSS hy hbq HO HB HSS
              go_wp2_with (at_builtin; refine wpList_append_own _ rfl _ _ 22 rfl W2.heap.size 38 i0 (.agg #[.int .i64 0, .int .i64 0]) 2 16 Tryd.underlying22 hi0 hz0 hz1 hz2 rfl (by decide) _ _ _ rfl (hown1.alloc _) ⟨wr.heap.size, 0, none⟩ 1 1 [.int .i64 X, .int .i64 y] rfl rfl two_cell (fun u hu => by simp at hu; rcases hu with rfl | rfl <;> rfl) (by unfold maxLen; omega) (by omega) (by simp; omega) ?_)
              intro v' w3 hown3 hgrow _
              have hbel3 := (hbel1.alloc hsz _).grown hgrow (by simp; omega) (own_ge hown1)
              have e3 : Sc (shares cs m) ++ [Value.int .i64 X, Value.int .i64 y] = Sc (shares cs (m + 1)) := by rw [HS2.out, Sc_append]; rfl
              rw [e3] at hown3
              have HO3 := Lib.hid hown3
              have HB3 := Lib.hid hbel3
              clear hown3 hbel3 hgrow hown1 hbel1 hsz e3
              go_wp2
              go_roundw
              case rel => exact ⟨m + 1, hmN, by have := HX2.out; go_num, HO3.out, HB3.out⟩
              case measure => have := HX2.out; simp [intOf]; omega
            | succ j =>
              have hjc : j < cs.length := by have := HCL.out; omega
              have hst := ev_step cs X j hjc
              have hbq2 := hbq.drew
              obtain ⟨_, e, _, hc2⟩ := ((HR.out.below HB.out).below (hbq2.mono HB.out.size)).num hjc
              cases e
              rw [show (((j + 1 : Nat) : Int) - 1) = (j : Int) by omega]
              obtain ⟨ci, hci⟩ : ∃ c, c = cs[j] := ⟨_, rfl⟩
              rw [← hci] at hc2 hst
              obtain ⟨y, hy⟩ : ∃ y, y = ev (cs.drop (j + 1)) X % 2305843009213693951 := ⟨_, rfl⟩
              rw [← hy] at hst ⊢
              have k1 := fun w => S4.refMul_any y X w
              obtain ⟨p, hp⟩ : ∃ p, p = y * X % 2305843009213693951 := ⟨_, rfl⟩
              rw [← hp] at k1 hst
              have k2 := fun w => S4.refAdd_any p ci w
              obtain ⟨q, hq⟩ : ∃ z, z = (p + ci) % 2305843009213693951 := ⟨_, rfl⟩
              rw [← hq] at k2 hst
              have hji : j < i := by omega
              have hji' : (j : Int) < (i : Int) := by omega
              have hj0 : (0 : Int) ≤ (j : Int) := by omega
              have K1 := Lib.hid k1
              have K2 := Lib.hid k2
              have HST := Lib.hid hst
              clear k1 k2 hst hy hp hq hci hbq hjc
              go_wp2
              refine wp_region_held_drew (S := (fun w' => w'.cell? (a.add j) = some (.int .i64 ci))) (by kernel_rfl) hc2 (fun hHeld => ?_)
              refine wpAnyH_take (i := 0) (oi := ⟨_, _, _, _, _, _⟩) (v := ?_) rfl (by kernel_rfl) (by kernel_rfl) (by kernel_rfl) (fun _ _ _ h => h) (Or.inl ⟨by rfl, ?_⟩) (by assumption) ?_
              rotate_left
              · intro wz hSw
                try dsimp only at hSw
                go_simp
                try with_reducible rfl
              try simp only [Act.put, List.setIfInBounds_toArray, List.set_cons_zero, List.set_cons_succ]
              refine wpAnyH_take (i := 1) (oi := ⟨_, _, _, _, _, _⟩) (v := ?_) rfl (by kernel_rfl) (by kernel_rfl) (by kernel_rfl) (fun _ _ _ h => h) (Or.inl ⟨by rfl, ?_⟩) (by assumption) ?_
              rotate_left
              · intro wz hSw
                try dsimp only at hSw
                go_simp
                try with_reducible rfl
              try simp only [Act.put, List.setIfInBounds_toArray, List.set_cons_zero, List.set_cons_succ]
              refine wpAnyH_take (i := 3) (oi := ⟨_, _, _, _, _, _⟩) (v := ?_) rfl (by kernel_rfl) (by kernel_rfl) (by kernel_rfl) (fun _ _ _ h => h) (Or.inl ⟨by rfl, ?_⟩) (by assumption) ?_
              rotate_left
              · intro wz hSw
                try dsimp only at hSw
                go_simp
                try with_reducible rfl
              try simp only [Act.put, List.setIfInBounds_toArray, List.set_cons_zero, List.set_cons_succ]
              refine wpAnyH_take (i := 4) (oi := ⟨_, _, _, _, _, _⟩) (v := ?_) rfl (by kernel_rfl) (by kernel_rfl) (by kernel_rfl) (fun _ _ _ h => h) (Or.inl ⟨by rfl, ?_⟩) (by assumption) ?_
              rotate_left
              · intro wz hSw
                try dsimp only at hSw
                go_simp
                try with_reducible rfl
              try simp only [Act.put, List.setIfInBounds_toArray, List.set_cons_zero, List.set_cons_succ]
              refine wpAnyH_take (i := 5) (oi := ⟨_, _, _, _, _, _⟩) (v := ?_) rfl (by kernel_rfl) (by kernel_rfl) (by kernel_rfl) (fun _ _ _ h => h) (Or.inl ⟨by rfl, ?_⟩) (by assumption) ?_
              rotate_left
              · intro wz hSw
                try dsimp only at hSw
                go_simp
                try with_reducible rfl
              try simp only [Act.put, List.setIfInBounds_toArray, List.set_cons_zero, List.set_cons_succ]
              refine wpAnyH_take (i := 6) (oi := ⟨_, _, _, _, _, _⟩) (v := ?_) rfl (by kernel_rfl) (by kernel_rfl) (by kernel_rfl) (fun _ _ _ h => h) (Or.inl ⟨by rfl, ?_⟩) (by assumption) ?_
              rotate_left
              · intro wz hSw
                try dsimp only at hSw
                go_simp
                try with_reducible rfl
              try simp only [Act.put, List.setIfInBounds_toArray, List.set_cons_zero, List.set_cons_succ]
              refine wpAnyH_ready (rs := [2]) (by kernel_rfl) (by simp) ?_
              refine AllReadyH.cons (o := ⟨_, _, _, _, _, _⟩) rfl (fun K hK => ?_) AllReadyH.nil
              go_simp
              refine (K1.out _).mono ?_
              rintro e wq ⟨rfl, hq⟩
              obtain rfl := hq.symm
              clear hHeld hq
              refine hK.out _ _ hc2 (fun hHeld => ?_)
              clear hK K
              try simp only [Act.put, List.setIfInBounds_toArray, List.set_cons_zero, List.set_cons_succ]
              refine wpAnyH_ready (rs := [7]) (by kernel_rfl) (by simp) ?_
              refine AllReadyH.cons (o := ⟨_, _, _, _, _, _⟩) rfl (fun K hK => ?_) AllReadyH.nil
              go_simp
              refine (K2.out _).mono ?_
              rintro e wq ⟨rfl, hq⟩
              obtain rfl := hq.symm
              clear hHeld hq
              refine hK.out _ _ hc2 (fun hHeld => ?_)
              clear hK K
              try simp only [Act.put, List.setIfInBounds_toArray, List.set_cons_zero, List.set_cons_succ]
              refine wpAnyH_take (i := 8) (oi := ⟨_, _, _, _, _, _⟩) (v := ?_) rfl (by kernel_rfl) (by kernel_rfl) (by kernel_rfl) (fun _ _ _ h => h) (Or.inl ⟨by rfl, ?_⟩) (by assumption) ?_
              rotate_left
              · intro wz hSw
                try dsimp only at hSw
                go_simp
                try with_reducible rfl
              try simp only [Act.put, List.setIfInBounds_toArray, List.set_cons_zero, List.set_cons_succ]
              refine wpAnyH_done (by kernel_rfl) ?_ _
              clear hHeld
              go_wp2
              go_roundw
              case rel => exact ⟨j, by omega, rfl, by rw [HST.out], hbq2⟩
              case measure => simp [intOf]
        · obtain rfl : m = N := by omega
          go_wp2
          go_ret2
          exact ⟨⟨_, rfl, (by
            have h := HO.out
            rw [HCQ.out] at h
            obtain ⟨g1, g2⟩ := h
            exact ⟨g1, g2.imp id (fun ⟨g, cap, cur, a1, a2, a3⟩ => ⟨g, cap, cur, a1, by omega, a3⟩)⟩)⟩, HBW.out.trans (HB.out.mono hbw)⟩
end Sh
end Go.Proofs.YtjpgadiobgbchaaDoor
