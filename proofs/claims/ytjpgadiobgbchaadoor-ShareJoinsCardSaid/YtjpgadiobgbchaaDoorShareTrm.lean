/-
  Layer 7: the landed package's evaluateTerms and interpolate.
-/
import Derived.Test.YtjpgadiobgbchaaDoorShareEvl
import Derived.Test.YtjpgadiobgbchaaDoorShareNewt
import Derived.Laws.CopyRow
import Derived.Laws.IdiomCopy
namespace Go.Proofs.YtjpgadiobgbchaaDoor
open Go.RowKit
namespace Sh
attribute [local go_sem] S3.B_size S3.B_app S3.B_list

/-- All numbers of the list are ints. -/
def In64 (l : List (Int × Int)) : Prop := ∀ p ∈ l, S4.isI64 p.1 ∧ S4.isI64 p.2
theorem In64.at {l : List (Int × Int)} (h : In64 l) {k : Nat} (hk : k < l.length) : S4.isI64 (px l k) ∧ S4.isI64 (py l k) := by
  rw [px_get hk, py_get hk]
  exact h _ (List.getElem_mem hk)

set_option maxHeartbeats 8000000 in
set_option maxRecDepth 100000 in
theorem pterms_any (A : Option Addr) (l : List (Int × Int)) (cap : Nat) (x : Int) (w : World) (hr : S2.Row w w.heap.size A (Sc l)) (hn : l.length ≤ 1000) (hv : In64 l) (hx : S4.isI64 x) :
    Calls Tryd.prog 30 #[.slice A l.length cap, .int .i64 x] w fun e w' => e = .returned (.tuple #[.int .i64 (nv l x l.length % 2305843009213693951), .int .i64 (np l x l.length % 2305843009213693951)]) ∧ Below w.heap.size w w' := by
  obtain ⟨r1, hr1⟩ : ∃ r, r = nv l x l.length % 2305843009213693951 := ⟨_, rfl⟩
  obtain ⟨r2, hr2⟩ : ∃ r, r = np l x l.length % 2305843009213693951 := ⟨_, rfl⟩
  rw [← hr1, ← hr2]
  have HR1 := Lib.hid hr1
  have HR2 := Lib.hid hr2
  have HR := Lib.hid hr
  have HV := Lib.hid hv
  have HX := Lib.hid hx
  have hnl : (l.length : Int) ≤ 1000 := by omega
  clear hr hv hx hr1 hr2
  go_enter Tryd.func30, Tryd.ntmps30
  go_wp2
  go_loopw [4, 5, 10] (fun vv vp vi wr => ∃ i : Nat, i ≤ l.length ∧ vi = .int .i64 (i : Int) ∧ vv = .int .i64 (nv l x i % 2305843009213693951) ∧ vp = .int .i64 (np l x i % 2305843009213693951) ∧ Below w.heap.size w wr) (fun _ _ vi _ => l.length - (intOf vi).toNat)
  case atStart => exact ⟨0, by omega, rfl, rfl, rfl, Below.refl _ _⟩
  case round =>
    obtain ⟨i, hi, rfl, rfl, rfl, hbel⟩ := hrel
    by_cases hlt : i < l.length
    · have hlt' : (i : Int) < (l.length : Int) := by omega
      obtain ⟨a, rfl, hab, hcx, hcy⟩ := row_at (HR.out.below hbel) hlt
      rw [← px_get hlt] at hcx
      rw [← py_get hlt] at hcy
      have hxy := HV.out.at hlt
      have ev1 : nv l x (i + 1) = nv l x i + py l i * np l x i := rfl
      have ev2 : np l x (i + 1) = np l x i * (x - px l i) := rfl
      obtain ⟨X, hX⟩ : ∃ z, z = px l i := ⟨_, rfl⟩
      obtain ⟨Y, hY⟩ : ∃ z, z = py l i := ⟨_, rfl⟩
      rw [← hX] at hcx hxy ev2
      rw [← hY] at hcy hxy ev1
      have hvr : 0 ≤ nv l x i % 2305843009213693951 ∧ nv l x i % 2305843009213693951 < 2305843009213693951 := by omega
      have hpr : 0 ≤ np l x i % 2305843009213693951 ∧ np l x i % 2305843009213693951 < 2305843009213693951 := by omega
      have e1 : (nv l x i % 2305843009213693951 + Y * (np l x i % 2305843009213693951) % 2305843009213693951) % 2305843009213693951 = nv l x (i + 1) % 2305843009213693951 := by
        rw [ev1]
        exact cg_mod.1 ((cg_res _).add ((cg_res _).trans ((Cg.refl Y).mul (cg_res _))))
      have e2 : np l x i % 2305843009213693951 * ((x - X) % 2305843009213693951) % 2305843009213693951 = np l x (i + 1) % 2305843009213693951 := by
        rw [ev2, mod_mul]
      obtain ⟨v, hvd⟩ : ∃ z, z = nv l x i % 2305843009213693951 := ⟨_, rfl⟩
      obtain ⟨p, hpd⟩ : ∃ z, z = np l x i % 2305843009213693951 := ⟨_, rfl⟩
      rw [← hvd] at hvr e1 ⊢
      rw [← hpd] at hpr e1 e2 ⊢
      have k1 := fun w => S4.mul_any Y p w hxy.2 (by unfold S4.isI64; omega)
      have hmr : 0 ≤ Y * p % 2305843009213693951 ∧ Y * p % 2305843009213693951 < 2305843009213693951 := by omega
      obtain ⟨m, hm⟩ : ∃ z, z = Y * p % 2305843009213693951 := ⟨_, rfl⟩
      rw [← hm] at k1 hmr e1
      have k2 := fun w => S4.add_any v m w (by unfold S4.isI64; omega) (by unfold S4.isI64; omega)
      rw [e1] at k2
      have k3 := fun w => S4.sub_any x X w HX.out hxy.1
      have hdr : 0 ≤ (x - X) % 2305843009213693951 ∧ (x - X) % 2305843009213693951 < 2305843009213693951 := by omega
      obtain ⟨d, hd⟩ : ∃ z, z = (x - X) % 2305843009213693951 := ⟨_, rfl⟩
      rw [← hd] at k3 hdr e2
      have k4 := fun w => S4.mul_any p d w (by unfold S4.isI64; omega) (by unfold S4.isI64; omega)
      rw [e2] at k4
      obtain ⟨v2, hv2⟩ : ∃ z, z = nv l x (i + 1) % 2305843009213693951 := ⟨_, rfl⟩
      obtain ⟨p2, hp2⟩ : ∃ z, z = np l x (i + 1) % 2305843009213693951 := ⟨_, rfl⟩
      rw [← hv2] at k2
      rw [← hp2] at k4
      have K1 := Lib.hid k1
      have K2 := Lib.hid k2
      have K3 := Lib.hid k3
      have K4 := Lib.hid k4
      have HV2 := Lib.hid hv2
      have HP2 := Lib.hid hp2
      have HBEL := Lib.hid (hbel.alloc hbel.size (.cells #[.int .i64 X, .int .i64 Y] 38))
      have B1 := Lib.hid (Lk.Bl.new wr [.int .i64 X, .int .i64 Y] 38)
      clear k1 k2 k3 k4 hX hY hm hd e1 e2 ev1 ev2 hvd hpd hv2 hp2 hxy hvr hpr hmr hdr hbel hab
      go_wp2_with fail
      generalize wr.heap.size = g at *
      generalize wr.alloc (.cells #[.int .i64 X, .int .i64 Y] 38) = w1 at *
      clear hcx hcy
      refine (K1.out _).mono ?_
      rintro e w2 ⟨rfl, hq⟩
      replace HBEL := Lib.hid (HBEL.out.trans ((drew_below hq).mono HBEL.out.size))
      replace B1 := Lib.hid (B1.out.step (drew_below hq))
      clear hq
      go_wp2_with fail
      refine (K2.out _).mono ?_
      rintro e wq ⟨rfl, hq⟩
      obtain rfl := hq.symm
      clear hq
      have c0 := B1.out.c 0 _ rfl
      go_wp2_with fail
      clear c0
      refine (K3.out _).mono ?_
      rintro e wq ⟨rfl, hq⟩
      obtain rfl := hq.symm
      clear hq
      go_wp2_with fail
      refine (K4.out _).mono ?_
      rintro e w3 ⟨rfl, hq⟩
      replace HBEL := Lib.hid (HBEL.out.trans ((drew_below hq).mono HBEL.out.size))
      clear hq B1 K1 K2 K3 K4
      go_wp2
      go_roundw
      case rel => exact ⟨i + 1, hlt, by go_num, by rw [HV2.out], by rw [HP2.out], HBEL.out⟩
      case measure => simp [intOf]; omega
    · obtain rfl : i = l.length := by omega
      rw [← HR1.out, ← HR2.out]
      have HBEL := Lib.hid hbel
      clear hbel
      go_wp2
      go_ret2
      exact ⟨rfl, HBEL.out⟩

/-! ### interpolate -/
theorem run_copy_whole {P : Program} (w : World) (dT sT ty elem : TypeId) (g n dCap sCap size : Nat) (a : Addr) (cur cs : List Value) (t : TypeId)
    (hu : P.underlying dT = some (.slice elem)) (hs : (P.info? elem).map (·.size) = some size) (hg : Lk.Bl w g cur t) (hcur : cur.length = n * size) (hn : cs.length = n * size)
    (hsrc : ∀ j v, cs[j]? = some v → w.cell? (a.add j) = some v) (h1 : ∀ v ∈ cs, v.oneCell' = true) :
    (Builtin.copy_ #[dT, sT] ty #[.slice (some ⟨g, 0, none⟩) n dCap, .slice (some a) n sCap]).run P w = .ok (goInt n) (w.setRow g cs.toArray) := by
  have hl := run_loadCells_list (P := P) w a cs hsrc
  have hst := run_storeCells_at P g 0 t cs 0 cur.toArray w hg.row (by simp; omega) h1
  have e : (cur.toArray.toList.take (0 + 0) ++ cs ++ cur.toArray.toList.drop (0 + 0 + cs.length)).toArray = cs.toArray := by
    rw [List.drop_eq_nil_of_le (by simp; omega)]
    simp
  rw [e] at hst
  cases hq : P.info? elem with
  | none => simp [hq] at hs
  | some i =>
    have hi : i.size = size := by simpa [hq] using hs
    have hmin : Nat.min n n = n := Nat.min_self n
    simp [Builtin.copy_, run_underlying hu, Builtin.lenOf, Builtin.firstCells, sizeOf, typeInfo, hq, hi, ← hn, hl, hst]
theorem wpList_copy_whole {P : Program} {w : World} {ops : Array Oper} {rest : List Oper} {o : Oper} {a : Act} {Q : Exit → Act → World → Prop} (hgd : o.guard = none) (d s : Operand) (dT sT : TypeId)
    (ho : o.op = .call { callee := .builtin .copy, args := #[d, s], argTypes := #[dT, sT] }) (elem : TypeId) (size : Nat) (hu : P.underlying dT = some (.slice elem)) (hs : (P.info? elem).map (·.size) = some size)
    (g n dCap sCap : Nat) (ad : Addr) (hd : a.eval d = .slice (some ⟨g, 0, none⟩) n dCap) (hsv : a.eval s = .slice (some ad) n sCap)
    (cur cs : List Value) (t : TypeId) (hg : Lk.Bl w g cur t) (hcur : cur.length = n * size) (hn : cs.length = n * size) (hsrc : ∀ j v, cs[j]? = some v → w.cell? (ad.add j) = some v) (h1 : ∀ v ∈ cs, v.oneCell' = true)
    (B : Nat) (w0 : World) (hb : Below B w0 w) (hBg : B ≤ g)
    (h : ∀ w', Lk.Bl w' g cs t → Below B w0 w' → wpList P ops Q rest (a.put o.dst (goInt n)) w') : wpList P ops Q (o :: rest) a w := by
  refine wpList_plain hgd fun K hK => ?_
  have hrun := run_copy_whole (P := P) w dT sT o.type elem g n dCap sCap size ad cur cs t hu hs hg hcur hn hsrc h1
  unfold Oper.wp
  simp [execOp, ho, resolve, invoke, builtin, hd, hsv, hrun, Result.andThen]
  exact hK _ _ (h _ ⟨setRow_heap w g _ _ t _ hg.row⟩ (hb.trans ⟨rfl, rfl, rfl, by simp [World.setRow], fun k hk => setRow_other w g k _ (by omega)⟩))
theorem Sc_oneV (l : List (Int × Int)) : ∀ v ∈ Sc l, v.oneCell' = true := by
  intro v hv
  obtain ⟨p, _, hp⟩ := List.mem_flatMap.1 hv
  simp at hp
  rcases hp with rfl | rfl <;> rfl
theorem Sc_setY (c : Int) : ∀ (l : List (Int × Int)) (i : Nat) (x : Int) (y : Int), l[i]? = some (x, y) → (Sc l).set (i * 2 + 1) (.int .i64 c) = Sc (l.set i (x, c))
  | [], _, _, _, h => by simp at h
  | p :: l, 0, x, y, h => by
    have e : p = (x, y) := by simpa using h
    subst e
    rw [List.set_cons_zero, Sc_cons, Sc_cons]
    rfl
  | p :: l, i + 1, x, y, h => by
    have ih := Sc_setY c l i x y (by simpa using h)
    rw [List.set_cons_succ, Sc_cons, Sc_cons, show (i + 1) * 2 + 1 = i * 2 + 1 + 1 + 1 by omega, List.set_cons_succ, List.set_cons_succ, ih]
theorem nt_in {l : List (Int × Int)} (hv : Valid l) : ∀ k, k ≤ l.length → In64 (nt l k)
  | 0, _ => fun p hp => by simp [nt] at hp
  | k + 1, h => by
    intro p hp
    rw [nt] at hp
    rcases List.mem_append.1 hp with hp | hp
    · exact nt_in hv k (by omega) p hp
    · obtain rfl := List.mem_singleton.1 hp
      have h1 := ((valid_iff l).1 hv k (by omega)).1
      have h2 := nc_in (nt l k) (px l k) (py l k)
      unfold S4.isI64
      dsimp only
      omega
theorem pterms_at (A : Option Addr) (l : List (Int × Int)) (n cap : Nat) (x : Int) (w : World) (hl : l.length = n) (hr : S2.Row w w.heap.size A (Sc l)) (hn : n ≤ 1000) (hv : In64 l) (hx : S4.isI64 x) :
    Calls Tryd.prog 30 #[.slice A n cap, .int .i64 x] w fun e w' => e = .returned (.tuple #[.int .i64 (nv l x n % 2305843009213693951), .int .i64 (np l x n % 2305843009213693951)]) ∧ Below w.heap.size w w' := by
  subst hl
  exact pterms_any A l cap x w hr hn hv hx
theorem infoShare2 : (Tryd.prog.info? 38).map (·.size) = some 2 := by kernel_rfl

set_option maxHeartbeats 8000000 in
set_option maxRecDepth 100000 in
theorem pinterp_any (A : Option Addr) (l : List (Int × Int)) (cap : Nat) (w : World) (hr : S2.Row w w.heap.size A (Sc l)) (h1 : 1 ≤ l.length) (hn : l.length ≤ 1000) (hv : Valid l) :
    Calls Tryd.prog 31 #[.slice A l.length cap] w fun e w' => e = .returned (.slice (some ⟨w.heap.size, 0, none⟩) l.length l.length) ∧ Lk.Bl w' w.heap.size (Sc (nt l l.length)) 38 ∧ Below w.heap.size w w' := by
  obtain ⟨n, hnd⟩ : ∃ n, n = l.length := ⟨_, rfl⟩
  rw [← hnd]
  rw [← hnd] at h1 hn
  obtain ⟨a, rfl, hab, hcells⟩ : ∃ a, A = some a ∧ a.block < w.heap.size ∧ ∀ j u, (Sc l)[j]? = some u → w.cell? (a.add j) = some u := by
    rcases hr with h | h
    · have := Sc_len l
      rw [h] at this
      simp at this
      omega
    · exact h
  have HV := Lib.hid hv
  have HN := Lib.hid hnd
  have HC := Lib.hid hcells
  have hab' := Lib.hid hab
  have g1 : (1 : Int) ≤ (n : Int) := by omega
  have g2 : (n : Int) ≤ 1000 := by omega
  clear hr hcells hv hnd hab
  go_enter Tryd.func31, Tryd.ntmps31
  go_wp2_with (at_make; refine wpList_make_row rfl _ _ 22 rfl 38 (.agg #[.int .i64 0, .int .i64 0]) 2 16 Tryd.underlying22 infoShare n rfl rfl (by omega) (by omega) _ (made_two n) ?_)
  intro w0 hbl hb0
  have HBL := Lib.hid hbl
  have HB0 := Lib.hid hb0
  clear hbl hb0
  go_wp2_with (with_reducible refine wpList_copy_whole rfl _ _ 22 22 rfl 38 2 Tryd.underlying22 infoShare2 w.heap.size n n _ a rfl rfl _ (Sc l) _ HBL.out (by simp) (by rw [Sc_len, HN.out]) (fun j v h => (HB0.out.cell (p := a.add j) (by rw [S2.add_block]; exact hab'.out)).trans (HC.out j v h)) (Sc_oneV l) w.heap.size w HB0.out (Nat.le_refl _) ?_)
  intro w1 hbl hb1
  rw [← mix_zero l] at hbl
  have HL1 := Lib.hid hbl
  have HB1 := Lib.hid hb1
  clear hbl hb1 HBL HB0 HC hab'
  go_wp2
  go_loopw [18] (fun vi wr => ∃ i : Nat, i ≤ n ∧ vi = .int .i64 (i : Int) ∧ Lk.Bl wr w.heap.size (Sc (mix l i)) 38 ∧ Below w.heap.size w wr) (fun vi _ => n - (intOf vi).toNat)
  case atStart => exact ⟨0, by omega, rfl, HL1.out, HB1.out⟩
  case round =>
    obtain ⟨i, hi, rfl, hbl, hbel⟩ := hrel
    clear HL1 HB1
    by_cases hlt : i < n
    · have hlt' : (i : Int) < (n : Int) := by omega
      have hil : i < l.length := by rw [← HN.out]; exact hlt
      have hok := (valid_iff l).1 HV.out i hil
      have hat := mix_at l i hil
      have hs := Sc_at (mix l i) i (by rw [mix_len l i (by omega)]; exact hil)
      have hgx : (mix l i)[i]'(by rw [mix_len l i (by omega)]; exact hil) = l[i] := by
        rw [List.getElem?_eq_getElem (by rw [mix_len l i (by omega)]; exact hil)] at hat
        exact Option.some.inj hat
      rw [hgx, ← px_get hil, ← py_get hil] at hs
      have cx := hbl.c (i * 2) _ hs.1
      have cy := hbl.c (i * 2 + 1) _ hs.2
      have hset := Sc_setY (nc (nt l i) (px l i) (py l i)) (mix l i) i (px l i) (py l i) (by rw [hat, px_get hil, py_get hil])
      rw [← mix_succ l i hil] at hset
      have hne : ¬ Cg (np (nt l i) (px l i) i) 0 := np_ne _ _ _ fun j hj => by
        rw [nt_px l i j hj]
        exact apart_px HV.out.apart hil (by omega) (by omega)
      have hnc : nc (nt l i) (px l i) (py l i) = (py l i - nv (nt l i) (px l i) i % 2305843009213693951) % 2305843009213693951 * (S4.invP (np (nt l i) (px l i) i) : Nat) % 2305843009213693951 := by
        unfold nc
        rw [nt_len]
      obtain ⟨C, hC⟩ : ∃ z, z = nc (nt l i) (px l i) (py l i) := ⟨_, rfl⟩
      rw [← hC] at hset hnc
      have hox := hok.1
      have hoy := hok.2.1
      have xi : S4.isI64 (px l i) := by unfold S4.isI64; omega
      have k1 := fun W hr => pterms_at (some ⟨w.heap.size, 0, none⟩) (nt l i) i n (px l i) W (nt_len l i) hr (by omega) (nt_in HV.out i (by omega)) xi
      have hvr : 0 ≤ nv (nt l i) (px l i) i % 2305843009213693951 ∧ nv (nt l i) (px l i) i % 2305843009213693951 < 2305843009213693951 := by omega
      have hpr : 0 ≤ np (nt l i) (px l i) i % 2305843009213693951 ∧ np (nt l i) (px l i) i % 2305843009213693951 < 2305843009213693951 := by omega
      have hiv := invV_of (a := np (nt l i) (px l i) i % 2305843009213693951) rfl hne
      obtain ⟨V, hV⟩ : ∃ z, z = nv (nt l i) (px l i) i % 2305843009213693951 := ⟨_, rfl⟩
      obtain ⟨Q, hQ⟩ : ∃ z, z = np (nt l i) (px l i) i % 2305843009213693951 := ⟨_, rfl⟩
      rw [← hV] at hvr hnc k1
      rw [← hQ] at hpr hiv k1
      rw [← hiv] at hnc
      have k2 := fun W => S4.inv_any Q W (by unfold S4.isI64; omega)
      have hi64 : S4.isI64 (((S4.invV Q).1 : Nat) : Int) := by
        have h : (S4.invV Q).1 < 2305843009213693951 := by
          rw [hiv]
          unfold S4.invP
          exact Nat.mod_lt _ (by decide)
        unfold S4.isI64
        omega
      obtain ⟨I, hI⟩ : ∃ z : Int, z = ((S4.invV Q).1 : Nat) := ⟨_, rfl⟩
      rw [← hI] at hnc k2 hi64
      obtain ⟨ok, hokd⟩ : ∃ z, z = (S4.invV Q).2 := ⟨_, rfl⟩
      rw [← hokd] at k2
      obtain ⟨X, hX⟩ : ∃ z, z = px l i := ⟨_, rfl⟩
      obtain ⟨Y, hY⟩ : ∃ z, z = py l i := ⟨_, rfl⟩
      rw [← hX] at k1 cx
      rw [← hY] at cy hnc hoy
      have k3 := fun W => S4.sub_any Y V W (by unfold S4.isI64; omega) (by unfold S4.isI64; omega)
      have hdr : 0 ≤ (Y - V) % 2305843009213693951 ∧ (Y - V) % 2305843009213693951 < 2305843009213693951 := by omega
      obtain ⟨D, hD⟩ : ∃ z, z = (Y - V) % 2305843009213693951 := ⟨_, rfl⟩
      rw [← hD] at k3 hdr hnc
      have k4 := fun W => S4.mul_any D I W (by unfold S4.isI64; omega) hi64
      rw [← hnc] at k4
      have hrow : ∀ W, Lk.Bl W w.heap.size (Sc (mix l i)) 38 → S2.Row W W.heap.size (some ⟨w.heap.size, 0, none⟩) (Sc (nt l i)) := fun W h => by
        have h2 := row_take (Bl_row h) i
        rw [mix_take] at h2
        exact h2
      have K1 := Lib.hid k1
      have K2 := Lib.hid k2
      have K3 := Lib.hid k3
      have K4 := Lib.hid k4
      have HROW := Lib.hid hrow
      have HSET := Lib.hid hset
      have HLEN := Lib.hid (show (Sc (mix l i)).length = n * 2 by rw [Sc_len, mix_len l i (by omega), HN.out])
      have BT := Lib.hid (hbl.alloc (.cells #[.int .i64 X, .int .i64 Y] 38))
      have HBEL := Lib.hid (hbel.alloc hbel.size (.cells #[.int .i64 X, .int .i64 Y] 38))
      have BS := Lib.hid (Lk.Bl.new wr [.int .i64 X, .int .i64 Y] 38)
      obtain ⟨L, hL⟩ : ∃ L, L = Sc (mix l i) := ⟨_, rfl⟩
      obtain ⟨L2, hL2⟩ : ∃ L, L = Sc (mix l (i + 1)) := ⟨_, rfl⟩
      rw [← hL] at BT HLEN HSET HROW
      rw [← hL2] at HSET
      have HL2 := Lib.hid hL2
      clear k1 k2 k3 k4 hX hY hV hQ hI hokd hD hnc hset hC hbl hbel hrow hdr hi64 hvr hpr hiv xi hox hoy hne hs hgx hat hok hL hL2
      go_wp2
      generalize wr.heap.size = gs at *
      generalize wr.alloc (.cells #[.int .i64 X, .int .i64 Y] 38) = w2 at *
      clear cx cy
      replace BT := Lib.hid BT.out.drew
      replace BS := Lib.hid BS.out.drew
      replace HBEL := Lib.hid HBEL.out.drew
      have cs0 := BS.out.c 0 _ rfl
      refine wp_region_held_drew (S := (fun w' => w'.cell? ⟨gs, 0, none⟩ = some (.int .i64 X))) (by kernel_rfl) cs0 (fun hHeld => ?_)
      refine wpAnyH_take (i := 0) (oi := ⟨_, _, _, _, _, _⟩) (v := ?_) rfl (by kernel_rfl) (by kernel_rfl) (by kernel_rfl) (fun _ _ _ h => h) (Or.inl ⟨by rfl, ?_⟩) (by assumption) ?_
      rotate_left
      · intro wz hSw
        try dsimp only at hSw
        go_simp
        try with_reducible rfl
      try simp only [Act.put, List.setIfInBounds_toArray, List.set_cons_zero, List.set_cons_succ]
      refine wpAnyH_take (i := 1) (oi := ⟨_, _, _, _, _, _⟩) (v := ?_) rfl (by kernel_rfl) (by kernel_rfl) (by kernel_rfl) (fun _ _ _ h => h) (Or.inl ⟨by rfl, ?_⟩) (by assumption) ?_
      rotate_left
      · intro wz hSw
        try dsimp only at hSw
        go_simp
        try with_reducible rfl
      try simp only [Act.put, List.setIfInBounds_toArray, List.set_cons_zero, List.set_cons_succ]
      refine wpAnyH_take (i := 2) (oi := ⟨_, _, _, _, _, _⟩) (v := ?_) rfl (by kernel_rfl) (by kernel_rfl) (by kernel_rfl) (fun _ _ _ h => h) (Or.inl ⟨by rfl, ?_⟩) (by assumption) ?_
      rotate_left
      · intro wz hSw
        try dsimp only at hSw
        go_simp
        try with_reducible rfl
      try simp only [Act.put, List.setIfInBounds_toArray, List.set_cons_zero, List.set_cons_succ]
      refine wpAnyH_take (i := 3) (oi := ⟨_, _, _, _, _, _⟩) (v := ?_) rfl (by kernel_rfl) (by kernel_rfl) (by kernel_rfl) (fun _ _ _ h => h) (Or.inl ⟨by rfl, ?_⟩) (by assumption) ?_
      rotate_left
      · intro wz hSw
        try dsimp only at hSw
        go_simp
        try with_reducible rfl
      try simp only [Act.put, List.setIfInBounds_toArray, List.set_cons_zero, List.set_cons_succ]
      refine wpAnyH_take (i := 4) (oi := ⟨_, _, _, _, _, _⟩) (v := ?_) rfl (by kernel_rfl) (by kernel_rfl) (by kernel_rfl) (fun _ _ _ h => h) (Or.inl ⟨by rfl, ?_⟩) (by assumption) ?_
      rotate_left
      · intro wz hSw
        try dsimp only at hSw
        go_simp
        try with_reducible rfl
      try simp only [Act.put, List.setIfInBounds_toArray, List.set_cons_zero, List.set_cons_succ]
      refine wpAnyH_ready (rs := [5]) (by kernel_rfl) (by simp) ?_
      refine AllReadyH.cons (o := ⟨_, _, _, _, _, _⟩) rfl (fun K hK => ?_) AllReadyH.nil
      go_simp
      refine (K1.out _ (HROW.out _ BT.out)).mono ?_
      rintro e w3 ⟨rfl, hb⟩
      replace BT := Lib.hid (BT.out.step hb)
      replace BS := Lib.hid (BS.out.step hb)
      replace HBEL := Lib.hid (HBEL.out.trans (hb.mono HBEL.out.size))
      clear hHeld hb cs0
      have cs0 := BS.out.c 0 _ rfl
      refine hK.out _ _ cs0 (fun hHeld => ?_)
      clear hK K
      try simp only [Act.put, List.setIfInBounds_toArray, List.set_cons_zero, List.set_cons_succ]
      refine wpAnyH_take (i := 6) (oi := ⟨_, _, _, _, _, _⟩) (v := ?_) rfl (by kernel_rfl) (by kernel_rfl) (by kernel_rfl) (fun _ _ _ h => h) (Or.inl ⟨by rfl, ?_⟩) (by assumption) ?_
      rotate_left
      · intro wz hSw
        try dsimp only at hSw
        go_simp
        try with_reducible rfl
      try simp only [Act.put, List.setIfInBounds_toArray, List.set_cons_zero, List.set_cons_succ]
      refine wpAnyH_take (i := 7) (oi := ⟨_, _, _, _, _, _⟩) (v := ?_) rfl (by kernel_rfl) (by kernel_rfl) (by kernel_rfl) (fun _ _ _ h => h) (Or.inl ⟨by rfl, ?_⟩) (by assumption) ?_
      rotate_left
      · intro wz hSw
        try dsimp only at hSw
        go_simp
        try with_reducible rfl
      try simp only [Act.put, List.setIfInBounds_toArray, List.set_cons_zero, List.set_cons_succ]
      refine wpAnyH_take (i := 8) (oi := ⟨_, _, _, _, _, _⟩) (v := ?_) rfl (by kernel_rfl) (by kernel_rfl) (by kernel_rfl) (fun _ _ _ h => h) (Or.inl ⟨by rfl, ?_⟩) (by assumption) ?_
      rotate_left
      · intro wz hSw
        try dsimp only at hSw
        go_simp
        try with_reducible rfl
      try simp only [Act.put, List.setIfInBounds_toArray, List.set_cons_zero, List.set_cons_succ]
      refine wpAnyH_take (i := 9) (oi := ⟨_, _, _, _, _, _⟩) (v := ?_) rfl (by kernel_rfl) (by kernel_rfl) (by kernel_rfl) (fun _ _ _ h => h) (Or.inl ⟨by rfl, ?_⟩) (by assumption) ?_
      rotate_left
      · intro wz hSw
        try dsimp only at hSw
        go_simp
        try with_reducible rfl
      try simp only [Act.put, List.setIfInBounds_toArray, List.set_cons_zero, List.set_cons_succ]
      refine wpAnyH_take (i := 10) (oi := ⟨_, _, _, _, _, _⟩) (v := ?_) rfl (by kernel_rfl) (by kernel_rfl) (by kernel_rfl) (fun _ _ _ h => h) (Or.inl ⟨by rfl, ?_⟩) (by assumption) ?_
      rotate_left
      · intro wz hSw
        try dsimp only at hSw
        go_simp
        try with_reducible rfl
      try simp only [Act.put, List.setIfInBounds_toArray, List.set_cons_zero, List.set_cons_succ]
      refine wpAnyH_done (by kernel_rfl) ?_ _
      clear hHeld cs0
      go_wp2_with fail
      refine (K2.out _).mono ?_
      rintro e w4 ⟨rfl, hq⟩
      have hb := drew_below hq
      replace BT := Lib.hid (BT.out.step hb)
      replace BS := Lib.hid (BS.out.step hb)
      replace HBEL := Lib.hid (HBEL.out.trans (hb.mono HBEL.out.size))
      clear hq hb
      have cs1 := BS.out.c 1 _ rfl
      go_wp2_with fail
      clear cs1
      refine (K3.out _).mono ?_
      rintro e wq ⟨rfl, hq⟩
      obtain rfl := hq.symm
      clear hq
      go_wp2_with fail
      refine (K4.out _).mono ?_
      rintro e w5 ⟨rfl, hq⟩
      have hb := drew_below hq
      replace BT := Lib.hid (BT.out.step hb)
      replace HBEL := Lib.hid (HBEL.out.trans (hb.mono HBEL.out.size))
      clear hq hb BS
      obtain ⟨v, hv⟩ : ∃ v, L[i * 2 + 1]? = some v := ⟨_, List.getElem?_eq_getElem (by rw [HLEN.out]; omega)⟩
      have c1 := BT.out.c (i * 2 + 1) v hv
      have f1 := Bl_free BT.out (i * 2 + 1)
      have hbl5 := Bl_set BT.out (i * 2 + 1) (.int .i64 C)
      rw [HSET.out] at hbl5
      have hb5 := HBEL.out.setCell (p := ⟨w.heap.size, i * 2 + 1, none⟩) (Nat.le_refl _) (.int .i64 C)
      have HB5 := Lib.hid hb5
      have HL5 := Lib.hid hbl5
      clear hbl5 hb5 hv BT HBEL HSET HLEN K1 K2 K3 K4 HROW
      go_wp2
      go_roundw
      case rel => exact ⟨i + 1, hlt, by go_num, by rw [← HL2.out]; exact HL5.out, HB5.out⟩
      case measure => simp [intOf]; omega
    · obtain rfl : i = n := by omega
      rw [HN.out, mix_all, ← HN.out] at hbl
      have HBL := Lib.hid hbl
      have HBEL := Lib.hid hbel
      clear hbl hbel
      go_wp2
      go_ret
      exact ⟨rfl, HBL.out, HBEL.out⟩
end Sh
end Go.Proofs.YtjpgadiobgbchaaDoor
