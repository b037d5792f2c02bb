/-
  Layer 7: the landed package's Join, Fits and Split: what the package hands back.
-/
import Derived.Test.YtjpgadiobgbchaaDoorShareTrm
namespace Go.Proofs.YtjpgadiobgbchaaDoor
open Go.RowKit
namespace Sh
attribute [local go_sem] S3.B_size S3.B_app S3.B_list

theorem Rw_below {w w' : World} {A : Option Addr} {l : List (Int × Int)} (h : Rw w A l) (hb : Below w.heap.size w w') : Rw w' A l := h.step hb
theorem pvalid_at (A : Option Addr) (l : List (Int × Int)) (n cap : Nat) (w : World) (e : l.length = n) (hr : Rw w A l) (hn : n ≤ 1000) :
    Calls Tryd.prog 29 #[.slice A n cap] w fun e w' => e = .returned (.bool (validB l)) ∧ Below w.heap.size w w' := by
  subst e
  exact pvalid_any A l cap w hr hn
theorem pinterp_at (A : Option Addr) (l : List (Int × Int)) (n cap : Nat) (w : World) (e : l.length = n) (hr : Rw w A l) (h1 : 1 ≤ n) (hn : n ≤ 1000) (hv : Valid l) :
    Calls Tryd.prog 31 #[.slice A n cap] w fun e w' => e = .returned (.slice (some ⟨w.heap.size, 0, none⟩) n n) ∧ Lk.Bl w' w.heap.size (Sc (nt l n)) 38 ∧ Below w.heap.size w w' := by
  subst e
  exact pinterp_any A l cap w hr.row h1 hn hv
theorem newton_at {l : List (Int × Int)} {n : Nat} (e : l.length = n) (hv : Valid l) (x : Int) : nv (nt l n) x n % 2305843009213693951 = poly l x % 2305843009213693951 := by
  subst e
  exact cg_mod.1 (newton hv.apart x).symm

set_option maxHeartbeats 8000000 in
set_option maxRecDepth 100000 in
theorem pjoin_any (A : Option Addr) (l : List (Int × Int)) (c : Nat) (t : Int) (w : World) (hr : Rw w A l) (hn : l.length ≤ 100) (hc : l.length ≤ c) (ht : S4.isI64 t) :
    Calls Tryd.prog 12 #[.slice A l.length c, .int .i64 t] w fun e w' => e = .returned (.tuple #[.int .i64 (joinP l t).1, .bool (joinP l t).2]) ∧ Below w.heap.size w w' := by
  have hnl : (l.length : Int) ≤ 100 := by omega
  by_cases h1 : t < 1
  · have e : joinP l t = (0, false) := if_neg fun h => by omega
    rw [e]
    clear ht hr hc e
    go_enter Tryd.func12, Tryd.ntmps12
    go_wp2
    go_ret2
    exact ⟨rfl, Below.refl _ _⟩
  obtain ⟨T, rfl⟩ : ∃ T : Nat, t = (T : Int) := ⟨t.toNat, by omega⟩
  have g1 : (1 : Int) ≤ (T : Int) := by omega
  by_cases h2 : (l.length : Int) < (T : Int)
  · have e : joinP l (T : Int) = (0, false) := if_neg fun h => by omega
    rw [e]
    clear ht hr hc e h1
    go_enter Tryd.func12, Tryd.ntmps12
    go_wp2
    go_ret2
    exact ⟨rfl, Below.refl _ _⟩
  have hlen : (l.take T).length = T := by rw [List.length_take]; omega
  have hTc : (T : Int) ≤ (c : Int) := by omega
  have hTl : (T : Int) ≤ (l.length : Int) := by omega
  have k1 := fun w hr => pvalid_at A (l.take T) T c w hlen hr (by omega)
  by_cases h3 : Valid (l.take T)
  · have e : joinP l (T : Int) = (poly (l.take T) 0 % 2305843009213693951, true) := if_pos ⟨g1, hTl, h3⟩
    rw [e]
    rw [validB_true h3] at k1
    have k2 := fun w hr => pinterp_at A (l.take T) T c w hlen hr (by omega) (by omega) h3
    have hrow : ∀ W g, Lk.Bl W g (Sc (nt (l.take T) T)) 38 → S2.Row W W.heap.size (some ⟨g, 0, none⟩) (Sc (nt (l.take T) T)) := fun W g h => Bl_row h
    have k3 := fun w g hr => pterms_at (some ⟨g, 0, none⟩) (nt (l.take T) T) T T 0 w (nt_len _ T) hr (by omega) (nt_in h3 T (by omega)) (by unfold S4.isI64; omega)
    rw [newton_at hlen h3 0] at k3
    obtain ⟨V, hV⟩ : ∃ V, V = poly (l.take T) 0 % 2305843009213693951 := ⟨_, rfl⟩
    rw [← hV] at k3 ⊢
    obtain ⟨R, hR⟩ : ∃ R, R = np (nt (l.take T) T) 0 T % 2305843009213693951 := ⟨_, rfl⟩
    rw [← hR] at k3
    obtain ⟨M, hM⟩ : ∃ M, M = Sc (nt (l.take T) T) := ⟨_, rfl⟩
    rw [← hM] at k2 k3 hrow
    have HR := Lib.hid (hr.take T)
    have K1 := Lib.hid k1
    have K2 := Lib.hid k2
    have K3 := Lib.hid k3
    have HROW := Lib.hid hrow
    clear k1 k2 k3 hrow hr e hV hR hM ht h1 h2 h3 hlen
    go_enter Tryd.func12, Tryd.ntmps12
    go_wp2_with fail
    refine (K1.out w HR.out).mono ?_
    rintro e w1 ⟨rfl, hb1⟩
    replace HR := Lib.hid (HR.out.step hb1)
    have G := Lib.hid hb1
    clear hb1
    go_wp2_with fail
    refine (K2.out w1 HR.out).mono ?_
    rintro e w2 ⟨rfl, hbl, hb⟩
    have BT := Lib.hid hbl
    replace G := Lib.hid (G.out.trans (hb.mono G.out.size))
    clear hb hbl HR K1 K2
    go_wp2_with fail
    refine (K3.out w2 _ (HROW.out _ _ BT.out)).mono ?_
    rintro e w3 ⟨rfl, hb⟩
    replace G := Lib.hid (G.out.trans (hb.mono G.out.size))
    clear hb BT HROW K3
    go_wp2
    go_ret2
    exact ⟨rfl, G.out⟩
  · have e : joinP l (T : Int) = (0, false) := if_neg fun h => h3 h.2.2
    rw [e]
    have hf : validB (l.take T) = false := by unfold validB; exact decide_eq_false h3
    rw [hf] at k1
    have HR := Lib.hid (hr.take T)
    have K1 := Lib.hid k1
    clear k1 hr e ht h1 h2 h3 hf hlen
    go_enter Tryd.func12, Tryd.ntmps12
    go_wp2_with fail
    refine (K1.out w HR.out).mono ?_
    rintro e w1 ⟨rfl, hb1⟩
    have G := Lib.hid hb1
    clear hb1 K1 HR
    go_wp2
    go_ret2
    exact ⟨rfl, G.out⟩

theorem fit_all {l : List (Int × Int)} (hv : Valid l) {T : Nat} (h : l.length ≤ T) : Fit l T := ⟨poly l, (poly_PF l).mono h, poly_thru hv.apart⟩
theorem fit_newt {l : List (Int × Int)} (hv : Valid l) {T : Nat} (hlen : (l.take T).length = T) : Fit l T ↔ ∀ k, T + k < l.length → nv (nt (l.take T) T) (px l (T + k)) T % 2305843009213693951 = py l (T + k) := by
  rw [fit_iff hv.apart]
  have hn := fun x => newton_at hlen (hv.take T) x
  constructor
  · intro h k hk
    have h1 := h l[T + k] (by
      rw [List.mem_iff_getElem]
      exact ⟨k, by rw [List.length_drop]; omega, by rw [List.getElem_drop]⟩)
    have h2 := ((valid_iff l).1 hv (T + k) hk).2.1
    rw [hn, px_get hk, py_get hk]
    rw [py_get hk] at h2
    have h3 := cg_mod.1 h1
    omega
  · intro h p hp
    obtain ⟨k, hk, rfl⟩ := List.mem_iff_getElem.1 hp
    rw [List.length_drop] at hk
    have h1 := h k (by omega)
    rw [hn, px_get (by omega), py_get (by omega)] at h1
    rw [List.getElem_drop, ← h1]
    exact (cg_res _).symm

set_option maxHeartbeats 8000000 in
set_option maxRecDepth 100000 in
theorem pfits_any (A : Option Addr) (l : List (Int × Int)) (c : Nat) (t : Int) (w : World) (hr : Rw w A l) (hn : l.length ≤ 100) (hc : l.length ≤ c) (ht : S4.isI64 t) :
    Calls Tryd.prog 14 #[.slice A l.length c, .int .i64 t] w fun e w' => e = .returned (.bool (fitP l t)) ∧ Below w.heap.size w w' := by
  have hnl : (l.length : Int) ≤ 100 := by omega
  by_cases h1 : t < 1
  · have e : fitP l t = false := decide_eq_false fun h => by omega
    rw [e]
    clear ht hr hc e
    go_enter Tryd.func14, Tryd.ntmps14
    go_wp2
    go_ret
    exact ⟨rfl, Below.refl _ _⟩
  obtain ⟨T, rfl⟩ : ∃ T : Nat, t = (T : Int) := ⟨t.toNat, by omega⟩
  have g1 : (1 : Int) ≤ (T : Int) := by omega
  have k1 := fun w hr => pvalid_any A l c w hr (by omega)
  by_cases h3 : Valid l
  · rw [validB_true h3] at k1
    have K1 := Lib.hid k1
    by_cases h2 : (l.length : Int) ≤ (T : Int)
    · have e : fitP l (T : Int) = true := decide_eq_true ⟨g1, h3, fit_all h3 (by omega)⟩
      rw [e]
      have HR := Lib.hid hr
      clear k1 hr e ht h1 h3
      go_enter Tryd.func14, Tryd.ntmps14
      go_wp2_with fail
      refine (K1.out w HR.out).mono ?_
      rintro e w1 ⟨rfl, hb1⟩
      have G := Lib.hid hb1
      clear hb1 K1 HR
      go_wp2
      go_ret
      exact ⟨rfl, G.out⟩
    · have hTl : T < l.length := by omega
      have hTl' : (T : Int) < (l.length : Int) := by omega
      have hlen : (l.take T).length = T := by rw [List.length_take]; omega
      have hvt := h3.take T
      have k2 := fun w hr => pinterp_at A (l.take T) T c w hlen hr (by omega) (by omega) hvt
      have hrow : ∀ W g, Lk.Bl W g (Sc (nt (l.take T) T)) 38 → S2.Row W W.heap.size (some ⟨g, 0, none⟩) (Sc (nt (l.take T) T)) := fun W g h => Bl_row h
      have k3 := fun x hx w g hr => pterms_at (some ⟨g, 0, none⟩) (nt (l.take T) T) T T x w (nt_len _ T) hr (by omega) (nt_in hvt T (by omega)) hx
      have hfit : fitP l (T : Int) = true ↔ ∀ k, T + k < l.length → nv (nt (l.take T) T) (px l (T + k)) T % 2305843009213693951 = py l (T + k) := by
        unfold fitP
        rw [decide_eq_true_iff, Int.toNat_natCast, fit_newt h3 hlen]
        exact ⟨fun h => h.2.2, fun h => ⟨g1, h3, h⟩⟩
      obtain ⟨b, hb⟩ : ∃ b, b = fitP l (T : Int) := ⟨_, rfl⟩
      rw [← hb]
      rw [← hb] at hfit
      obtain ⟨N, hN⟩ : ∃ N, N = nt (l.take T) T := ⟨_, rfl⟩
      rw [← hN] at k2 k3 hrow hfit
      obtain ⟨a, rfl, hab, _⟩ := row_at hr.row hTl
      have hTc : (T : Int) ≤ (c : Int) := by omega
      have hTc' : ¬ ((c : Int) = (T : Int)) := by omega
      have hTc2 : ¬ (c = T) := by omega
      have HR := Lib.hid hr
      have HRT := Lib.hid (hr.take T)
      have K2 := Lib.hid k2
      have K3 := Lib.hid k3
      have HROW := Lib.hid hrow
      have HFIT := Lib.hid hfit
      have HV := Lib.hid h3
      clear k1 k2 k3 hrow hr hb hN ht h1 h2 h3 hlen hfit hvt hab
      go_enter Tryd.func14, Tryd.ntmps14
      go_wp2_with fail
      refine (K1.out w HR.out).mono ?_
      rintro e w1 ⟨rfl, hb1⟩
      have G := Lib.hid hb1
      clear hb1 K1
      go_wp2_with fail
      refine (K2.out w1 (HRT.out.step G.out)).mono ?_
      rintro e w2 ⟨rfl, hbl, hb⟩
      have BT := Lib.hid hbl
      replace G := Lib.hid (G.out.trans (hb.mono G.out.size))
      generalize w1.heap.size = g at *
      clear hb hbl HRT K2
      go_wp2
      go_loopw [29] (fun vi wr => ∃ i : Nat, i ≤ l.length - T ∧ vi = .int .i64 (i : Int) ∧ (∀ k, k < i → nv N (px l (T + k)) T % 2305843009213693951 = py l (T + k)) ∧ Lk.Bl wr g (Sc N) 38 ∧ Below w.heap.size w wr) (fun vi _ => l.length - T - (intOf vi).toNat)
      case atStart => exact ⟨0, by omega, rfl, fun k hk => by omega, BT.out, G.out⟩
      case round =>
        obtain ⟨i, hi, rfl, hok, hbl, hbel⟩ := hrel
        clear BT G
        have HOK := Lib.hid hok
        clear hok
        by_cases hlt : i < l.length - T
        · have hlt' : (i : Int) < ((l.length - T : Nat) : Int) := by omega
          have hil : T + i < l.length := by omega
          obtain ⟨_, e, hab, cx, cy⟩ := row_at (HR.out.row.below hbel) hil
          cases e
          rw [show (T + i) * 2 = T * 2 + i * 2 by omega, ← Go.Deep.add_add] at cx cy
          rw [← px_get hil] at cx
          rw [← py_get hil] at cy
          have hx := ((valid_iff l).1 HV.out (T + i) hil).1
          have hxi : S4.isI64 (px l (T + i)) := by unfold S4.isI64; omega
          obtain ⟨Z, hZ⟩ : ∃ Z, Z = nv N (px l (T + i)) T % 2305843009213693951 := ⟨_, rfl⟩
          have k3 := K3.out (px l (T + i)) hxi
          rw [← hZ] at k3
          obtain ⟨RR, hRR⟩ : ∃ Z, Z = np N (px l (T + i)) T % 2305843009213693951 := ⟨_, rfl⟩
          rw [← hRR] at k3
          have HZ := Lib.hid hZ
          obtain ⟨X, hX⟩ : ∃ z, z = px l (T + i) := ⟨_, rfl⟩
          obtain ⟨Y, hY⟩ : ∃ z, z = py l (T + i) := ⟨_, rfl⟩
          rw [← hX] at cx k3
          rw [← hY] at cy
          have HY := Lib.hid hY
          have KK := Lib.hid k3
          have BT := Lib.hid (hbl.alloc (.cells #[.int .i64 X, .int .i64 Y] 38))
          have HBEL := Lib.hid (hbel.alloc hbel.size (.cells #[.int .i64 X, .int .i64 Y] 38))
          have BS := Lib.hid (Lk.Bl.new wr [.int .i64 X, .int .i64 Y] 38)
          clear hZ k3 hRR hX hY hx hxi hbl hbel hab
          go_wp2_with fail
          generalize wr.heap.size = gs at *
          generalize wr.alloc (.cells #[.int .i64 X, .int .i64 Y] 38) = w3 at *
          clear cx cy
          refine (KK.out _ _ (HROW.out _ _ BT.out)).mono ?_
          rintro e w4 ⟨rfl, hb⟩
          replace BT := Lib.hid (BT.out.step hb)
          replace BS := Lib.hid (BS.out.step hb)
          replace HBEL := Lib.hid (HBEL.out.trans (hb.mono HBEL.out.size))
          clear hb KK
          have c1 := BS.out.c 1 _ rfl
          by_cases hzy : Z = Y
          · have hne : (Z != Y) = false := by simp [hzy]
            have HN := Lib.hid (show nv N (px l (T + i)) T % 2305843009213693951 = py l (T + i) by rw [← HZ.out, ← HY.out]; exact hzy)
            clear hzy
            go_wp2
            go_roundw
            case rel => exact ⟨i + 1, by omega, by go_num, fun k hk => by
              rcases Nat.lt_or_ge k i with h | h
              · exact HOK.out k h
              · obtain rfl : k = i := by omega
                exact HN.out, BT.out, HBEL.out⟩
            case measure => simp [intOf]; omega
          · have hne : (Z != Y) = true := by simp [hzy]
            obtain rfl : b = false := by
              cases b with
              | false => rfl
              | true =>
                have h := HFIT.out.1 rfl i hil
                rw [← HZ.out, ← HY.out] at h
                exact absurd h hzy
            clear hzy
            go_wp2
            go_ret
            exact ⟨rfl, HBEL.out⟩
        · obtain rfl : b = true := HFIT.out.2 fun k hk => HOK.out k (by omega)
          obtain rfl : i = l.length - T := by omega
          have HBEL := Lib.hid hbel
          clear hbel hbl
          go_wp2
          go_ret
          exact ⟨rfl, HBEL.out⟩
  · have e : fitP l (T : Int) = false := decide_eq_false fun h => h3 h.2.1
    rw [e]
    have hf : validB l = false := by unfold validB; exact decide_eq_false h3
    rw [hf] at k1
    have HR := Lib.hid hr
    have K1 := Lib.hid k1
    clear k1 hr e ht h1 h3 hf
    go_enter Tryd.func14, Tryd.ntmps14
    go_wp2_with fail
    refine (K1.out w HR.out).mono ?_
    rintro e w1 ⟨rfl, hb1⟩
    have G := Lib.hid hb1
    clear hb1 K1 HR
    go_wp2
    go_ret
    exact ⟨rfl, G.out⟩

/-! ### Split -/
theorem wpList_store_part {P : Program} {ops : Array Oper} {rest : List Oper} {o : Oper} {a : Act} {w : World} {Q : Exit → Act → World → Prop} (hgd : o.guard = none) (ty : TypeId) (x y : Operand) (ho : o.op = .store ty x y)
    (g k : Nat) (cells : Array Value) (hx : a.eval x = .pointer (some ⟨g, k, none⟩)) (hy : a.eval y = .agg cells)
    (t : TypeId) (old : List Value) (hg : Lk.Bl w g old t) (hi : (P.info? ty).map (·.size) = some cells.size)
    (hfit : k + cells.size ≤ old.length) (h1 : cells.all (·.oneCell') = true)
    (new : List Value) (hnew : old.take k ++ cells.toList ++ old.drop (k + cells.size) = new) (B : Nat) (w0 : World) (hb : Below B w0 w) (hBg : B ≤ g)
    (h : ∀ w', Lk.Bl w' g new t → Below B w0 w' → Below g w w' → wpList P ops Q rest (a.put o.dst undef) w') : wpList P ops Q (o :: rest) a w :=
  wpList_plain hgd fun _ hK => by
    have hst := run_storeCells_at P g k t cells.toList 0 old.toArray w hg.row (by simpa using hfit) (fun v hv => (Array.all_eq_true_iff_forall_mem.1 h1) v (by simpa using hv))
    have hrun : (storeVar ty ⟨g, k, none⟩ (.agg cells)).run P w = .ok () (w.setRow g new.toArray) := by
      rw [← hnew]
      cases hq : P.info? ty with
      | none => simp [hq] at hi
      | some i =>
        have hs : cells.size = i.size := by simp [hq] at hi; omega
        simp only [Nat.add_zero, Array.length_toList] at hst
        simp [storeVar, sizeOf, typeInfo, hq, Value.cells, hs] at hst ⊢
        exact hst
    unfold Oper.wp execOp
    simp only [ho, hx, hy, Instr.storeAt, Instr.sureAddr, Sem.run_bind, Sem.run_pure, Result.andThen_ok, hrun]
    have hs2 : ∀ C, C ≤ g → Below C w (w.setRow g new.toArray) := fun C hC => ⟨rfl, rfl, rfl, by simp [World.setRow], fun k hk => setRow_other w g k _ (by omega)⟩
    exact hK _ _ (h _ ⟨setRow_heap w g _ _ t _ hg.row⟩ (hb.trans (hs2 B hBg)) (hs2 g (Nat.le_refl _)))
theorem infoPair (a b : Value) : (Tryd.prog.info? 38).map (·.size) = some (#[a, b] : Array Value).size := by
  show (Tryd.prog.info? 38).map (·.size) = some 2
  kernel_rfl
/-- The first i shares, and noughts. -/
def fill (c : List Int) (N i : Nat) : List Value := Sc (shares c i) ++ List.replicate ((N - i) * 2) (.int .i64 0)
theorem fill_len (c : List Int) (N i : Nat) (h : i ≤ N) : (fill c N i).length = N * 2 := by
  unfold fill
  rw [List.length_append, Sc_len, shares_len, List.length_replicate]
  omega
theorem fill_zero (c : List Int) (N : Nat) : List.replicate (N * 2) (Value.int .i64 0) = fill c N 0 := rfl
theorem fill_all (c : List Int) (N : Nat) : fill c N N = Sc (shares c N) := by simp [fill]
theorem fill_succ (c : List Int) (N i : Nat) (h : i < N) : (fill c N i).take (i * 2) ++ [.int .i64 ((i + 1 : Nat) : Int), .int .i64 (ev c ((i + 1 : Nat) : Int) % 2305843009213693951)] ++ (fill c N i).drop (i * 2 + 2) = fill c N (i + 1) := by
  have e : (Sc (shares c i)).length = i * 2 := by rw [Sc_len, shares_len]
  have e1 : (fill c N i).take (i * 2) = Sc (shares c i) := by
    unfold fill
    rw [← e]
    exact List.take_left
  have e2 : (fill c N i).drop (i * 2 + 2) = List.replicate ((N - (i + 1)) * 2) (.int .i64 0) := by
    unfold fill
    rw [List.drop_append, List.drop_eq_nil_of_le (by omega), e, List.drop_replicate, List.nil_append]
    congr 1
    omega
  rw [e1, e2, fill, shares_succ, Sc_append]
  rfl
theorem own_of {w : World} {base g n : Nat} {t : TypeId} {xs : List Value} (h : Lk.Bl w g xs t) (hb : base ≤ g) (hn : n ≤ 1000) (hl : xs.length = n * 2) : w.ownsRow base t 2 (.slice (some ⟨g, 0, none⟩) n n) n xs :=
  ⟨hl, .inr ⟨g, n, xs.toArray, rfl, hb, h.row, Nat.le_refl _, by unfold maxLen; omega, by simpa using hl, by rw [← hl]; simp⟩⟩

theorem peval_at (A : Option Addr) (cs : List Int) (n cap : Nat) (x : Int) (w : World) (hl : cs.length = n) (hr : S2.Row w w.heap.size A (S2.Zs cs)) (hn : n ≤ 1000) (hc : ∀ c ∈ cs, S4.isI64 c) (hx : S4.isI64 x) :
    Calls Tryd.prog 25 #[.slice A n cap, .int .i64 x] w fun e w' => e = .returned (.int .i64 (ev cs x % 2305843009213693951)) ∧ Below w.heap.size w w' := by
  subst hl
  exact peval_any A cs cap x w hr hn hc hx

set_option maxHeartbeats 8000000 in
set_option maxRecDepth 100000 in
theorem psplit_no (s t n : Int) (x : List UInt8) (w : World) (h : ¬ SplitOk s t n) :
    Calls Tryd.prog 9 #[.int .i64 s, .int .i64 t, .int .i64 n, .string (S3.B x)] w fun e w' => (∃ (A : Option Addr) (c : Nat), e = .returned (.tuple #[.slice A 0 c, .bool false])) ∧ Below w.heap.size w w' := by
  have fin : ∀ {e : Ending} {w' : World}, (e = .returned (.tuple #[.slice none 0 0, .bool false]) ∧ Below w.heap.size w w') → (∃ (A : Option Addr) (c : Nat), e = .returned (.tuple #[.slice A 0 c, .bool false])) ∧ Below w.heap.size w w' := fun h => ⟨⟨none, 0, h.1⟩, h.2⟩
  refine Calls.mono ?_ (fun _ _ h => fin h)
  clear fin
  by_cases h1 : t < 1
  · clear h
    go_enter Tryd.func9, Tryd.ntmps9
    go_wp2
    go_ret2
    exact ⟨rfl, Below.refl _ _⟩
  by_cases h2 : n < t
  · clear h
    go_enter Tryd.func9, Tryd.ntmps9
    go_wp2
    go_ret2
    exact ⟨rfl, Below.refl _ _⟩
  by_cases h3 : 64 < n
  · clear h
    go_enter Tryd.func9, Tryd.ntmps9
    go_wp2
    go_ret2
    exact ⟨rfl, Below.refl _ _⟩
  have h4 : ¬ isV s := fun hv => h ⟨by omega, by omega, by omega, hv.1, hv.2⟩
  have hv1 : decide (isV s) = false := decide_eq_false h4
  clear h h4
  go_enter Tryd.func9, Tryd.ntmps9
  go_wp2_with fail
  refine (pval_any _ _).mono ?_
  rintro e wq ⟨rfl, hq⟩
  obtain rfl := hq.symm
  clear hq
  rw [hv1]
  go_wp2
  go_ret2
  exact ⟨rfl, Below.refl _ _⟩

set_option maxHeartbeats 8000000 in
set_option maxRecDepth 100000 in
theorem psplit_yes (s : Int) (T N : Nat) (x : List UInt8) (w : World) (hW : S3.Laid w) (hx : x.length ≤ 1000) (h1 : 1 ≤ T) (h2 : T ≤ N) (h3 : N ≤ 64) (h4 : 0 ≤ s) (h5 : s < 2305843009213693951) :
    Calls Tryd.prog 9 #[.int .i64 s, .int .i64 (T : Int), .int .i64 (N : Int), .string (S3.B x)] w fun e w' => (∃ (A : Option Addr) (c : Nat), e = .returned (.tuple #[.slice A N c, .bool true]) ∧ w'.ownsRow w.heap.size 38 2 (.slice A N c) N (Sc (shares (coefs s x T) N))) ∧ Below w.heap.size w w' := by
  have g1 : (1 : Int) ≤ (T : Int) := by omega
  have g2 : (T : Int) ≤ (N : Int) := by omega
  have g3 : (N : Int) ≤ 64 := by omega
  have hv1 : decide (isV s) = true := decide_eq_true ⟨h4, h5⟩
  have k1 := pcoefs_any s T x w hW hx h1 (by omega)
  have hci := rawc_in (show S4.isI64 s by unfold S4.isI64; omega) x T
  have hcl := rawc_len s x T
  have hev := fun z => ev_rawc s x T z
  generalize rawc s x T = rc at *
  generalize coefs s x T = cs at *
  have K1 := Lib.hid k1
  have HCI := Lib.hid hci
  have HCL := Lib.hid hcl
  have HEV := Lib.hid hev
  clear k1 hci hcl hev hW hx h4 h5
  go_enter Tryd.func9, Tryd.ntmps9
  go_wp2_with fail
  refine (pval_any _ _).mono ?_
  rintro e wq ⟨rfl, hq⟩
  obtain rfl := hq.symm
  clear hq
  rw [hv1]
  go_wp2_with fail
  refine K1.out.mono ?_
  rintro e w1 ⟨rfl, hbl, hb⟩
  have BC := Lib.hid hbl
  have HGE := Lib.hid hbl.lt
  have G := Lib.hid hb
  clear hbl hb K1
  go_wp2_with (at_make; refine wpList_make_row rfl _ _ 22 rfl 38 (.agg #[.int .i64 0, .int .i64 0]) 2 16 Tryd.underlying22 infoShare N rfl rfl (by omega) (by omega) _ (made_two N) ?_)
  intro w2 hbl hb
  rw [fill_zero cs N] at hbl
  replace BC := Lib.hid (BC.out.step hb)
  replace G := Lib.hid (G.out.trans (hb.mono G.out.size))
  have BT := Lib.hid hbl
  generalize w1.heap.size = g at *
  clear hbl hb
  go_wp2
  go_loopw [37] (fun vi wr => ∃ i : Nat, i ≤ N ∧ vi = .int .i64 (i : Int) ∧ Lk.Bl wr w.heap.size (S2.Zs rc) 3 ∧ Lk.Bl wr g (fill cs N i) 38 ∧ Below w.heap.size w wr) (fun vi _ => N - (intOf vi).toNat)
  case atStart => exact ⟨0, by omega, rfl, BC.out, BT.out, G.out⟩
  case round =>
    obtain ⟨i, hi, rfl, hbc, hbt, hbel⟩ := hrel
    clear BC BT G
    by_cases hlt : i < N
    · have hlt' : (i : Int) < (N : Int) := by omega
      obtain ⟨X, hX⟩ : ∃ X : Int, X = ((i + 1 : Nat) : Int) := ⟨_, rfl⟩
      have k1 := fun W hr => peval_at (some ⟨w.heap.size, 0, none⟩) rc T T X W HCL.out hr (by omega) HCI.out (by unfold S4.isI64; omega)
      rw [HEV.out] at k1
      have hfs := fill_succ cs N i hlt
      rw [← hX] at hfs
      obtain ⟨y, hy⟩ : ∃ y, y = ev cs X % 2305843009213693951 := ⟨_, rfl⟩
      rw [← hy] at k1 hfs
      have hfl := fill_len cs N i hi
      have hX' : (i : Int) + 1 = X := by omega
      obtain ⟨L, hL⟩ : ∃ L, L = fill cs N i := ⟨_, rfl⟩
      obtain ⟨L2, hL2⟩ : ∃ L, L = fill cs N (i + 1) := ⟨_, rfl⟩
      rw [← hL] at hbt hfs hfl
      rw [← hL2] at hfs
      have KK := Lib.hid k1
      have HFS := Lib.hid hfs
      have HFL := Lib.hid hfl
      have HL2 := Lib.hid hL2
      have BC := Lib.hid hbc
      have BT := Lib.hid hbt
      have HBEL := Lib.hid hbel
      clear k1 hfs hfl hL hL2 hbc hbt hbel hy hX
      go_wp2_with fail
      refine (KK.out _ (Bl_row BC.out)).mono ?_
      rintro e w3 ⟨rfl, hb⟩
      replace BC := Lib.hid (BC.out.step hb)
      replace BT := Lib.hid (BT.out.step hb)
      replace HBEL := Lib.hid (HBEL.out.trans (hb.mono HBEL.out.size))
      clear hb KK
      go_wp2_with (refine wpList_store_part rfl 38 _ _ rfl g (i * 2) #[.int .i64 X, .int .i64 y] rfl rfl 38 L BT.out (infoPair _ _) (by rw [HFL.out]; show i * 2 + 2 ≤ N * 2; omega) (by simp [Value.oneCell']) L2 HFS.out w.heap.size w HBEL.out (Nat.le_of_lt HGE.out) ?_)
      intro w4 hbt hb hbg
      have BT4 := Lib.hid hbt
      replace HBEL := Lib.hid hb
      replace BC := Lib.hid (show Lk.Bl w4 w.heap.size (S2.Zs rc) 3 from ⟨(hbg.block _ HGE.out).trans BC.out.row⟩)
      clear hbt hb hbg BT HFS HFL
      go_wp2
      go_roundw
      case rel => exact ⟨i + 1, hlt, by go_num, BC.out, by rw [← HL2.out]; exact BT4.out, HBEL.out⟩
      case measure => simp [intOf]; omega
    · obtain rfl : i = N := by omega
      rw [fill_all] at hbt
      have BT := Lib.hid hbt
      have HBEL := Lib.hid hbel
      clear hbt hbel hbc
      go_wp2
      go_ret2
      exact ⟨⟨_, _, rfl, own_of BT.out (Nat.le_of_lt HGE.out) (by omega) (by rw [Sc_len, shares_len])⟩, HBEL.out⟩

theorem landed : Landed where
  splitNo s t n x w _ _ _ _ _ h := psplit_no s t n x w h
  splitYes s T N x w hW hx h1 h2 h3 h4 h5 := psplit_yes s T N x w hW hx h1 h2 h3 h4 h5
  join A l c t w hr hn hc ht := pjoin_any A l c t w hr hn hc ht
  fits A l c t w hr hn hc ht := pfits_any A l c t w hr hn hc ht
end Sh
end Go.Proofs.YtjpgadiobgbchaaDoor
