/-
  Layer 7: the landed package's isValue and valid.
-/
import Derived.Test.YtjpgadiobgbchaaDoorShareLand
import Derived.Test.YtjpgadiobgbchaaDoorShareMap
import Derived.WalkSpells
namespace Go.Proofs.YtjpgadiobgbchaaDoor
open Go.RowKit Go.Maps
namespace Sh
attribute [local go_sem] S3.B_size S3.B_app S3.B_list
def isV (y : Int) : Prop := 0 ≤ y ∧ y < 2305843009213693951
instance (y : Int) : Decidable (isV y) := inferInstanceAs (Decidable (_ ∧ _))

set_option maxHeartbeats 4000000 in
set_option maxRecDepth 100000 in
theorem pval_any (y : Int) (w : World) : Calls Tryd.prog 23 #[.int .i64 y] w fun e w' => e = .returned (.bool (decide (isV y))) ∧ w' = w := by
  by_cases h1 : 0 ≤ y
  · by_cases h2 : y < 2305843009213693951
    · rw [decide_eq_true (show isV y from ⟨h1, h2⟩)]
      go_enter Tryd.func23, Tryd.ntmps23
      go_wp2
      go_ret
      exact ⟨rfl, rfl⟩
    · rw [decide_eq_false (show ¬ isV y from fun h => h2 h.2)]
      go_enter Tryd.func23, Tryd.ntmps23
      go_wp2
      go_ret
      exact ⟨rfl, rfl⟩
  · rw [decide_eq_false (show ¬ isV y from fun h => h1 h.1)]
    go_enter Tryd.func23, Tryd.ntmps23
    go_wp2
    go_ret
    exact ⟨rfl, rfl⟩

set_option maxHeartbeats 8000000 in
set_option maxRecDepth 100000 in
theorem pvalid_any (A : Option Addr) (l : List (Int × Int)) (cap : Nat) (w : World) (hr : Rw w A l) (hn : l.length ≤ 1000) :
    Calls Tryd.prog 29 #[.slice A l.length cap] w fun e w' => e = .returned (.bool (validB l)) ∧ Below w.heap.size w w' := by
  obtain ⟨b, hb⟩ : ∃ b, b = validB l := ⟨_, rfl⟩
  rw [← hb]
  have HB := Lib.hid hb
  have HR := Lib.hid hr
  have hnl : (l.length : Int) ≤ 1000 := by omega
  have hmm := @run_makeMap Tryd.prog
  clear hb hr
  go_enter Tryd.func29, Tryd.ntmps29
  go_wp2
  go_loopw [9] (fun vi wr => ∃ i : Nat, i ≤ l.length ∧ vi = .int .i64 (i : Int) ∧ (∀ j, j < i → okAt l j) ∧ Mp wr w.heap.size i ((l.take i).map (·.1)) ∧ Below w.heap.size w wr) (fun vi _ => l.length - (intOf vi).toNat)
  case atStart => exact ⟨0, by omega, rfl, fun j hj => by omega, Mp.made w, (Below.refl _ _).alloc (Nat.le_refl _) _⟩
  case round =>
    obtain ⟨i, hi, rfl, hok, hmp, hbel⟩ := hrel
    have HMP := Lib.hid hmp
    have HBEL := Lib.hid hbel
    have HOK := Lib.hid hok
    clear hmp hok
    by_cases hlt : i < l.length
    · have hlt' : (i : Int) < (l.length : Int) := by omega
      obtain ⟨a, rfl, hab, hx, hy⟩ := row_at (HR.out.row.below hbel) hlt
      rw [← px_get hlt] at hx
      rw [← py_get hlt] at hy
      obtain ⟨x, hxd⟩ : ∃ x, x = px l i := ⟨_, rfl⟩
      obtain ⟨y, hyd⟩ : ∃ y, y = py l i := ⟨_, rfl⟩
      rw [← hxd] at hx
      rw [← hyd] at hy
      have HX := Lib.hid hxd
      have HY := Lib.hid hyd
      clear hxd hyd hbel hab
      by_cases h0 : x = 0
      · obtain rfl : b = false := by rw [HB.out]; exact validB_false hlt fun h => by have := h.1; rw [← HX.out] at this; omega
        go_wp2
        go_ret
        exact ⟨rfl, HBEL.out.alloc HBEL.out.size _⟩
      by_cases h1 : isV x
      rotate_left
      · have hx0 : (x == 0) = false := by simpa using h0
        have hv1 : decide (isV x) = false := decide_eq_false h1
        obtain rfl : b = false := by rw [HB.out]; exact validB_false hlt fun h => by have := h.1; rw [← HX.out] at this; exact h1 ⟨by omega, by omega⟩
        go_wp2_with fail
        refine (pval_any _ _).mono ?_
        rintro e wq ⟨rfl, hq⟩
        obtain rfl := hq.symm
        clear hq
        rw [hv1]
        go_wp2
        go_ret
        exact ⟨rfl, HBEL.out.alloc HBEL.out.size _⟩
      by_cases h2 : isV y
      rotate_left
      · have hx0 : (x == 0) = false := by simpa using h0
        have hv1 : decide (isV x) = true := decide_eq_true h1
        have hv2 : decide (isV y) = false := decide_eq_false h2
        obtain rfl : b = false := by rw [HB.out]; exact validB_false hlt fun h => by have := h.2.1; rw [← HY.out] at this; exact h2 ⟨by omega, by omega⟩
        go_wp2_with fail
        refine (pval_any _ _).mono ?_
        rintro e wq ⟨rfl, hq⟩
        obtain rfl := hq.symm
        clear hq
        rw [hv1]
        go_wp2_with fail
        refine (pval_any _ _).mono ?_
        rintro e wq ⟨rfl, hq⟩
        obtain rfl := hq.symm
        clear hq
        rw [hv2]
        go_wp2
        go_ret
        exact ⟨rfl, HBEL.out.alloc HBEL.out.size _⟩
      by_cases h3 : x ∈ (l.take i).map (·.1)
      · have hx0 : (x == 0) = false := by simpa using h0
        have hv1 : decide (isV x) = true := decide_eq_true h1
        have hv2 : decide (isV y) = true := decide_eq_true h2
        have hi64 : S4.isI64 x := by unfold isV at h1; unfold S4.isI64; omega
        have hlk := (HMP.out.alloc (.cells #[.int .i64 x, .int .i64 y] 38)).look hi64
        rw [decide_eq_true h3] at hlk
        have hno : ¬ okAt l i := by
          intro h
          obtain ⟨p, hp, hpx⟩ := List.mem_map.1 h3
          obtain ⟨j, hj, hpj⟩ := List.mem_iff_getElem.1 hp
          have hji : j < i := by rw [List.length_take] at hj; omega
          refine h.2.2 j hji ?_
          rw [← HX.out, ← hpx, px_get (by omega), ← hpj, List.getElem_take]
        obtain rfl : b = false := by rw [HB.out]; exact validB_false hlt hno
        clear hno
        go_wp2_with fail
        refine (pval_any _ _).mono ?_
        rintro e wq ⟨rfl, hq⟩
        obtain rfl := hq.symm
        clear hq
        rw [hv1]
        go_wp2_with fail
        refine (pval_any _ _).mono ?_
        rintro e wq ⟨rfl, hq⟩
        obtain rfl := hq.symm
        clear hq
        rw [hv2]
        go_wp2
        go_ret
        exact ⟨rfl, HBEL.out.alloc HBEL.out.size _⟩
      · have hx0 : (x == 0) = false := by simpa using h0
        have hv1 : decide (isV x) = true := decide_eq_true h1
        have hv2 : decide (isV y) = true := decide_eq_true h2
        have hi64 : S4.isI64 x := by unfold isV at h1; unfold S4.isI64; omega
        have hlk := (HMP.out.alloc (.cells #[.int .i64 x, .int .i64 y] 38)).look hi64
        rw [decide_eq_false h3] at hlk
        have hnew : okAt l i := by
          refine ⟨by rw [← HX.out]; unfold isV at h1; omega, by rw [← HY.out]; unfold isV at h2; omega, fun k hk e => h3 ?_⟩
          rw [HX.out, ← e]
          refine List.mem_map.2 ⟨l[k]'(by omega), List.mem_iff_getElem.2 ⟨k, by rw [List.length_take]; omega, by rw [List.getElem_take]⟩, ?_⟩
          rw [px_get (by omega)]
        have e1 : (l.take (i + 1)).map (·.1) = (l.take i).map (·.1) ++ [x] := by
          rw [List.take_add_one, List.getElem?_eq_getElem hlt, List.map_append, HX.out, px_get hlt]
          rfl
        obtain ⟨xs, hxs⟩ : ∃ xs, xs = (l.take i).map (·.1) := ⟨_, rfl⟩
        rw [← hxs] at HMP e1
        have E1 := Lib.hid e1
        have HN := Lib.hid hnew
        have HI := Lib.hid hi64
        have hmu := (HMP.out.alloc (.cells #[.int .i64 x, .int .i64 y] 38)).own
        have HMU := Lib.hid hmu
        have HB2 := Lib.hid (HBEL.out.alloc HBEL.out.size (.cells #[.int .i64 x, .int .i64 y] 38))
        clear h3 hxs e1 hnew hi64 hmu HMP HBEL
        go_wp2_with fail
        refine (pval_any _ _).mono ?_
        rintro e wq ⟨rfl, hq⟩
        obtain rfl := hq.symm
        clear hq
        rw [hv1]
        go_wp2_with fail
        refine (pval_any _ _).mono ?_
        rintro e wq ⟨rfl, hq⟩
        obtain rfl := hq.symm
        clear hq
        rw [hv2]
        go_wp2_with (at_mapUpdate; refine wpList_mapUpdate_own _ rfl _ _ _ 57 rfl 3 4 mapLaw Tryd.underlying57 _ w.heap.size i _ rfl HMU.out (by unfold maxLen; omega) _ _ _ rfl rfl (key_in HI.out) _ [] (plainElem_bool Tryd.underlying4 true) ?_)
        intro w2 hown hgrow
        have HO := Lib.hid hown
        have HG := Lib.hid hgrow
        clear hown hgrow hlk
        go_wp2
        go_roundw
        case rel =>
          refine ⟨i + 1, hlt, by go_num, fun j hj => ?_, ⟨?_⟩, HB2.out.grown HG.out HB2.out.size (fun k hk => by cases hk; exact Nat.le_refl _)⟩
          · rcases Nat.lt_or_ge j i with h | h
            · exact HOK.out j h
            · obtain rfl : j = i := by omega
              exact HN.out
          · rw [E1.out, keysOn_snoc]
            exact HO.out
        case measure => simp [intOf]; omega
    · obtain rfl : i = l.length := by omega
      have hf : validB l = true := validB_true ((valid_iff l).2 HOK.out)
      rw [hf] at HB
      obtain rfl := HB.out
      go_wp2
      go_ret
      exact ⟨rfl, hbel⟩
end Sh
end Go.Proofs.YtjpgadiobgbchaaDoor
