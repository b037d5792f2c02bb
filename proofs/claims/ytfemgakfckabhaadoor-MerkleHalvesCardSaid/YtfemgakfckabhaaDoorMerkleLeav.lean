/-
  Layer 8: the law's leaves; the reference's Clash.
-/
import Derived.Test.YtfemgakfckabhaaDoorMerkleSame
namespace Go.Proofs.YtfemgakfckabhaaDoor
open Go.RowKit
namespace Mk
attribute [local go_sem] S3.B_size S3.B_app S3.B_list S3.B_drop' S3.B_take

theorem At.grown {W w w' : World} {base : Nat} {v : Value} {l : List Str} (hW : S3.Laid W) (h : Lk.At W w) (ho : Own w base v l) (hb : W.heap.size ≤ base) (hg : w.grownBy w' v.ownBlock) : Lk.At W w' :=
  Lk.At.from hW (h.bel.grown hg h.bel.size (fun k hk => Nat.le_trans hb (ho.ge k hk)))
/-- What leaves hands back. -/
def LeavesP (W : World) (l : List Str) (e : Ending) (w' : World) : Prop :=
  (Short 40 l ∧ ∃ (A : Option Addr) (c n : Nat), e = .returned (.tuple #[.slice A n c, .bool true]) ∧ n = l.length ∧ n ≤ c ∧ Own w' W.heap.size (.slice A n c) (l.map leaf) ∧ Below W.heap.size W w') ∨
  (¬ Short 40 l ∧ e = .returned (.tuple #[.slice none 0 0, .bool false]) ∧ Below W.heap.size W w')
theorem LeavesP.yes {W w' : World} {v : Value} {l : List Str} (h : Short 40 l) (ho : Own w' W.heap.size v (l.map leaf)) (hb : Below W.heap.size W w') : LeavesP W l (.returned (.tuple #[v, .bool true])) w' := by
  obtain ⟨A, c, rfl, hc⟩ := ho.sl
  rw [List.length_map] at hc ho ⊢
  exact .inl ⟨h, A, c, _, rfl, rfl, hc, ho, hb⟩
theorem LeavesP.no {W w' : World} {l : List Str} (h : ¬ Short 40 l) (hb : Below W.heap.size W w') : LeavesP W l (.returned (.tuple #[.slice none 0 0, .bool false])) w' := .inr ⟨h, rfl, hb⟩
/-- What the loop of leaves keeps. -/
def LeavesR (W : World) (l : List Str) (n : Nat) (o i : Value) (wr : World) : Prop :=
  ∃ k : Nat, i = .int .i64 (k : Int) ∧ k ≤ n ∧ (∀ j (hj : j < l.length), j < k → (l[j]).length ≤ 200) ∧ Own wr W.heap.size o ((l.take k).map leaf) ∧ Lk.At W wr

set_option maxHeartbeats 1000000 in
set_option maxRecDepth 100000 in
theorem leaves_any (A : Option Addr) (l : List Str) (c n : Nat) (w : World) (hW : S3.Laid w) (hn : n = l.length) (hr : Rs w A l) (hlen : l.length ≤ 140737488355328) (hsz : ∀ s ∈ l, s.length ≤ 140737488355328) :
    Calls Tryd.prog 20 #[.slice A n c] w (LeavesP w l) := by
  have hn2 : (n : Int) ≤ 140737488355328 := by omega
  have HN := Lib.hid hn
  have HR := Lib.hid hr
  have HZ := Lib.hid hsz
  have HW := Lib.hid hW
  clear hn hr hsz hlen hW
  by_cases h40 : 40 < n
  · have h : ¬ Short 40 l := fun h => by have := h.1; have := HN.out; omega
    have h40' : (40 : Int) < (n : Int) := by omega
    have P := Lib.hid (LeavesP.no h (Below.refl _ w))
    clear h
    go_enter Tryd.func20, Tryd.ntmps20
    go_wp2
    go_ret2
    exact P.out
  · have h40' : (n : Int) ≤ 40 := by omega
    have start : LeavesR w l n (.slice none 0 0) (.int .i64 0) w := ⟨0, rfl, by omega, fun j _ h => absurd h (by omega), Own.nil _ _, Lk.At.start HW.out⟩
    go_enter Tryd.func20, Tryd.ntmps20
    go_wp2
    go_loopw [4, 5] (fun o i wr => LeavesR w l n o i wr) (fun _ i _ => n - (intOf i).toNat)
    case atStart => exact start
    case round =>
      obtain ⟨k, rfl, hk, hall, ho, hat⟩ := hrel
      have HA := Lib.hid hall
      have O := Lib.hid ho
      have AT := Lib.hid hat
      clear hall ho hat start
      by_cases hlt : k < n
      · have hlt' : (k : Int) < n := by omega
        have hkl : k < l.length := by rw [← HN.out]; exact hlt
        obtain ⟨a, rfl⟩ := HR.out.some_ (by omega)
        have hc := (HR.out.step AT.out.bel).at_ hkl
        have hz := HZ.out _ (List.getElem_mem hkl)
        obtain ⟨x, hx⟩ : ∃ x, x = l[k] := ⟨_, rfl⟩
        rw [← hx] at hc hz
        have hz2 : (x.length : Int) ≤ 140737488355328 := by omega
        have HX := Lib.hid hx
        clear hx hz
        by_cases hle : x.length ≤ 200
        · have hle' : (x.length : Int) ≤ 200 := by omega
          go_wp2_with fail
          refine (leaf_any x wr AT.out.laid (by omega)).mono ?_
          rintro e w1 ⟨rfl, hb⟩
          have k1 : (l.take (k + 1)).map leaf = (l.take k).map leaf ++ [leaf x] := by
            rw [List.take_succ_eq_append_getElem hkl, List.map_append, ← HX.out]; rfl
          have K1 := Lib.hid k1
          have k2 : ((l.take k).map leaf).length ≤ 40 := by rw [List.length_map, List.length_take]; omega
          generalize leaf x = y at *
          generalize (l.take k).map leaf = q at *
          have O1 := Lib.hid (O.out.step hb)
          have AT1 := Lib.hid (AT.out.step hb)
          clear hb k1 O AT hc
          go_wp2_with (at_builtin; refine wpList_app rfl _ _ rfl (O1.out.alloc _) (Rs.lit w1 [y]) rfl rfl rfl (by rw [List.length_singleton]; omega) (AT1.out.alloc _).bel.size ?_)
          intro v' w2 ho hg
          have AT2 := Lib.hid (At.grown HW.out (AT1.out.alloc _) (O1.out.alloc _) (Nat.le_refl _) hg)
          have O2 := Lib.hid ho
          clear ho hg O1 AT1
          go_wp2
          go_roundw
          case rel =>
            refine ⟨k + 1, by go_num, by omega, fun j hj hjk => ?_, by rw [K1.out]; exact O2.out, AT2.out⟩
            by_cases e : j = k
            · subst e
              rw [← HX.out]
              exact hle
            · exact HA.out j hj (by omega)
          case measure => simp [intOf]; omega
        · have hle' : (200 : Int) < (x.length : Int) := by omega
          have h : ¬ Short 40 l := fun h => by
            have := h.2 _ (List.getElem_mem hkl)
            rw [← HX.out] at this
            omega
          have P := Lib.hid (LeavesP.no h AT.out.bel)
          clear h
          go_wp2
          go_ret2
          exact P.out
      · have hge : (n : Int) ≤ k := by omega
        have h : Short 40 l := by
          have := HN.out
          exact ⟨by omega, le_all fun j hj => HA.out j hj (by omega)⟩
        have e : l.take k = l := List.take_of_length_le (by have := HN.out; omega)
        have o := O.out
        rw [e] at o
        have P := Lib.hid (LeavesP.yes h o AT.out.bel)
        clear h e o
        go_wp2
        go_ret2
        exact P.out

/-! ### Clash -/
theorem NoClash.snoc {l : List Str} {x : Str} (h : NoClash l) (hx : ∀ y ∈ l, H x = H y → x = y) : NoClash (l ++ [x]) := by
  intro a ha b hb e
  rw [List.mem_append, List.mem_singleton] at ha hb
  rcases ha with ha | rfl <;> rcases hb with hb | rfl
  · exact h a ha b hb e
  · exact (hx a ha e.symm).symm
  · exact hx b hb e
  · rfl
instance (l : List Str) : Decidable (NoClash l) := inferInstanceAs (Decidable (∀ a ∈ l, ∀ b ∈ l, H a = H b → a = b))
def clashB (l : List Str) : Bool := decide (¬ NoClash l)
theorem clashB_iff (l : List Str) : clashB l = true ↔ ¬ NoClash l := by unfold clashB; exact decide_eq_true_iff
theorem clashB_true {l : List Str} {i k : Nat} (hi : i < l.length) (hk : k < l.length) (h1 : l[i] ≠ l[k]) (h2 : H l[i] = H l[k]) : clashB l = true := by
  refine (clashB_iff l).2 ?_
  exact fun h => h1 (h _ (List.getElem_mem hi) _ (List.getElem_mem hk) h2)
theorem clashB_false {l : List Str} (h : NoClash l) : clashB l = false := by
  exact Bool.eq_false_iff.2 fun e => (clashB_iff l).1 e h
theorem clash_or {l : List Str} {P : Prop} (h : NoClash l → P) : clashB l = true ∨ P := by
  by_cases hn : NoClash l
  · exact .inr (h hn)
  · left
    exact (clashB_iff l).2 hn
/-- What Clash's loop keeps. -/
def ClashR (W : World) (l : List Str) (n : Nat) (o i : Value) (wr : World) : Prop :=
  ∃ k : Nat, i = .int .i64 (k : Int) ∧ k ≤ n ∧ NoClash (l.take k) ∧ Own wr W.heap.size o ((l.take k).map H) ∧ Up W wr
def ClashI (W : World) (l : List Str) (i : Nat) (o j : Value) (wr : World) : Prop :=
  ∃ k : Nat, j = .int .i64 (k : Int) ∧ k ≤ i ∧ (∀ y ∈ l.take k, ∀ x, l[i]? = some x → H x = H y → x = y) ∧ Own wr W.heap.size o ((l.take (i + 1)).map H) ∧ Up W wr
theorem Up.drewN {W w : World} (h : Up W w) (n : Nat) : Up W (w.drewN n) := h.step (drewN_below _ _)
theorem Own.drewN {w : World} {base : Nat} {v : Value} {l : List Str} (h : Own w base v l) (n : Nat) : Own (w.drewN n) base v l := ⟨h.own⟩

set_option maxHeartbeats 1000000 in
set_option maxRecDepth 100000 in
theorem clash_any (A : Option Addr) (l : List Str) (c n : Nat) (w : World) (hn : n = l.length) (hr : Rs w A l) (hlen : l.length ≤ 10000) (hsz : ∀ s ∈ l, s.length ≤ 4000) :
    Calls Tryd.prog 25 #[.slice A n c] w fun e w' => e = .returned (.bool (clashB l)) ∧ Below w.heap.size w w' := by
  have hn2 : (n : Int) ≤ 10000 := by omega
  obtain ⟨b, hb⟩ : ∃ b, b = clashB l := ⟨_, rfl⟩
  rw [← hb]
  have HB := Lib.hid hb
  have HN := Lib.hid hn
  have HR := Lib.hid hr
  have HZ := Lib.hid hsz
  have start : ClashR w l n (.slice none 0 0) (.int .i64 0) w := ⟨0, rfl, by omega, fun a ha => by simp at ha, Own.nil _ _, Up.start w⟩
  clear hn hr hsz hlen hb
  go_enter Tryd.func25, Tryd.ntmps25
  go_wp2
  go_loopw [3, 4] (fun o i wr => ClashR w l n o i wr) (fun _ i _ => n - (intOf i).toNat)
  case atStart => exact start
  case round =>
    obtain ⟨i, rfl, hi, hnc, ho, hup⟩ := hrel
    have NC := Lib.hid hnc
    have O := Lib.hid ho
    have UP := Lib.hid hup
    clear hnc ho hup start
    by_cases hlt : i < n
    · have hlt' : (i : Int) < n := by omega
      have hkl : i < l.length := by rw [← HN.out]; exact hlt
      obtain ⟨a, rfl⟩ := HR.out.some_ (by omega)
      have hc := (HR.out.step UP.out.bel).at_ hkl
      have hz := HZ.out _ (List.getElem_mem hkl)
      obtain ⟨x, hx⟩ : ∃ x, x = l[i] := ⟨_, rfl⟩
      rw [← hx] at hc hz
      have HX := Lib.hid hx
      clear hx
      go_wp2_with fail
      refine (rsha_any x wr hz).mono ?_
      rintro e w1 ⟨rfl, hb⟩
      have k1 : (l.take (i + 1)).map H = (l.take i).map H ++ [H x] := by
        rw [List.take_succ_eq_append_getElem hkl, List.map_append, ← HX.out]; rfl
      have K1 := Lib.hid k1
      have k2 : ((l.take i).map H).length ≤ 10000 := by rw [List.length_map, List.length_take]; omega
      generalize hxh : H x = y at *
      generalize (l.take i).map H = q at *
      have HXH := Lib.hid hxh
      have O1 := Lib.hid (O.out.step hb)
      have UP1 := Lib.hid (UP.out.step hb)
      clear hb k1 O UP hc hxh hz
      go_wp2_with (at_builtin; refine wpList_app rfl _ _ rfl (O1.out.alloc _) (Rs.lit w1 [y]) rfl rfl rfl (by rw [List.length_singleton]; omega) (UP1.out.alloc _).bel.size ?_)
      intro v' w2 ho hg
      have UP2 := Lib.hid (Up.grown (UP1.out.alloc _) (O1.out.alloc _) (Nat.le_refl _) hg)
      rw [← K1.out] at ho
      obtain ⟨A3, n3, c3, rfl, hn3, hc3⟩ := ho.sl3
      rw [List.length_map, List.length_take] at hn3
      obtain rfl : n3 = i + 1 := by omega
      have st2 : ClashI w l i (.slice A3 (i + 1) c3) (.int .i64 0) w2 := ⟨0, rfl, by omega, fun y hy => by simp at hy, ho, UP2.out⟩
      have ST2 := Lib.hid st2
      clear ho hg O1 UP1 UP2 hn3 st2
      go_wp2
      go_loopw [5] (fun j wr => ClashI w l i (.slice A3 (i + 1) c3) j wr) (fun j _ => i - (intOf j).toNat)
      case atStart => exact ST2.out
      case round =>
        obtain ⟨k, rfl, hk, hno, ho, hup⟩ := hrel
        have NO := Lib.hid hno
        have O := Lib.hid ho
        have UP := Lib.hid hup
        clear hno ho hup
        by_cases hki : k < i
        · have hki' : (k : Int) < i := by omega
          have hk2 : k < l.length := by omega
          have hc1 := (HR.out.step UP.out.bel).at_ hkl
          have hc2 := (HR.out.step UP.out.bel).at_ hk2
          have ht : ((l.take (i + 1)).map H).length = i + 1 := by rw [List.length_map, List.length_take]; omega
          obtain ⟨a3, e3⟩ := O.out.rs.some_ (by omega)
          subst e3
          have hc4 := O.out.rs.at_ (k := i) (by omega)
          have hc5 := O.out.rs.at_ (k := k) (by omega)
          rw [List.getElem_map, List.getElem_take, ← HX.out, HXH.out] at hc4
          rw [List.getElem_map, List.getElem_take] at hc5
          rw [← HX.out] at hc1
          obtain ⟨z, hz⟩ : ∃ z, z = l[k] := ⟨_, rfl⟩
          rw [← hz] at hc2 hc5
          obtain ⟨v, hv⟩ : ∃ v, v = H z := ⟨_, rfl⟩
          rw [← hv] at hc5
          have HZ2 := Lib.hid hz
          have HV := Lib.hid hv
          clear hz hv ht
          by_cases hxz : x = z
          · subst hxz
            clear hc4 hc5
            go_wp2
            go_quiet (fail)
            go_wp2
            go_roundw
            case rel =>
              refine ⟨k + 1, by go_num, by omega, fun y hy x' hx' e => ?_, by first | exact O.out | exact O.out.drewN _ | exact O.out.drew, by first | exact UP.out | exact UP.out.drewN _⟩
              rw [List.take_succ_eq_append_getElem hk2, List.mem_append, List.mem_singleton] at hy
              rcases hy with hy | rfl
              · exact NO.out y hy x' hx' e
              · rw [List.getElem?_eq_getElem hkl] at hx'
                injection hx' with hx'
                rw [← hx', ← HX.out, HZ2.out]
            case measure => simp [intOf]; omega
          · obtain ⟨n1, n2⟩ := neq_str x z hxz
            have HNE := Lib.hid hxz
            clear hxz
            by_cases hyv : y = v
            · subst hyv
              have hT : b = true := by
                rw [HB.out]
                exact clashB_true (i := i) (k := k) hkl hk2 (fun e => HNE.out (by rw [HX.out, HZ2.out, e])) (by rw [← HX.out, ← HZ2.out, HXH.out, HV.out])
              subst hT
              go_wp2
              go_quiet (fail)
              go_wp2
              go_ret
              exact ⟨rfl, (UP.out.drewN _).bel⟩
            · obtain ⟨m1, m2⟩ := neq_str y v hyv
              have HNY := Lib.hid hyv
              clear hyv
              go_wp2
              go_quiet (fail)
              go_wp2
              go_roundw
              case rel =>
                refine ⟨k + 1, by go_num, by omega, fun y' hy x' hx' e => ?_, by first | exact O.out | exact O.out.drewN _ | exact O.out.drew, by first | exact UP.out | exact UP.out.drewN _⟩
                rw [List.take_succ_eq_append_getElem hk2, List.mem_append, List.mem_singleton] at hy
                rcases hy with hy | rfl
                · exact NO.out y' hy x' hx' e
                · rw [List.getElem?_eq_getElem hkl] at hx'
                  injection hx' with hx'
                  rw [← hx', ← HX.out, ← HZ2.out, HXH.out, ← HV.out] at e
                  exact absurd e HNY.out
              case measure => simp [intOf]; omega
        · obtain rfl : k = i := by omega
          go_wp2
          go_roundw
          case rel =>
            refine ⟨k + 1, by go_num, by omega, ?_, O.out, UP.out⟩
            rw [List.take_succ_eq_append_getElem hkl]
            exact NC.out.snoc fun y hy e => NO.out y hy _ (List.getElem?_eq_getElem hkl) e
          case measure => simp [intOf]; omega
    · have hge : (n : Int) ≤ i := by omega
      have hF : b = false := by
        rw [HB.out]
        refine clashB_false ?_
        have h := NC.out
        rw [List.take_of_length_le (by have := HN.out; omega)] at h
        exact h
      subst hF
      go_wp2
      go_ret
      exact ⟨rfl, UP.out.bel⟩
end Mk
end Go.Proofs.YtfemgakfckabhaaDoor
