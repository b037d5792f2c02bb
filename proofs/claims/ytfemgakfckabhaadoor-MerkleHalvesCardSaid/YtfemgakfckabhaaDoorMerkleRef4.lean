/-
  Layer 8: the reference's Climb and Roots, where there is a result.
-/
import Derived.Test.YtfemgakfckabhaaDoorMerkleRef3
namespace Go.Proofs.YtfemgakfckabhaaDoor
open Go.RowKit
namespace Mk
attribute [local go_sem] S3.B_size S3.B_app S3.B_list
def Gives3 (W : World) (r : Str) (l : List Str) (e : Ending) (w' : World) : Prop :=
  ∃ (A : Option Addr) (c n : Nat), e = .returned (.tuple #[.string (S3.B r), .slice A n c, .bool true]) ∧ n = l.length ∧ n ≤ c ∧ Own w' W.heap.size (.slice A n c) l ∧ Below W.heap.size W w'
theorem Gives3.mk_ {W w' : World} {v : Value} {r : Str} {l : List Str} (ho : Own w' W.heap.size v l) (hb : Below W.heap.size W w') : Gives3 W r l (.returned (.tuple #[.string (S3.B r), v, .bool true])) w' := by
  obtain ⟨A, c, rfl, hc⟩ := ho.sl
  exact ⟨A, c, l.length, rfl, rfl, hc, ho, hb⟩
def ClimbC (x : Str) (t : List Str) (i n : Nat) (r : Str) (ins : List Str) : Prop := ∀ (A : Option Addr) (c p : Nat) (zi zn : Int) (w : World), p = t.length → zi = (i : Int) → zn = (n : Int) → Rs w A t.reverse → p ≤ c →
  Calls Tryd.prog 23 #[.string (S3.B x), .int .i64 zi, .int .i64 zn, .slice A p c] w (Gives3 w r ins)
theorem last_of {w : World} {a : Addr} {t : List Str} {q : Str} (h : Rs w (some a) (t.reverse ++ [q])) : w.cell? (a.add t.length) = some (.string (S3.B q)) := by
  have hx := h.at_ (k := t.length) (by simp)
  have e : (t.reverse ++ [q])[t.length]'(by simp) = q := by
    rw [List.getElem_append_right (by simp)]; simp
  rw [e] at hx
  exact hx
theorem rest_of {w : World} {a : Addr} {t : List Str} {q : Str} (h : Rs w (some a) (t.reverse ++ [q])) : Rs w (some a) t.reverse := by
  have := h.take t.length
  rwa [List.take_append_of_le_length (by simp), List.take_of_length_le (by simp)] at this
theorem climbR_ins {x : Str} : ∀ (t : List Str) (i n : Nat) (r : Str × List Str), climbR x i n t = some r → r.2.length ≤ t.length
  | [], i, n, r, h => by
    unfold climbR at h
    split at h
    · cases h; simp
    · cases h
  | q :: t, i, n, r, h => by
    unfold climbR at h
    split at h
    · cases h
    split at h
    · obtain ⟨r', h', rfl⟩ := Option.map_eq_some_iff.1 h
      have := climbR_ins t _ _ _ h'
      simp; omega
    · obtain ⟨r', h', rfl⟩ := Option.map_eq_some_iff.1 h
      have := climbR_ins t _ _ _ h'
      simp; omega

set_option maxHeartbeats 8000000 in
set_option maxRecDepth 100000 in
theorem rclimb_any (x : Str) (hx : x.length ≤ 1000) : ∀ (t : List Str) (i n : Nat) (r : Str) (ins : List Str), t.length ≤ 200 → (∀ s ∈ t, s.length ≤ 1000) → 1 ≤ n → n ≤ 9223372036854775807 → i ≤ 9223372036854775807 → climbR x i n t = some (r, ins) → ClimbC x t i n r ins := by
  intro t
  induction t with
  | nil =>
    intro i n r ins _ _ _ _ hi h A c p zi zn w hp hzi hzn _ _
    subst hp hzi hzn
    unfold climbR at h
    split at h
    · next hn =>
      subst hn
      cases h
      have hi' : (i : Int) ≤ 9223372036854775807 := by omega
      clear hx
      go_enter Tryd.func23, Tryd.ntmps23
      go_wp2
      go_ret3
      exact .mk_ (Own.nil _ _) (Below.refl _ _)
    · cases h
  | cons q t ih =>
    intro i n r ins hl hs hn0 hn1 hi h A c p zi zn w hp hzi hzn hr hc
    subst hp hzi hzn
    rw [List.length_cons] at hc hl ⊢
    rw [List.reverse_cons] at hr
    obtain ⟨a, rfl⟩ := hr.some_ (by simp)
    have hcell := last_of hr
    have HR := Lib.hid (rest_of hr)
    have hq : q.length ≤ 1000 := hs q (by simp)
    have hl' : (t.length : Int) ≤ 200 := by omega
    have hlen := climbR_ins (x := x) t
    unfold climbR at h
    split at h
    · cases h
    next hne =>
    have h2 : 2 ≤ n := by omega
    have hk := sp_lt h2
    have hp := sp_pos n
    have ks := fun w => rsplit_any n w h2 hn1
    have KS := Lib.hid ks
    have hne1 : ((n : Int) == 1) = false := by simp; omega
    have hnI : (n : Int) ≤ 9223372036854775807 := by omega
    clear ks
    split at h
    · next hik =>
      have hik' : (i : Int) < (sp n : Int) := by omega
      obtain ⟨⟨r1, l1⟩, hr1, e⟩ := Option.map_eq_some_iff.1 h
      injection e with e1 e2
      subst e1 e2
      have k1 := fun w h => ih i (sp n) r1 l1 (by omega) (fun s h => hs s (by simp [h])) (by omega) (by omega) (by omega) hr1 (some a) c t.length (i : Int) (sp n : Int) w rfl (by omega) (by omega) h (by omega)
      have hr1l : r1.length ≤ 1000 := by
        rcases climbR_le _ _ _ _ hr1 with e | e
        · simp only at e; rw [e]; exact hx
        · simp only at e; omega
      have kn := fun w => rnode_any r1 q w (by omega) (by omega)
      have kp := fun w => rpre_any r1 q w (by omega) (by omega)
      have hl1 := hlen _ _ _ hr1
      simp only
      simp only at hl1
      generalize node r1 q = y at *
      generalize pre r1 q = p at *
      have K1 := Lib.hid k1
      have KN := Lib.hid kn
      have KP := Lib.hid kp
      clear k1 kn kp hr1 h ih hs hx hq hr1l hr
      generalize t.length = m at *
      generalize sp n = k at *
      clear hlen
      go_enter Tryd.func23, Tryd.ntmps23
      go_wp2_with fail
      refine (KS.out _).mono ?_
      rintro e' w1 ⟨rfl, rfl⟩
      go_wp2_with fail
      refine (K1.out _ HR.out).mono ?_
      rintro e w1 ⟨A1, c1, n1, rfl, hn1, hc1, ho, hb⟩
      have O := Lib.hid ho
      have UP := Lib.hid ((Up.start w).step hb)
      clear ho hb hn1 hc1 hcell
      go_wp2_with fail
      refine (KN.out _).mono ?_
      rintro e w2 ⟨rfl, hb⟩
      replace O := Lib.hid (O.out.step hb)
      replace UP := Lib.hid (UP.out.step hb)
      clear hb
      go_wp2_with fail
      refine (KP.out _).mono ?_
      rintro e' w3 ⟨rfl, rfl⟩
      go_wp2_with (at_builtin; refine wpList_app rfl _ _ rfl (O.out.alloc _) (Rs.lit w2 [p]) rfl rfl rfl (by rw [List.length_singleton]; omega) (UP.out.alloc _).bel.size ?_)
      intro v' w4 ho hg
      have UP2 := Lib.hid (Up.grown (UP.out.alloc _) (O.out.alloc _) (Nat.le_refl _) hg)
      have O2 := Lib.hid ho
      clear ho hg O UP
      go_wp2
      go_ret3
      exact .mk_ O2.out UP2.out.bel
    · next hik =>
      have hik' : (sp n : Int) ≤ (i : Int) := by omega
      obtain ⟨⟨r1, l1⟩, hr1, e⟩ := Option.map_eq_some_iff.1 h
      injection e with e1 e2
      subst e1 e2
      have k1 := fun w h => ih (i - sp n) (n - sp n) r1 l1 (by omega) (fun s h => hs s (by simp [h])) (by omega) (by omega) (by omega) hr1 (some a) c t.length ((i : Int) - (sp n : Int)) ((n : Int) - (sp n : Int)) w rfl (by omega) (by omega) h (by omega)
      have hr1l : r1.length ≤ 1000 := by
        rcases climbR_le _ _ _ _ hr1 with e | e
        · simp only at e; rw [e]; exact hx
        · simp only at e; omega
      have kn := fun w => rnode_any q r1 w (by omega) (by omega)
      have kp := fun w => rpre_any q r1 w (by omega) (by omega)
      have hl1 := hlen _ _ _ hr1
      simp only
      simp only at hl1
      generalize node q r1 = y at *
      generalize pre q r1 = p at *
      have K1 := Lib.hid k1
      have KN := Lib.hid kn
      have KP := Lib.hid kp
      clear k1 kn kp hr1 h ih hs hx hq hr1l hr
      generalize t.length = m at *
      generalize sp n = k at *
      clear hlen
      go_enter Tryd.func23, Tryd.ntmps23
      go_wp2_with fail
      refine (KS.out _).mono ?_
      rintro e' w1 ⟨rfl, rfl⟩
      go_wp2_with fail
      refine (K1.out _ HR.out).mono ?_
      rintro e w1 ⟨A1, c1, n1, rfl, hn1, hc1, ho, hb⟩
      have O := Lib.hid ho
      have UP := Lib.hid ((Up.start w).step hb)
      clear ho hb hn1 hc1 hcell
      go_wp2_with fail
      refine (KN.out _).mono ?_
      rintro e w2 ⟨rfl, hb⟩
      replace O := Lib.hid (O.out.step hb)
      replace UP := Lib.hid (UP.out.step hb)
      clear hb
      go_wp2_with fail
      refine (KP.out _).mono ?_
      rintro e' w3 ⟨rfl, rfl⟩
      go_wp2_with (at_builtin; refine wpList_app rfl _ _ rfl (O.out.alloc _) (Rs.lit w2 [p]) rfl rfl rfl (by rw [List.length_singleton]; omega) (UP.out.alloc _).bel.size ?_)
      intro v' w4 ho hg
      have UP2 := Lib.hid (Up.grown (UP.out.alloc _) (O.out.alloc _) (Nat.le_refl _) hg)
      have O2 := Lib.hid ho
      clear ho hg O UP
      go_wp2
      go_ret3
      exact .mk_ O2.out UP2.out.bel

end Mk
end Go.Proofs.YtfemgakfckabhaaDoor
