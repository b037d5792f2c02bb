/-
  Layer 8: the reference's Roots, where there are roots.
-/
import Derived.Test.YtfemgakfckabhaaDoorMerkleRef4
namespace Go.Proofs.YtfemgakfckabhaaDoor
open Go.RowKit
namespace Mk
attribute [local go_sem] S3.B_size S3.B_app S3.B_list
def Gives4 (W : World) (a b : Str) (l : List Str) (e : Ending) (w' : World) : Prop :=
  ∃ (A : Option Addr) (c n : Nat), e = .returned (.tuple #[.string (S3.B a), .string (S3.B b), .slice A n c, .bool true]) ∧ n = l.length ∧ n ≤ c ∧ Own w' W.heap.size (.slice A n c) l ∧ Below W.heap.size W w'
theorem Gives4.mk_ {W w' : World} {v : Value} {a b : Str} {l : List Str} (ho : Own w' W.heap.size v l) (hb : Below W.heap.size W w') : Gives4 W a b l (.returned (.tuple #[.string (S3.B a), .string (S3.B b), v, .bool true])) w' := by
  obtain ⟨A, c, rfl, hc⟩ := ho.sl
  exact ⟨A, c, l.length, rfl, rfl, hc, ho, hb⟩
theorem results4 {fn : Func} {t u v x : Tmp} (h : fn.results = #[.tmp t, .tmp u, .tmp v, .tmp x]) (tmps : Array Value) (P : Program) (w : World) :
    (results fn tmps).run P w = .ok (.tuple #[tmps.getD t undef, tmps.getD u undef, tmps.getD v undef, tmps.getD x undef]) w := by simp [results, h]
def RootsC (old : Str) (t : List Str) (m n : Nat) (mark : Bool) (a b : Str) (ins : List Str) : Prop := ∀ (A : Option Addr) (c p : Nat) (zm zn : Int) (w : World), p = t.length → zm = (m : Int) → zn = (n : Int) → Rs w A t.reverse → p ≤ c →
  Calls Tryd.prog 26 #[.int .i64 zm, .int .i64 zn, .string (S3.B old), .slice A p c, .bool mark] w (Gives4 w a b ins)
theorem rootsR_le {old : Str} {z : Nat} (hz : 32 ≤ z) (ho : old.length ≤ z) : ∀ (t : List Str) (m n : Nat) (mark : Bool) (r : Str × Str × List Str), (∀ s ∈ t, s.length ≤ z) → rootsR old m n t mark = some r → r.1.length ≤ z ∧ r.2.1.length ≤ z ∧ r.2.2.length ≤ 2 * t.length
  | [], m, n, mark, r, _, h => by
    unfold rootsR at h
    split at h
    · cases h; exact ⟨ho, ho, by simp⟩
    · cases h
  | q :: t, m, n, mark, r, hs, h => by
    unfold rootsR at h
    split at h
    · split at h
      · cases h; exact ⟨hs q (by simp), hs q (by simp), by simp⟩
      · cases h
    split at h
    · obtain ⟨r', hr, rfl⟩ := Option.map_eq_some_iff.1 h
      have := rootsR_le hz ho t _ _ _ _ (fun s h => hs s (by simp [h])) hr
      exact ⟨this.1, by rw [node_len]; exact hz, by simp; omega⟩
    · obtain ⟨r', hr, rfl⟩ := Option.map_eq_some_iff.1 h
      have := rootsR_le hz ho t _ _ _ _ (fun s h => hs s (by simp [h])) hr
      exact ⟨by rw [node_len]; exact hz, by rw [node_len]; exact hz, by simp; omega⟩

set_option maxHeartbeats 8000000 in
set_option maxRecDepth 100000 in
theorem rroots_any (old : Str) (ho : old.length ≤ 1000) : ∀ (t : List Str) (m n : Nat) (mark : Bool) (a b : Str) (ins : List Str), t.length ≤ 200 → (∀ s ∈ t, s.length ≤ 1000) → 1 ≤ m → m ≤ n → n ≤ 9223372036854775807 → rootsR old m n t mark = some (a, b, ins) → RootsC old t m n mark a b ins := by
  intro t
  induction t with
  | nil =>
    intro m n mark a b ins _ _ hm0 hmn hn1 h A c p zm zn w hp hzm hzn _ _
    subst hp hzm hzn
    unfold rootsR at h
    split at h
    · next hc =>
      obtain ⟨rfl, rfl⟩ := hc
      cases h
      clear ho
      go_enter Tryd.func26, Tryd.ntmps26
      go_wp2
      refine bodyPost_ret (v := .tuple #[.string (S3.B old), .string (S3.B old), .slice none 0 0, .bool true]) (by simp [results, Tryd.results26, go_sem]) rfl ?_
      exact .mk_ (Own.nil _ _) (Below.refl _ _)
    · cases h
  | cons q t ih =>
    intro m n mark a b ins hl hs hm0 hmn hn1 h A c p zm zn w hp hzm hzn hr hc
    subst hp hzm hzn
    rw [List.length_cons] at hc hl ⊢
    rw [List.reverse_cons] at hr
    obtain ⟨a, rfl⟩ := hr.some_ (by simp)
    have hcell := last_of hr
    have HR := Lib.hid (rest_of hr)
    have hq : q.length ≤ 1000 := hs q (by simp)
    have hl' : (t.length : Int) ≤ 200 := by omega
    have hnI : (n : Int) ≤ 9223372036854775807 := by omega
    unfold rootsR at h
    split at h
    · next hmn =>
      subst hmn
      split at h
      · next hc2 =>
        obtain ⟨rfl, rfl⟩ := hc2
        cases h
        simp only [List.length_nil] at hc hcell ⊢
        replace hcell : w.cell? a = some (.string (S3.B q)) := hcell
        clear ho ih hs hq hl hr hl'
        go_enter Tryd.func26, Tryd.ntmps26
        go_wp2
        refine bodyPost_ret (results4 rfl _ _ _) rfl ?_
        exact .mk_ (Own.nil _ _) (Below.refl _ _)
      · cases h
    next hne =>
    have h2 : 2 ≤ n := by omega
    have hk := sp_lt h2
    have hp := sp_pos n
    have ks := fun w => rsplit_any n w h2 hn1
    have KS := Lib.hid ks
    have hne1 : ((m : Int) == (n : Int)) = false := by simp; omega
    clear ks
    split at h
    · next hik =>
      have hik' : (m : Int) ≤ (sp n : Int) := by omega
      obtain ⟨⟨a1, b1, l1⟩, hr1, e⟩ := Option.map_eq_some_iff.1 h
      injection e with e1 e2
      injection e2 with e2 e3
      subst e1 e2 e3
      have k1 := fun w h => ih m (sp n) mark a1 b1 l1 (by omega) (fun s h => hs s (by simp [h])) (by omega) (by omega) (by omega) hr1 (some a) c t.length (m : Int) (sp n : Int) w rfl (by omega) (by omega) h (by omega)
      have hle := rootsR_le (z := 1000) (by omega) ho t _ _ _ _ (fun s h => hs s (by simp [h])) hr1
      obtain ⟨ha1, hb1, hl1⟩ := hle
      simp only at ha1 hb1 hl1
      have kn := fun w => rnode_any b1 q w (by omega) (by omega)
      have kp := fun w => rpre_any b1 q w (by omega) (by omega)
      simp only
      generalize node b1 q = y at *
      generalize pre b1 q = p at *
      have KN := Lib.hid kn
      have KP := Lib.hid kp
      clear kn kp
      have K1 := Lib.hid k1
      clear k1 hr1 h ih hs ho hq ha1 hb1 hr
      generalize t.length = l at *
      generalize sp n = k at *
      go_enter Tryd.func26, Tryd.ntmps26
      go_wp2_with fail
      refine (KS.out _).mono ?_
      rintro e' w1 ⟨rfl, rfl⟩
      go_wp2_with fail
      refine (K1.out _ HR.out).mono ?_
      rintro e w1 ⟨A1, c1, n1, rfl, hn1, hc1, ho, hb⟩
      have O := Lib.hid ho
      have UP := Lib.hid ((Up.start w).step hb)
      clear ho hb hn1 hc1 hcell
      go_wp2_with fail
      refine (KN.out _).mono ?_
      rintro e w2 ⟨rfl, hb⟩
      replace O := Lib.hid (O.out.step hb)
      replace UP := Lib.hid (UP.out.step hb)
      clear hb
      go_wp2_with fail
      refine (KP.out _).mono ?_
      rintro e' w3 ⟨rfl, rfl⟩
      go_wp2_with (at_builtin; refine wpList_app rfl _ _ rfl (O.out.alloc _) (Rs.lit w2 [p]) rfl rfl rfl (by simp; omega) (UP.out.alloc _).bel.size ?_)
      intro v' w4 ho hg
      have UP2 := Lib.hid (Up.grown (UP.out.alloc _) (O.out.alloc _) (Nat.le_refl _) hg)
      have O2 := Lib.hid ho
      clear ho hg O UP
      go_wp2
      refine bodyPost_ret (results4 rfl _ _ _) rfl ?_
      exact .mk_ O2.out UP2.out.bel
    · next hik =>
      have hik' : (sp n : Int) < (m : Int) := by omega
      obtain ⟨⟨a1, b1, l1⟩, hr1, e⟩ := Option.map_eq_some_iff.1 h
      injection e with e1 e2
      injection e2 with e2 e3
      subst e1 e2 e3
      have k1 := fun w h => ih (m - sp n) (n - sp n) false a1 b1 l1 (by omega) (fun s h => hs s (by simp [h])) (by omega) (by omega) (by omega) hr1 (some a) c t.length ((m : Int) - (sp n : Int)) ((n : Int) - (sp n : Int)) w rfl (by omega) (by omega) h (by omega)
      have hle := rootsR_le (z := 1000) (by omega) ho t _ _ _ _ (fun s h => hs s (by simp [h])) hr1
      obtain ⟨ha1, hb1, hl1⟩ := hle
      simp only at ha1 hb1 hl1
      have kn := fun w => rnode_any q a1 w (by omega) (by omega)
      have kp := fun w => rpre_any q a1 w (by omega) (by omega)
      have kn2 := fun w => rnode_any q b1 w (by omega) (by omega)
      have kp2 := fun w => rpre_any q b1 w (by omega) (by omega)
      simp only
      generalize node q a1 = y at *
      generalize pre q a1 = p at *
      generalize node q b1 = y2 at *
      generalize pre q b1 = p2 at *
      have KN := Lib.hid kn
      have KP := Lib.hid kp
      have KN2 := Lib.hid kn2
      have KP2 := Lib.hid kp2
      clear kn kp kn2 kp2
      have K1 := Lib.hid k1
      clear k1 hr1 h ih hs ho hq ha1 hb1 hr
      generalize t.length = l at *
      generalize sp n = k at *
      go_enter Tryd.func26, Tryd.ntmps26
      go_wp2_with fail
      refine (KS.out _).mono ?_
      rintro e' w1 ⟨rfl, rfl⟩
      go_wp2_with fail
      refine (K1.out _ HR.out).mono ?_
      rintro e w1 ⟨A1, c1, n1, rfl, hn1, hc1, ho, hb⟩
      have O := Lib.hid ho
      have UP := Lib.hid ((Up.start w).step hb)
      clear ho hb hn1 hc1 hcell
      go_wp2_with fail
      refine (KN.out _).mono ?_
      rintro e w2 ⟨rfl, hb⟩
      replace O := Lib.hid (O.out.step hb)
      replace UP := Lib.hid (UP.out.step hb)
      clear hb
      go_wp2_with fail
      refine (KN2.out _).mono ?_
      rintro e w5 ⟨rfl, hb⟩
      replace O := Lib.hid (O.out.step hb)
      replace UP := Lib.hid (UP.out.step hb)
      clear hb
      go_wp2_with fail
      refine (KP.out _).mono ?_
      rintro e' w3 ⟨rfl, rfl⟩
      go_wp2_with fail
      refine (KP2.out _).mono ?_
      rintro e' w3 ⟨rfl, rfl⟩
      go_wp2_with (at_builtin; refine wpList_app rfl _ _ rfl (O.out.alloc _) (Rs.lit w5 [p, p2]) rfl rfl rfl (by simp; omega) (UP.out.alloc _).bel.size ?_)
      intro v' w4 ho hg
      have UP2 := Lib.hid (Up.grown (UP.out.alloc _) (O.out.alloc _) (Nat.le_refl _) hg)
      have O2 := Lib.hid ho
      clear ho hg O UP
      go_wp2
      refine bodyPost_ret (results4 rfl _ _ _) rfl ?_
      exact .mk_ O2.out UP2.out.bel

end Mk
end Go.Proofs.YtfemgakfckabhaaDoor
