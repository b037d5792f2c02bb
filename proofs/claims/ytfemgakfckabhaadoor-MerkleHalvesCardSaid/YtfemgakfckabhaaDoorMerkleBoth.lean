/-
  Layer 8: the landed package: climbBoth, Extends.
-/
import Derived.Test.YtfemgakfckabhaaDoorMerkleClimb
namespace Go.Proofs.YtfemgakfckabhaaDoor
open Go.RowKit
namespace Mk
attribute [local go_sem] S3.B_size S3.B_app S3.B_list

theorem litN' : (⟨#[]⟩ : ByteArray) = S3.B [] := rfl
theorem results3' {fn : Func} {t u v : Tmp} (h : fn.results = #[.tmp t, .tmp u, .tmp v]) (tmps : Array Value) (P : Program) (w : World) :
    (results fn tmps).run P w = .ok (.tuple #[tmps.getD t undef, tmps.getD u undef, tmps.getD v undef]) w := by simp [results, h]
/-- What climbBoth hands back. -/
def rootsP (old : Str) : Nat → Nat → List Str → Bool → (Str × Str) × Bool
  | m, n, [], mark => if m = n ∧ mark = true then ((old, old), true) else (([], []), false)
  | m, n, q :: t, mark => if m = n ∧ mark = true then ((old, old), false) else if m = n then ((q, q), decide (t = [])) else
    if m ≤ sp n then (((rootsP old m (sp n) t mark).1.1, node (rootsP old m (sp n) t mark).1.2 q), (rootsP old m (sp n) t mark).2)
    else ((node q (rootsP old (m - sp n) (n - sp n) t false).1.1, node q (rootsP old (m - sp n) (n - sp n) t false).1.2), (rootsP old (m - sp n) (n - sp n) t false).2)
theorem rootsP_le {old : Str} (ho : old.length ≤ 1000) : ∀ (t : List Str) (m n : Nat) (mark : Bool), (∀ s ∈ t, s.length ≤ 1000) → (rootsP old m n t mark).1.1.length ≤ 1000 ∧ (rootsP old m n t mark).1.2.length ≤ 1000
  | [], m, n, mark, _ => by
    unfold rootsP
    split
    · exact ⟨ho, ho⟩
    · exact ⟨by simp, by simp⟩
  | q :: t, m, n, mark, hs => by
    unfold rootsP
    split
    · exact ⟨ho, ho⟩
    split
    · exact ⟨hs q (by simp), hs q (by simp)⟩
    split
    · exact ⟨(rootsP_le ho t _ _ _ (fun s h => hs s (by simp [h]))).1, by simp only [node_len]; omega⟩
    · exact ⟨by simp only [node_len]; omega, by simp only [node_len]; omega⟩
theorem rootsP_of {old : Str} : ∀ (t : List Str) (m n : Nat) (mark : Bool) (r : Str × Str × List Str), rootsR old m n t mark = some r → rootsP old m n t mark = ((r.1, r.2.1), true)
  | [], m, n, mark, r, h => by
    unfold rootsR at h
    unfold rootsP
    split at h
    · next hc => cases h; rw [if_pos hc]
    · cases h
  | q :: t, m, n, mark, r, h => by
    unfold rootsR at h
    unfold rootsP
    split at h
    · next hn =>
      split at h
      · next hc =>
        cases h
        rw [if_neg (by rw [hc.1]; simp), if_pos hn, decide_eq_true hc.2]
      · cases h
    next hn =>
    rw [if_neg (fun e => hn e.1), if_neg hn]
    split at h
    · next hk =>
      obtain ⟨r', h', rfl⟩ := Option.map_eq_some_iff.1 h
      rw [if_pos hk, rootsP_of t _ _ _ _ h']
    · next hk =>
      obtain ⟨r', h', rfl⟩ := Option.map_eq_some_iff.1 h
      rw [if_neg hk, rootsP_of t _ _ _ _ h']
theorem rootsP_yes {old : Str} : ∀ (t : List Str) (m n : Nat) (mark : Bool) (a b : Str), rootsP old m n t mark = ((a, b), true) → ∃ ins, rootsR old m n t mark = some (a, b, ins)
  | [], m, n, mark, a, b, h => by
    unfold rootsP at h
    unfold rootsR
    split at h
    · next hc => cases h; exact ⟨[], by rw [if_pos hc]⟩
    · cases h
  | q :: t, m, n, mark, a, b, h => by
    unfold rootsP at h
    unfold rootsR
    split at h
    · cases h
    next hc =>
    split at h
    · next hn =>
      injection h with h1 h2
      injection h1 with h1 h3
      subst h1 h3
      have hm : mark = false := by
        cases mark with
        | false => rfl
        | true => exact absurd ⟨hn, rfl⟩ hc
      exact ⟨[], by rw [if_pos hn, if_pos ⟨hm, of_decide_eq_true h2⟩]⟩
    next hn =>
    rw [if_neg hn]
    split at h
    · next hk =>
      injection h with h1 h2
      injection h1 with h1 h3
      obtain ⟨ins, e⟩ := rootsP_yes t m (sp n) mark _ _ (Prod.ext rfl h2)
      rw [if_pos hk, e]
      exact ⟨_, by rw [← h1, ← h3]; rfl⟩
    · next hk =>
      injection h with h1 h2
      injection h1 with h1 h3
      obtain ⟨ins, e⟩ := rootsP_yes t (m - sp n) (n - sp n) false _ _ (Prod.ext rfl h2)
      rw [if_neg hk, e]
      exact ⟨_, by rw [← h1, ← h3]; rfl⟩
def BothC (old : Str) (t : List Str) (m n : Nat) (mark : Bool) (r : (Str × Str) × Bool) : Prop := ∀ (A : Option Addr) (c p : Nat) (zm zn : Int) (w : World), p = t.length → zm = (m : Int) → zn = (n : Int) → Rs w A t.reverse → p ≤ c → S3.Laid w →
  Calls Tryd.prog 39 #[.int .i64 zm, .int .i64 zn, .string (S3.B old), .slice A p c, .bool mark] w fun e w' => e = .returned (.tuple #[.string (S3.B r.1.1), .string (S3.B r.1.2), .bool r.2]) ∧ Below w.heap.size w w'

set_option maxHeartbeats 8000000 in
set_option maxRecDepth 100000 in
theorem both_any (old : Str) (ho : old.length ≤ 1000) : ∀ (t : List Str) (m n : Nat) (mark : Bool), t.length ≤ 200 → (∀ s ∈ t, s.length ≤ 1000) → 1 ≤ m → m ≤ n → n ≤ 9223372036854775807 → BothC old t m n mark (rootsP old m n t mark) := by
  intro t
  induction t with
  | nil =>
    intro m n mark _ _ hm0 hmn hn1 A c p zm zn w hp hzm hzn _ _ _
    subst hp hzm hzn
    unfold rootsP
    have hnI : (n : Int) ≤ 9223372036854775807 := by omega
    by_cases h1 : m = n
    · subst h1
      cases mark with
      | true =>
        rw [if_pos ⟨rfl, rfl⟩]
        clear ho
        go_enter Tryd.func39, Tryd.ntmps39
        go_wp2
        refine bodyPost_ret (results3' rfl _ _ _) rfl ?_
        exact ⟨rfl, Below.refl _ _⟩
      | false =>
        rw [if_neg (by simp)]
        clear ho
        go_enter Tryd.func39, Tryd.ntmps39
        go_wp2
        refine bodyPost_ret (results3' rfl _ _ _) rfl ?_
        exact ⟨rfl, Below.refl _ _⟩
    · rw [if_neg (fun e => h1 e.1)]
      have hne1 : ((m : Int) == (n : Int)) = false := by simp; omega
      clear ho h1
      go_enter Tryd.func39, Tryd.ntmps39
      go_wp2
      refine bodyPost_ret (results3' rfl _ _ _) rfl ?_
      exact ⟨rfl, Below.refl _ _⟩
  | cons q t ih =>
    intro m n mark hl hs hm0 hmn hn1 A c p zm zn w hp hzm hzn hr hc hW
    subst hp hzm hzn
    rw [List.length_cons] at hc hl ⊢
    rw [List.reverse_cons] at hr
    obtain ⟨a, rfl⟩ := hr.some_ (by simp)
    have kc := cutLast_any a t.reverse q c w hr (by rw [List.length_reverse]; omega) (by rw [List.length_reverse]; omega)
    rw [List.length_reverse] at kc
    have KC := Lib.hid kc
    have HR := Lib.hid (rest_of' hr)
    have AT := Lib.hid (Lk.At.start hW)
    have hq : q.length ≤ 1000 := hs q (by simp)
    have hl' : (t.length : Int) ≤ 200 := by omega
    have hnI : (n : Int) ≤ 9223372036854775807 := by omega
    have hl2 : (((t.length + 1 : Nat) : Int) == 0) = false := by simp; omega
    clear kc hW
    unfold rootsP
    by_cases h1 : m = n
    · subst h1
      cases mark with
      | true =>
        rw [if_pos ⟨rfl, rfl⟩]
        clear ih hs hr hq ho
        generalize t.length = l at *
        go_enter Tryd.func39, Tryd.ntmps39
        go_wp2
        refine bodyPost_ret (results3' rfl _ _ _) rfl ?_
        exact ⟨rfl, AT.out.bel⟩
      | false =>
        rw [if_neg (by simp), if_pos rfl]
        have hd : decide (t = []) = ((t.length : Int) == 0) := by
          cases t with
          | nil => rfl
          | cons _ _ => simp; omega
        rw [hd]
        clear ih hs hr hq ho hd
        generalize t.length = l at *
        go_enter Tryd.func39, Tryd.ntmps39
        go_wp2_with fail
        refine KC.out.mono ?_
        rintro e w1 ⟨rfl, hb⟩
        replace AT := Lib.hid (AT.out.step hb)
        clear hb
        go_wp2
        refine bodyPost_ret (results3' rfl _ _ _) rfl ?_
        exact ⟨rfl, AT.out.bel⟩
    rw [if_neg (fun e => h1 e.1), if_neg h1]
    have h2 : 2 ≤ n := by omega
    have hk := sp_lt h2
    have hp := sp_pos n
    have ks := fun w => split_any n w h2 hn1
    have KS := Lib.hid ks
    have hne1 : ((m : Int) == (n : Int)) = false := by simp; omega
    clear ks
    by_cases hik : m ≤ sp n
    · rw [if_pos hik]
      have hik' : (m : Int) ≤ (sp n : Int) := by omega
      have k1 := fun w (h : Rs w (some a) t.reverse) (hW : S3.Laid w) => ih m (sp n) mark (by omega) (fun s h => hs s (by simp [h])) (by omega) (by omega) (by omega) (some a) t.length t.length (m : Int) (sp n : Int) w rfl (by omega) (by omega) h (by omega) hW
      have hle := rootsP_le ho t m (sp n) mark (fun s h => hs s (by simp [h]))
      obtain ⟨hle1, hle2⟩ := hle
      have kn := fun w hW => node_any (rootsP old m (sp n) t mark).1.2 q w hW (by omega) (by omega)
      simp only
      generalize rootsP old m (sp n) t mark = cp at *
      obtain ⟨⟨a1, b1⟩, ok⟩ := cp
      simp only at k1 kn ⊢
      generalize node b1 q = y at *
      have KN := Lib.hid kn
      clear kn
      have K1 := Lib.hid k1
      clear k1 ih hs ho hq hle1 hle2 hr
      generalize t.length = l at *
      generalize sp n = k at *
      go_enter Tryd.func39, Tryd.ntmps39
      go_wp2_with fail
      refine KC.out.mono ?_
      rintro e w1 ⟨rfl, hb⟩
      replace AT := Lib.hid (AT.out.step hb)
      clear hb
      go_wp2_with fail
      refine (KS.out _).mono ?_
      rintro e' w2 ⟨rfl, rfl⟩
      go_wp2_with fail
      refine (K1.out _ (HR.out.step AT.out.bel) AT.out.laid).mono ?_
      rintro e w3 ⟨rfl, hb⟩
      replace AT := Lib.hid (AT.out.step hb)
      clear hb
      go_wp2_with fail
      refine (KN.out _ AT.out.laid).mono ?_
      rintro e w4 ⟨rfl, hb⟩
      replace AT := Lib.hid (AT.out.step hb)
      clear hb
      go_wp2
      refine bodyPost_ret (results3' rfl _ _ _) rfl ?_
      exact ⟨rfl, AT.out.bel⟩
    · rw [if_neg hik]
      have hik' : (sp n : Int) < (m : Int) := by omega
      have k1 := fun w (h : Rs w (some a) t.reverse) (hW : S3.Laid w) => ih (m - sp n) (n - sp n) false (by omega) (fun s h => hs s (by simp [h])) (by omega) (by omega) (by omega) (some a) t.length t.length ((m : Int) - (sp n : Int)) ((n : Int) - (sp n : Int)) w rfl (by omega) (by omega) h (by omega) hW
      have hle := rootsP_le ho t (m - sp n) (n - sp n) false (fun s h => hs s (by simp [h]))
      obtain ⟨hle1, hle2⟩ := hle
      have kn := fun w hW => node_any q (rootsP old (m - sp n) (n - sp n) t false).1.1 w hW (by omega) (by omega)
      have kn2 := fun w hW => node_any q (rootsP old (m - sp n) (n - sp n) t false).1.2 w hW (by omega) (by omega)
      simp only
      generalize rootsP old (m - sp n) (n - sp n) t false = cp at *
      obtain ⟨⟨a1, b1⟩, ok⟩ := cp
      simp only at k1 kn kn2 ⊢
      generalize node q a1 = y at *
      generalize node q b1 = y2 at *
      have KN := Lib.hid kn
      have KN2 := Lib.hid kn2
      clear kn kn2
      have K1 := Lib.hid k1
      clear k1 ih hs ho hq hle1 hle2 hr
      generalize t.length = l at *
      generalize sp n = k at *
      go_enter Tryd.func39, Tryd.ntmps39
      go_wp2_with fail
      refine KC.out.mono ?_
      rintro e w1 ⟨rfl, hb⟩
      replace AT := Lib.hid (AT.out.step hb)
      clear hb
      go_wp2_with fail
      refine (KS.out _).mono ?_
      rintro e' w2 ⟨rfl, rfl⟩
      go_wp2_with fail
      refine (K1.out _ (HR.out.step AT.out.bel) AT.out.laid).mono ?_
      rintro e w3 ⟨rfl, hb⟩
      replace AT := Lib.hid (AT.out.step hb)
      clear hb
      go_wp2_with fail
      refine (KN.out _ AT.out.laid).mono ?_
      rintro e w4 ⟨rfl, hb⟩
      replace AT := Lib.hid (AT.out.step hb)
      clear hb
      go_wp2_with fail
      refine (KN2.out _ AT.out.laid).mono ?_
      rintro e w5 ⟨rfl, hb⟩
      replace AT := Lib.hid (AT.out.step hb)
      clear hb
      go_wp2
      refine bodyPost_ret (results3' rfl _ _ _) rfl ?_
      exact ⟨rfl, AT.out.bel⟩
end Mk
end Go.Proofs.YtfemgakfckabhaaDoor
