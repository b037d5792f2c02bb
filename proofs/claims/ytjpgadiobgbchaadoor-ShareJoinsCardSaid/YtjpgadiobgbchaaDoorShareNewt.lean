/-
  Layer 7: Newton's form of the interpolation polynomial, in plain Lean: its terms one behind the other, and that it is Lagrange's.
-/
import Derived.Test.YtjpgadiobgbchaaDoorShareMath
namespace Go.Proofs.YtjpgadiobgbchaaDoor
namespace Sh
open S4

/-- The product of x - X over the first k terms. -/
def np (l : List (Int × Int)) (x : Int) : Nat → Int
  | 0 => 1
  | k + 1 => np l x k * (x - px l k)
/-- The value at x of the polynomial with the first k terms. -/
def nv (l : List (Int × Int)) (x : Int) : Nat → Int
  | 0 => 0
  | k + 1 => nv l x k + py l k * np l x k
theorem np_congr {l m : List (Int × Int)} (x : Int) : ∀ k, (∀ j, j < k → px l j = px m j) → np l x k = np m x k
  | 0, _ => rfl
  | k + 1, h => by rw [np, np, np_congr x k (fun j hj => h j (by omega)), h k (by omega)]
theorem nv_congr {l m : List (Int × Int)} (x : Int) : ∀ k, (∀ j, j < k → px l j = px m j ∧ py l j = py m j) → nv l x k = nv m x k
  | 0, _ => rfl
  | k + 1, h => by rw [nv, nv, nv_congr x k (fun j hj => h j (by omega)), np_congr x k (fun j hj => (h j (by omega)).1), (h k (by omega)).2]
theorem np_PF (l : List (Int × Int)) : ∀ k, PF (k + 1) (fun x => np l x k)
  | 0 => PF.const 1
  | k + 1 => ((np_PF l k).lin (px l k)).congr fun x => Cg.of_eq (by rw [np])
theorem nv_PF (l : List (Int × Int)) : ∀ k, PF k (fun x => nv l x k)
  | 0 => fun _ => Cg.refl 0
  | k + 1 => ((nv_PF l k).succ.add (PF.smul (py l k) (np_PF l k))).congr fun x => Cg.of_eq (by rw [nv])
theorem np_zero (l : List (Int × Int)) (j : Nat) : ∀ k, j < k → np l (px l j) k = 0
  | 0, h => by omega
  | k + 1, h => by
    rw [np]
    by_cases e : j = k
    · subst e
      simp
    · rw [np_zero l j k (by omega)]
      simp
theorem np_ne (l : List (Int × Int)) (x : Int) : ∀ k, (∀ j, j < k → ¬ Cg x (px l j)) → ¬ Cg (np l x k) 0
  | 0, _ => by unfold np; rw [cg_mod]; decide
  | k + 1, h => by
    intro hz
    rw [np] at hz
    rcases cg_prime hz with h1 | h1
    · exact np_ne l x k (fun j hj => h j (by omega)) h1
    · exact h k (by omega) (by unfold Cg at *; omega)
/-- The coefficient of the term for the share (x, y), behind the terms T. -/
def nc (T : List (Int × Int)) (x y : Int) : Int := (y - nv T x T.length % 2305843009213693951) % 2305843009213693951 * (invP (np T x T.length) : Nat) % 2305843009213693951
/-- The first k terms for the shares l. -/
def nt (l : List (Int × Int)) : Nat → List (Int × Int)
  | 0 => []
  | k + 1 => nt l k ++ [(px l k, nc (nt l k) (px l k) (py l k))]
theorem nt_len (l : List (Int × Int)) : ∀ k, (nt l k).length = k
  | 0 => rfl
  | k + 1 => by rw [nt, List.length_append, nt_len l k]; rfl
theorem pxy_left {l m : List (Int × Int)} {j : Nat} (h : j < l.length) : px (l ++ m) j = px l j ∧ py (l ++ m) j = py l j := by
  unfold px py
  rw [List.getD_eq_getElem?_getD, List.getD_eq_getElem?_getD, List.getElem?_append_left h]
  exact ⟨rfl, rfl⟩
theorem pxy_last (l : List (Int × Int)) (p : Int × Int) : px (l ++ [p]) l.length = p.1 ∧ py (l ++ [p]) l.length = p.2 := by
  unfold px py
  rw [List.getD_eq_getElem?_getD, List.getElem?_append_right (Nat.le_refl _), Nat.sub_self]
  exact ⟨rfl, rfl⟩
theorem nt_px (l : List (Int × Int)) : ∀ k j, j < k → px (nt l k) j = px l j
  | 0, _, h => by omega
  | k + 1, j, h => by
    rw [nt]
    by_cases e : j = k
    · subst e
      have h1 := (pxy_last (nt l j) (px l j, nc (nt l j) (px l j) (py l j))).1
      rw [nt_len] at h1
      exact h1
    · rw [(pxy_left (l := nt l k) (by rw [nt_len]; omega)).1]
      exact nt_px l k j (by omega)
theorem nt_thru {l : List (Int × Int)} (ha : Apart (l.map (·.1))) : ∀ k, k ≤ l.length → ∀ j, j < k → Cg (nv (nt l k) (px l j) k) (py l j)
  | 0, _, _, h => by omega
  | k + 1, hk, j, hj => by
    have ih := nt_thru ha k (by omega)
    have e1 : ∀ x, nv (nt l (k + 1)) x k = nv (nt l k) x k := fun x => nv_congr x k fun i hi => by
      rw [nt]
      exact pxy_left (by rw [nt_len]; exact hi)
    have e2 : ∀ x, np (nt l (k + 1)) x k = np (nt l k) x k := fun x => np_congr x k fun i hi => by
      rw [nt]
      exact (pxy_left (by rw [nt_len]; exact hi)).1
    have e3 : py (nt l (k + 1)) k = nc (nt l k) (px l k) (py l k) := by
      have h1 := (pxy_last (nt l k) (px l k, nc (nt l k) (px l k) (py l k))).2
      rw [nt_len] at h1
      exact h1
    rw [nv, e1, e2, e3]
    by_cases e : j = k
    · subst e
      have hne : ¬ Cg (np (nt l j) (px l j) j) 0 := np_ne _ _ _ fun i hi => by
        rw [nt_px l j i hi]
        exact apart_px ha (by omega) (by omega) (by omega)
      have hi := cg_inv hne
      unfold nc
      rw [nt_len]
      generalize nv (nt l j) (px l j) j = V at *
      generalize np (nt l j) (px l j) j = Q at *
      generalize py l j = Y at *
      generalize ((invP Q : Nat) : Int) = I at *
      have h1 : Cg ((Y - V % 2305843009213693951) % 2305843009213693951) (Y - V) := (cg_res _).trans ((Cg.refl Y).sub (cg_res V))
      have h2 : Cg ((Y - V % 2305843009213693951) % 2305843009213693951 * I % 2305843009213693951) ((Y - V) * I) := (cg_res _).trans (h1.mul (Cg.refl I))
      have h3 : Cg ((Y - V % 2305843009213693951) % 2305843009213693951 * I % 2305843009213693951 * Q) ((Y - V) * I * Q) := h2.mul (Cg.refl Q)
      have h4 : Cg ((Y - V) * (Q * I)) ((Y - V) * 1) := (Cg.refl (Y - V)).mul hi
      have h5 : (Y - V) * I * Q = (Y - V) * (Q * I) := by grind
      have h6 := ((Cg.refl V).add (h3.trans ((Cg.of_eq h5).trans h4)))
      exact h6.trans (Cg.of_eq (by omega))
    · have h0 : np (nt l k) (px l j) k = 0 := by
        have h1 := np_zero (nt l k) j k (by omega)
        rw [nt_px l k j (by omega)] at h1
        exact h1
      rw [h0]
      exact (Cg.of_eq (by simp)).trans (ih j (by omega))
/-- Newton's form is Lagrange's polynomial. -/
theorem newton {l : List (Int × Int)} (ha : Apart (l.map (·.1))) (x : Int) : Cg (poly l x) (nv (nt l l.length) x l.length) :=
  poly_eq ha (f := fun x => nv (nt l l.length) x l.length) (nv_PF _ _) (fun p hp => by
    obtain ⟨j, hj, rfl⟩ := List.mem_iff_getElem.1 hp
    have h := nt_thru ha l.length (Nat.le_refl _) j hj
    have e1 : px l j = l[j].1 := by unfold px; rw [List.getD_eq_getElem?_getD, List.getElem?_eq_getElem hj]; rfl
    have e2 : py l j = l[j].2 := by unfold py; rw [List.getD_eq_getElem?_getD, List.getElem?_eq_getElem hj]; rfl
    rw [e1, e2] at h
    exact h) x
theorem nc_in (T : List (Int × Int)) (x y : Int) : 0 ≤ nc T x y ∧ nc T x y < 2305843009213693951 := by unfold nc; omega
/-- The first k shares turned into terms, in place. -/
def mix (l : List (Int × Int)) (k : Nat) : List (Int × Int) := nt l k ++ l.drop k
theorem mix_len (l : List (Int × Int)) (k : Nat) (h : k ≤ l.length) : (mix l k).length = l.length := by unfold mix; rw [List.length_append, nt_len, List.length_drop]; omega
theorem mix_zero (l : List (Int × Int)) : mix l 0 = l := by simp [mix, nt]
theorem mix_all (l : List (Int × Int)) : mix l l.length = nt l l.length := by simp [mix]
theorem mix_take (l : List (Int × Int)) (k : Nat) : (mix l k).take k = nt l k := by
  unfold mix
  have h := List.take_left (l₁ := nt l k) (l₂ := l.drop k)
  rw [nt_len] at h
  exact h
theorem mix_at (l : List (Int × Int)) (k : Nat) (h : k < l.length) : (mix l k)[k]? = some l[k] := by
  unfold mix
  rw [List.getElem?_append_right (by rw [nt_len]; exact Nat.le_refl _), nt_len, Nat.sub_self, List.getElem?_drop, Nat.add_zero, List.getElem?_eq_getElem h]
theorem mix_succ (l : List (Int × Int)) (k : Nat) (h : k < l.length) : mix l (k + 1) = (mix l k).set k (px l k, nc (nt l k) (px l k) (py l k)) := by
  unfold mix
  have e : l.drop k = l[k] :: l.drop (k + 1) := List.drop_eq_getElem_cons h
  rw [e, List.set_append_right _ _ (by rw [nt_len]; exact Nat.le_refl _), nt_len, Nat.sub_self, nt, List.set_cons_zero, List.append_assoc]
  rfl
end Sh
end Go.Proofs.YtjpgadiobgbchaaDoor
