/-
  ShareMath, ShareMath2, ShareMath3: joined.
-/
import Derived.Test.YtjpgadiobgbchaaDoorGroupInv
/-
  Layer 7: polynomials modulo P in plain Lean: a polynomial function of a degree less than d is determined by its values at d points; Lagrange's formula is one.
-/
namespace Go.Proofs.YtjpgadiobgbchaaDoor
namespace Sh
open S4

/-- The same modulo P. -/
def Cg (a b : Int) : Prop := (2305843009213693951 : Int) ∣ a - b
theorem cg_mod {a b : Int} : Cg a b ↔ a % 2305843009213693951 = b % 2305843009213693951 := by unfold Cg; omega
theorem Cg.refl (a : Int) : Cg a a := by unfold Cg; omega
theorem Cg.of_eq {a b : Int} (h : a = b) : Cg a b := h ▸ Cg.refl a
theorem Cg.symm {a b : Int} (h : Cg a b) : Cg b a := by unfold Cg at *; omega
theorem Cg.trans {a b c : Int} (h : Cg a b) (k : Cg b c) : Cg a c := by unfold Cg at *; omega
theorem Cg.add {a b c d : Int} (h : Cg a b) (k : Cg c d) : Cg (a + c) (b + d) := by unfold Cg at *; omega
theorem Cg.sub {a b c d : Int} (h : Cg a b) (k : Cg c d) : Cg (a - c) (b - d) := by unfold Cg at *; omega
theorem Cg.mul {a b c d : Int} (h : Cg a b) (k : Cg c d) : Cg (a * c) (b * d) := by
  obtain ⟨m, hm⟩ := h
  obtain ⟨n, hn⟩ := k
  exact ⟨m * c + b * n, by grind⟩
theorem cg_res (a : Int) : Cg (a % 2305843009213693951) a := by unfold Cg; omega
theorem cg_prime {a b : Int} (h : Cg (a * b) 0) : Cg a 0 ∨ Cg b 0 := by
  rw [cg_mod, cg_mod] at *
  have e : a * b % 2305843009213693951 = (((a % 2305843009213693951).toNat * (b % 2305843009213693951).toNat % 2305843009213693951 : Nat) : Int) := by
    rw [Int.natCast_emod, Int.natCast_mul, Int.toNat_of_nonneg (Int.emod_nonneg _ (by decide)), Int.toNat_of_nonneg (Int.emod_nonneg _ (by decide)), Int.mul_emod]
    rfl
  rw [e] at h
  have h2 : (a % 2305843009213693951).toNat * (b % 2305843009213693951).toNat % Gp.P = 0 := by
    unfold Gp.P
    omega
  rcases Gp.no_zero h2 with h3 | h3
  · left
    unfold Gp.P at h3
    omega
  · right
    unfold Gp.P at h3
    omega
theorem cg_inv {a : Int} (h : ¬ Cg a 0) : Cg (a * (invP a : Nat)) 1 := by
  rw [cg_mod] at h
  have hn : (a % 2305843009213693951).toNat % Gp.P ≠ 0 := by
    unfold Gp.P
    omega
  have hu := Gp.unit_of hn
  unfold Gp.P at hu
  obtain ⟨q, hq⟩ : ∃ q, q = (a % 2305843009213693951).toNat ^ (Gp.N - 1) := ⟨_, rfl⟩
  obtain ⟨n, hn2⟩ : ∃ n : Nat, n = (a % 2305843009213693951).toNat := ⟨_, rfl⟩
  have ha : Cg a (n : Int) := by unfold Cg; omega
  have hi : Cg (invP a : Nat) (q : Int) := by
    unfold invP
    rw [← hq]
    unfold Cg
    omega
  rw [← hn2] at hq
  rw [← hn2, ← hq] at hu
  refine (ha.mul hi).trans ?_
  rw [cg_mod, ← Int.natCast_mul]
  omega

/-! ### Polynomial functions -/
/-- f is, modulo P, a polynomial function of a degree less than d. -/
def PF : Nat → (Int → Int) → Prop
  | 0, f => ∀ x, Cg (f x) 0
  | d + 1, f => ∃ (c : Int) (g : Int → Int), PF d g ∧ ∀ x, Cg (f x) (c + x * g x)
theorem PF.congr : ∀ {d : Nat} {f g : Int → Int}, PF d f → (∀ x, Cg (g x) (f x)) → PF d g
  | 0, _, _, h, e => fun x => (e x).trans (h x)
  | _ + 1, _, _, ⟨c, k, hk, h⟩, e => ⟨c, k, hk, fun x => (e x).trans (h x)⟩
theorem PF.zero : ∀ d : Nat, PF d (fun _ => 0)
  | 0 => fun _ => Cg.refl 0
  | d + 1 => ⟨0, fun _ => 0, PF.zero d, fun x => Cg.of_eq (by simp)⟩
theorem PF.succ : ∀ {d : Nat} {f : Int → Int}, PF d f → PF (d + 1) f
  | 0, _, h => ⟨0, fun _ => 0, fun _ => Cg.refl 0, fun x => by simpa using h x⟩
  | _ + 1, _, ⟨c, k, hk, h⟩ => ⟨c, k, hk.succ, h⟩
theorem PF.mono {d e : Nat} {f : Int → Int} (h : PF d f) (hd : d ≤ e) : PF e f := by
  induction hd with
  | refl => exact h
  | step _ ih => exact ih.succ
theorem PF.add : ∀ {d : Nat} {f g : Int → Int}, PF d f → PF d g → PF d (fun x => f x + g x)
  | 0, _, _, h, k => fun x => by simpa using (h x).add (k x)
  | _ + 1, _, _, ⟨c, p, hp, h⟩, ⟨e, q, hq, k⟩ => ⟨c + e, fun x => p x + q x, hp.add hq, fun x => ((h x).add (k x)).trans (Cg.of_eq (by grind))⟩
theorem PF.smul (a : Int) : ∀ {d : Nat} {f : Int → Int}, PF d f → PF d (fun x => a * f x)
  | 0, _, h => fun x => by simpa using (Cg.refl a).mul (h x)
  | _ + 1, _, ⟨c, p, hp, h⟩ => ⟨a * c, fun x => a * p x, PF.smul a hp, fun x => ((Cg.refl a).mul (h x)).trans (Cg.of_eq (by grind))⟩
theorem PF.const (c : Int) : PF 1 (fun _ => c) := ⟨c, fun _ => 0, fun _ => Cg.refl 0, fun x => Cg.of_eq (by simp)⟩
theorem PF.lin (a : Int) {d : Nat} {f : Int → Int} (h : PF d f) : PF (d + 1) (fun x => f x * (x - a)) := by
  have h1 : PF (d + 1) (fun x => x * f x) := ⟨0, f, h, fun x => Cg.of_eq (by grind)⟩
  exact (h1.add (PF.smul (-a) h.succ)).congr fun x => Cg.of_eq (by grind)
theorem PF.sub {d : Nat} {f g : Int → Int} (h : PF d f) (k : PF d g) : PF d (fun x => f x - g x) :=
  (h.add (PF.smul (-1) k)).congr fun x => Cg.of_eq (by grind)
/-- A root is split off. -/
theorem PF.split (r : Int) : ∀ {d : Nat} {f : Int → Int}, PF (d + 1) f → ∃ g, PF d g ∧ ∀ x, Cg (f x) (f r + (x - r) * g x)
  | 0, f, ⟨c, k, hk, h⟩ => by
    refine ⟨fun _ => 0, fun _ => Cg.refl 0, fun x => ?_⟩
    have hc : ∀ x, Cg (f x) c := fun x => (h x).trans (by
      have := (Cg.refl c).add ((Cg.refl x).mul (hk x))
      simpa using this)
    refine ((hc x).trans (hc r).symm).trans (Cg.of_eq (by simp))
  | d + 1, f, ⟨c, k, hk, h⟩ => by
    obtain ⟨q, hq, e⟩ := PF.split r hk
    refine ⟨fun x => k x + r * q x, hk.add (PF.smul r hq.succ), fun x => ?_⟩
    have h1 := h x
    have h2 := h r
    have h3 := e x
    obtain ⟨m1, h1⟩ := h1
    obtain ⟨m2, h2⟩ := h2
    obtain ⟨m3, h3⟩ := h3
    exact ⟨m1 - m2 + r * m3, by grind⟩
/-- Points that differ modulo P. -/
def Apart (xs : List Int) : Prop := xs.Pairwise fun a b => ¬ Cg a b
theorem roots : ∀ {d : Nat} {f : Int → Int} (xs : List Int), PF d f → Apart xs → d ≤ xs.length → (∀ r ∈ xs, Cg (f r) 0) → ∀ x, Cg (f x) 0
  | 0, _, _, h, _, _, _ => h
  | d + 1, f, [], _, _, hl, _ => by simp at hl
  | d + 1, f, r :: rs, h, ha, hl, hz => by
    obtain ⟨g, hg, e⟩ := h.split r
    have ha' := List.pairwise_cons.1 ha
    have hr := hz r (by simp)
    have hgz := roots rs hg ha'.2 (by simpa using hl) (fun s hs => by
      have h1 := e s
      have h2 := hz s (by simp [hs])
      have h3 : Cg ((s - r) * g s) 0 := by unfold Cg at *; omega
      rcases cg_prime h3 with h4 | h4
      · exact absurd (show Cg r s by unfold Cg at *; omega) (ha'.1 s hs)
      · exact h4)
    intro x
    have h1 := e x
    have h2 : Cg ((x - r) * g x) 0 := by simpa using (Cg.refl (x - r)).mul (hgz x)
    unfold Cg at *; omega
/-- f goes through the points. -/
def Thru (f : Int → Int) (l : List (Int × Int)) : Prop := ∀ p ∈ l, Cg (f p.1) p.2
theorem unique {d : Nat} {f g : Int → Int} {l : List (Int × Int)} (hf : PF d f) (hg : PF d g) (ha : Apart (l.map (·.1))) (hl : d ≤ l.length) (tf : Thru f l) (tg : Thru g l) (x : Int) : Cg (f x) (g x) := by
  have h := roots (l.map (·.1)) (hf.sub hg) ha (by simpa using hl) (fun r hr => by
    obtain ⟨p, hp, rfl⟩ := List.mem_map.1 hr
    have h1 := tf p hp
    have h2 := tg p hp
    unfold Cg at *; omega) x
  unfold Cg at *; omega

/-! ### Lagrange's formula -/
def px (l : List (Int × Int)) (k : Nat) : Int := (l.getD k (0, 0)).1
def py (l : List (Int × Int)) (k : Nat) : Int := (l.getD k (0, 0)).2
/-- The product of x - x(k) over all k below m but i. -/
def prod (l : List (Int × Int)) (i : Nat) (x : Int) : Nat → Int
  | 0 => 1
  | m + 1 => if m = i then prod l i x m else prod l i x m * (x - px l m)
theorem prod_PF (l : List (Int × Int)) (i : Nat) : ∀ m, PF (if i < m then m else m + 1) (fun x => prod l i x m)
  | 0 => by
    rw [if_neg (by omega)]
    exact PF.const 1
  | m + 1 => by
    have ih := prod_PF l i m
    by_cases h : m = i
    · subst h
      rw [if_neg (by omega)] at ih
      rw [if_pos (by omega)]
      exact ih.congr fun x => Cg.of_eq (by simp [prod])
    · by_cases h2 : i < m
      · rw [if_pos h2] at ih
        rw [if_pos (by omega)]
        exact (ih.lin (px l m)).congr fun x => Cg.of_eq (by simp [prod, h])
      · rw [if_neg h2] at ih
        rw [if_neg (by omega)]
        exact (ih.lin (px l m)).congr fun x => Cg.of_eq (by simp [prod, h])
theorem prod_zero (l : List (Int × Int)) (i j : Nat) (h : j ≠ i) : ∀ m, j < m → Cg (prod l i (px l j) m) 0
  | 0, hj => by omega
  | m + 1, hj => by
    by_cases hm : m = i
    · rw [prod, if_pos hm]
      exact prod_zero l i j h m (by omega)
    · rw [prod, if_neg hm]
      by_cases hjm : j = m
      · subst hjm
        exact Cg.of_eq (by simp)
      · have := (prod_zero l i j h m (by omega)).mul (Cg.refl (px l j - px l m))
        simpa using this
theorem prod_ne (l : List (Int × Int)) (i : Nat) (x : Int) : ∀ m, (∀ k, k < m → k ≠ i → ¬ Cg x (px l k)) → ¬ Cg (prod l i x m) 0
  | 0, _ => by unfold prod; rw [cg_mod]; decide
  | m + 1, h => by
    have ih := prod_ne l i x m (fun k hk => h k (by omega))
    by_cases hm : m = i
    · rw [prod, if_pos hm]
      exact ih
    · rw [prod, if_neg hm]
      intro hz
      rcases cg_prime hz with h1 | h1
      · exact ih h1
      · exact h m (by omega) hm (by unfold Cg at *; omega)
/-- A summand of Lagrange's formula. -/
def term (l : List (Int × Int)) (x : Int) (i : Nat) : Int := py l i * prod l i x l.length * (invP (prod l i (px l i) l.length) : Nat)
def lag (l : List (Int × Int)) (x : Int) : Nat → Int
  | 0 => 0
  | i + 1 => lag l x i + term l x i
theorem term_PF (l : List (Int × Int)) (i : Nat) (h : i < l.length) : PF l.length (fun x => term l x i) := by
  have h1 := prod_PF l i l.length
  rw [if_pos h] at h1
  exact (PF.smul (py l i * (invP (prod l i (px l i) l.length) : Nat)) h1).congr fun x => Cg.of_eq (by unfold term; grind)
theorem lag_PF (l : List (Int × Int)) : ∀ i, i ≤ l.length → PF l.length (fun x => lag l x i)
  | 0, _ => PF.zero _
  | i + 1, h => (lag_PF l i (by omega)).add (term_PF l i (by omega))
theorem apart_px {l : List (Int × Int)} (ha : Apart (l.map (·.1))) {i j : Nat} (hi : i < l.length) (hj : j < l.length) (h : i ≠ j) : ¬ Cg (px l i) (px l j) := by
  have hp := List.pairwise_iff_getElem.1 ha
  have e : ∀ k (hk : k < l.length), px l k = (l.map (·.1))[k]'(by simpa using hk) := fun k hk => by
    unfold px
    rw [List.getD_eq_getElem?_getD, List.getElem?_eq_getElem hk, List.getElem_map]
    rfl
  rw [e i hi, e j hj]
  rcases Nat.lt_or_ge i j with h1 | h1
  · exact hp i j (by simpa using hi) (by simpa using hj) h1
  · exact fun hc => hp j i (by simpa using hj) (by simpa using hi) (by omega) hc.symm
theorem term_at {l : List (Int × Int)} (ha : Apart (l.map (·.1))) {i j : Nat} (hi : i < l.length) (hj : j < l.length) : Cg (term l (px l j) i) (if j = i then py l i else 0) := by
  by_cases h : j = i
  · subst h
    rw [if_pos rfl]
    unfold term
    have hne := prod_ne l j (px l j) l.length (fun k hk hkj => apart_px ha hj hk (Ne.symm hkj))
    have h1 := cg_inv hne
    have h2 := (Cg.refl (py l j)).mul h1
    exact (Cg.of_eq (by grind)).trans (h2.trans (Cg.of_eq (by simp)))
  · rw [if_neg h]
    unfold term
    have h1 := prod_zero l i j h l.length hj
    have h2 := ((Cg.refl (py l i)).mul h1).mul (Cg.refl ((invP (prod l i (px l i) l.length) : Nat) : Int))
    simpa using h2
theorem lag_at {l : List (Int × Int)} (ha : Apart (l.map (·.1))) {j : Nat} (hj : j < l.length) : ∀ i, i ≤ l.length → Cg (lag l (px l j) i) (if j < i then py l j else 0)
  | 0, _ => by rw [if_neg (by omega)]; exact Cg.refl 0
  | i + 1, h => by
    have ih := lag_at ha hj i (by omega)
    have ht := term_at ha (i := i) (by omega) hj
    have hs := ih.add ht
    rw [lag]
    refine hs.trans (Cg.of_eq ?_)
    by_cases h1 : j < i
    · rw [if_pos h1, if_neg (by omega), if_pos (by omega)]; omega
    · by_cases h2 : j = i
      · subst h2
        rw [if_neg h1, if_pos rfl, if_pos (by omega)]; omega
      · rw [if_neg h1, if_neg h2, if_neg (by omega)]; omega
/-- Lagrange's polynomial. -/
def poly (l : List (Int × Int)) (x : Int) : Int := lag l x l.length
theorem poly_PF (l : List (Int × Int)) : PF l.length (poly l) := lag_PF l l.length (Nat.le_refl _)
theorem poly_thru {l : List (Int × Int)} (ha : Apart (l.map (·.1))) : Thru (poly l) l := by
  intro p hp
  obtain ⟨j, hj, rfl⟩ := List.mem_iff_getElem.1 hp
  have h := lag_at ha hj l.length (Nat.le_refl _)
  rw [if_pos hj] at h
  have e1 : px l j = l[j].1 := by unfold px; rw [List.getD_eq_getElem?_getD, List.getElem?_eq_getElem hj]; rfl
  have e2 : py l j = l[j].2 := by unfold py; rw [List.getD_eq_getElem?_getD, List.getElem?_eq_getElem hj]; rfl
  rw [e1, e2] at h
  exact h
/-- Whatever polynomial function goes through the points is Lagrange's. -/
theorem poly_eq {l : List (Int × Int)} (ha : Apart (l.map (·.1))) {f : Int → Int} (hf : PF l.length f) (tf : Thru f l) (x : Int) : Cg (poly l x) (f x) :=
  unique (poly_PF l) hf ha (by simp) (poly_thru ha) tf x
end Sh
end Go.Proofs.YtjpgadiobgbchaaDoor

/-
  Layer 7: what Split, Join and Fits return, in plain Lean, and what the laws say of it.
-/
namespace Go.Proofs.YtjpgadiobgbchaaDoor
namespace Sh
open S4

/-- A list of shares is valid. -/
structure Valid (l : List (Int × Int)) : Prop where
  x : ∀ p ∈ l, 1 ≤ p.1 ∧ p.1 < 2305843009213693951
  y : ∀ p ∈ l, 0 ≤ p.2 ∧ p.2 < 2305843009213693951
  one : l.Pairwise fun p q => p.1 ≠ q.1
theorem cg_eq {a b : Int} (h : Cg a b) (ha : 0 ≤ a ∧ a < 2305843009213693951) (hb : 0 ≤ b ∧ b < 2305843009213693951) : a = b := by
  unfold Cg at h; omega
theorem Valid.apart {l : List (Int × Int)} (h : Valid l) : Apart (l.map (·.1)) := by
  unfold Apart
  rw [List.pairwise_map]
  refine h.one.imp_of_mem fun {p q} hp hq hne hc => hne (cg_eq hc ?_ ?_)
  · have := h.x p hp; omega
  · have := h.x q hq; omega
theorem Valid.nil : Valid [] := ⟨fun _ h => by simp at h, fun _ h => by simp at h, List.Pairwise.nil⟩
theorem Valid.sub {l m : List (Int × Int)} (h : Valid l) (hs : m.Sublist l) : Valid m :=
  ⟨fun p hp => h.x p (hs.subset hp), fun p hp => h.y p (hs.subset hp), h.one.sublist hs⟩
theorem Valid.take {l : List (Int × Int)} (h : Valid l) (t : Nat) : Valid (l.take t) := h.sub (List.take_sublist t l)
theorem Valid.perm {l m : List (Int × Int)} (h : Valid l) (hp : m.Perm l) : Valid m :=
  ⟨fun p hm => h.x p (hp.subset hm), fun p hm => h.y p (hp.subset hm), (hp.pairwise_iff (fun {_ _} => Ne.symm)).2 h.one⟩
theorem Apart.take {l : List (Int × Int)} (h : Apart (l.map (·.1))) (t : Nat) : Apart ((l.take t).map (·.1)) := by
  rw [List.map_take]
  exact List.Pairwise.sublist (List.take_sublist t _) h

/-! ### Fits -/
def Fit (l : List (Int × Int)) (t : Nat) : Prop := ∃ f, PF t f ∧ Thru f l
theorem fit_iff {l : List (Int × Int)} (ha : Apart (l.map (·.1))) (t : Nat) : Fit l t ↔ ∀ p ∈ l.drop t, Cg (poly (l.take t) p.1) p.2 := by
  constructor
  · rintro ⟨f, hf, ht⟩ p hp
    have htl : t ≤ l.length := by
      rcases Nat.lt_or_ge l.length t with h | h
      · rw [List.drop_eq_nil_of_le (by omega)] at hp
        simp at hp
      · exact h
    have hlen : (l.take t).length = t := by rw [List.length_take]; omega
    have h1 := poly_eq (ha.take t) (by rw [hlen]; exact hf) (fun q hq => ht q (List.mem_of_mem_take hq)) p.1
    exact h1.trans (ht p (List.mem_of_mem_drop hp))
  · intro h
    refine ⟨poly (l.take t), (poly_PF (l.take t)).mono (by rw [List.length_take]; omega), fun p hp => ?_⟩
    rw [← List.take_append_drop t l] at hp
    rcases List.mem_append.1 hp with hp | hp
    · exact poly_thru (ha.take t) p hp
    · exact h p hp
theorem Fit.sub {l m : List (Int × Int)} {t : Nat} (h : Fit l t) (hs : ∀ p ∈ m, p ∈ l) : Fit m t := by
  obtain ⟨f, hf, ht⟩ := h
  exact ⟨f, hf, fun p hp => ht p (hs p hp)⟩

/-! ### Join -/
def joinV (l : List (Int × Int)) (t : Nat) : Int := poly (l.take t) 0 % 2305843009213693951
theorem joinV_in (l : List (Int × Int)) (t : Nat) : 0 ≤ joinV l t ∧ joinV l t < 2305843009213693951 := by unfold joinV; omega
theorem joinV_eq {l : List (Int × Int)} {t : Nat} (ha : Apart ((l.take t).map (·.1))) (ht : t ≤ l.length) {f : Int → Int} (hf : PF t f) (th : Thru f (l.take t)) : joinV l t = f 0 % 2305843009213693951 := by
  have hlen : (l.take t).length = t := by rw [List.length_take]; omega
  have h := poly_eq ha (by rw [hlen]; exact hf) th 0
  exact cg_mod.1 h

/-! ### Split -/
/-- The polynomial with coefficients. -/
def ev : List Int → Int → Int
  | [], _ => 0
  | c :: p, x => c + x * ev p x
theorem ev_PF : ∀ p : List Int, PF p.length (ev p)
  | [] => fun _ => Cg.refl 0
  | c :: p => ⟨c, ev p, ev_PF p, fun _ => Cg.refl _⟩
theorem ev_zero (c : Int) (p : List Int) : ev (c :: p) 0 = c := by simp [ev]
/-- Horner's rule, a step. -/
theorem ev_step (c : List Int) (x : Int) (i : Nat) (h : i < c.length) : (ev (c.drop (i + 1)) x % 2305843009213693951 * x % 2305843009213693951 + c[i]) % 2305843009213693951 = ev (c.drop i) x % 2305843009213693951 := by
  have e : c.drop i = c[i] :: c.drop (i + 1) := List.drop_eq_getElem_cons h
  rw [e, ev]
  have h1 : Cg (ev (c.drop (i + 1)) x % 2305843009213693951 * x) (ev (c.drop (i + 1)) x * x) := (cg_res _).mul (Cg.refl x)
  have h2 : x * ev (c.drop (i + 1)) x = ev (c.drop (i + 1)) x * x := Int.mul_comm _ _
  rw [h2]
  generalize ev (c.drop (i + 1)) x * x = b at *
  generalize ev (c.drop (i + 1)) x % 2305843009213693951 * x = a at *
  unfold Cg at h1
  omega
def shares (c : List Int) (n : Nat) : List (Int × Int) := (List.range n).map fun i => (((i + 1 : Nat) : Int), ev c ((i + 1 : Nat) : Int) % 2305843009213693951)
theorem shares_len (c : List Int) (n : Nat) : (shares c n).length = n := by simp [shares]
theorem shares_valid (c : List Int) (n : Nat) (hn : n ≤ 64) : Valid (shares c n) := by
  refine ⟨fun p hp => ?_, fun p hp => ?_, ?_⟩
  · obtain ⟨i, hi, rfl⟩ := List.mem_map.1 hp
    have := List.mem_range.1 hi
    dsimp only
    omega
  · obtain ⟨i, hi, rfl⟩ := List.mem_map.1 hp
    dsimp only
    omega
  · unfold shares
    rw [List.pairwise_map]
    refine List.pairwise_lt_range.imp fun {a b} h e => ?_
    dsimp only at e
    omega
theorem shares_thru (c : List Int) (n : Nat) : Thru (ev c) (shares c n) := by
  intro p hp
  obtain ⟨i, hi, rfl⟩ := List.mem_map.1 hp
  exact (cg_res _).symm
theorem shares_fit (c : List Int) (n : Nat) : Fit (shares c n) c.length := ⟨ev c, ev_PF c, shares_thru c n⟩

/-! ### The laws -/
/-- Any t shares are joined to the secret. -/
theorem joins {s : Int} {c : List Int} {n : Nat} {l : List (Int × Int)} (hs : 0 ≤ s ∧ s < 2305843009213693951) (hl : ∀ p ∈ l.take (c.length + 1), p ∈ shares (s :: c) n) (ha : Apart ((l.take (c.length + 1)).map (·.1))) (ht : c.length + 1 ≤ l.length) : joinV l (c.length + 1) = s := by
  have h := joinV_eq ha ht (ev_PF (s :: c)) (fun p hp => shares_thru (s :: c) n p (hl p hp))
  rw [ev_zero] at h
  omega
/-- A changed share doesn't fit any more. -/
theorem detects {l : List (Int × Int)} {t : Nat} (hv : Valid l) (hf : Fit l t) (htl : t < l.length) (i : Nat) (hi : i < l.length) (y : Int) (hy : 0 ≤ y ∧ y < 2305843009213693951) : Fit (l.set i ((l[i]).1, y)) t ↔ (l[i]).2 = y := by
  constructor
  · rintro ⟨g, hg, tg⟩
    obtain ⟨f, hf, tf⟩ := hf
    have hx : ∀ x, Cg (f x) (g x) := by
      have hap : Apart ((l.eraseIdx i).map (·.1)) := (hv.sub (List.eraseIdx_sublist l i)).apart
      refine unique hf hg hap (by rw [List.length_eraseIdx_of_lt hi]; omega) (fun p hp => tf p (List.mem_of_mem_eraseIdx hp)) (fun p hp => tg p ?_)
      rw [List.mem_eraseIdx_iff_getElem] at hp
      obtain ⟨j, hj, hne, rfl⟩ := hp
      rw [List.mem_iff_getElem]
      refine ⟨j, by simpa using hj, ?_⟩
      rw [List.getElem_set_ne (by omega)]
    have h1 := tf l[i] (List.getElem_mem hi)
    have h2 := tg ((l[i]).1, y) (by
      rw [List.mem_iff_getElem]
      exact ⟨i, by simpa using hi, by simp⟩)
    have h3 := hx (l[i]).1
    refine cg_eq ((h1.symm.trans h3).trans h2) (hv.y _ (List.getElem_mem hi)) hy
  · intro e
    have : l.set i ((l[i]).1, y) = l := by
      rw [← e]
      exact List.set_getElem_self hi
    rw [this]
    exact hf
/-- Sums of shares: the sums of what they join to. -/
def plus (l : List (Int × Int)) (ys : List Int) : List (Int × Int) := List.zipWith (fun p y => (p.1, (p.2 + y) % 2305843009213693951)) l ys
def like (l : List (Int × Int)) (ys : List Int) : List (Int × Int) := List.zipWith (fun p y => (p.1, y)) l ys
end Sh
end Go.Proofs.YtjpgadiobgbchaaDoor

/-
  Layer 7: a missing share restricts nothing; sums of shares.
-/
namespace Go.Proofs.YtjpgadiobgbchaaDoor
namespace Sh
open S4

theorem prod_congr {l m : List (Int × Int)} (i : Nat) (x : Int) : ∀ k, (∀ j, j < k → j ≠ i → px l j = px m j) → prod l i x k = prod m i x k
  | 0, _ => rfl
  | k + 1, h => by
    have ih := prod_congr (l := l) (m := m) i x k (fun j hj => h j (by omega))
    unfold prod
    by_cases hk : k = i
    · rw [if_pos hk, if_pos hk, ih]
    · rw [if_neg hk, if_neg hk, ih, h k (by omega) hk]
theorem lag_congr {l m : List (Int × Int)} (hlm : l.length = m.length) (x : Int) (hx : ∀ j, j < l.length → px l j = px m j) : ∀ i, i ≤ l.length → (∀ j, j < i → py l j = py m j) → lag l x i = lag m x i
  | 0, _, _ => rfl
  | i + 1, hi, h => by
    have ih := lag_congr hlm x hx i (by omega) (fun j hj => h j (by omega))
    unfold lag term
    rw [ih, h i (by omega), ← hlm, prod_congr i x l.length (fun j hj _ => hx j hj), hx i (by omega), prod_congr i (px m i) l.length (fun j hj _ => hx j hj)]
theorem getD_snoc_lt (q : List (Int × Int)) (p : Int × Int) (j : Nat) (h : j < q.length) : (q ++ [p]).getD j (0, 0) = q.getD j (0, 0) := by
  rw [List.getD_eq_getElem?_getD, List.getD_eq_getElem?_getD, List.getElem?_append_left h]
theorem getD_snoc (q : List (Int × Int)) (p : Int × Int) : (q ++ [p]).getD q.length (0, 0) = p := by
  rw [List.getD_eq_getElem?_getD, List.getElem?_append_right (Nat.le_refl _)]
  simp
theorem poly_last (q : List (Int × Int)) (X y x : Int) : poly (q ++ [(X, y)]) x = lag (q ++ [(X, 0)]) x q.length + y * prod (q ++ [(X, 0)]) q.length x (q.length + 1) * (invP (prod (q ++ [(X, 0)]) q.length X (q.length + 1)) : Nat) := by
  have hpx : ∀ j, j < (q ++ [(X, y)]).length → px (q ++ [(X, y)]) j = px (q ++ [(X, 0)]) j := by
    intro j hj
    unfold px
    rcases Nat.lt_or_ge j q.length with h | h
    · rw [getD_snoc_lt _ _ _ h, getD_snoc_lt _ _ _ h]
    · obtain rfl : j = q.length := by simp at hj; omega
      rw [getD_snoc, getD_snoc]
  have hl : (q ++ [(X, y)]).length = q.length + 1 := by simp
  unfold poly
  rw [hl, lag]
  rw [lag_congr (m := q ++ [(X, 0)]) (by simp) x hpx q.length (by omega) (fun j hj => by
    unfold py
    rw [getD_snoc_lt _ _ _ hj, getD_snoc_lt _ _ _ hj])]
  unfold term
  rw [hl]
  have e1 : py (q ++ [(X, y)]) q.length = y := by unfold py; rw [getD_snoc]
  have e2 : px (q ++ [(X, y)]) q.length = X := by unfold px; rw [getD_snoc]
  rw [e1, e2, prod_congr (m := q ++ [(X, 0)]) q.length x (q.length + 1) (fun j hj _ => hpx j (by omega)), prod_congr (m := q ++ [(X, 0)]) q.length X (q.length + 1) (fun j hj _ => hpx j (by omega))]
theorem hides {q : List (Int × Int)} {X y0 : Int} (hv : Valid (q ++ [(X, y0)])) : ∃ A B : Int, ¬ Cg B 0 ∧ ∀ y, Cg (poly (q ++ [(X, y)]) 0) (A + y * B) := by
  have hv0 : Valid (q ++ [(X, 0)]) := by
    refine ⟨fun p hp => ?_, fun p hp => ?_, ?_⟩
    · rcases List.mem_append.1 hp with h | h
      · exact hv.x p (List.mem_append_left _ h)
      · obtain rfl := List.mem_singleton.1 h
        exact hv.x (X, y0) (List.mem_append_right _ (by simp))
    · rcases List.mem_append.1 hp with h | h
      · exact hv.y p (List.mem_append_left _ h)
      · obtain rfl := List.mem_singleton.1 h
        dsimp only; omega
    · have h := hv.one
      rw [List.pairwise_append] at h ⊢
      refine ⟨h.1, by simp, fun a ha b hb => ?_⟩
      obtain rfl := List.mem_singleton.1 hb
      exact h.2.2 a ha (X, y0) (by simp)
  have hap := hv0.apart
  have hlen : (q ++ [(X, (0 : Int))]).length = q.length + 1 := by simp
  have eX : px (q ++ [(X, 0)]) q.length = X := by unfold px; rw [getD_snoc]
  have h1 : ¬ Cg (prod (q ++ [(X, 0)]) q.length 0 (q.length + 1)) 0 := by
    refine prod_ne _ _ _ _ (fun k hk _ hc => ?_)
    have hm : px (q ++ [(X, 0)]) k = ((q ++ [(X, (0 : Int))])[k]'(by omega)).1 := by
      unfold px
      rw [List.getD_eq_getElem?_getD, List.getElem?_eq_getElem (by omega)]; rfl
    have hb := hv0.x _ (List.getElem_mem (show k < (q ++ [(X, (0 : Int))]).length by omega))
    rw [← hm] at hb
    have := cg_eq hc (by omega) (by omega)
    omega
  have h2 : ¬ Cg (prod (q ++ [(X, 0)]) q.length X (q.length + 1)) 0 := by
    refine prod_ne _ _ _ _ (fun k hk hne hc => ?_)
    exact apart_px hap (i := q.length) (j := k) (by omega) (by omega) (Ne.symm hne) (by rw [eX]; exact hc)
  have h3 := cg_inv h2
  refine ⟨lag (q ++ [(X, 0)]) 0 q.length, prod (q ++ [(X, 0)]) q.length 0 (q.length + 1) * (invP (prod (q ++ [(X, 0)]) q.length X (q.length + 1)) : Nat), fun hc => ?_, fun y => ?_⟩
  · rcases cg_prime hc with h | h
    · exact h1 h
    · have h4 := (Cg.refl (prod (q ++ [(X, 0)]) q.length X (q.length + 1))).mul h
      have h5 := h3.symm.trans h4
      rw [Int.mul_zero, cg_mod] at h5
      exact absurd h5 (by decide)
  · rw [poly_last]
    exact Cg.of_eq (by rw [Int.mul_assoc])
/-- The law's own reckoning. -/
theorem hides_calc {A B s a b y c d : Int} {P : Int → Int} (hB : ¬ Cg B 0) (hP : ∀ y, Cg (P y) (A + y * B)) (hs : 0 ≤ s ∧ s < 2305843009213693951) (ha : a = P 0 % 2305843009213693951) (hb : b = P 1 % 2305843009213693951)
    (hy : y = (s - a) % 2305843009213693951 * (invP ((b - a) % 2305843009213693951) : Nat) % 2305843009213693951) (hc : c = P y % 2305843009213693951) (hd : d = P ((y + 1) % 2305843009213693951) % 2305843009213693951) :
    (b - a) % 2305843009213693951 % 2305843009213693951 ≠ 0 ∧ c = s ∧ d ≠ s := by
  have h0 := hP 0
  have h1 := hP 1
  have ea : Cg a A := by rw [ha]; exact (cg_res _).trans (h0.trans (Cg.of_eq (by simp)))
  have eb : Cg b (A + B) := by rw [hb]; exact (cg_res _).trans (h1.trans (Cg.of_eq (by simp)))
  have eBa : Cg ((b - a) % 2305843009213693951) B := (cg_res _).trans ((eb.sub ea).trans (Cg.of_eq (by omega)))
  have hne : ¬ Cg ((b - a) % 2305843009213693951) 0 := fun h => hB (eBa.symm.trans h)
  have hi := cg_inv hne
  generalize ((invP ((b - a) % 2305843009213693951) : Nat) : Int) = v at hi hy
  have hvB : Cg (v * B) 1 := by
    have := (Cg.refl v).mul eBa
    exact this.symm.trans ((Cg.of_eq (Int.mul_comm _ _)).trans hi)
  have hyB : Cg (y * B) (s - A) := by
    rw [hy]
    have e1 : Cg ((s - a) % 2305843009213693951 * v % 2305843009213693951) ((s - A) * v) := (cg_res _).trans (((cg_res _).trans ((Cg.refl s).sub ea)).mul (Cg.refl v))
    have e2 := e1.mul (Cg.refl B)
    have e3 := (Cg.refl (s - A)).mul hvB
    exact e2.trans ((Cg.of_eq (Int.mul_assoc _ _ _)).trans (e3.trans (Cg.of_eq (by simp))))
  have hcy := hP y
  have hdy := hP ((y + 1) % 2305843009213693951)
  have hd2 : Cg ((y + 1) % 2305843009213693951 * B) (s - A + B) := by
    have e1 := (cg_res (y + 1)).mul (Cg.refl B)
    have e2 := hyB.add (Cg.refl B)
    exact e1.trans ((Cg.of_eq (by grind)).trans e2)
  refine ⟨?_, ?_, ?_⟩
  · rw [cg_mod] at hne
    exact hne
  · have h5 : Cg c s := by
      rw [hc]
      exact (cg_res _).trans (hcy.trans (((Cg.refl A).add hyB).trans (Cg.of_eq (by omega))))
    exact cg_eq h5 (by omega) hs
  · intro hds
    have h5 : Cg d (s + B) := by
      rw [hd]
      exact (cg_res _).trans (hdy.trans (((Cg.refl A).add hd2).trans (Cg.of_eq (by omega))))
    rw [hds] at h5
    apply hB
    unfold Cg at h5 ⊢
    omega

/-! ### Sums -/
theorem plus_len {l : List (Int × Int)} {ys : List Int} (h : ys.length = l.length) : (plus l ys).length = l.length := by unfold plus; simp [h]
theorem like_len {l : List (Int × Int)} {ys : List Int} (h : ys.length = l.length) : (like l ys).length = l.length := by unfold like; simp [h]
theorem plus_take (l : List (Int × Int)) (ys : List Int) (t : Nat) : (plus l ys).take t = plus (l.take t) (ys.take t) := by unfold plus; rw [List.take_zipWith]
theorem like_take (l : List (Int × Int)) (ys : List Int) (t : Nat) : (like l ys).take t = like (l.take t) (ys.take t) := by unfold like; rw [List.take_zipWith]
theorem thru_at {f : Int → Int} {l : List (Int × Int)} : Thru f l ↔ ∀ (i : Nat) (h : i < l.length), Cg (f l[i].1) l[i].2 := by
  constructor
  · intro h i hi
    exact h _ (List.getElem_mem hi)
  · intro h p hp
    obtain ⟨i, hi, rfl⟩ := List.mem_iff_getElem.1 hp
    exact h i hi
theorem thru_plus {f g : Int → Int} {l : List (Int × Int)} {ys : List Int} (h : ys.length = l.length) (tf : Thru f l) (tg : Thru g (like l ys)) : Thru (fun x => f x + g x) (plus l ys) := by
  rw [thru_at] at *
  intro i hi
  rw [plus_len h] at hi
  have h1 := tf i hi
  have h2 := tg i (by rw [like_len h]; exact hi)
  simp only [like, List.getElem_zipWith] at h2
  simp only [plus, List.getElem_zipWith]
  exact (h1.add h2).trans (cg_res _).symm
theorem thru_minus {f g : Int → Int} {l : List (Int × Int)} {ys : List Int} (h : ys.length = l.length) (tf : Thru f l) (tg : Thru g (plus l ys)) : Thru (fun x => g x - f x) (like l ys) := by
  rw [thru_at] at *
  intro i hi
  rw [like_len h] at hi
  have h1 := tf i hi
  have h2 := tg i (by rw [plus_len h]; exact hi)
  simp only [plus, List.getElem_zipWith] at h2
  simp only [like, List.getElem_zipWith]
  exact ((h2.trans (cg_res _)).sub h1).trans (Cg.of_eq (by omega))
theorem fst_plus {l : List (Int × Int)} {ys : List Int} (h : ys.length = l.length) : (plus l ys).map (·.1) = l.map (·.1) := by
  apply List.ext_getElem
  · simp [plus_len h]
  · intro i h1 h2
    simp [plus]
theorem fst_like {l : List (Int × Int)} {ys : List Int} (h : ys.length = l.length) : (like l ys).map (·.1) = l.map (·.1) := by
  apply List.ext_getElem
  · simp [like_len h]
  · intro i h1 h2
    simp [like]
theorem pair_of_map {l m : List (Int × Int)} (h : m.map (·.1) = l.map (·.1)) (hl : l.Pairwise fun p q => p.1 ≠ q.1) : m.Pairwise fun p q => p.1 ≠ q.1 := by
  have h1 : (l.map (·.1)).Pairwise fun a b => a ≠ b := by rw [List.pairwise_map]; exact hl
  rw [← h, List.pairwise_map] at h1
  exact h1
theorem x_of_map {l m : List (Int × Int)} (h : m.map (·.1) = l.map (·.1)) (hl : ∀ p ∈ l, 1 ≤ p.1 ∧ p.1 < 2305843009213693951) : ∀ p ∈ m, 1 ≤ p.1 ∧ p.1 < 2305843009213693951 := by
  intro p hp
  have h1 : p.1 ∈ m.map (·.1) := List.mem_map.2 ⟨p, hp, rfl⟩
  rw [h] at h1
  obtain ⟨q, hq, e⟩ := List.mem_map.1 h1
  rw [← e]
  exact hl q hq
theorem like_valid {l : List (Int × Int)} {ys : List Int} (h : ys.length = l.length) (hv : Valid l) (hy : ∀ y ∈ ys, 0 ≤ y ∧ y < 2305843009213693951) : Valid (like l ys) := by
  refine ⟨x_of_map (fst_like h) hv.x, fun p hp => ?_, pair_of_map (fst_like h) hv.one⟩
  obtain ⟨i, hi, rfl⟩ := List.mem_iff_getElem.1 hp
  simp only [like, List.getElem_zipWith]
  exact hy _ (List.getElem_mem _)
theorem plus_valid {l : List (Int × Int)} {ys : List Int} (h : ys.length = l.length) (hv : Valid l) : Valid (plus l ys) := by
  refine ⟨x_of_map (fst_plus h) hv.x, fun p hp => ?_, pair_of_map (fst_plus h) hv.one⟩
  obtain ⟨i, hi, rfl⟩ := List.mem_iff_getElem.1 hp
  simp only [plus, List.getElem_zipWith]
  omega
theorem adds {l : List (Int × Int)} {ys : List Int} (h : ys.length = l.length) (hv : Valid l) {t : Nat} (ht : t ≤ l.length) : joinV (plus l ys) t = (joinV l t + joinV (like l ys) t) % 2305843009213693951 := by
  have hlt : (ys.take t).length = (l.take t).length := by simp [h]
  have hap := (hv.take t).apart
  have hal : Apart ((like (l.take t) (ys.take t)).map (·.1)) := by rw [fst_like hlt]; exact hap
  have has : Apart ((plus (l.take t) (ys.take t)).map (·.1)) := by rw [fst_plus hlt]; exact hap
  have hln : (l.take t).length = t := by rw [List.length_take]; omega
  have h1 := poly_PF (l.take t)
  have h2 := poly_PF (like (l.take t) (ys.take t))
  rw [like_len hlt] at h2
  have h3 := thru_plus hlt (poly_thru hap) (poly_thru hal)
  have h4 := joinV_eq (l := plus l ys) (t := t) (by rw [plus_take]; exact has) (by rw [plus_len h]; exact ht) (by rw [← hln]; exact h1.add h2) (by rw [plus_take]; exact h3)
  rw [h4]
  unfold joinV
  rw [like_take]
  omega
theorem adds_fit {l : List (Int × Int)} {ys : List Int} (h : ys.length = l.length) {t : Nat} (hf : Fit l t) : Fit (like l ys) t ↔ Fit (plus l ys) t := by
  obtain ⟨f, hf, tf⟩ := hf
  constructor
  · rintro ⟨g, hg, tg⟩
    exact ⟨_, hf.add hg, thru_plus h tf tg⟩
  · rintro ⟨g, hg, tg⟩
    exact ⟨_, hg.sub hf, thru_minus h tf tg⟩
end Sh
end Go.Proofs.YtjpgadiobgbchaaDoor
