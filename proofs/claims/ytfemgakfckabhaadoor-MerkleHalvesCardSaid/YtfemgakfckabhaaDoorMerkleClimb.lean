/-
  Layer 8: the landed package: climb, Includes.
-/
import Derived.Test.YtfemgakfckabhaaDoorMerkleRoot
namespace Go.Proofs.YtfemgakfckabhaaDoor
open Go.RowKit
namespace Mk
attribute [local go_sem] S3.B_size S3.B_app S3.B_list

/-- What climb hands back. -/
def climbP (x : Str) : Nat → Nat → List Str → Str × Bool
  | _, n, [] => (x, decide (n = 1))
  | i, n, q :: t => if n = 1 then (x, false) else
    if i < sp n then (node (climbP x i (sp n) t).1 q, (climbP x i (sp n) t).2) else (node q (climbP x (i - sp n) (n - sp n) t).1, (climbP x (i - sp n) (n - sp n) t).2)
theorem climbP_le {x : Str} (hx : x.length ≤ 1000) : ∀ (t : List Str) (i n : Nat), (climbP x i n t).1.length ≤ 1000
  | [], i, n => hx
  | q :: t, i, n => by
    unfold climbP
    split
    · exact hx
    split
    · simp only [node_len]; omega
    · simp only [node_len]; omega
theorem climbP_of {x : Str} : ∀ (t : List Str) (i n : Nat) (r : Str × List Str), climbR x i n t = some r → climbP x i n t = (r.1, true)
  | [], i, n, r, h => by
    unfold climbR at h
    split at h
    · next hn => cases h; unfold climbP; rw [decide_eq_true hn]
    · cases h
  | q :: t, i, n, r, h => by
    unfold climbR at h
    unfold climbP
    split at h
    · cases h
    next hn =>
    rw [if_neg hn]
    split at h
    · next hk =>
      obtain ⟨r', h', rfl⟩ := Option.map_eq_some_iff.1 h
      rw [if_pos hk, climbP_of t _ _ _ h']
    · next hk =>
      obtain ⟨r', h', rfl⟩ := Option.map_eq_some_iff.1 h
      rw [if_neg hk, climbP_of t _ _ _ h']
theorem climbP_yes {x : Str} : ∀ (t : List Str) (i n : Nat) (r : Str), climbP x i n t = (r, true) → ∃ ins, climbR x i n t = some (r, ins)
  | [], i, n, r, h => by
    unfold climbP at h
    injection h with h1 h2
    subst h1
    exact ⟨[], by unfold climbR; rw [if_pos (of_decide_eq_true h2)]⟩
  | q :: t, i, n, r, h => by
    unfold climbP at h
    unfold climbR
    split at h
    · cases h
    next hn =>
    rw [if_neg hn]
    split at h
    · next hk =>
      injection h with h1 h2
      obtain ⟨ins, e⟩ := climbP_yes t i (sp n) _ (Prod.ext rfl h2)
      rw [if_pos hk, e]
      exact ⟨_, by rw [← h1]; rfl⟩
    · next hk =>
      injection h with h1 h2
      obtain ⟨ins, e⟩ := climbP_yes t (i - sp n) (n - sp n) _ (Prod.ext rfl h2)
      rw [if_neg hk, e]
      exact ⟨_, by rw [← h1]; rfl⟩
def CliC (x : Str) (t : List Str) (i n : Nat) (r : Str × Bool) : Prop := ∀ (A : Option Addr) (c p : Nat) (zi zn : Int) (w : World), p = t.length → zi = (i : Int) → zn = (n : Int) → Rs w A t.reverse → p ≤ c → S3.Laid w →
  Calls Tryd.prog 38 #[.string (S3.B x), .int .i64 zi, .int .i64 zn, .slice A p c] w fun e w' => e = .returned (.tuple #[.string (S3.B r.1), .bool r.2]) ∧ Below w.heap.size w w'
theorem rest_of' {w : World} {a : Addr} {t : List Str} {q : Str} (h : Rs w (some a) (t.reverse ++ [q])) : Rs w (some a) t.reverse := by
  have := h.take t.length
  rwa [List.take_append_of_le_length (by simp), List.take_of_length_le (by simp)] at this

set_option maxHeartbeats 8000000 in
set_option maxRecDepth 100000 in
theorem climb_any (x : Str) (hx : x.length ≤ 1000) : ∀ (t : List Str) (i n : Nat), t.length ≤ 200 → (∀ s ∈ t, s.length ≤ 1000) → 1 ≤ n → n ≤ 9223372036854775807 → i < n → CliC x t i n (climbP x i n t) := by
  intro t
  induction t with
  | nil =>
    intro i n _ _ hn0 hn1 hi A c p zi zn w hp hzi hzn _ _ _
    subst hp hzi hzn
    have hi' : (i : Int) ≤ 9223372036854775807 := by omega
    have hnI : (n : Int) ≤ 9223372036854775807 := by omega
    unfold climbP
    by_cases h1 : n = 1
    · subst h1
      clear hx
      go_enter Tryd.func38, Tryd.ntmps38
      go_wp2
      go_ret2
      exact ⟨rfl, Below.refl _ _⟩
    · rw [decide_eq_false h1]
      have hne1 : ((n : Int) == 1) = false := by simp; omega
      clear hx h1
      go_enter Tryd.func38, Tryd.ntmps38
      go_wp2
      go_ret2
      exact ⟨rfl, Below.refl _ _⟩
  | cons q t ih =>
    intro i n hl hs hn0 hn1 hi A c p zi zn w hp hzi hzn hr hc hW
    subst hp hzi hzn
    rw [List.length_cons] at hc hl ⊢
    rw [List.reverse_cons] at hr
    obtain ⟨a, rfl⟩ := hr.some_ (by simp)
    have kc := cutLast_any a t.reverse q c w hr (by rw [List.length_reverse]; omega) (by rw [List.length_reverse]; omega)
    rw [List.length_reverse] at kc
    have KC := Lib.hid kc
    have HR := Lib.hid (rest_of' hr)
    have AT := Lib.hid (Lk.At.start hW)
    have hq : q.length ≤ 1000 := hs q (by simp)
    have hl' : (t.length : Int) ≤ 200 := by omega
    have hnI : (n : Int) ≤ 9223372036854775807 := by omega
    clear kc hW
    unfold climbP
    by_cases h1 : n = 1
    · rw [if_pos h1]
      subst h1
      have hl2 : (((t.length + 1 : Nat) : Int) == 0) = false := by simp; omega
      clear ih hs hr hx hq
      generalize t.length = m at *
      go_enter Tryd.func38, Tryd.ntmps38
      go_wp2
      go_ret2
      exact ⟨rfl, AT.out.bel⟩
    rw [if_neg h1]
    have h2 : 2 ≤ n := by omega
    have hk := sp_lt h2
    have hp := sp_pos n
    have ks := fun w => split_any n w h2 hn1
    have KS := Lib.hid ks
    have hne1 : ((n : Int) == 1) = false := by simp; omega
    clear ks h1
    by_cases hik : i < sp n
    · rw [if_pos hik]
      have hik' : (i : Int) < (sp n : Int) := by omega
      have k1 := fun w h hW => ih i (sp n) (by omega) (fun s h => hs s (by simp [h])) (by omega) (by omega) (by omega) (some a) t.length t.length (i : Int) (sp n : Int) w rfl (by omega) (by omega) h (by omega) hW
      have hle := climbP_le hx t i (sp n)
      have kn := fun w hW => node_any (climbP x i (sp n) t).1 q w hW (by omega) (by omega)
      simp only
      generalize climbP x i (sp n) t = cp at *
      obtain ⟨r1, ok⟩ := cp
      simp only at k1 kn ⊢
      generalize node r1 q = y at *
      have K1 := Lib.hid k1
      have KN := Lib.hid kn
      clear k1 kn ih hs hx hq hle hr
      generalize t.length = m at *
      generalize sp n = k at *
      go_enter Tryd.func38, Tryd.ntmps38
      go_wp2_with fail
      refine KC.out.mono ?_
      rintro e w1 ⟨rfl, hb⟩
      replace AT := Lib.hid (AT.out.step hb)
      clear hb
      go_wp2_with fail
      refine (KS.out _).mono ?_
      rintro e' w2 ⟨rfl, rfl⟩
      go_wp2_with fail
      refine (K1.out _ (HR.out.step AT.out.bel) AT.out.laid).mono ?_
      rintro e w3 ⟨rfl, hb⟩
      replace AT := Lib.hid (AT.out.step hb)
      clear hb
      go_wp2_with fail
      refine (KN.out _ AT.out.laid).mono ?_
      rintro e w4 ⟨rfl, hb⟩
      replace AT := Lib.hid (AT.out.step hb)
      clear hb
      go_wp2
      go_ret2
      exact ⟨rfl, AT.out.bel⟩
    · rw [if_neg hik]
      have hik' : (sp n : Int) ≤ (i : Int) := by omega
      have k1 := fun w h hW => ih (i - sp n) (n - sp n) (by omega) (fun s h => hs s (by simp [h])) (by omega) (by omega) (by omega) (some a) t.length t.length ((i : Int) - (sp n : Int)) ((n : Int) - (sp n : Int)) w rfl (by omega) (by omega) h (by omega) hW
      have hle := climbP_le hx t (i - sp n) (n - sp n)
      have kn := fun w hW => node_any q (climbP x (i - sp n) (n - sp n) t).1 w hW (by omega) (by omega)
      simp only
      generalize climbP x (i - sp n) (n - sp n) t = cp at *
      obtain ⟨r1, ok⟩ := cp
      simp only at k1 kn ⊢
      generalize node q r1 = y at *
      have K1 := Lib.hid k1
      have KN := Lib.hid kn
      clear k1 kn ih hs hx hq hle hr
      generalize t.length = m at *
      generalize sp n = k at *
      go_enter Tryd.func38, Tryd.ntmps38
      go_wp2_with fail
      refine KC.out.mono ?_
      rintro e w1 ⟨rfl, hb⟩
      replace AT := Lib.hid (AT.out.step hb)
      clear hb
      go_wp2_with fail
      refine (KS.out _).mono ?_
      rintro e' w2 ⟨rfl, rfl⟩
      go_wp2_with fail
      refine (K1.out _ (HR.out.step AT.out.bel) AT.out.laid).mono ?_
      rintro e w3 ⟨rfl, hb⟩
      replace AT := Lib.hid (AT.out.step hb)
      clear hb
      go_wp2_with fail
      refine (KN.out _ AT.out.laid).mono ?_
      rintro e w4 ⟨rfl, hb⟩
      replace AT := Lib.hid (AT.out.step hb)
      clear hb
      go_wp2
      go_ret2
      exact ⟨rfl, AT.out.bel⟩

/-! ### Includes -/
def isI64 (x : Int) : Prop := -9223372036854775808 ≤ x ∧ x ≤ 9223372036854775807
def IncP (x : Str) (i n : Int) (r : Str) (p : List Str) : Prop := 0 ≤ i ∧ i < n ∧ x.length = 32 ∧ Digs p ∧ climbP x i.toNat n.toNat p.reverse = (r, true)
instance (x : Str) (i n : Int) (r : Str) (p : List Str) : Decidable (IncP x i n r p) := by unfold IncP; infer_instance
theorem digs_one (x : Str) : Digs [x] ↔ x.length = 32 := by simp [Digs]
theorem digs_two (x y : Str) : Digs [x, y] ↔ x.length = 32 ∧ y.length = 32 := by simp [Digs]
theorem str_eq (x y : Str) : (x == y) = decide (x = y) := by
  by_cases h : x = y
  · subst h; simp
  · simp [h]

set_option maxHeartbeats 8000000 in
set_option maxRecDepth 100000 in
theorem includes_any (x : Str) (i n : Int) (r : Str) (p : List Str) (A : Option Addr) (c k : Nat) (w : World) (hW : S3.Laid w) (hk : k = p.length) (hr : Rs w A p) (hc : k ≤ c) (hp : p.length ≤ 200) (hs : ∀ s ∈ p, s.length ≤ 1000) (hx : x.length ≤ 1000) (hi : isI64 i) (hn : isI64 n) :
    Calls Tryd.prog 21 #[.string (S3.B x), .int .i64 i, .int .i64 n, .string (S3.B r), .slice A k c] w fun e w' => e = .returned (.bool (decide (IncP x i n r p))) ∧ Below w.heap.size w w' := by
  unfold isI64 at hi hn
  obtain ⟨b, hb⟩ : ∃ b, b = decide (IncP x i n r p) := ⟨_, rfl⟩
  rw [← hb]
  have HB := Lib.hid hb
  clear hb
  by_cases h1 : i < 0
  · have h : b = false := by rw [HB.out]; exact decide_eq_false fun h => by have := h.1; omega
    subst h
    clear hr hs hW hk
    go_enter Tryd.func21, Tryd.ntmps21
    go_wp2
    go_ret
    exact ⟨rfl, Below.refl _ _⟩
  by_cases h2 : n ≤ i
  · have h : b = false := by rw [HB.out]; exact decide_eq_false fun h => by have := h.2.1; omega
    subst h
    have h1' : 0 ≤ i := by omega
    clear hr hs hW hk h1
    go_enter Tryd.func21, Tryd.ntmps21
    go_wp2
    go_ret
    exact ⟨rfl, Below.refl _ _⟩
  have h1' : 0 ≤ i := by omega
  have h2' : i < n := by omega
  have kd1 := areDigests_any (some ⟨w.heap.size, 0, none⟩) [x] 1 1 _ rfl (Rs.lit w [x]) (by simp) (by simp; omega)
  have kd2 := fun w h => areDigests_any A p c k w hk h (by omega) (fun s h => by have := hs s h; omega)
  have kcl := fun w (h : Rs w A p) (hW : S3.Laid w) => climb_any x hx p.reverse i.toNat n.toNat (by simp; omega) (fun s h => hs s (by simpa using h)) (by omega) (by omega) (by omega) A c k i n w (by simp; exact hk) (by omega) (by omega) (by rw [List.reverse_reverse]; exact h) hc hW
  have AT := Lib.hid (Lk.At.start hW)
  have HR := Lib.hid hr
  have KD1 := Lib.hid kd1
  have KD2 := Lib.hid kd2
  have KCL := Lib.hid kcl
  clear kd1 kd2 kcl hr hs hW hk h1 h2
  by_cases h3 : x.length = 32
  · have e1 : decide (Digs [x]) = true := decide_eq_true ((digs_one x).2 h3)
    rw [e1] at KD1
    by_cases h4 : Digs p
    · have e2 : decide (Digs p) = true := decide_eq_true h4
      rw [e2] at KD2
      have hb2 : b = decide (climbP x i.toNat n.toNat p.reverse = (r, true)) := by
        rw [HB.out]
        exact decide_eq_decide.2 ⟨fun h => h.2.2.2.2, fun h => ⟨h1', h2', h3, h4, h⟩⟩
      generalize climbP x i.toNat n.toNat p.reverse = cp at *
      obtain ⟨rr, ok⟩ := cp
      have hb3 : b = (ok && decide (rr = r)) := by
        rw [hb2]
        cases ok <;> simp
      have HB3 := Lib.hid hb3
      clear HB hb2 hb3 e1 e2 h4 h3 hx
      cases ok with
      | false =>
        obtain rfl : b = false := HB3.out
        go_enter Tryd.func21, Tryd.ntmps21
        go_wp2_with fail
        refine KD1.out.mono ?_
        rintro e w1 ⟨rfl, rfl⟩
        replace AT := Lib.hid (AT.out.alloc (.cells (Ss [x]).toArray 9))
        generalize w.alloc (.cells (Ss [x]).toArray 9) = w1 at *
        go_wp2_with fail
        refine (KD2.out _ (HR.out.step AT.out.bel)).mono ?_
        rintro e w2 ⟨rfl, rfl⟩
        go_wp2_with fail
        refine (KCL.out _ (HR.out.step AT.out.bel) AT.out.laid).mono ?_
        rintro e w3 ⟨rfl, hb⟩
        replace AT := Lib.hid (AT.out.step hb)
        clear hb
        go_wp2
        go_ret
        exact ⟨rfl, AT.out.bel⟩
      | true =>
        obtain rfl : b = decide (rr = r) := by rw [HB3.out, Bool.true_and]
        rw [← str_eq]
        clear HB3
        go_enter Tryd.func21, Tryd.ntmps21
        go_wp2_with fail
        refine KD1.out.mono ?_
        rintro e w1 ⟨rfl, rfl⟩
        replace AT := Lib.hid (AT.out.alloc (.cells (Ss [x]).toArray 9))
        generalize w.alloc (.cells (Ss [x]).toArray 9) = w1 at *
        go_wp2_with fail
        refine (KD2.out _ (HR.out.step AT.out.bel)).mono ?_
        rintro e w2 ⟨rfl, rfl⟩
        go_wp2_with fail
        refine (KCL.out _ (HR.out.step AT.out.bel) AT.out.laid).mono ?_
        rintro e w3 ⟨rfl, hb⟩
        replace AT := Lib.hid (AT.out.step hb)
        clear hb
        go_wp2
        go_ret
        exact ⟨rfl, AT.out.bel⟩
    · have h : b = false := by rw [HB.out]; exact decide_eq_false fun h => h4 h.2.2.2.1
      subst h
      have e2 : decide (Digs p) = false := decide_eq_false h4
      rw [e2] at KD2
      clear HB KCL e1 e2 h4 h3 hx
      go_enter Tryd.func21, Tryd.ntmps21
      go_wp2_with fail
      refine KD1.out.mono ?_
      rintro e w1 ⟨rfl, rfl⟩
      replace AT := Lib.hid (AT.out.alloc (.cells (Ss [x]).toArray 9))
      generalize w.alloc (.cells (Ss [x]).toArray 9) = w1 at *
      go_wp2_with fail
      refine (KD2.out _ (HR.out.step AT.out.bel)).mono ?_
      rintro e w2 ⟨rfl, rfl⟩
      go_wp2
      go_ret
      exact ⟨rfl, AT.out.bel⟩
  · have h : b = false := by rw [HB.out]; exact decide_eq_false fun h => h3 h.2.2.1
    subst h
    have e1 : decide (Digs [x]) = false := decide_eq_false (fun h => h3 ((digs_one x).1 h))
    rw [e1] at KD1
    clear HB KCL KD2 e1 h3 hx
    go_enter Tryd.func21, Tryd.ntmps21
    go_wp2_with fail
    refine KD1.out.mono ?_
    rintro e w1 ⟨rfl, rfl⟩
    replace AT := Lib.hid (AT.out.alloc (.cells (Ss [x]).toArray 9))
    generalize w.alloc (.cells (Ss [x]).toArray 9) = w1 at *
    go_wp2
    go_ret
    exact ⟨rfl, AT.out.bel⟩
end Mk
end Go.Proofs.YtfemgakfckabhaaDoor
