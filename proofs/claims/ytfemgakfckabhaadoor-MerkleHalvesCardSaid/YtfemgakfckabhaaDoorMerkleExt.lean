/-
  Layer 8: the landed package: Extends.
-/
import Derived.Test.YtfemgakfckabhaaDoorMerkleBoth
namespace Go.Proofs.YtfemgakfckabhaaDoor
open Go.RowKit
namespace Mk
attribute [local go_sem] S3.B_size S3.B_app S3.B_list
def ExtP (m n : Int) (old now : Str) (p : List Str) : Prop :=
  0 ≤ m ∧ m ≤ n ∧ old.length = 32 ∧ now.length = 32 ∧ Digs p ∧
    if (m = 0 ∧ old = H []) ∨ (m = n ∧ old = now) then p = [] else m ≠ 0 ∧ m ≠ n ∧ rootsP old m.toNat n.toNat p.reverse true = ((old, now), true)
instance (m n : Int) (old now : Str) (p : List Str) : Decidable (ExtP m n old now p) := by unfold ExtP; infer_instance
theorem neq_str' (x y : Str) (h : x ≠ y) : (x == y) = false := by simpa using h

set_option maxHeartbeats 8000000 in
set_option maxRecDepth 100000 in
theorem extends_any (m n : Int) (old now : Str) (p : List Str) (A : Option Addr) (c k : Nat) (w : World) (hW : S3.Laid w) (hk : k = p.length) (hr : Rs w A p) (hc : k ≤ c) (hp : p.length ≤ 200) (hs : ∀ s ∈ p, s.length ≤ 1000) (ho : old.length ≤ 1000) (hw : now.length ≤ 1000) (hm : isI64 m) (hn : isI64 n) :
    Calls Tryd.prog 22 #[.int .i64 m, .int .i64 n, .string (S3.B old), .string (S3.B now), .slice A k c] w fun e w' => e = .returned (.bool (decide (ExtP m n old now p))) ∧ Below w.heap.size w w' := by
  unfold isI64 at hm hn
  obtain ⟨b, hb⟩ : ∃ b, b = decide (ExtP m n old now p) := ⟨_, rfl⟩
  rw [← hb]
  have HB := Lib.hid hb
  have hk2 : (k : Int) ≤ 200 := by omega
  clear hb
  by_cases h1 : m < 0
  · have h : b = false := by rw [HB.out]; exact decide_eq_false fun h => by have := h.1; omega
    subst h
    clear hr hs hW hk
    go_enter Tryd.func22, Tryd.ntmps22
    go_wp2
    go_ret
    exact ⟨rfl, Below.refl _ _⟩
  by_cases h2 : n < m
  · have h : b = false := by rw [HB.out]; exact decide_eq_false fun h => by have := h.2.1; omega
    subst h
    have h1' : 0 ≤ m := by omega
    clear hr hs hW hk h1
    go_enter Tryd.func22, Tryd.ntmps22
    go_wp2
    go_ret
    exact ⟨rfl, Below.refl _ _⟩
  have h1' : 0 ≤ m := by omega
  have h2' : m ≤ n := by omega
  have kd1 := areDigests_any (some ⟨w.heap.size, 0, none⟩) [old, now] 2 2 _ rfl (Rs.lit w [old, now]) (by simp) (by simp; omega)
  have kd2 := fun w h => areDigests_any A p c k w hk h (by omega) (fun s h => by have := hs s h; omega)
  have kr := fun w hW => root_any none [] 0 0 w rfl (Rs.nil w none) (by omega) (by simp) (by simp) hW
  rw [root_nil] at kr
  have kb := fun (hm0 : 1 ≤ m) w (h : Rs w A p) (hW : S3.Laid w) => both_any old ho p.reverse m.toNat n.toNat true (by simp; omega) (fun s h => hs s (by simpa using h)) (by omega) (by omega) (by omega) A c k m n w (by simp; exact hk) (by omega) (by omega) (by rw [List.reverse_reverse]; exact h) hc hW
  have AT := Lib.hid (Lk.At.start hW)
  have HR := Lib.hid hr
  have HK := Lib.hid hk
  have KD1 := Lib.hid kd1
  have KD2 := Lib.hid kd2
  have KR := Lib.hid kr
  have KB := Lib.hid kb
  clear kd1 kd2 kr kb hr hs hW hk h1 h2
  by_cases h34 : old.length = 32 ∧ now.length = 32
  case neg =>
    have h : b = false := by rw [HB.out]; exact decide_eq_false fun h => h34 ⟨h.2.2.1, h.2.2.2.1⟩
    subst h
    have e1 : decide (Digs [old, now]) = false := decide_eq_false (fun h => h34 ((digs_two old now).1 h))
    rw [e1] at KD1
    clear HB KB KR KD2 e1 h34 ho hw
    go_enter Tryd.func22, Tryd.ntmps22
    go_wp2_with fail
    refine KD1.out.mono ?_
    rintro e w1 ⟨rfl, rfl⟩
    replace AT := Lib.hid (AT.out.alloc (.cells (Ss [old, now]).toArray 9))
    generalize w.alloc (.cells (Ss [old, now]).toArray 9) = w1 at *
    go_wp2
    go_ret
    exact ⟨rfl, AT.out.bel⟩
  have h3 := h34.1
  have h4 := h34.2
  have e1 : decide (Digs [old, now]) = true := decide_eq_true ((digs_two old now).2 h34)
  rw [e1] at KD1
  by_cases h5 : Digs p
  case neg =>
    have h : b = false := by rw [HB.out]; exact decide_eq_false fun h => h5 h.2.2.2.2.1
    subst h
    have e2 : decide (Digs p) = false := decide_eq_false h5
    rw [e2] at KD2
    clear HB KB KR e1 e2 h34 h3 h4 h5 ho hw
    go_enter Tryd.func22, Tryd.ntmps22
    go_wp2_with fail
    refine KD1.out.mono ?_
    rintro e w1 ⟨rfl, rfl⟩
    replace AT := Lib.hid (AT.out.alloc (.cells (Ss [old, now]).toArray 9))
    generalize w.alloc (.cells (Ss [old, now]).toArray 9) = w1 at *
    go_wp2_with fail
    refine (KD2.out _ (HR.out.step AT.out.bel)).mono ?_
    rintro e w2 ⟨rfl, rfl⟩
    go_wp2
    go_ret
    exact ⟨rfl, AT.out.bel⟩
  have e2 : decide (Digs p) = true := decide_eq_true h5
  rw [e2] at KD2
  clear e1 e2 h34 ho hw
  by_cases hm0 : m = 0
  · subst hm0
    by_cases e1 : old = H []
    · have e1' : (0 : Int) = 0 ∧ old = H [] := ⟨rfl, e1⟩
      have hb2 : b = ((k : Int) == 0) := by
        rw [HB.out]
        have hd : ((k : Int) == 0) = decide (p = []) := by
          rw [HK.out]
          cases p with
          | nil => rfl
          | cons _ _ => simp; omega
        rw [hd]
        exact decide_eq_decide.2 ⟨fun h => by have h := h.2.2.2.2.2; rwa [if_pos (.inl e1')] at h, fun h => ⟨h1', h2', h3, h4, h5, by rw [if_pos (.inl e1')]; exact h⟩⟩
      subst hb2
      rw [← e1] at KR
      clear HB KB HK h3 h4 h5 e1 e1'
      go_enter Tryd.func22, Tryd.ntmps22
      go_wp2_with fail
      refine KD1.out.mono ?_
      rintro e w1 ⟨rfl, rfl⟩
      replace AT := Lib.hid (AT.out.alloc (.cells (Ss [old, now]).toArray 9))
      generalize w.alloc (.cells (Ss [old, now]).toArray 9) = w1 at *
      go_wp2_with fail
      refine (KD2.out _ (HR.out.step AT.out.bel)).mono ?_
      rintro e w2 ⟨rfl, rfl⟩
      go_wp2_with fail
      refine (KR.out _ AT.out.laid).mono ?_
      rintro e w3 ⟨rfl, hb⟩
      replace AT := Lib.hid (AT.out.step hb)
      clear hb
      go_wp2
      go_ret
      exact ⟨rfl, AT.out.bel⟩
    · have hx : ¬ ((0 : Int) = 0 ∧ old = H []) := fun h => e1 h.2
      obtain ⟨hv, hhv⟩ : ∃ x, x = H [] := ⟨_, rfl⟩
      rw [← hhv] at KR e1
      have HH := Lib.hid hhv
      have ne1 := neq_str' old hv e1
      clear hhv
      by_cases hn0 : n = 0
      · subst hn0
        by_cases e3 : old = now
        · have e3' : (0 : Int) = 0 ∧ old = now := ⟨rfl, e3⟩
          have hb2 : b = ((k : Int) == 0) := by
            rw [HB.out]
            have hd : ((k : Int) == 0) = decide (p = []) := by
              rw [HK.out]
              cases p with
              | nil => rfl
              | cons _ _ => simp; omega
            rw [hd]
            exact decide_eq_decide.2 ⟨fun h => by have h := h.2.2.2.2.2; rwa [if_pos (.inr e3')] at h, fun h => ⟨h1', h2', h3, h4, h5, by rw [if_pos (.inr e3')]; exact h⟩⟩
          subst hb2
          subst e3
          clear HB KB HK h3 h4 h5 hx e1 e3'
          go_enter Tryd.func22, Tryd.ntmps22
          go_wp2_with fail
          refine KD1.out.mono ?_
          rintro e w1 ⟨rfl, rfl⟩
          replace AT := Lib.hid (AT.out.alloc (.cells (Ss [old, old]).toArray 9))
          generalize w.alloc (.cells (Ss [old, old]).toArray 9) = w1 at *
          go_wp2_with fail
          refine (KD2.out _ (HR.out.step AT.out.bel)).mono ?_
          rintro e w2 ⟨rfl, rfl⟩
          go_wp2_with fail
          refine (KR.out _ AT.out.laid).mono ?_
          rintro e w3 ⟨rfl, hb⟩
          replace AT := Lib.hid (AT.out.step hb)
          clear hb
          go_wp2
          go_ret
          exact ⟨rfl, AT.out.bel⟩
        · have hy : ¬ (((0 : Int) = 0 ∧ old = H []) ∨ ((0 : Int) = 0 ∧ old = now)) := by
            rintro (h | h)
            · exact hx h
            · exact e3 h.2
          have hb2 : b = false := by
            rw [HB.out]
            exact decide_eq_false fun h => by
              have h := h.2.2.2.2.2
              rw [if_neg hy] at h
              exact h.1 rfl
          subst hb2
          have ne3 := neq_str' old now e3
          clear HB KB HK h3 h4 h5 hx hy e1 e3
          go_enter Tryd.func22, Tryd.ntmps22
          go_wp2_with fail
          refine KD1.out.mono ?_
          rintro e w1 ⟨rfl, rfl⟩
          replace AT := Lib.hid (AT.out.alloc (.cells (Ss [old, now]).toArray 9))
          generalize w.alloc (.cells (Ss [old, now]).toArray 9) = w1 at *
          go_wp2_with fail
          refine (KD2.out _ (HR.out.step AT.out.bel)).mono ?_
          rintro e w2 ⟨rfl, rfl⟩
          go_wp2_with fail
          refine (KR.out _ AT.out.laid).mono ?_
          rintro e w3 ⟨rfl, hb⟩
          replace AT := Lib.hid (AT.out.step hb)
          clear hb
          go_wp2
          go_ret
          exact ⟨rfl, AT.out.bel⟩
      · have hy : ¬ (((0 : Int) = 0 ∧ old = H []) ∨ ((0 : Int) = n ∧ old = now)) := by
          rintro (h | h)
          · exact hx h
          · exact hn0 h.1.symm
        have hb2 : b = false := by
          rw [HB.out]
          exact decide_eq_false fun h => by
            have h := h.2.2.2.2.2
            rw [if_neg hy] at h
            exact h.1 rfl
        subst hb2
        have nn : ((0 : Int) == n) = false := by simp; omega
        clear HB KB HK h3 h4 h5 hx hy e1
        go_enter Tryd.func22, Tryd.ntmps22
        go_wp2_with fail
        refine KD1.out.mono ?_
        rintro e w1 ⟨rfl, rfl⟩
        replace AT := Lib.hid (AT.out.alloc (.cells (Ss [old, now]).toArray 9))
        generalize w.alloc (.cells (Ss [old, now]).toArray 9) = w1 at *
        go_wp2_with fail
        refine (KD2.out _ (HR.out.step AT.out.bel)).mono ?_
        rintro e w2 ⟨rfl, rfl⟩
        go_wp2_with fail
        refine (KR.out _ AT.out.laid).mono ?_
        rintro e w3 ⟨rfl, hb⟩
        replace AT := Lib.hid (AT.out.step hb)
        clear hb
        go_wp2
        go_ret
        exact ⟨rfl, AT.out.bel⟩
  · have nm : (m == 0) = false := by simpa using hm0
    by_cases hmn : m = n
    · subst hmn
      by_cases e3 : old = now
      · have e3' : m = m ∧ old = now := ⟨rfl, e3⟩
        have hb2 : b = ((k : Int) == 0) := by
          rw [HB.out]
          have hd : ((k : Int) == 0) = decide (p = []) := by
            rw [HK.out]
            cases p with
            | nil => rfl
            | cons _ _ => simp; omega
          rw [hd]
          exact decide_eq_decide.2 ⟨fun h => by have h := h.2.2.2.2.2; rwa [if_pos (.inr e3')] at h, fun h => ⟨h1', h2', h3, h4, h5, by rw [if_pos (.inr e3')]; exact h⟩⟩
        subst hb2
        subst e3
        clear HB KB HK KR h3 h4 h5 e3' hm0
        go_enter Tryd.func22, Tryd.ntmps22
        go_wp2_with fail
        refine KD1.out.mono ?_
        rintro e w1 ⟨rfl, rfl⟩
        replace AT := Lib.hid (AT.out.alloc (.cells (Ss [old, old]).toArray 9))
        generalize w.alloc (.cells (Ss [old, old]).toArray 9) = w1 at *
        go_wp2_with fail
        refine (KD2.out _ (HR.out.step AT.out.bel)).mono ?_
        rintro e w2 ⟨rfl, rfl⟩
        go_wp2
        go_ret
        exact ⟨rfl, AT.out.bel⟩
      · have hy : ¬ ((m = 0 ∧ old = H []) ∨ (m = m ∧ old = now)) := by
          rintro (h | h)
          · exact hm0 h.1
          · exact e3 h.2
        have hb2 : b = false := by
          rw [HB.out]
          exact decide_eq_false fun h => by
            have h := h.2.2.2.2.2
            rw [if_neg hy] at h
            exact h.2.1 rfl
        subst hb2
        have ne3 := neq_str' old now e3
        clear HB KB HK KR h3 h4 h5 hy e3 hm0
        go_enter Tryd.func22, Tryd.ntmps22
        go_wp2_with fail
        refine KD1.out.mono ?_
        rintro e w1 ⟨rfl, rfl⟩
        replace AT := Lib.hid (AT.out.alloc (.cells (Ss [old, now]).toArray 9))
        generalize w.alloc (.cells (Ss [old, now]).toArray 9) = w1 at *
        go_wp2_with fail
        refine (KD2.out _ (HR.out.step AT.out.bel)).mono ?_
        rintro e w2 ⟨rfl, rfl⟩
        go_wp2
        go_ret
        exact ⟨rfl, AT.out.bel⟩
    · have hy : ¬ ((m = 0 ∧ old = H []) ∨ (m = n ∧ old = now)) := by
        rintro (h | h)
        · exact hm0 h.1
        · exact hmn h.1
      have nn : (m == n) = false := by simpa using hmn
      have hb2 : b = decide (rootsP old m.toNat n.toNat p.reverse true = ((old, now), true)) := by
        rw [HB.out]
        exact decide_eq_decide.2 ⟨fun h => by have h := h.2.2.2.2.2; rw [if_neg hy] at h; exact h.2.2, fun h => ⟨h1', h2', h3, h4, h5, by rw [if_neg hy]; exact ⟨hm0, hmn, h⟩⟩⟩
      have kb := KB.out (by omega)
      generalize rootsP old m.toNat n.toNat p.reverse true = cp at *
      obtain ⟨⟨ra, rb⟩, ok⟩ := cp
      simp only at kb
      have hb3 : b = (ok && (ra == old) && (rb == now)) := by
        rw [hb2]
        cases ok with
        | false => simp
        | true => rw [str_eq, str_eq, Bool.true_and, ← Bool.decide_and]; exact decide_eq_decide.2 (by simp)
      subst hb3
      clear KB
      have KB := Lib.hid kb
      clear HB HK KR hb2 h3 h4 h5 hy kb hm0 hmn
      cases ok with
      | false =>
        rw [Bool.false_and, Bool.false_and]
        go_enter Tryd.func22, Tryd.ntmps22
        go_wp2_with fail
        refine KD1.out.mono ?_
        rintro e w1 ⟨rfl, rfl⟩
        replace AT := Lib.hid (AT.out.alloc (.cells (Ss [old, now]).toArray 9))
        generalize w.alloc (.cells (Ss [old, now]).toArray 9) = w1 at *
        go_wp2_with fail
        refine (KD2.out _ (HR.out.step AT.out.bel)).mono ?_
        rintro e w2 ⟨rfl, rfl⟩
        go_wp2_with fail
        refine (KB.out _ (HR.out.step AT.out.bel) AT.out.laid).mono ?_
        rintro e w4 ⟨rfl, hb⟩
        replace AT := Lib.hid (AT.out.step hb)
        clear hb
        go_wp2
        go_ret
        exact ⟨rfl, AT.out.bel⟩
      | true =>
        rw [Bool.true_and]
        by_cases f1 : ra = old
        · subst f1
          have g1 : (ra == ra) = true := by simp
          rw [g1, Bool.true_and]
          clear g1
          go_enter Tryd.func22, Tryd.ntmps22
          go_wp2_with fail
          refine KD1.out.mono ?_
          rintro e w1 ⟨rfl, rfl⟩
          replace AT := Lib.hid (AT.out.alloc (.cells (Ss [ra, now]).toArray 9))
          generalize w.alloc (.cells (Ss [ra, now]).toArray 9) = w1 at *
          go_wp2_with fail
          refine (KD2.out _ (HR.out.step AT.out.bel)).mono ?_
          rintro e w2 ⟨rfl, rfl⟩
          go_wp2_with fail
          refine (KB.out _ (HR.out.step AT.out.bel) AT.out.laid).mono ?_
          rintro e w4 ⟨rfl, hb⟩
          replace AT := Lib.hid (AT.out.step hb)
          clear hb
          go_wp2
          go_ret
          exact ⟨rfl, AT.out.bel⟩
        · have g1 := neq_str' ra old f1
          rw [g1, Bool.false_and]
          clear f1
          go_enter Tryd.func22, Tryd.ntmps22
          go_wp2_with fail
          refine KD1.out.mono ?_
          rintro e w1 ⟨rfl, rfl⟩
          replace AT := Lib.hid (AT.out.alloc (.cells (Ss [old, now]).toArray 9))
          generalize w.alloc (.cells (Ss [old, now]).toArray 9) = w1 at *
          go_wp2_with fail
          refine (KD2.out _ (HR.out.step AT.out.bel)).mono ?_
          rintro e w2 ⟨rfl, rfl⟩
          go_wp2_with fail
          refine (KB.out _ (HR.out.step AT.out.bel) AT.out.laid).mono ?_
          rintro e w4 ⟨rfl, hb⟩
          replace AT := Lib.hid (AT.out.step hb)
          clear hb
          go_wp2
          go_ret
          exact ⟨rfl, AT.out.bel⟩
end Mk
end Go.Proofs.YtfemgakfckabhaaDoor
