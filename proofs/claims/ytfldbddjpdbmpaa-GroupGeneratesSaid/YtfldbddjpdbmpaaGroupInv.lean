/-
  Layer 4: the reference's Inv.
-/
import Derived.Test.YtfldbddjpdbmpaaGroupExp
namespace Go.Proofs.Ytfldbddjpdbmpaa
open Go.RowKit

/-- What Inv returns of a residue other than 0. -/
def invP (a : Int) : Nat := (a % 2305843009213693951).toNat ^ (Gp.N - 1) % 2305843009213693951
/-- The loop's state: r and s are multiples of A modulo P, by x and y. -/
structure Euc (A r s U V : Nat) (x y : Int) : Prop where
  sg : (x = -(U : Int) ∧ y = V) ∨ (x = U ∧ y = -(V : Int))
  sum : V * r + U * s = 2305843009213693951
  dx : (2305843009213693951 : Int) ∣ x * A - r
  dy : (2305843009213693951 : Int) ∣ y * A - s
  gcd : Nat.gcd r s = 1
  bU : U ≤ 2305843009213693951
  bV : V ≤ 2305843009213693951
  br : r ≤ 2305843009213693951
  bs : s ≤ 2305843009213693951
theorem euc_start (A : Nat) (h0 : 0 < A) (hA : A < 2305843009213693951) : Euc A 2305843009213693951 A 0 1 0 1 := by
  have hm : A % Gp.P = A := Nat.mod_eq_of_lt hA
  have hu := Gp.unit_of (a := A) (by omega)
  refine ⟨.inl ⟨by omega, rfl⟩, by omega, ⟨-1, by omega⟩, ⟨0, by omega⟩, ?_, by omega, by omega, by omega, by omega⟩
  have h1 : Nat.gcd 2305843009213693951 A ∣ Gp.P := Nat.gcd_dvd_left _ _
  have h2 : Nat.gcd 2305843009213693951 A ∣ A * A ^ (Gp.N - 1) := Nat.dvd_trans (Nat.gcd_dvd_right _ _) (Nat.dvd_mul_right _ _)
  have h3 : Nat.gcd 2305843009213693951 A ∣ A * A ^ (Gp.N - 1) % Gp.P := (Nat.dvd_mod_iff h1).2 h2
  rw [hu] at h3
  exact Nat.eq_one_of_dvd_one h3
theorem euc_step {A r s U V : Nat} {x y : Int} (h : Euc A r s U V x y) (hs : 0 < s) :
    Euc A s (r - r / s * s) V (U + r / s * V) y (x - (r / s : Nat) * y) ∧ r / s * s ≤ r ∧ r / s * V ≤ 2305843009213693951 := by
  have hq : r / s * s ≤ r := Nat.div_mul_le_self r s
  obtain ⟨q, hqq⟩ : ∃ q, q = r / s := ⟨_, rfl⟩
  have hmod : r % s = r - q * s := by rw [hqq, Nat.mod_eq_sub_div_mul]
  rw [← hqq] at hq ⊢
  have hsum : (U + q * V) * s + V * (r - q * s) = 2305843009213693951 := by
    have h1 := h.sum
    have h2 : V * (r - q * s) + V * (q * s) = V * r := by rw [← Nat.mul_add, Nat.sub_add_cancel hq]
    have h3 : q * V * s = V * (q * s) := by rw [Nat.mul_comm q V, Nat.mul_assoc]
    rw [Nat.add_mul, h3]
    omega
  have hV2 : U + q * V ≤ 2305843009213693951 := by
    have h1 : U + q * V ≤ (U + q * V) * s := Nat.le_mul_of_pos_right _ hs
    omega
  refine ⟨⟨?_, hsum, h.dy, ?_, ?_, h.bV, hV2, h.bs, by have := h.br; omega⟩, hq, by omega⟩
  · rcases h.sg with ⟨h1, h2⟩ | ⟨h1, h2⟩
    · right
      refine ⟨h2, ?_⟩
      rw [h1, h2]; simp; omega
    · left
      refine ⟨h2, ?_⟩
      rw [h1, h2, Int.mul_neg]; simp
  · have e : (x - (q : Int) * y) * A - ((r - q * s : Nat) : Int) = (x * A - r) - q * (y * A - s) := by
      rw [Int.natCast_sub hq, Int.natCast_mul, Int.sub_mul, Int.mul_sub, Int.mul_assoc]; omega
    rw [e]
    exact Int.dvd_sub h.dx (Int.dvd_mul_of_dvd_right h.dy)
  · rw [← hmod, Nat.gcd_comm, ← Nat.gcd_rec, Nat.gcd_comm]; exact h.gcd
theorem euc_end {A r U V : Nat} {x y : Int} (h : Euc A r 0 U V x y) (a : Int) (hA : (A : Int) = a % 2305843009213693951) : x % 2305843009213693951 = (invP a : Nat) := by
  have hr : r = 1 := by have := h.gcd; rw [Nat.gcd_zero_right] at this; exact this
  subst hr
  obtain ⟨u, hu⟩ : ∃ u : Nat, (u : Int) = x % 2305843009213693951 := ⟨(x % 2305843009213693951).toNat, by omega⟩
  have hu2 : u < 2305843009213693951 := by omega
  have h1 : (u * A) % Gp.P = 1 := by
    have h2 : ((u * A : Nat) : Int) % 2305843009213693951 = 1 := by
      rw [Int.natCast_mul, hu, Int.mul_emod, Int.emod_emod, ← Int.mul_emod]
      have := Int.emod_emod_of_dvd (x * A - 1) (Int.dvd_refl 2305843009213693951)
      have h3 := Int.emod_eq_zero_of_dvd h.dx
      simp at h3
      omega
    have h4 : (((u * A) % 2305843009213693951 : Nat) : Int) = 1 := by rw [Int.natCast_emod]; exact h2
    show (u * A) % 2305843009213693951 = 1
    omega
  have hA0 : A % Gp.P ≠ 0 := by
    intro hc
    rw [Nat.mul_mod, hc, Nat.mul_zero] at h1
    cases h1
  have h2 := Gp.unit_of hA0
  have h3 : u * (A * A ^ (Gp.N - 1)) % Gp.P = A ^ (Gp.N - 1) % Gp.P := by
    rw [← Nat.mul_assoc, Nat.mul_mod, h1, Nat.one_mul, Nat.mod_mod]
  rw [Nat.mul_mod, h2, Nat.mul_one, Nat.mod_mod] at h3
  have h4 : u = A ^ (Gp.N - 1) % Gp.P := by
    rw [← h3]; exact (Nat.mod_eq_of_lt hu2).symm
  rw [← hu, h4, invP, ← hA]
  rfl

set_option maxHeartbeats 1000000 in
set_option maxRecDepth 100000 in
theorem refInv_any (a : Int) (w : World) : Calls Try.prog 10 #[.int .i64 a] w fun e w' =>
    e = .returned (if a % 2305843009213693951 = 0 then .tuple #[.int .i64 0, .bool false] else .tuple #[.int .i64 (invP a : Nat), .bool true]) ∧ w' = w := by
  have k1 := fun w => refMod_any a 2305843009213693951 w (Or.inl rfl)
  obtain ⟨I, hI⟩ : ∃ I, I = invP a := ⟨_, rfl⟩
  rw [← hI]
  have HI := Lib.hid hI
  clear hI
  obtain ⟨A, hA⟩ : ∃ x : Nat, (x : Int) = a % 2305843009213693951 := ⟨(a % 2305843009213693951).toNat, by omega⟩
  rw [← hA] at k1
  have hA2 : A < 2305843009213693951 := by omega
  have hA3 : (A : Int) < 2305843009213693951 := by omega
  have K1 := Lib.hid k1
  have HA := Lib.hid hA
  by_cases h0 : A = 0
  · have hz : a % 2305843009213693951 = 0 := by omega
    rw [if_pos hz]
    subst h0
    rw [show ((0 : Nat) : Int) = 0 from rfl] at K1
    clear k1 hA hz HA hA2 hA3
    go_enter Try.func10, Try.ntmps10
    go_wp2_with fail
    refine (K1.out _).mono ?_
    rintro r w1 ⟨rfl, rfl⟩
    go_wp2
    go_ret2
    exact ⟨rfl, rfl⟩
  · have hz : ¬ a % 2305843009213693951 = 0 := by omega
    rw [if_neg hz]
    have h00 : ¬ (A : Int) = 0 := by omega
    have HP : Hid (0 < A ∧ A < 2305843009213693951) := Lib.hid ⟨by omega, hA2⟩
    clear k1 hA hz h0 hA2 hA3
    go_enter Try.func10, Try.ntmps10
    go_wp2_with fail
    refine (K1.out _).mono ?_
    rintro r w1 ⟨rfl, rfl⟩
    clear K1
    go_wp2_with fail
    clear h00
    have st := Lib.hid (euc_start A HP.out.1 HP.out.2)
    go_loopw [4, 5, 6, 7] (fun s4 s5 s6 s7 wr => ∃ (r s U V : Nat) (x y : Int), s4 = .int .i64 (r : Int) ∧ s5 = .int .i64 (s : Int) ∧ s6 = .int .i64 x ∧ s7 = .int .i64 y ∧ Hid (Euc A r s U V x y) ∧ wr = w1) (fun _ s5 _ _ _ => (intOf s5).toNat)
    case atStart => exact ⟨2305843009213693951, A, 0, 1, 0, 1, rfl, rfl, rfl, rfl, st, rfl⟩
    case round =>
      clear st
      obtain ⟨r, s, U, V, x, y, rfl, rfl, rfl, rfl, HE, rfl⟩ := hrel
      by_cases hs : s = 0
      · subst hs
        have hfin := euc_end HE.out a HA.out
        have k2 := fun w => refMod_any x 2305843009213693951 w (Or.inl rfl)
        rw [hfin, ← HI.out] at k2
        have K2 := Lib.hid k2
        rw [show ((0 : Nat) : Int) = 0 from rfl]
        clear k2 hfin HE HA HI
        go_wp2_with fail
        refine (K2.out _).mono ?_
        rintro r2 w2 ⟨rfl, rfl⟩
        go_wp2
        go_ret2
        exact ⟨rfl, rfl⟩
      · have hs0 : (0 : Int) < s := by omega
        have hsne : ¬ (s : Int) = 0 := by omega
        obtain ⟨hstep, hqs, hqV⟩ := euc_step HE.out (show 0 < s by omega)
        have hr := HE.out.br
        have hS := HE.out.bs
        have hU := HE.out.bU
        have hV := HE.out.bV
        have hsg := HE.out.sg
        have hlt : r - r / s * s < s := by rw [← Nat.mod_eq_sub_div_mul]; exact Nat.mod_lt _ (by omega)
        obtain ⟨q, hq⟩ : ∃ q, q = r / s := ⟨_, rfl⟩
        have hqr : q ≤ r := by rw [hq]; exact Nat.div_le_self _ _
        rw [← hq] at hstep hqs hqV hlt
        obtain ⟨t1, ht1⟩ : ∃ t, t = q * s := ⟨_, rfl⟩
        obtain ⟨t2, ht2⟩ : ∃ t, t = q * V := ⟨_, rfl⟩
        rw [← ht1] at hstep hqs hlt
        rw [← ht2] at hqV hstep
        obtain ⟨z, hz⟩ : ∃ z : Int, z = (q : Int) * y := ⟨_, rfl⟩
        rw [← hz] at hstep
        have hzb : -2305843009213693951 ≤ z ∧ z ≤ 2305843009213693951 := by
          rcases hsg with ⟨_, h2⟩ | ⟨_, h2⟩
          · have : z = (t2 : Int) := by rw [hz, h2, ht2]; simp
            omega
          · have : z = -(t2 : Int) := by rw [hz, h2, ht2, Int.mul_neg]; simp
            omega
        obtain ⟨s2, hs2⟩ : ∃ t, t = r - t1 := ⟨_, rfl⟩
        rw [← hs2] at hstep hlt
        have d1 : (r : Int) / (s : Int) = (q : Int) := by rw [hq]; simp
        have d2 : (r : Int).tdiv (s : Int) = (q : Int) := by rw [Int.tdiv_eq_ediv_of_nonneg (by omega)]; exact d1
        have d3 : IntKind.i64.wrap (q : Int) = q := IntWalk.i64_in _ (by omega)
        have d4 : IntKind.i64.wrap ((q : Int) * s) = (t1 : Int) := by rw [show (q : Int) * s = (t1 : Int) by rw [ht1]; simp]; exact IntWalk.i64_in _ (by omega)
        have d5 : IntKind.i64.wrap ((r : Int) - t1) = (s2 : Int) := by rw [show (r : Int) - t1 = (s2 : Int) by omega]; exact IntWalk.i64_in _ (by omega)
        have d6 : IntKind.i64.wrap ((q : Int) * y) = z := by rw [← hz]; exact IntWalk.i64_in _ (by omega)
        obtain ⟨y2, hy2⟩ : ∃ t, t = x - z := ⟨_, rfl⟩
        have d7 : IntKind.i64.wrap (x - z) = y2 := by
          rw [hy2]
          refine IntWalk.i64_in _ ?_
          rcases hsg with ⟨h1, _⟩ | ⟨h1, _⟩ <;> omega
        rw [← hy2] at hstep
        have HS := Lib.hid hstep
        clear hstep HE hr hS hU hV hsg hq hqr ht1 ht2 hz hzb hs2 hy2 hqs hqV HA
        go_wp2_with fail
        go_roundw
        case rel => exact ⟨s, s2, V, _, y, y2, rfl, rfl, rfl, rfl, HS, trivial⟩
        case measure => simp [intOf]; omega
end Go.Proofs.Ytfldbddjpdbmpaa
