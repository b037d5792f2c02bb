/-
  GroupDiv, GroupDivN: joined.
-/
import Derived.Test.YtojbicpchjiplaaGreatDoorGroupInv
import Derived.Test.YtojbicpchjiplaaGreatDoorGroupMath
import Derived.Laws.Bits64b
import Derived.Deep.Draws
/-
  Layer 4: math/bits.Div64 by P and by N.
-/
namespace Go.Proofs.YtojbicpchjiplaaGreatDoor.S4
open Go.RowKit

/-- The world has only drawn orders. -/
def Drew (w w' : World) : Prop := ∃ n, w' = w.drewN n
theorem Drew.refl (w : World) : Drew w w := ⟨0, rfl⟩
theorem Drew.trans {w1 w2 w3 : World} (h : Drew w1 w2) (g : Drew w2 w3) : Drew w1 w3 := by
  obtain ⟨n, rfl⟩ := h
  obtain ⟨m, rfl⟩ := g
  exact ⟨n + m, by unfold World.drewN; simp [Nat.add_assoc]⟩
theorem Drew.drewN (w : World) (n : Nat) : Drew w (w.drewN n) := ⟨n, rfl⟩

theorem or_low (h l : Nat) (hh : h < 288230376151711744) (hl : l < 8) : bits .or .u64 ((h : Int) * 8) (l : Nat) = ((h * 8 + l : Nat) : Int) := by
  have e := bits_or_u64_nat (h * 8) l (by omega) (by omega)
  have h3 := Nat.two_pow_add_eq_or_of_lt (i := 3) (b := l) (by omega) h
  rw [show (h : Int) * 8 = ((h * 8 : Nat) : Int) by omega, e, Nat.mul_comm h 8]
  rw [← show 2 ^ 3 * h + l = 8 * h + l from rfl, h3]
theorem wrapm (u d Q R Y : Nat) (h : u * 4294967296 + d = Q * Y + R) (h1 : R < 18446744073709551616) :
    IntKind.u64.wrap (IntKind.u64.wrap (IntKind.u64.wrap ((u : Int) * 4294967296) + d) - IntKind.u64.wrap ((Q : Int) * Y)) = (R : Int) := by
  have h2 : (u : Int) * 4294967296 + d = Q * Y + R := by
    have := congrArg (fun n : Nat => (n : Int)) h
    simpa using this
  rw [IntKind.wrap_u64, IntKind.wrap_u64, IntKind.wrap_u64, IntKind.wrap_u64, Int.emod_add_emod, Int.emod_sub_emod, Int.sub_emod_emod, h2]
  omega
theorem and_low (x : Nat) (hx : x < 18446744073709551616) : bits .and .u64 (x : Int) 4294967295 = ((x % 4294967296 : Nat) : Int) := by
  have h := bits_and_u64_nat x 4294967295 hx (by omega)
  have e : x &&& 4294967295 = x % 4294967296 := Nat.and_two_pow_sub_one_eq_mod x 32
  rw [e] at h
  exact h

theorem sum_P {u d Q R : Nat} (hQ : Q = (u * 4294967296 + d) / 18446744073709551608) (hR : R = (u * 4294967296 + d) % 18446744073709551608) : u * 4294967296 + d = Q * 18446744073709551608 + R := by
  rw [hQ, hR, Nat.mul_comm _ 18446744073709551608]
  exact (Nat.div_add_mod _ _).symm
theorem digits_P (R : Nat) (h : R < 18446744073709551608) : (R : Int).tdiv 4294967295 = ((R / 4294967295 : Nat) : Int) ∧ (R : Int) / 4294967295 = ((R / 4294967295 : Nat) : Int) ∧ IntKind.u64.wrap ((R / 4294967295 : Nat) : Int) = ((R / 4294967295 : Nat) : Int) ∧ IntKind.u64.wrap (((R / 4294967295 : Nat) : Int) * 4294967295) = ((R / 4294967295 * 4294967295 : Nat) : Int) ∧ IntKind.u64.wrap ((R : Int) - ((R / 4294967295 * 4294967295 : Nat) : Int)) = ((R % 4294967295 : Nat) : Int) := by
  have h1 : (R : Int) / 4294967295 = ((R / 4294967295 : Nat) : Int) := by omega
  refine ⟨by rw [Int.tdiv_eq_ediv_of_nonneg (by omega)]; exact h1, h1, IntWalk.u64_in _ (by omega), ?_, ?_⟩
  · rw [show ((R / 4294967295 : Nat) : Int) * 4294967295 = ((R / 4294967295 * 4294967295 : Nat) : Int) by omega]
    exact IntWalk.u64_in _ (by omega)
  · rw [show (R : Int) - ((R / 4294967295 * 4294967295 : Nat) : Int) = ((R % 4294967295 : Nat) : Int) by omega]
    exact IntWalk.u64_in _ (by omega)

set_option maxHeartbeats 4000000 in
set_option maxRecDepth 100000 in
theorem div64_P (hi lo : Nat) (w : World) (hh : hi < 288230376151711744) (hl : lo < 18446744073709551616)
    (kz : ∀ w, Calls Tryz.prog 163 #[.int .u64 2305843009213693951] w fun e w' => e = .returned (.int .i64 3) ∧ w' = w) :
    Calls Tryz.prog 158 #[.int .u64 (hi : Int), .int .u64 (lo : Int), .int .u64 2305843009213693951] w fun e w' => (∃ q : Int, e = .returned (.tuple #[.int .u64 q, .int .u64 (((hi * 18446744073709551616 + lo) % 2305843009213693951 : Nat) : Int)])) ∧ Drew w w' := by
  have K := Lib.hid kz
  clear kz
  by_cases h0 : hi = 0
  · subst h0
    obtain ⟨z, hz⟩ : ∃ z, z = (0 * 18446744073709551616 + lo) % 2305843009213693951 := ⟨_, rfl⟩
    rw [← hz]
    have e1 : (lo : Int) % 2305843009213693951 = (z : Int) := by omega
    have e2 : (lo : Int).tmod 2305843009213693951 = (z : Int) := by rw [Int.tmod_eq_emod_of_nonneg (by omega)]; exact e1
    rw [show ((0 : Nat) : Int) = 0 from rfl]
    clear hz K hh hl
    go_enter Tryz.func158, Tryz.ntmps158
    go_wp2_with fail
    go_quiet (fail)
    go_wp2
    go_ret2
    exact ⟨⟨_, rfl⟩, Drew.drewN _ _⟩
  · have hi0 : ¬ (hi : Int) = 0 := by omega
    have hi1 : ¬ (2305843009213693951 : Int) ≤ hi := by omega
    obtain ⟨z, hz⟩ : ∃ z, z = (hi * 18446744073709551616 + lo) % 2305843009213693951 := ⟨_, rfl⟩
    rw [← hz]
    have hrest := (Kd.rests_P hi lo).2
    rw [← hz] at hrest
    obtain ⟨v, hv⟩ : ∃ v, v = lo / 2305843009213693952 := ⟨_, rfl⟩
    obtain ⟨L, hL⟩ : ∃ L, L = lo * 8 % 18446744073709551616 := ⟨_, rfl⟩
    obtain ⟨u, hu⟩ : ∃ u, u = hi * 8 + v := ⟨_, rfl⟩
    obtain ⟨d1, hd1⟩ : ∃ d, d = L / 4294967296 := ⟨_, rfl⟩
    obtain ⟨d0, hd0⟩ : ∃ d, d = L % 4294967296 := ⟨_, rfl⟩
    rw [← hv, ← hu, ← hL, ← hd1, ← hd0] at hrest
    have HR := Lib.hid hrest
    have hz2 := Lib.hid hz
    clear hrest hz
    have hub : u < 2305843009213693952 := by omega
    have hd1b : d1 < 4294967296 := by omega
    have hd0b : d0 < 4294967296 := by omega
    have E1 : bits .and .u64 18446744073709551608 4294967295 = 4294967288 := by
      have h := and_low 18446744073709551608 (by omega)
      rw [show ((18446744073709551608 : Nat) : Int) = 18446744073709551608 from rfl, show ((18446744073709551608 % 4294967296 : Nat) : Int) = 4294967288 from rfl] at h
      exact h
    have E2 : bits .or .u64 ((hi : Int) * 8) (v : Int) = (u : Int) := by rw [hu]; exact or_low hi v hh (by omega)
    have E2' : (lo : Int) / 2305843009213693952 = (v : Int) := by omega
    have E3 : IntKind.u64.wrap ((lo : Int) * 8) = (L : Int) := by rw [IntKind.wrap_u64]; omega
    have E4 : (L : Int) / 4294967296 = (d1 : Int) := by omega
    have E5 : bits .and .u64 (L : Int) 4294967295 = (d0 : Int) := by rw [hd0]; exact and_low L (by omega)
    have D := digits_P u (by omega)
    obtain ⟨q, hq⟩ : ∃ q, q = u / 4294967295 := ⟨_, rfl⟩
    obtain ⟨r, hr⟩ : ∃ q, q = u % 4294967295 := ⟨_, rfl⟩
    rw [← hq, ← hr] at D
    obtain ⟨p, hp⟩ : ∃ p, p = q * 4294967295 := ⟨_, rfl⟩
    rw [← hp] at D
    obtain ⟨E6, E6', E7, E8, E9⟩ := D
    obtain ⟨Q1, hQ1⟩ : ∃ q, q = (u * 4294967296 + d1) / 18446744073709551608 := ⟨_, rfl⟩
    obtain ⟨R1, hR1⟩ : ∃ q, q = (u * 4294967296 + d1) % 18446744073709551608 := ⟨_, rfl⟩
    obtain ⟨Q2, hQ2⟩ : ∃ q, q = (R1 * 4294967296 + d0) / 18446744073709551608 := ⟨_, rfl⟩
    obtain ⟨R2, hR2⟩ : ∃ q, q = (R1 * 4294967296 + d0) % 18446744073709551608 := ⟨_, rfl⟩
    have HR2 := HR.out
    rw [← hR1, ← hR2] at HR2
    have hR1b : R1 < 18446744073709551608 := by rw [hR1]; exact Nat.mod_lt _ (by decide)
    have G1 : IntKind.u64.wrap (IntKind.u64.wrap (IntKind.u64.wrap ((u : Int) * 4294967296) + d1) - IntKind.u64.wrap ((Q1 : Int) * 18446744073709551608)) = (R1 : Int) := wrapm u d1 Q1 R1 18446744073709551608 (sum_P hQ1 hR1) (Nat.lt_trans hR1b (by decide))
    have D := digits_P R1 hR1b
    obtain ⟨q', hq'⟩ : ∃ q, q = R1 / 4294967295 := ⟨_, rfl⟩
    obtain ⟨r', hr'⟩ : ∃ q, q = R1 % 4294967295 := ⟨_, rfl⟩
    rw [← hq', ← hr'] at D
    obtain ⟨p', hp'⟩ : ∃ p, p = q' * 4294967295 := ⟨_, rfl⟩
    rw [← hp'] at D
    obtain ⟨G2, G2', G3, G4, G5⟩ := D
    have HQ1 := Lib.hid (And.intro G1 (And.intro G2 (And.intro G2' (And.intro G3 (And.intro G4 G5)))))
    have st2 := Kd.est_start_P (u := R1) (d := d0) hR1b hd0b
    rw [← hq', ← hr'] at st2
    have ST2 := Lib.hid st2
    have G6 : IntKind.u64.wrap (IntKind.u64.wrap (IntKind.u64.wrap ((R1 : Int) * 4294967296) + d0) - IntKind.u64.wrap ((Q2 : Int) * 18446744073709551608)) = (R2 : Int) := wrapm R1 d0 Q2 R2 18446744073709551608 (sum_P hQ2 hR2) (Nat.lt_trans (by rw [hR2]; exact Nat.mod_lt _ (by decide)) (show 18446744073709551608 < 18446744073709551616 by decide))
    have G7 : (R2 : Int) / 8 = (z : Int) := by rw [← HR2]; rfl
    have HQ2 := Lib.hid (And.intro G6 G7)
    have HV1 := Lib.hid hQ1
    have HV2 := Lib.hid hQ2
    clear st2 G1 G2 G2' G3 G4 G5 G6 G7 hq' hr' hp' hR1b HR2 hQ2 hR2 hQ1 hR1
    have st1 := Kd.est_start_P (u := u) (d := d1) (by omega) hd1b
    rw [← hq, ← hr] at st1
    have ST1 := Lib.hid st1
    clear HR
    have HB : Hid (u < 2305843009213693952 ∧ d1 < 4294967296 ∧ d0 < 4294967296) := Lib.hid ⟨hub, hd1b, hd0b⟩
    clear hz2 hv hL hu hd1 hd0 hub hd1b hd0b hq hr hp st1 h0 hh hl
    go_enter Tryz.func158, Tryz.ntmps158
    go_wp2_with fail
    refine (K.out _).mono ?_
    rintro e w1 ⟨rfl, rfl⟩
    clear K
    go_wp2_with fail
    clear E1 E2 E2' E3 E4 E5 E6 E6' E7 E8 E9 hi0 hi1
    go_loopw [15, 16] (fun s15 s16 wz => ∃ q r : Nat, s15 = .int .u64 (q : Int) ∧ s16 = .int .u64 (r : Int) ∧ Hid (Kd.EstP u d1 q r) ∧ wz = w1) (fun s15 s16 _ => (intOf s15).toNat)
    case atStart => exact ⟨q, r, rfl, rfl, ST1, rfl⟩
    case round =>
      clear ST1
      obtain ⟨q, r, rfl, rfl, HE, rfl⟩ := hrel
      have hE := HE.out
      obtain ⟨z1, z2, z3, z4, z5, z6⟩ := hE
      by_cases hc : 4294967296 ≤ q ∨ 4294967296 * r + d1 < q * 4294967288
      · have hov := Kd.est_over_P HE.out hc
        obtain ⟨q2, hq2⟩ : ∃ x, x = q - 1 := ⟨_, rfl⟩
        obtain ⟨r2, hr2⟩ : ∃ x, x = r + 4294967295 := ⟨_, rfl⟩
        have f1 : IntKind.u64.wrap ((q : Int) - 1) = (q2 : Int) := by rw [show (q : Int) - 1 = (q2 : Int) by omega]; exact IntWalk.u64_in _ (by omega)
        have f2 : IntKind.u64.wrap ((r : Int) + 4294967295) = (r2 : Int) := by rw [show (r : Int) + 4294967295 = (r2 : Int) by omega]; exact IntWalk.u64_in _ (by omega)
        by_cases hbr : 4294967296 ≤ r2
        · have hst := Kd.est_stop_P HE.out hc (by omega)
          have g2 : (4294967296 : Int) ≤ r2 := by omega
          rw [← hq2] at hst
          have HS : Hid (q2 = Q1) := Lib.hid (hst.trans HV1.out.symm)
          by_cases hcq : 4294967296 ≤ q
          · have g1 : (4294967296 : Int) ≤ q := by omega
            clear hov hq2 hr2 hst HE hc z1 z2 z3 z4 z5 z6 hbr hcq
            obtain rfl := HS.out
            clear HS
            obtain ⟨F1, F2, F2', F3, F4, F5⟩ := HQ1.out
            go_wp2_with fail
            clear F1 F2 F2' F3 F4 F5
            go_loopw [16, 18] (fun s16 s18 wz => ∃ q r : Nat, s18 = .int .u64 (q : Int) ∧ s16 = .int .u64 (r : Int) ∧ Hid (Kd.EstP R1 d0 q r) ∧ wz = wr) (fun s16 s18 _ => (intOf s18).toNat)
            case atStart => exact ⟨q', r', rfl, rfl, ST2, rfl⟩
            case round =>
              clear ST2
              obtain ⟨q, r, rfl, rfl, HE, rfl⟩ := hrel
              have hE := HE.out
              obtain ⟨z1, z2, z3, z4, z5, z6⟩ := hE
              by_cases hc : 4294967296 ≤ q ∨ 4294967296 * r + d0 < q * 4294967288
              · have hov := Kd.est_over_P HE.out hc
                obtain ⟨q2, hq2⟩ : ∃ x, x = q - 1 := ⟨_, rfl⟩
                obtain ⟨r2, hr2⟩ : ∃ x, x = r + 4294967295 := ⟨_, rfl⟩
                have f1 : IntKind.u64.wrap ((q : Int) - 1) = (q2 : Int) := by rw [show (q : Int) - 1 = (q2 : Int) by omega]; exact IntWalk.u64_in _ (by omega)
                have f2 : IntKind.u64.wrap ((r : Int) + 4294967295) = (r2 : Int) := by rw [show (r : Int) + 4294967295 = (r2 : Int) by omega]; exact IntWalk.u64_in _ (by omega)
                by_cases hbr : 4294967296 ≤ r2
                · have hst := Kd.est_stop_P HE.out hc (by omega)
                  have g2 : (4294967296 : Int) ≤ r2 := by omega
                  rw [← hq2] at hst
                  have HS : Hid (q2 = Q2) := Lib.hid (hst.trans HV2.out.symm)
                  by_cases hcq : 4294967296 ≤ q
                  · have g1 : (4294967296 : Int) ≤ q := by omega
                    clear hov hq2 hr2 hst HE hc z1 z2 z3 z4 z5 z6 hbr hcq
                    obtain rfl := HS.out
                    clear HS
                    obtain ⟨F1, F2⟩ := HQ2.out
                    go_wp2_with fail
                    go_ret2
                    exact ⟨⟨_, rfl⟩, Drew.refl _⟩
                  · have g1 : ¬ (4294967296 : Int) ≤ q := by omega
                    obtain ⟨t1, ht1⟩ : ∃ t, t = q * 4294967288 := ⟨_, rfl⟩
                    obtain ⟨t2, ht2⟩ : ∃ t, t = 4294967296 * r + d0 := ⟨_, rfl⟩
                    have f3 : IntKind.u64.wrap ((q : Int) * 4294967288) = (t1 : Int) := by rw [show (q : Int) * 4294967288 = (t1 : Int) by omega]; exact IntWalk.u64_in _ (by omega)
                    have f4 : IntKind.u64.wrap ((4294967296 : Int) * r) = 4294967296 * r := IntWalk.u64_in _ (by omega)
                    have f5 : IntKind.u64.wrap ((4294967296 : Int) * r + d0) = (t2 : Int) := by rw [show (4294967296 : Int) * r + d0 = (t2 : Int) by omega]; exact IntWalk.u64_in _ (by omega)
                    have f6 : (t2 : Int) < t1 := by omega
                    clear hov hq2 hr2 hst HE hc z1 z2 z3 z4 z5 z6 hbr hcq ht1 ht2
                    obtain rfl := HS.out
                    clear HS
                    obtain ⟨F1, F2⟩ := HQ2.out
                    go_wp2_with fail
                    go_ret2
                    exact ⟨⟨_, rfl⟩, Drew.refl _⟩
                · have hst := Kd.est_next_P HE.out hc (by omega)
                  have g2 : ¬ (4294967296 : Int) ≤ r2 := by omega
                  have hlt : q2 < q := by omega
                  rw [← hq2, ← hr2] at hst
                  have HS := Lib.hid hst
                  by_cases hcq : 4294967296 ≤ q
                  · have g1 : (4294967296 : Int) ≤ q := by omega
                    clear hov hq2 hr2 hst HE hc z1 z2 z3 z4 z5 z6 hbr hcq
                    go_wp2_with fail
                    go_roundw
                    case rel => exact ⟨q2, r2, rfl, rfl, HS, trivial⟩
                    case measure => simp [intOf]; omega
                  · have g1 : ¬ (4294967296 : Int) ≤ q := by omega
                    obtain ⟨t1, ht1⟩ : ∃ t, t = q * 4294967288 := ⟨_, rfl⟩
                    obtain ⟨t2, ht2⟩ : ∃ t, t = 4294967296 * r + d0 := ⟨_, rfl⟩
                    have f3 : IntKind.u64.wrap ((q : Int) * 4294967288) = (t1 : Int) := by rw [show (q : Int) * 4294967288 = (t1 : Int) by omega]; exact IntWalk.u64_in _ (by omega)
                    have f4 : IntKind.u64.wrap ((4294967296 : Int) * r) = 4294967296 * r := IntWalk.u64_in _ (by omega)
                    have f5 : IntKind.u64.wrap ((4294967296 : Int) * r + d0) = (t2 : Int) := by rw [show (4294967296 : Int) * r + d0 = (t2 : Int) by omega]; exact IntWalk.u64_in _ (by omega)
                    have f6 : (t2 : Int) < t1 := by omega
                    clear hov hq2 hr2 hst HE hc z1 z2 z3 z4 z5 z6 hbr hcq ht1 ht2
                    go_wp2_with fail
                    go_roundw
                    case rel => exact ⟨q2, r2, rfl, rfl, HS, trivial⟩
                    case measure => simp [intOf]; omega
              · have hst := Kd.est_done_P HE.out hc
                have HS : Hid (q = Q2) := Lib.hid (hst.trans HV2.out.symm)
                have g1 : ¬ (4294967296 : Int) ≤ q := by omega
                obtain ⟨t1, ht1⟩ : ∃ t, t = q * 4294967288 := ⟨_, rfl⟩
                obtain ⟨t2, ht2⟩ : ∃ t, t = 4294967296 * r + d0 := ⟨_, rfl⟩
                have f3 : IntKind.u64.wrap ((q : Int) * 4294967288) = (t1 : Int) := by rw [show (q : Int) * 4294967288 = (t1 : Int) by omega]; exact IntWalk.u64_in _ (by omega)
                have f4 : IntKind.u64.wrap ((4294967296 : Int) * r) = 4294967296 * r := IntWalk.u64_in _ (by omega)
                have f5 : IntKind.u64.wrap ((4294967296 : Int) * r + d0) = (t2 : Int) := by rw [show (4294967296 : Int) * r + d0 = (t2 : Int) by omega]; exact IntWalk.u64_in _ (by omega)
                have f6 : ¬ (t2 : Int) < t1 := by omega
                clear hst HE hc z1 z2 z3 z4 z5 z6 ht1 ht2
                obtain rfl := HS.out
                clear HS
                obtain ⟨F1, F2⟩ := HQ2.out
                go_wp2_with fail
                go_ret2
                exact ⟨⟨_, rfl⟩, Drew.refl _⟩
          · have g1 : ¬ (4294967296 : Int) ≤ q := by omega
            obtain ⟨t1, ht1⟩ : ∃ t, t = q * 4294967288 := ⟨_, rfl⟩
            obtain ⟨t2, ht2⟩ : ∃ t, t = 4294967296 * r + d1 := ⟨_, rfl⟩
            have f3 : IntKind.u64.wrap ((q : Int) * 4294967288) = (t1 : Int) := by rw [show (q : Int) * 4294967288 = (t1 : Int) by omega]; exact IntWalk.u64_in _ (by omega)
            have f4 : IntKind.u64.wrap ((4294967296 : Int) * r) = 4294967296 * r := IntWalk.u64_in _ (by omega)
            have f5 : IntKind.u64.wrap ((4294967296 : Int) * r + d1) = (t2 : Int) := by rw [show (4294967296 : Int) * r + d1 = (t2 : Int) by omega]; exact IntWalk.u64_in _ (by omega)
            have f6 : (t2 : Int) < t1 := by omega
            clear hov hq2 hr2 hst HE hc z1 z2 z3 z4 z5 z6 hbr hcq ht1 ht2
            obtain rfl := HS.out
            clear HS
            obtain ⟨F1, F2, F2', F3, F4, F5⟩ := HQ1.out
            go_wp2_with fail
            clear F1 F2 F2' F3 F4 F5
            go_loopw [16, 18] (fun s16 s18 wz => ∃ q r : Nat, s18 = .int .u64 (q : Int) ∧ s16 = .int .u64 (r : Int) ∧ Hid (Kd.EstP R1 d0 q r) ∧ wz = wr) (fun s16 s18 _ => (intOf s18).toNat)
            case atStart => exact ⟨q', r', rfl, rfl, ST2, rfl⟩
            case round =>
              clear ST2
              obtain ⟨q, r, rfl, rfl, HE, rfl⟩ := hrel
              have hE := HE.out
              obtain ⟨z1, z2, z3, z4, z5, z6⟩ := hE
              by_cases hc : 4294967296 ≤ q ∨ 4294967296 * r + d0 < q * 4294967288
              · have hov := Kd.est_over_P HE.out hc
                obtain ⟨q2, hq2⟩ : ∃ x, x = q - 1 := ⟨_, rfl⟩
                obtain ⟨r2, hr2⟩ : ∃ x, x = r + 4294967295 := ⟨_, rfl⟩
                have f1 : IntKind.u64.wrap ((q : Int) - 1) = (q2 : Int) := by rw [show (q : Int) - 1 = (q2 : Int) by omega]; exact IntWalk.u64_in _ (by omega)
                have f2 : IntKind.u64.wrap ((r : Int) + 4294967295) = (r2 : Int) := by rw [show (r : Int) + 4294967295 = (r2 : Int) by omega]; exact IntWalk.u64_in _ (by omega)
                by_cases hbr : 4294967296 ≤ r2
                · have hst := Kd.est_stop_P HE.out hc (by omega)
                  have g2 : (4294967296 : Int) ≤ r2 := by omega
                  rw [← hq2] at hst
                  have HS : Hid (q2 = Q2) := Lib.hid (hst.trans HV2.out.symm)
                  by_cases hcq : 4294967296 ≤ q
                  · have g1 : (4294967296 : Int) ≤ q := by omega
                    clear hov hq2 hr2 hst HE hc z1 z2 z3 z4 z5 z6 hbr hcq
                    obtain rfl := HS.out
                    clear HS
                    obtain ⟨F1, F2⟩ := HQ2.out
                    go_wp2_with fail
                    go_ret2
                    exact ⟨⟨_, rfl⟩, Drew.refl _⟩
                  · have g1 : ¬ (4294967296 : Int) ≤ q := by omega
                    obtain ⟨t1, ht1⟩ : ∃ t, t = q * 4294967288 := ⟨_, rfl⟩
                    obtain ⟨t2, ht2⟩ : ∃ t, t = 4294967296 * r + d0 := ⟨_, rfl⟩
                    have f3 : IntKind.u64.wrap ((q : Int) * 4294967288) = (t1 : Int) := by rw [show (q : Int) * 4294967288 = (t1 : Int) by omega]; exact IntWalk.u64_in _ (by omega)
                    have f4 : IntKind.u64.wrap ((4294967296 : Int) * r) = 4294967296 * r := IntWalk.u64_in _ (by omega)
                    have f5 : IntKind.u64.wrap ((4294967296 : Int) * r + d0) = (t2 : Int) := by rw [show (4294967296 : Int) * r + d0 = (t2 : Int) by omega]; exact IntWalk.u64_in _ (by omega)
                    have f6 : (t2 : Int) < t1 := by omega
                    clear hov hq2 hr2 hst HE hc z1 z2 z3 z4 z5 z6 hbr hcq ht1 ht2
                    obtain rfl := HS.out
                    clear HS
                    obtain ⟨F1, F2⟩ := HQ2.out
                    go_wp2_with fail
                    go_ret2
                    exact ⟨⟨_, rfl⟩, Drew.refl _⟩
                · have hst := Kd.est_next_P HE.out hc (by omega)
                  have g2 : ¬ (4294967296 : Int) ≤ r2 := by omega
                  have hlt : q2 < q := by omega
                  rw [← hq2, ← hr2] at hst
                  have HS := Lib.hid hst
                  by_cases hcq : 4294967296 ≤ q
                  · have g1 : (4294967296 : Int) ≤ q := by omega
                    clear hov hq2 hr2 hst HE hc z1 z2 z3 z4 z5 z6 hbr hcq
                    go_wp2_with fail
                    go_roundw
                    case rel => exact ⟨q2, r2, rfl, rfl, HS, trivial⟩
                    case measure => simp [intOf]; omega
                  · have g1 : ¬ (4294967296 : Int) ≤ q := by omega
                    obtain ⟨t1, ht1⟩ : ∃ t, t = q * 4294967288 := ⟨_, rfl⟩
                    obtain ⟨t2, ht2⟩ : ∃ t, t = 4294967296 * r + d0 := ⟨_, rfl⟩
                    have f3 : IntKind.u64.wrap ((q : Int) * 4294967288) = (t1 : Int) := by rw [show (q : Int) * 4294967288 = (t1 : Int) by omega]; exact IntWalk.u64_in _ (by omega)
                    have f4 : IntKind.u64.wrap ((4294967296 : Int) * r) = 4294967296 * r := IntWalk.u64_in _ (by omega)
                    have f5 : IntKind.u64.wrap ((4294967296 : Int) * r + d0) = (t2 : Int) := by rw [show (4294967296 : Int) * r + d0 = (t2 : Int) by omega]; exact IntWalk.u64_in _ (by omega)
                    have f6 : (t2 : Int) < t1 := by omega
                    clear hov hq2 hr2 hst HE hc z1 z2 z3 z4 z5 z6 hbr hcq ht1 ht2
                    go_wp2_with fail
                    go_roundw
                    case rel => exact ⟨q2, r2, rfl, rfl, HS, trivial⟩
                    case measure => simp [intOf]; omega
              · have hst := Kd.est_done_P HE.out hc
                have HS : Hid (q = Q2) := Lib.hid (hst.trans HV2.out.symm)
                have g1 : ¬ (4294967296 : Int) ≤ q := by omega
                obtain ⟨t1, ht1⟩ : ∃ t, t = q * 4294967288 := ⟨_, rfl⟩
                obtain ⟨t2, ht2⟩ : ∃ t, t = 4294967296 * r + d0 := ⟨_, rfl⟩
                have f3 : IntKind.u64.wrap ((q : Int) * 4294967288) = (t1 : Int) := by rw [show (q : Int) * 4294967288 = (t1 : Int) by omega]; exact IntWalk.u64_in _ (by omega)
                have f4 : IntKind.u64.wrap ((4294967296 : Int) * r) = 4294967296 * r := IntWalk.u64_in _ (by omega)
                have f5 : IntKind.u64.wrap ((4294967296 : Int) * r + d0) = (t2 : Int) := by rw [show (4294967296 : Int) * r + d0 = (t2 : Int) by omega]; exact IntWalk.u64_in _ (by omega)
                have f6 : ¬ (t2 : Int) < t1 := by omega
                clear hst HE hc z1 z2 z3 z4 z5 z6 ht1 ht2
                obtain rfl := HS.out
                clear HS
                obtain ⟨F1, F2⟩ := HQ2.out
                go_wp2_with fail
                go_ret2
                exact ⟨⟨_, rfl⟩, Drew.refl _⟩
        · have hst := Kd.est_next_P HE.out hc (by omega)
          have g2 : ¬ (4294967296 : Int) ≤ r2 := by omega
          have hlt : q2 < q := by omega
          rw [← hq2, ← hr2] at hst
          have HS := Lib.hid hst
          by_cases hcq : 4294967296 ≤ q
          · have g1 : (4294967296 : Int) ≤ q := by omega
            clear hov hq2 hr2 hst HE hc z1 z2 z3 z4 z5 z6 hbr hcq
            go_wp2_with fail
            go_roundw
            case rel => exact ⟨q2, r2, rfl, rfl, HS, trivial⟩
            case measure => simp [intOf]; omega
          · have g1 : ¬ (4294967296 : Int) ≤ q := by omega
            obtain ⟨t1, ht1⟩ : ∃ t, t = q * 4294967288 := ⟨_, rfl⟩
            obtain ⟨t2, ht2⟩ : ∃ t, t = 4294967296 * r + d1 := ⟨_, rfl⟩
            have f3 : IntKind.u64.wrap ((q : Int) * 4294967288) = (t1 : Int) := by rw [show (q : Int) * 4294967288 = (t1 : Int) by omega]; exact IntWalk.u64_in _ (by omega)
            have f4 : IntKind.u64.wrap ((4294967296 : Int) * r) = 4294967296 * r := IntWalk.u64_in _ (by omega)
            have f5 : IntKind.u64.wrap ((4294967296 : Int) * r + d1) = (t2 : Int) := by rw [show (4294967296 : Int) * r + d1 = (t2 : Int) by omega]; exact IntWalk.u64_in _ (by omega)
            have f6 : (t2 : Int) < t1 := by omega
            clear hov hq2 hr2 hst HE hc z1 z2 z3 z4 z5 z6 hbr hcq ht1 ht2
            go_wp2_with fail
            go_roundw
            case rel => exact ⟨q2, r2, rfl, rfl, HS, trivial⟩
            case measure => simp [intOf]; omega
      · have hst := Kd.est_done_P HE.out hc
        have HS : Hid (q = Q1) := Lib.hid (hst.trans HV1.out.symm)
        have g1 : ¬ (4294967296 : Int) ≤ q := by omega
        obtain ⟨t1, ht1⟩ : ∃ t, t = q * 4294967288 := ⟨_, rfl⟩
        obtain ⟨t2, ht2⟩ : ∃ t, t = 4294967296 * r + d1 := ⟨_, rfl⟩
        have f3 : IntKind.u64.wrap ((q : Int) * 4294967288) = (t1 : Int) := by rw [show (q : Int) * 4294967288 = (t1 : Int) by omega]; exact IntWalk.u64_in _ (by omega)
        have f4 : IntKind.u64.wrap ((4294967296 : Int) * r) = 4294967296 * r := IntWalk.u64_in _ (by omega)
        have f5 : IntKind.u64.wrap ((4294967296 : Int) * r + d1) = (t2 : Int) := by rw [show (4294967296 : Int) * r + d1 = (t2 : Int) by omega]; exact IntWalk.u64_in _ (by omega)
        have f6 : ¬ (t2 : Int) < t1 := by omega
        clear hst HE hc z1 z2 z3 z4 z5 z6 ht1 ht2
        obtain rfl := HS.out
        clear HS
        obtain ⟨F1, F2, F2', F3, F4, F5⟩ := HQ1.out
        go_wp2_with fail
        clear F1 F2 F2' F3 F4 F5
        go_loopw [16, 18] (fun s16 s18 wz => ∃ q r : Nat, s18 = .int .u64 (q : Int) ∧ s16 = .int .u64 (r : Int) ∧ Hid (Kd.EstP R1 d0 q r) ∧ wz = wr) (fun s16 s18 _ => (intOf s18).toNat)
        case atStart => exact ⟨q', r', rfl, rfl, ST2, rfl⟩
        case round =>
          clear ST2
          obtain ⟨q, r, rfl, rfl, HE, rfl⟩ := hrel
          have hE := HE.out
          obtain ⟨z1, z2, z3, z4, z5, z6⟩ := hE
          by_cases hc : 4294967296 ≤ q ∨ 4294967296 * r + d0 < q * 4294967288
          · have hov := Kd.est_over_P HE.out hc
            obtain ⟨q2, hq2⟩ : ∃ x, x = q - 1 := ⟨_, rfl⟩
            obtain ⟨r2, hr2⟩ : ∃ x, x = r + 4294967295 := ⟨_, rfl⟩
            have f1 : IntKind.u64.wrap ((q : Int) - 1) = (q2 : Int) := by rw [show (q : Int) - 1 = (q2 : Int) by omega]; exact IntWalk.u64_in _ (by omega)
            have f2 : IntKind.u64.wrap ((r : Int) + 4294967295) = (r2 : Int) := by rw [show (r : Int) + 4294967295 = (r2 : Int) by omega]; exact IntWalk.u64_in _ (by omega)
            by_cases hbr : 4294967296 ≤ r2
            · have hst := Kd.est_stop_P HE.out hc (by omega)
              have g2 : (4294967296 : Int) ≤ r2 := by omega
              rw [← hq2] at hst
              have HS : Hid (q2 = Q2) := Lib.hid (hst.trans HV2.out.symm)
              by_cases hcq : 4294967296 ≤ q
              · have g1 : (4294967296 : Int) ≤ q := by omega
                clear hov hq2 hr2 hst HE hc z1 z2 z3 z4 z5 z6 hbr hcq
                obtain rfl := HS.out
                clear HS
                obtain ⟨F1, F2⟩ := HQ2.out
                go_wp2_with fail
                go_ret2
                exact ⟨⟨_, rfl⟩, Drew.refl _⟩
              · have g1 : ¬ (4294967296 : Int) ≤ q := by omega
                obtain ⟨t1, ht1⟩ : ∃ t, t = q * 4294967288 := ⟨_, rfl⟩
                obtain ⟨t2, ht2⟩ : ∃ t, t = 4294967296 * r + d0 := ⟨_, rfl⟩
                have f3 : IntKind.u64.wrap ((q : Int) * 4294967288) = (t1 : Int) := by rw [show (q : Int) * 4294967288 = (t1 : Int) by omega]; exact IntWalk.u64_in _ (by omega)
                have f4 : IntKind.u64.wrap ((4294967296 : Int) * r) = 4294967296 * r := IntWalk.u64_in _ (by omega)
                have f5 : IntKind.u64.wrap ((4294967296 : Int) * r + d0) = (t2 : Int) := by rw [show (4294967296 : Int) * r + d0 = (t2 : Int) by omega]; exact IntWalk.u64_in _ (by omega)
                have f6 : (t2 : Int) < t1 := by omega
                clear hov hq2 hr2 hst HE hc z1 z2 z3 z4 z5 z6 hbr hcq ht1 ht2
                obtain rfl := HS.out
                clear HS
                obtain ⟨F1, F2⟩ := HQ2.out
                go_wp2_with fail
                go_ret2
                exact ⟨⟨_, rfl⟩, Drew.refl _⟩
            · have hst := Kd.est_next_P HE.out hc (by omega)
              have g2 : ¬ (4294967296 : Int) ≤ r2 := by omega
              have hlt : q2 < q := by omega
              rw [← hq2, ← hr2] at hst
              have HS := Lib.hid hst
              by_cases hcq : 4294967296 ≤ q
              · have g1 : (4294967296 : Int) ≤ q := by omega
                clear hov hq2 hr2 hst HE hc z1 z2 z3 z4 z5 z6 hbr hcq
                go_wp2_with fail
                go_roundw
                case rel => exact ⟨q2, r2, rfl, rfl, HS, trivial⟩
                case measure => simp [intOf]; omega
              · have g1 : ¬ (4294967296 : Int) ≤ q := by omega
                obtain ⟨t1, ht1⟩ : ∃ t, t = q * 4294967288 := ⟨_, rfl⟩
                obtain ⟨t2, ht2⟩ : ∃ t, t = 4294967296 * r + d0 := ⟨_, rfl⟩
                have f3 : IntKind.u64.wrap ((q : Int) * 4294967288) = (t1 : Int) := by rw [show (q : Int) * 4294967288 = (t1 : Int) by omega]; exact IntWalk.u64_in _ (by omega)
                have f4 : IntKind.u64.wrap ((4294967296 : Int) * r) = 4294967296 * r := IntWalk.u64_in _ (by omega)
                have f5 : IntKind.u64.wrap ((4294967296 : Int) * r + d0) = (t2 : Int) := by rw [show (4294967296 : Int) * r + d0 = (t2 : Int) by omega]; exact IntWalk.u64_in _ (by omega)
                have f6 : (t2 : Int) < t1 := by omega
                clear hov hq2 hr2 hst HE hc z1 z2 z3 z4 z5 z6 hbr hcq ht1 ht2
                go_wp2_with fail
                go_roundw
                case rel => exact ⟨q2, r2, rfl, rfl, HS, trivial⟩
                case measure => simp [intOf]; omega
          · have hst := Kd.est_done_P HE.out hc
            have HS : Hid (q = Q2) := Lib.hid (hst.trans HV2.out.symm)
            have g1 : ¬ (4294967296 : Int) ≤ q := by omega
            obtain ⟨t1, ht1⟩ : ∃ t, t = q * 4294967288 := ⟨_, rfl⟩
            obtain ⟨t2, ht2⟩ : ∃ t, t = 4294967296 * r + d0 := ⟨_, rfl⟩
            have f3 : IntKind.u64.wrap ((q : Int) * 4294967288) = (t1 : Int) := by rw [show (q : Int) * 4294967288 = (t1 : Int) by omega]; exact IntWalk.u64_in _ (by omega)
            have f4 : IntKind.u64.wrap ((4294967296 : Int) * r) = 4294967296 * r := IntWalk.u64_in _ (by omega)
            have f5 : IntKind.u64.wrap ((4294967296 : Int) * r + d0) = (t2 : Int) := by rw [show (4294967296 : Int) * r + d0 = (t2 : Int) by omega]; exact IntWalk.u64_in _ (by omega)
            have f6 : ¬ (t2 : Int) < t1 := by omega
            clear hst HE hc z1 z2 z3 z4 z5 z6 ht1 ht2
            obtain rfl := HS.out
            clear HS
            obtain ⟨F1, F2⟩ := HQ2.out
            go_wp2_with fail
            go_ret2
            exact ⟨⟨_, rfl⟩, Drew.refl _⟩
end Go.Proofs.YtojbicpchjiplaaGreatDoor.S4

/-
  Layer 4: math/bits.Div64 by N.
-/
namespace Go.Proofs.YtojbicpchjiplaaGreatDoor.S4
open Go.RowKit

theorem sum_N {u d Q R : Nat} (hQ : Q = (u * 4294967296 + d) / 18446744073709551600) (hR : R = (u * 4294967296 + d) % 18446744073709551600) : u * 4294967296 + d = Q * 18446744073709551600 + R := by
  rw [hQ, hR, Nat.mul_comm _ 18446744073709551600]
  exact (Nat.div_add_mod _ _).symm
theorem digits_N (R : Nat) (h : R < 18446744073709551600) : (R : Int).tdiv 4294967295 = ((R / 4294967295 : Nat) : Int) ∧ (R : Int) / 4294967295 = ((R / 4294967295 : Nat) : Int) ∧ IntKind.u64.wrap ((R / 4294967295 : Nat) : Int) = ((R / 4294967295 : Nat) : Int) ∧ IntKind.u64.wrap (((R / 4294967295 : Nat) : Int) * 4294967295) = ((R / 4294967295 * 4294967295 : Nat) : Int) ∧ IntKind.u64.wrap ((R : Int) - ((R / 4294967295 * 4294967295 : Nat) : Int)) = ((R % 4294967295 : Nat) : Int) := by
  have h1 : (R : Int) / 4294967295 = ((R / 4294967295 : Nat) : Int) := by omega
  refine ⟨by rw [Int.tdiv_eq_ediv_of_nonneg (by omega)]; exact h1, h1, IntWalk.u64_in _ (by omega), ?_, ?_⟩
  · rw [show ((R / 4294967295 : Nat) : Int) * 4294967295 = ((R / 4294967295 * 4294967295 : Nat) : Int) by omega]
    exact IntWalk.u64_in _ (by omega)
  · rw [show (R : Int) - ((R / 4294967295 * 4294967295 : Nat) : Int) = ((R % 4294967295 : Nat) : Int) by omega]
    exact IntWalk.u64_in _ (by omega)

set_option maxHeartbeats 4000000 in
set_option maxRecDepth 100000 in
theorem div64_N (hi lo : Nat) (w : World) (hh : hi < 288230376151711744) (hl : lo < 18446744073709551616)
    (kz : ∀ w, Calls Tryz.prog 163 #[.int .u64 2305843009213693950] w fun e w' => e = .returned (.int .i64 3) ∧ w' = w) :
    Calls Tryz.prog 158 #[.int .u64 (hi : Int), .int .u64 (lo : Int), .int .u64 2305843009213693950] w fun e w' => (∃ q : Int, e = .returned (.tuple #[.int .u64 q, .int .u64 (((hi * 18446744073709551616 + lo) % 2305843009213693950 : Nat) : Int)])) ∧ Drew w w' := by
  have K := Lib.hid kz
  clear kz
  by_cases h0 : hi = 0
  · subst h0
    obtain ⟨z, hz⟩ : ∃ z, z = (0 * 18446744073709551616 + lo) % 2305843009213693950 := ⟨_, rfl⟩
    rw [← hz]
    have e1 : (lo : Int) % 2305843009213693950 = (z : Int) := by omega
    have e2 : (lo : Int).tmod 2305843009213693950 = (z : Int) := by rw [Int.tmod_eq_emod_of_nonneg (by omega)]; exact e1
    rw [show ((0 : Nat) : Int) = 0 from rfl]
    clear hz K hh hl
    go_enter Tryz.func158, Tryz.ntmps158
    go_wp2_with fail
    go_quiet (fail)
    go_wp2
    go_ret2
    exact ⟨⟨_, rfl⟩, Drew.drewN _ _⟩
  · have hi0 : ¬ (hi : Int) = 0 := by omega
    have hi1 : ¬ (2305843009213693950 : Int) ≤ hi := by omega
    obtain ⟨z, hz⟩ : ∃ z, z = (hi * 18446744073709551616 + lo) % 2305843009213693950 := ⟨_, rfl⟩
    rw [← hz]
    have hrest := (Kd.rests_N hi lo).2
    rw [← hz] at hrest
    obtain ⟨v, hv⟩ : ∃ v, v = lo / 2305843009213693952 := ⟨_, rfl⟩
    obtain ⟨L, hL⟩ : ∃ L, L = lo * 8 % 18446744073709551616 := ⟨_, rfl⟩
    obtain ⟨u, hu⟩ : ∃ u, u = hi * 8 + v := ⟨_, rfl⟩
    obtain ⟨d1, hd1⟩ : ∃ d, d = L / 4294967296 := ⟨_, rfl⟩
    obtain ⟨d0, hd0⟩ : ∃ d, d = L % 4294967296 := ⟨_, rfl⟩
    rw [← hv, ← hu, ← hL, ← hd1, ← hd0] at hrest
    have HR := Lib.hid hrest
    have hz2 := Lib.hid hz
    clear hrest hz
    have hub : u < 2305843009213693952 := by omega
    have hd1b : d1 < 4294967296 := by omega
    have hd0b : d0 < 4294967296 := by omega
    have E1 : bits .and .u64 18446744073709551600 4294967295 = 4294967280 := by
      have h := and_low 18446744073709551600 (by omega)
      rw [show ((18446744073709551600 : Nat) : Int) = 18446744073709551600 from rfl, show ((18446744073709551600 % 4294967296 : Nat) : Int) = 4294967280 from rfl] at h
      exact h
    have E2 : bits .or .u64 ((hi : Int) * 8) (v : Int) = (u : Int) := by rw [hu]; exact or_low hi v hh (by omega)
    have E2' : (lo : Int) / 2305843009213693952 = (v : Int) := by omega
    have E3 : IntKind.u64.wrap ((lo : Int) * 8) = (L : Int) := by rw [IntKind.wrap_u64]; omega
    have E4 : (L : Int) / 4294967296 = (d1 : Int) := by omega
    have E5 : bits .and .u64 (L : Int) 4294967295 = (d0 : Int) := by rw [hd0]; exact and_low L (by omega)
    have D := digits_N u (by omega)
    obtain ⟨q, hq⟩ : ∃ q, q = u / 4294967295 := ⟨_, rfl⟩
    obtain ⟨r, hr⟩ : ∃ q, q = u % 4294967295 := ⟨_, rfl⟩
    rw [← hq, ← hr] at D
    obtain ⟨p, hp⟩ : ∃ p, p = q * 4294967295 := ⟨_, rfl⟩
    rw [← hp] at D
    obtain ⟨E6, E6', E7, E8, E9⟩ := D
    obtain ⟨Q1, hQ1⟩ : ∃ q, q = (u * 4294967296 + d1) / 18446744073709551600 := ⟨_, rfl⟩
    obtain ⟨R1, hR1⟩ : ∃ q, q = (u * 4294967296 + d1) % 18446744073709551600 := ⟨_, rfl⟩
    obtain ⟨Q2, hQ2⟩ : ∃ q, q = (R1 * 4294967296 + d0) / 18446744073709551600 := ⟨_, rfl⟩
    obtain ⟨R2, hR2⟩ : ∃ q, q = (R1 * 4294967296 + d0) % 18446744073709551600 := ⟨_, rfl⟩
    have HR2 := HR.out
    rw [← hR1, ← hR2] at HR2
    have hR1b : R1 < 18446744073709551600 := by rw [hR1]; exact Nat.mod_lt _ (by decide)
    have G1 : IntKind.u64.wrap (IntKind.u64.wrap (IntKind.u64.wrap ((u : Int) * 4294967296) + d1) - IntKind.u64.wrap ((Q1 : Int) * 18446744073709551600)) = (R1 : Int) := wrapm u d1 Q1 R1 18446744073709551600 (sum_N hQ1 hR1) (Nat.lt_trans hR1b (by decide))
    have D := digits_N R1 hR1b
    obtain ⟨q', hq'⟩ : ∃ q, q = R1 / 4294967295 := ⟨_, rfl⟩
    obtain ⟨r', hr'⟩ : ∃ q, q = R1 % 4294967295 := ⟨_, rfl⟩
    rw [← hq', ← hr'] at D
    obtain ⟨p', hp'⟩ : ∃ p, p = q' * 4294967295 := ⟨_, rfl⟩
    rw [← hp'] at D
    obtain ⟨G2, G2', G3, G4, G5⟩ := D
    have HQ1 := Lib.hid (And.intro G1 (And.intro G2 (And.intro G2' (And.intro G3 (And.intro G4 G5)))))
    have st2 := Kd.est_start_N (u := R1) (d := d0) hR1b hd0b
    rw [← hq', ← hr'] at st2
    have ST2 := Lib.hid st2
    have G6 : IntKind.u64.wrap (IntKind.u64.wrap (IntKind.u64.wrap ((R1 : Int) * 4294967296) + d0) - IntKind.u64.wrap ((Q2 : Int) * 18446744073709551600)) = (R2 : Int) := wrapm R1 d0 Q2 R2 18446744073709551600 (sum_N hQ2 hR2) (Nat.lt_trans (by rw [hR2]; exact Nat.mod_lt _ (by decide)) (show 18446744073709551600 < 18446744073709551616 by decide))
    have G7 : (R2 : Int) / 8 = (z : Int) := by rw [← HR2]; rfl
    have HQ2 := Lib.hid (And.intro G6 G7)
    have HV1 := Lib.hid hQ1
    have HV2 := Lib.hid hQ2
    clear st2 G1 G2 G2' G3 G4 G5 G6 G7 hq' hr' hp' hR1b HR2 hQ2 hR2 hQ1 hR1
    have st1 := Kd.est_start_N (u := u) (d := d1) (by omega) hd1b
    rw [← hq, ← hr] at st1
    have ST1 := Lib.hid st1
    clear HR
    have HB : Hid (u < 2305843009213693952 ∧ d1 < 4294967296 ∧ d0 < 4294967296) := Lib.hid ⟨hub, hd1b, hd0b⟩
    clear hz2 hv hL hu hd1 hd0 hub hd1b hd0b hq hr hp st1 h0 hh hl
    go_enter Tryz.func158, Tryz.ntmps158
    go_wp2_with fail
    refine (K.out _).mono ?_
    rintro e w1 ⟨rfl, rfl⟩
    clear K
    go_wp2_with fail
    clear E1 E2 E2' E3 E4 E5 E6 E6' E7 E8 E9 hi0 hi1
    go_loopw [15, 16] (fun s15 s16 wz => ∃ q r : Nat, s15 = .int .u64 (q : Int) ∧ s16 = .int .u64 (r : Int) ∧ Hid (Kd.EstN u d1 q r) ∧ wz = w1) (fun s15 s16 _ => (intOf s15).toNat)
    case atStart => exact ⟨q, r, rfl, rfl, ST1, rfl⟩
    case round =>
      clear ST1
      obtain ⟨q, r, rfl, rfl, HE, rfl⟩ := hrel
      have hE := HE.out
      obtain ⟨z1, z2, z3, z4, z5, z6⟩ := hE
      by_cases hc : 4294967296 ≤ q ∨ 4294967296 * r + d1 < q * 4294967280
      · have hov := Kd.est_over_N HE.out hc
        obtain ⟨q2, hq2⟩ : ∃ x, x = q - 1 := ⟨_, rfl⟩
        obtain ⟨r2, hr2⟩ : ∃ x, x = r + 4294967295 := ⟨_, rfl⟩
        have f1 : IntKind.u64.wrap ((q : Int) - 1) = (q2 : Int) := by rw [show (q : Int) - 1 = (q2 : Int) by omega]; exact IntWalk.u64_in _ (by omega)
        have f2 : IntKind.u64.wrap ((r : Int) + 4294967295) = (r2 : Int) := by rw [show (r : Int) + 4294967295 = (r2 : Int) by omega]; exact IntWalk.u64_in _ (by omega)
        by_cases hbr : 4294967296 ≤ r2
        · have hst := Kd.est_stop_N HE.out hc (by omega)
          have g2 : (4294967296 : Int) ≤ r2 := by omega
          rw [← hq2] at hst
          have HS : Hid (q2 = Q1) := Lib.hid (hst.trans HV1.out.symm)
          by_cases hcq : 4294967296 ≤ q
          · have g1 : (4294967296 : Int) ≤ q := by omega
            clear hov hq2 hr2 hst HE hc z1 z2 z3 z4 z5 z6 hbr hcq
            obtain rfl := HS.out
            clear HS
            obtain ⟨F1, F2, F2', F3, F4, F5⟩ := HQ1.out
            go_wp2_with fail
            clear F1 F2 F2' F3 F4 F5
            go_loopw [16, 18] (fun s16 s18 wz => ∃ q r : Nat, s18 = .int .u64 (q : Int) ∧ s16 = .int .u64 (r : Int) ∧ Hid (Kd.EstN R1 d0 q r) ∧ wz = wr) (fun s16 s18 _ => (intOf s18).toNat)
            case atStart => exact ⟨q', r', rfl, rfl, ST2, rfl⟩
            case round =>
              clear ST2
              obtain ⟨q, r, rfl, rfl, HE, rfl⟩ := hrel
              have hE := HE.out
              obtain ⟨z1, z2, z3, z4, z5, z6⟩ := hE
              by_cases hc : 4294967296 ≤ q ∨ 4294967296 * r + d0 < q * 4294967280
              · have hov := Kd.est_over_N HE.out hc
                obtain ⟨q2, hq2⟩ : ∃ x, x = q - 1 := ⟨_, rfl⟩
                obtain ⟨r2, hr2⟩ : ∃ x, x = r + 4294967295 := ⟨_, rfl⟩
                have f1 : IntKind.u64.wrap ((q : Int) - 1) = (q2 : Int) := by rw [show (q : Int) - 1 = (q2 : Int) by omega]; exact IntWalk.u64_in _ (by omega)
                have f2 : IntKind.u64.wrap ((r : Int) + 4294967295) = (r2 : Int) := by rw [show (r : Int) + 4294967295 = (r2 : Int) by omega]; exact IntWalk.u64_in _ (by omega)
                by_cases hbr : 4294967296 ≤ r2
                · have hst := Kd.est_stop_N HE.out hc (by omega)
                  have g2 : (4294967296 : Int) ≤ r2 := by omega
                  rw [← hq2] at hst
                  have HS : Hid (q2 = Q2) := Lib.hid (hst.trans HV2.out.symm)
                  by_cases hcq : 4294967296 ≤ q
                  · have g1 : (4294967296 : Int) ≤ q := by omega
                    clear hov hq2 hr2 hst HE hc z1 z2 z3 z4 z5 z6 hbr hcq
                    obtain rfl := HS.out
                    clear HS
                    obtain ⟨F1, F2⟩ := HQ2.out
                    go_wp2_with fail
                    go_ret2
                    exact ⟨⟨_, rfl⟩, Drew.refl _⟩
                  · have g1 : ¬ (4294967296 : Int) ≤ q := by omega
                    obtain ⟨t1, ht1⟩ : ∃ t, t = q * 4294967280 := ⟨_, rfl⟩
                    obtain ⟨t2, ht2⟩ : ∃ t, t = 4294967296 * r + d0 := ⟨_, rfl⟩
                    have f3 : IntKind.u64.wrap ((q : Int) * 4294967280) = (t1 : Int) := by rw [show (q : Int) * 4294967280 = (t1 : Int) by omega]; exact IntWalk.u64_in _ (by omega)
                    have f4 : IntKind.u64.wrap ((4294967296 : Int) * r) = 4294967296 * r := IntWalk.u64_in _ (by omega)
                    have f5 : IntKind.u64.wrap ((4294967296 : Int) * r + d0) = (t2 : Int) := by rw [show (4294967296 : Int) * r + d0 = (t2 : Int) by omega]; exact IntWalk.u64_in _ (by omega)
                    have f6 : (t2 : Int) < t1 := by omega
                    clear hov hq2 hr2 hst HE hc z1 z2 z3 z4 z5 z6 hbr hcq ht1 ht2
                    obtain rfl := HS.out
                    clear HS
                    obtain ⟨F1, F2⟩ := HQ2.out
                    go_wp2_with fail
                    go_ret2
                    exact ⟨⟨_, rfl⟩, Drew.refl _⟩
                · have hst := Kd.est_next_N HE.out hc (by omega)
                  have g2 : ¬ (4294967296 : Int) ≤ r2 := by omega
                  have hlt : q2 < q := by omega
                  rw [← hq2, ← hr2] at hst
                  have HS := Lib.hid hst
                  by_cases hcq : 4294967296 ≤ q
                  · have g1 : (4294967296 : Int) ≤ q := by omega
                    clear hov hq2 hr2 hst HE hc z1 z2 z3 z4 z5 z6 hbr hcq
                    go_wp2_with fail
                    go_roundw
                    case rel => exact ⟨q2, r2, rfl, rfl, HS, trivial⟩
                    case measure => simp [intOf]; omega
                  · have g1 : ¬ (4294967296 : Int) ≤ q := by omega
                    obtain ⟨t1, ht1⟩ : ∃ t, t = q * 4294967280 := ⟨_, rfl⟩
                    obtain ⟨t2, ht2⟩ : ∃ t, t = 4294967296 * r + d0 := ⟨_, rfl⟩
                    have f3 : IntKind.u64.wrap ((q : Int) * 4294967280) = (t1 : Int) := by rw [show (q : Int) * 4294967280 = (t1 : Int) by omega]; exact IntWalk.u64_in _ (by omega)
                    have f4 : IntKind.u64.wrap ((4294967296 : Int) * r) = 4294967296 * r := IntWalk.u64_in _ (by omega)
                    have f5 : IntKind.u64.wrap ((4294967296 : Int) * r + d0) = (t2 : Int) := by rw [show (4294967296 : Int) * r + d0 = (t2 : Int) by omega]; exact IntWalk.u64_in _ (by omega)
                    have f6 : (t2 : Int) < t1 := by omega
                    clear hov hq2 hr2 hst HE hc z1 z2 z3 z4 z5 z6 hbr hcq ht1 ht2
                    go_wp2_with fail
                    go_roundw
                    case rel => exact ⟨q2, r2, rfl, rfl, HS, trivial⟩
                    case measure => simp [intOf]; omega
              · have hst := Kd.est_done_N HE.out hc
                have HS : Hid (q = Q2) := Lib.hid (hst.trans HV2.out.symm)
                have g1 : ¬ (4294967296 : Int) ≤ q := by omega
                obtain ⟨t1, ht1⟩ : ∃ t, t = q * 4294967280 := ⟨_, rfl⟩
                obtain ⟨t2, ht2⟩ : ∃ t, t = 4294967296 * r + d0 := ⟨_, rfl⟩
                have f3 : IntKind.u64.wrap ((q : Int) * 4294967280) = (t1 : Int) := by rw [show (q : Int) * 4294967280 = (t1 : Int) by omega]; exact IntWalk.u64_in _ (by omega)
                have f4 : IntKind.u64.wrap ((4294967296 : Int) * r) = 4294967296 * r := IntWalk.u64_in _ (by omega)
                have f5 : IntKind.u64.wrap ((4294967296 : Int) * r + d0) = (t2 : Int) := by rw [show (4294967296 : Int) * r + d0 = (t2 : Int) by omega]; exact IntWalk.u64_in _ (by omega)
                have f6 : ¬ (t2 : Int) < t1 := by omega
                clear hst HE hc z1 z2 z3 z4 z5 z6 ht1 ht2
                obtain rfl := HS.out
                clear HS
                obtain ⟨F1, F2⟩ := HQ2.out
                go_wp2_with fail
                go_ret2
                exact ⟨⟨_, rfl⟩, Drew.refl _⟩
          · have g1 : ¬ (4294967296 : Int) ≤ q := by omega
            obtain ⟨t1, ht1⟩ : ∃ t, t = q * 4294967280 := ⟨_, rfl⟩
            obtain ⟨t2, ht2⟩ : ∃ t, t = 4294967296 * r + d1 := ⟨_, rfl⟩
            have f3 : IntKind.u64.wrap ((q : Int) * 4294967280) = (t1 : Int) := by rw [show (q : Int) * 4294967280 = (t1 : Int) by omega]; exact IntWalk.u64_in _ (by omega)
            have f4 : IntKind.u64.wrap ((4294967296 : Int) * r) = 4294967296 * r := IntWalk.u64_in _ (by omega)
            have f5 : IntKind.u64.wrap ((4294967296 : Int) * r + d1) = (t2 : Int) := by rw [show (4294967296 : Int) * r + d1 = (t2 : Int) by omega]; exact IntWalk.u64_in _ (by omega)
            have f6 : (t2 : Int) < t1 := by omega
            clear hov hq2 hr2 hst HE hc z1 z2 z3 z4 z5 z6 hbr hcq ht1 ht2
            obtain rfl := HS.out
            clear HS
            obtain ⟨F1, F2, F2', F3, F4, F5⟩ := HQ1.out
            go_wp2_with fail
            clear F1 F2 F2' F3 F4 F5
            go_loopw [16, 18] (fun s16 s18 wz => ∃ q r : Nat, s18 = .int .u64 (q : Int) ∧ s16 = .int .u64 (r : Int) ∧ Hid (Kd.EstN R1 d0 q r) ∧ wz = wr) (fun s16 s18 _ => (intOf s18).toNat)
            case atStart => exact ⟨q', r', rfl, rfl, ST2, rfl⟩
            case round =>
              clear ST2
              obtain ⟨q, r, rfl, rfl, HE, rfl⟩ := hrel
              have hE := HE.out
              obtain ⟨z1, z2, z3, z4, z5, z6⟩ := hE
              by_cases hc : 4294967296 ≤ q ∨ 4294967296 * r + d0 < q * 4294967280
              · have hov := Kd.est_over_N HE.out hc
                obtain ⟨q2, hq2⟩ : ∃ x, x = q - 1 := ⟨_, rfl⟩
                obtain ⟨r2, hr2⟩ : ∃ x, x = r + 4294967295 := ⟨_, rfl⟩
                have f1 : IntKind.u64.wrap ((q : Int) - 1) = (q2 : Int) := by rw [show (q : Int) - 1 = (q2 : Int) by omega]; exact IntWalk.u64_in _ (by omega)
                have f2 : IntKind.u64.wrap ((r : Int) + 4294967295) = (r2 : Int) := by rw [show (r : Int) + 4294967295 = (r2 : Int) by omega]; exact IntWalk.u64_in _ (by omega)
                by_cases hbr : 4294967296 ≤ r2
                · have hst := Kd.est_stop_N HE.out hc (by omega)
                  have g2 : (4294967296 : Int) ≤ r2 := by omega
                  rw [← hq2] at hst
                  have HS : Hid (q2 = Q2) := Lib.hid (hst.trans HV2.out.symm)
                  by_cases hcq : 4294967296 ≤ q
                  · have g1 : (4294967296 : Int) ≤ q := by omega
                    clear hov hq2 hr2 hst HE hc z1 z2 z3 z4 z5 z6 hbr hcq
                    obtain rfl := HS.out
                    clear HS
                    obtain ⟨F1, F2⟩ := HQ2.out
                    go_wp2_with fail
                    go_ret2
                    exact ⟨⟨_, rfl⟩, Drew.refl _⟩
                  · have g1 : ¬ (4294967296 : Int) ≤ q := by omega
                    obtain ⟨t1, ht1⟩ : ∃ t, t = q * 4294967280 := ⟨_, rfl⟩
                    obtain ⟨t2, ht2⟩ : ∃ t, t = 4294967296 * r + d0 := ⟨_, rfl⟩
                    have f3 : IntKind.u64.wrap ((q : Int) * 4294967280) = (t1 : Int) := by rw [show (q : Int) * 4294967280 = (t1 : Int) by omega]; exact IntWalk.u64_in _ (by omega)
                    have f4 : IntKind.u64.wrap ((4294967296 : Int) * r) = 4294967296 * r := IntWalk.u64_in _ (by omega)
                    have f5 : IntKind.u64.wrap ((4294967296 : Int) * r + d0) = (t2 : Int) := by rw [show (4294967296 : Int) * r + d0 = (t2 : Int) by omega]; exact IntWalk.u64_in _ (by omega)
                    have f6 : (t2 : Int) < t1 := by omega
                    clear hov hq2 hr2 hst HE hc z1 z2 z3 z4 z5 z6 hbr hcq ht1 ht2
                    obtain rfl := HS.out
                    clear HS
                    obtain ⟨F1, F2⟩ := HQ2.out
                    go_wp2_with fail
                    go_ret2
                    exact ⟨⟨_, rfl⟩, Drew.refl _⟩
                · have hst := Kd.est_next_N HE.out hc (by omega)
                  have g2 : ¬ (4294967296 : Int) ≤ r2 := by omega
                  have hlt : q2 < q := by omega
                  rw [← hq2, ← hr2] at hst
                  have HS := Lib.hid hst
                  by_cases hcq : 4294967296 ≤ q
                  · have g1 : (4294967296 : Int) ≤ q := by omega
                    clear hov hq2 hr2 hst HE hc z1 z2 z3 z4 z5 z6 hbr hcq
                    go_wp2_with fail
                    go_roundw
                    case rel => exact ⟨q2, r2, rfl, rfl, HS, trivial⟩
                    case measure => simp [intOf]; omega
                  · have g1 : ¬ (4294967296 : Int) ≤ q := by omega
                    obtain ⟨t1, ht1⟩ : ∃ t, t = q * 4294967280 := ⟨_, rfl⟩
                    obtain ⟨t2, ht2⟩ : ∃ t, t = 4294967296 * r + d0 := ⟨_, rfl⟩
                    have f3 : IntKind.u64.wrap ((q : Int) * 4294967280) = (t1 : Int) := by rw [show (q : Int) * 4294967280 = (t1 : Int) by omega]; exact IntWalk.u64_in _ (by omega)
                    have f4 : IntKind.u64.wrap ((4294967296 : Int) * r) = 4294967296 * r := IntWalk.u64_in _ (by omega)
                    have f5 : IntKind.u64.wrap ((4294967296 : Int) * r + d0) = (t2 : Int) := by rw [show (4294967296 : Int) * r + d0 = (t2 : Int) by omega]; exact IntWalk.u64_in _ (by omega)
                    have f6 : (t2 : Int) < t1 := by omega
                    clear hov hq2 hr2 hst HE hc z1 z2 z3 z4 z5 z6 hbr hcq ht1 ht2
                    go_wp2_with fail
                    go_roundw
                    case rel => exact ⟨q2, r2, rfl, rfl, HS, trivial⟩
                    case measure => simp [intOf]; omega
              · have hst := Kd.est_done_N HE.out hc
                have HS : Hid (q = Q2) := Lib.hid (hst.trans HV2.out.symm)
                have g1 : ¬ (4294967296 : Int) ≤ q := by omega
                obtain ⟨t1, ht1⟩ : ∃ t, t = q * 4294967280 := ⟨_, rfl⟩
                obtain ⟨t2, ht2⟩ : ∃ t, t = 4294967296 * r + d0 := ⟨_, rfl⟩
                have f3 : IntKind.u64.wrap ((q : Int) * 4294967280) = (t1 : Int) := by rw [show (q : Int) * 4294967280 = (t1 : Int) by omega]; exact IntWalk.u64_in _ (by omega)
                have f4 : IntKind.u64.wrap ((4294967296 : Int) * r) = 4294967296 * r := IntWalk.u64_in _ (by omega)
                have f5 : IntKind.u64.wrap ((4294967296 : Int) * r + d0) = (t2 : Int) := by rw [show (4294967296 : Int) * r + d0 = (t2 : Int) by omega]; exact IntWalk.u64_in _ (by omega)
                have f6 : ¬ (t2 : Int) < t1 := by omega
                clear hst HE hc z1 z2 z3 z4 z5 z6 ht1 ht2
                obtain rfl := HS.out
                clear HS
                obtain ⟨F1, F2⟩ := HQ2.out
                go_wp2_with fail
                go_ret2
                exact ⟨⟨_, rfl⟩, Drew.refl _⟩
        · have hst := Kd.est_next_N HE.out hc (by omega)
          have g2 : ¬ (4294967296 : Int) ≤ r2 := by omega
          have hlt : q2 < q := by omega
          rw [← hq2, ← hr2] at hst
          have HS := Lib.hid hst
          by_cases hcq : 4294967296 ≤ q
          · have g1 : (4294967296 : Int) ≤ q := by omega
            clear hov hq2 hr2 hst HE hc z1 z2 z3 z4 z5 z6 hbr hcq
            go_wp2_with fail
            go_roundw
            case rel => exact ⟨q2, r2, rfl, rfl, HS, trivial⟩
            case measure => simp [intOf]; omega
          · have g1 : ¬ (4294967296 : Int) ≤ q := by omega
            obtain ⟨t1, ht1⟩ : ∃ t, t = q * 4294967280 := ⟨_, rfl⟩
            obtain ⟨t2, ht2⟩ : ∃ t, t = 4294967296 * r + d1 := ⟨_, rfl⟩
            have f3 : IntKind.u64.wrap ((q : Int) * 4294967280) = (t1 : Int) := by rw [show (q : Int) * 4294967280 = (t1 : Int) by omega]; exact IntWalk.u64_in _ (by omega)
            have f4 : IntKind.u64.wrap ((4294967296 : Int) * r) = 4294967296 * r := IntWalk.u64_in _ (by omega)
            have f5 : IntKind.u64.wrap ((4294967296 : Int) * r + d1) = (t2 : Int) := by rw [show (4294967296 : Int) * r + d1 = (t2 : Int) by omega]; exact IntWalk.u64_in _ (by omega)
            have f6 : (t2 : Int) < t1 := by omega
            clear hov hq2 hr2 hst HE hc z1 z2 z3 z4 z5 z6 hbr hcq ht1 ht2
            go_wp2_with fail
            go_roundw
            case rel => exact ⟨q2, r2, rfl, rfl, HS, trivial⟩
            case measure => simp [intOf]; omega
      · have hst := Kd.est_done_N HE.out hc
        have HS : Hid (q = Q1) := Lib.hid (hst.trans HV1.out.symm)
        have g1 : ¬ (4294967296 : Int) ≤ q := by omega
        obtain ⟨t1, ht1⟩ : ∃ t, t = q * 4294967280 := ⟨_, rfl⟩
        obtain ⟨t2, ht2⟩ : ∃ t, t = 4294967296 * r + d1 := ⟨_, rfl⟩
        have f3 : IntKind.u64.wrap ((q : Int) * 4294967280) = (t1 : Int) := by rw [show (q : Int) * 4294967280 = (t1 : Int) by omega]; exact IntWalk.u64_in _ (by omega)
        have f4 : IntKind.u64.wrap ((4294967296 : Int) * r) = 4294967296 * r := IntWalk.u64_in _ (by omega)
        have f5 : IntKind.u64.wrap ((4294967296 : Int) * r + d1) = (t2 : Int) := by rw [show (4294967296 : Int) * r + d1 = (t2 : Int) by omega]; exact IntWalk.u64_in _ (by omega)
        have f6 : ¬ (t2 : Int) < t1 := by omega
        clear hst HE hc z1 z2 z3 z4 z5 z6 ht1 ht2
        obtain rfl := HS.out
        clear HS
        obtain ⟨F1, F2, F2', F3, F4, F5⟩ := HQ1.out
        go_wp2_with fail
        clear F1 F2 F2' F3 F4 F5
        go_loopw [16, 18] (fun s16 s18 wz => ∃ q r : Nat, s18 = .int .u64 (q : Int) ∧ s16 = .int .u64 (r : Int) ∧ Hid (Kd.EstN R1 d0 q r) ∧ wz = wr) (fun s16 s18 _ => (intOf s18).toNat)
        case atStart => exact ⟨q', r', rfl, rfl, ST2, rfl⟩
        case round =>
          clear ST2
          obtain ⟨q, r, rfl, rfl, HE, rfl⟩ := hrel
          have hE := HE.out
          obtain ⟨z1, z2, z3, z4, z5, z6⟩ := hE
          by_cases hc : 4294967296 ≤ q ∨ 4294967296 * r + d0 < q * 4294967280
          · have hov := Kd.est_over_N HE.out hc
            obtain ⟨q2, hq2⟩ : ∃ x, x = q - 1 := ⟨_, rfl⟩
            obtain ⟨r2, hr2⟩ : ∃ x, x = r + 4294967295 := ⟨_, rfl⟩
            have f1 : IntKind.u64.wrap ((q : Int) - 1) = (q2 : Int) := by rw [show (q : Int) - 1 = (q2 : Int) by omega]; exact IntWalk.u64_in _ (by omega)
            have f2 : IntKind.u64.wrap ((r : Int) + 4294967295) = (r2 : Int) := by rw [show (r : Int) + 4294967295 = (r2 : Int) by omega]; exact IntWalk.u64_in _ (by omega)
            by_cases hbr : 4294967296 ≤ r2
            · have hst := Kd.est_stop_N HE.out hc (by omega)
              have g2 : (4294967296 : Int) ≤ r2 := by omega
              rw [← hq2] at hst
              have HS : Hid (q2 = Q2) := Lib.hid (hst.trans HV2.out.symm)
              by_cases hcq : 4294967296 ≤ q
              · have g1 : (4294967296 : Int) ≤ q := by omega
                clear hov hq2 hr2 hst HE hc z1 z2 z3 z4 z5 z6 hbr hcq
                obtain rfl := HS.out
                clear HS
                obtain ⟨F1, F2⟩ := HQ2.out
                go_wp2_with fail
                go_ret2
                exact ⟨⟨_, rfl⟩, Drew.refl _⟩
              · have g1 : ¬ (4294967296 : Int) ≤ q := by omega
                obtain ⟨t1, ht1⟩ : ∃ t, t = q * 4294967280 := ⟨_, rfl⟩
                obtain ⟨t2, ht2⟩ : ∃ t, t = 4294967296 * r + d0 := ⟨_, rfl⟩
                have f3 : IntKind.u64.wrap ((q : Int) * 4294967280) = (t1 : Int) := by rw [show (q : Int) * 4294967280 = (t1 : Int) by omega]; exact IntWalk.u64_in _ (by omega)
                have f4 : IntKind.u64.wrap ((4294967296 : Int) * r) = 4294967296 * r := IntWalk.u64_in _ (by omega)
                have f5 : IntKind.u64.wrap ((4294967296 : Int) * r + d0) = (t2 : Int) := by rw [show (4294967296 : Int) * r + d0 = (t2 : Int) by omega]; exact IntWalk.u64_in _ (by omega)
                have f6 : (t2 : Int) < t1 := by omega
                clear hov hq2 hr2 hst HE hc z1 z2 z3 z4 z5 z6 hbr hcq ht1 ht2
                obtain rfl := HS.out
                clear HS
                obtain ⟨F1, F2⟩ := HQ2.out
                go_wp2_with fail
                go_ret2
                exact ⟨⟨_, rfl⟩, Drew.refl _⟩
            · have hst := Kd.est_next_N HE.out hc (by omega)
              have g2 : ¬ (4294967296 : Int) ≤ r2 := by omega
              have hlt : q2 < q := by omega
              rw [← hq2, ← hr2] at hst
              have HS := Lib.hid hst
              by_cases hcq : 4294967296 ≤ q
              · have g1 : (4294967296 : Int) ≤ q := by omega
                clear hov hq2 hr2 hst HE hc z1 z2 z3 z4 z5 z6 hbr hcq
                go_wp2_with fail
                go_roundw
                case rel => exact ⟨q2, r2, rfl, rfl, HS, trivial⟩
                case measure => simp [intOf]; omega
              · have g1 : ¬ (4294967296 : Int) ≤ q := by omega
                obtain ⟨t1, ht1⟩ : ∃ t, t = q * 4294967280 := ⟨_, rfl⟩
                obtain ⟨t2, ht2⟩ : ∃ t, t = 4294967296 * r + d0 := ⟨_, rfl⟩
                have f3 : IntKind.u64.wrap ((q : Int) * 4294967280) = (t1 : Int) := by rw [show (q : Int) * 4294967280 = (t1 : Int) by omega]; exact IntWalk.u64_in _ (by omega)
                have f4 : IntKind.u64.wrap ((4294967296 : Int) * r) = 4294967296 * r := IntWalk.u64_in _ (by omega)
                have f5 : IntKind.u64.wrap ((4294967296 : Int) * r + d0) = (t2 : Int) := by rw [show (4294967296 : Int) * r + d0 = (t2 : Int) by omega]; exact IntWalk.u64_in _ (by omega)
                have f6 : (t2 : Int) < t1 := by omega
                clear hov hq2 hr2 hst HE hc z1 z2 z3 z4 z5 z6 hbr hcq ht1 ht2
                go_wp2_with fail
                go_roundw
                case rel => exact ⟨q2, r2, rfl, rfl, HS, trivial⟩
                case measure => simp [intOf]; omega
          · have hst := Kd.est_done_N HE.out hc
            have HS : Hid (q = Q2) := Lib.hid (hst.trans HV2.out.symm)
            have g1 : ¬ (4294967296 : Int) ≤ q := by omega
            obtain ⟨t1, ht1⟩ : ∃ t, t = q * 4294967280 := ⟨_, rfl⟩
            obtain ⟨t2, ht2⟩ : ∃ t, t = 4294967296 * r + d0 := ⟨_, rfl⟩
            have f3 : IntKind.u64.wrap ((q : Int) * 4294967280) = (t1 : Int) := by rw [show (q : Int) * 4294967280 = (t1 : Int) by omega]; exact IntWalk.u64_in _ (by omega)
            have f4 : IntKind.u64.wrap ((4294967296 : Int) * r) = 4294967296 * r := IntWalk.u64_in _ (by omega)
            have f5 : IntKind.u64.wrap ((4294967296 : Int) * r + d0) = (t2 : Int) := by rw [show (4294967296 : Int) * r + d0 = (t2 : Int) by omega]; exact IntWalk.u64_in _ (by omega)
            have f6 : ¬ (t2 : Int) < t1 := by omega
            clear hst HE hc z1 z2 z3 z4 z5 z6 ht1 ht2
            obtain rfl := HS.out
            clear HS
            obtain ⟨F1, F2⟩ := HQ2.out
            go_wp2_with fail
            go_ret2
            exact ⟨⟨_, rfl⟩, Drew.refl _⟩
end Go.Proofs.YtojbicpchjiplaaGreatDoor.S4
