/-
  Layer 8: MerkleOnce.
-/
import Derived.Test.YtfemgakfckabhaaDoorMerkleLBinds
namespace Go.Proofs.YtfemgakfckabhaaDoor
open Go.RowKit
namespace Mk
attribute [local go_sem] S3.B_size S3.B_app S3.B_list
set_option maxHeartbeats 8000000 in
set_option maxRecDepth 100000 in
theorem once_walk (A B : Option Addr) (p q : List Str) (ca cb np nq : Nat) (i n : Int) (r x y : Str) (w : World) (hnp : np = p.length) (hnq : nq = q.length) (hW : S3.Laid w) (hp : Ls w A p ca) (hq : Ls w B q cb) (hr : r.length ≤ 140737488355328) (hx : x.length ≤ 140737488355328) (hy : y.length ≤ 140737488355328) (hi : isI64 i) (hn2 : isI64 n) :
    Calls Tryd.prog 7 #[.int .i64 i, .int .i64 n, .string (S3.B r), .string (S3.B x), .slice A np ca, .string (S3.B y), .slice B nq cb] w fun e w' => e = .returned (.bool true) ∧ Below w.heap.size w w' := by
  have AT := Lib.hid (Lk.At.start hW)
  have HW := Lib.hid hW
  have HP := Lib.hid hp
  have HQ := Lib.hid hq
  have HNP := Lib.hid hnp
  have HNQ := Lib.hid hnq
  have hxx : (x.length : Int) ≤ 140737488355328 := by omega
  have hyy : (y.length : Int) ≤ 140737488355328 := by omega
  have hrr : (r.length : Int) ≤ 140737488355328 := by omega
  clear hp hq hW hnp hnq
  by_cases b1 : Short 100 p
  case neg =>
    have HSP := Lib.hid b1
    clear b1
    go_enter Tryd.func7, Tryd.ntmps7
    go_wp2_with fail
    refine (small_any _ AT.out.laid).mono ?_
    rintro e w1 ⟨rfl, hb⟩
    replace AT := Lib.hid (AT.out.step hb)
    clear hb 
    go_wp2_with fail
    refine (short_no HNP.out (HP.out.rs.step AT.out.bel) HP.out.len HP.out.str HSP.out).mono ?_
    rintro e wq ⟨rfl, hq⟩
    obtain rfl := hq
    go_wp2
    go_ret
    exact ⟨rfl, AT.out.bel⟩
  by_cases b2 : Short 100 q
  case neg =>
    have HSP := Lib.hid b1
    have HSQ := Lib.hid b2
    clear b1 b2
    go_enter Tryd.func7, Tryd.ntmps7
    go_wp2_with fail
    refine (small_any _ AT.out.laid).mono ?_
    rintro e w1 ⟨rfl, hb⟩
    replace AT := Lib.hid (AT.out.step hb)
    clear hb 
    go_wp2_with fail
    refine (short_yes HNP.out (HP.out.rs.step AT.out.bel) HP.out.len HP.out.str HSP.out).mono ?_
    rintro e wq ⟨rfl, hq⟩
    obtain rfl := hq
    go_wp2_with fail
    refine (short_no HNQ.out (HQ.out.rs.step AT.out.bel) HQ.out.len HQ.out.str HSQ.out).mono ?_
    rintro e wq ⟨rfl, hq⟩
    obtain rfl := hq
    go_wp2
    go_ret
    exact ⟨rfl, AT.out.bel⟩
  have hp1 := b1.1
  have hp2 := b1.2
  have hq1 := b2.1
  have hq2 := b2.2
  have HSP := Lib.hid b1
  have HSQ := Lib.hid b2
  clear b1 b2
  by_cases b3 : 200 < x.length
  · have b3' : (200 : Int) < (x.length : Int) := by omega
    clear hp2 hq2
    go_enter Tryd.func7, Tryd.ntmps7
    go_wp2_with fail
    refine (small_any _ AT.out.laid).mono ?_
    rintro e w1 ⟨rfl, hb⟩
    replace AT := Lib.hid (AT.out.step hb)
    clear hb 
    go_wp2_with fail
    refine (short_yes HNP.out (HP.out.rs.step AT.out.bel) HP.out.len HP.out.str HSP.out).mono ?_
    rintro e wq ⟨rfl, hq⟩
    obtain rfl := hq
    go_wp2_with fail
    refine (short_yes HNQ.out (HQ.out.rs.step AT.out.bel) HQ.out.len HQ.out.str HSQ.out).mono ?_
    rintro e wq ⟨rfl, hq⟩
    obtain rfl := hq
    go_wp2
    go_ret
    exact ⟨rfl, AT.out.bel⟩
  have b3' : (x.length : Int) ≤ 200 := by omega
  by_cases b4 : 200 < y.length
  · have b4' : (200 : Int) < (y.length : Int) := by omega
    clear hp2 hq2
    go_enter Tryd.func7, Tryd.ntmps7
    go_wp2_with fail
    refine (small_any _ AT.out.laid).mono ?_
    rintro e w1 ⟨rfl, hb⟩
    replace AT := Lib.hid (AT.out.step hb)
    clear hb 
    go_wp2_with fail
    refine (short_yes HNP.out (HP.out.rs.step AT.out.bel) HP.out.len HP.out.str HSP.out).mono ?_
    rintro e wq ⟨rfl, hq⟩
    obtain rfl := hq
    go_wp2_with fail
    refine (short_yes HNQ.out (HQ.out.rs.step AT.out.bel) HQ.out.len HQ.out.str HSQ.out).mono ?_
    rintro e wq ⟨rfl, hq⟩
    obtain rfl := hq
    go_wp2
    go_ret
    exact ⟨rfl, AT.out.bel⟩
  have b4' : (y.length : Int) ≤ 200 := by omega
  by_cases b5 : 200 < r.length
  · have b5' : (200 : Int) < (r.length : Int) := by omega
    clear hp2 hq2
    go_enter Tryd.func7, Tryd.ntmps7
    go_wp2_with fail
    refine (small_any _ AT.out.laid).mono ?_
    rintro e w1 ⟨rfl, hb⟩
    replace AT := Lib.hid (AT.out.step hb)
    clear hb 
    go_wp2_with fail
    refine (short_yes HNP.out (HP.out.rs.step AT.out.bel) HP.out.len HP.out.str HSP.out).mono ?_
    rintro e wq ⟨rfl, hq⟩
    obtain rfl := hq
    go_wp2_with fail
    refine (short_yes HNQ.out (HQ.out.rs.step AT.out.bel) HQ.out.len HQ.out.str HSQ.out).mono ?_
    rintro e wq ⟨rfl, hq⟩
    obtain rfl := hq
    go_wp2
    go_ret
    exact ⟨rfl, AT.out.bel⟩
  have b5' : (r.length : Int) ≤ 200 := by omega
  clear b3 b4 b5 hxx hyy hrr
  have hps : ∀ s ∈ p, s.length ≤ 1000 := fun s hs => by have := hp2 s hs; omega
  have hqs : ∀ s ∈ q, s.length ≤ 1000 := fun s hs => by have := hq2 s hs; omega
  have ki := fun w hW h => includes_any x i n r p A ca np w hW HNP.out h (by have := HP.out.cap; have := HNP.out; omega) (by omega) hps (by omega) hi hn2
  have kj := fun w hW h => includes_any y i n r q B cb nq w hW HNQ.out h (by have := HQ.out.cap; have := HNQ.out; omega) (by omega) hqs (by omega) hi hn2
  by_cases b6 : IncP x i n r p
  case neg =>
    rw [decide_eq_false b6] at ki
    have KI := Lib.hid ki
    clear ki kj b6 hps hqs hp2 hq2 hi hn2
    go_enter Tryd.func7, Tryd.ntmps7
    go_wp2_with fail
    refine (small_any _ AT.out.laid).mono ?_
    rintro e w1 ⟨rfl, hb⟩
    replace AT := Lib.hid (AT.out.step hb)
    clear hb 
    go_wp2_with fail
    refine (short_yes HNP.out (HP.out.rs.step AT.out.bel) HP.out.len HP.out.str HSP.out).mono ?_
    rintro e wq ⟨rfl, hq⟩
    obtain rfl := hq
    go_wp2_with fail
    refine (short_yes HNQ.out (HQ.out.rs.step AT.out.bel) HQ.out.len HQ.out.str HSQ.out).mono ?_
    rintro e wq ⟨rfl, hq⟩
    obtain rfl := hq
    go_wp2_with fail
    refine (KI.out _ AT.out.laid (HP.out.rs.step AT.out.bel)).mono ?_
    rintro e w2 ⟨rfl, hb⟩
    replace AT := Lib.hid (AT.out.step hb)
    clear hb 
    go_wp2
    go_ret
    exact ⟨rfl, AT.out.bel⟩
  rw [decide_eq_true b6] at ki
  have KI := Lib.hid ki
  by_cases b7 : IncP y i n r q
  case neg =>
    rw [decide_eq_false b7] at kj
    have KJ := Lib.hid kj
    clear ki kj b6 b7 hps hqs hp2 hq2 hi hn2
    go_enter Tryd.func7, Tryd.ntmps7
    go_wp2_with fail
    refine (small_any _ AT.out.laid).mono ?_
    rintro e w1 ⟨rfl, hb⟩
    replace AT := Lib.hid (AT.out.step hb)
    clear hb 
    go_wp2_with fail
    refine (short_yes HNP.out (HP.out.rs.step AT.out.bel) HP.out.len HP.out.str HSP.out).mono ?_
    rintro e wq ⟨rfl, hq⟩
    obtain rfl := hq
    go_wp2_with fail
    refine (short_yes HNQ.out (HQ.out.rs.step AT.out.bel) HQ.out.len HQ.out.str HSQ.out).mono ?_
    rintro e wq ⟨rfl, hq⟩
    obtain rfl := hq
    go_wp2_with fail
    refine (KI.out _ AT.out.laid (HP.out.rs.step AT.out.bel)).mono ?_
    rintro e w2 ⟨rfl, hb⟩
    replace AT := Lib.hid (AT.out.step hb)
    clear hb 
    go_wp2_with fail
    refine (KJ.out _ AT.out.laid (HQ.out.rs.step AT.out.bel)).mono ?_
    rintro e w3 ⟨rfl, hb⟩
    replace AT := Lib.hid (AT.out.step hb)
    clear hb 
    go_wp2
    go_ret
    exact ⟨rfl, AT.out.bel⟩
  rw [decide_eq_true b7] at kj
  have KJ := Lib.hid kj
  obtain ⟨g1, g2, g3, g4, g5⟩ := b6
  obtain ⟨_, _, k3, k4, k5⟩ := b7
  unfold isI64 at hi hn2
  obtain ⟨i, rfl⟩ := Int.eq_ofNat_of_zero_le g1
  obtain ⟨n, rfl⟩ := Int.eq_ofNat_of_zero_le (show 0 ≤ n by omega)
  rw [Int.toNat_natCast, Int.toNat_natCast] at g5 k5
  obtain ⟨ins, e⟩ := climbP_yes _ _ _ _ g5
  obtain ⟨jns, e2⟩ := climbP_yes _ _ _ _ k5
  have kc := fun w (h : Rs w A p) => rclimb_any x (by omega) p.reverse i n r ins (by rw [List.length_reverse]; omega) (fun s hs => hps s (List.mem_reverse.1 hs)) (by omega) (by omega) (by omega) e A ca np (i : Int) (n : Int) w (by rw [List.length_reverse]; exact HNP.out) rfl rfl (by rw [List.reverse_reverse]; exact h) (by have := HP.out.cap; have := HNP.out; omega)
  have kd := fun w (h : Rs w B q) => rclimb_any y (by omega) q.reverse i n r jns (by rw [List.length_reverse]; omega) (fun s hs => hqs s (List.mem_reverse.1 hs)) (by omega) (by omega) (by omega) e2 B cb nq (i : Int) (n : Int) w (by rw [List.length_reverse]; exact HNQ.out) rfl rfl (by rw [List.reverse_reverse]; exact h) (by have := HQ.out.cap; have := HNQ.out; omega)
  have hcl : NoClash (ins ++ jns) → x = y ∧ p = q := fun h => by
    have := once x y g3 k3 _ h p.reverse q.reverse i n r ins jns (fun s hs => g4 s (List.mem_reverse.1 hs)) (fun s hs => k4 s (List.mem_reverse.1 hs)) (fun s hs => by simp [hs]) (fun s hs => by simp [hs]) e e2
    exact ⟨this.1, List.reverse_inj.1 this.2⟩
  have ha1 := climbR_ins _ _ _ _ e
  have ha2 := climbR_ins _ _ _ _ e2
  rw [List.length_reverse] at ha1 ha2
  have hb1 := climbR_str (z := 200) (by omega) (by omega) _ _ _ _ (fun s hs => hp2 s (List.mem_reverse.1 hs)) e
  have hb2 := climbR_str (z := 200) (by omega) (by omega) _ _ _ _ (fun s hs => hq2 s (List.mem_reverse.1 hs)) e2
  simp only at ha1 ha2 hb1 hb2
  have kcl := fun (hh : ¬ NoClash (ins ++ jns)) A c k w hn h => clash_yes A (ins ++ jns) c k w hn h (by rw [List.length_append]; omega) (fun s hs => by
    rcases List.mem_append.1 hs with hs | hs
    · have := hb1 s hs; omega
    · have := hb2 s hs; omega) hh
  have hin : ins.length ≤ 100 := by omega
  have hjn : jns.length ≤ 100 := by omega
  have hpl : p.length ≤ 100 := by omega
  have hql : q.length ≤ 100 := by omega
  have hi3 : (i : Int) < (n : Int) := by omega
  have hn4 : (n : Int) ≤ 9223372036854775807 := by omega
  have KC := Lib.hid kc
  have KD := Lib.hid kd
  by_cases f1 : x = y
  · subst f1
    by_cases f2 : p = q
    · have HEQ := Lib.hid f2
      clear kc kd ki kj kcl hcl hps hqs hp1 hp2 hq1 hq2 hi hn2 ha1 ha2 hb1 hb2 e e2 g5 k5 g4 k4 g3 k3 g2 g1 f2
      go_enter Tryd.func7, Tryd.ntmps7
      go_wp2_with fail
      refine (small_any _ AT.out.laid).mono ?_
      rintro e w1 ⟨rfl, hb⟩
      replace AT := Lib.hid (AT.out.step hb)
      clear hb 
      go_wp2_with fail
      refine (short_yes HNP.out (HP.out.rs.step AT.out.bel) HP.out.len HP.out.str HSP.out).mono ?_
      rintro e wq ⟨rfl, hq⟩
      obtain rfl := hq
      go_wp2_with fail
      refine (short_yes HNQ.out (HQ.out.rs.step AT.out.bel) HQ.out.len HQ.out.str HSQ.out).mono ?_
      rintro e wq ⟨rfl, hq⟩
      obtain rfl := hq
      go_wp2_with fail
      refine (KI.out _ AT.out.laid (HP.out.rs.step AT.out.bel)).mono ?_
      rintro e w2 ⟨rfl, hb⟩
      replace AT := Lib.hid (AT.out.step hb)
      clear hb 
      go_wp2_with fail
      refine (KJ.out _ AT.out.laid (HQ.out.rs.step AT.out.bel)).mono ?_
      rintro e w3 ⟨rfl, hb⟩
      replace AT := Lib.hid (AT.out.step hb)
      clear hb 
      have UK := Lib.hid (Up.start w3)
      have HKS := Lib.hid AT.out.bel.size
      go_wp2_with fail
      refine (KC.out _ (HP.out.rs.step AT.out.bel)).mono ?_
      rintro e w4 ⟨A2, c2, n2, rfl, hn, hc, ho, hb⟩
      replace AT := Lib.hid (AT.out.step hb)
      replace UK := Lib.hid (UK.out.step hb)
      have HN2 := Lib.hid hn
      have HC2 := Lib.hid hc
      have O2 := Lib.hid ho
      have R2 := Lib.hid ho.rs
      clear hn hc ho
      clear hb 
      go_wp2_with fail
      refine (KD.out _ (HQ.out.rs.step AT.out.bel)).mono ?_
      rintro e w5 ⟨A3, c3, n3, rfl, hn, hc, ho, hb⟩
      replace AT := Lib.hid (AT.out.step hb)
      replace UK := Lib.hid (UK.out.step hb)
      replace O2 := Lib.hid (O2.out.step hb)
      replace R2 := Lib.hid (R2.out.step hb)
      have HN3 := Lib.hid hn
      have HC3 := Lib.hid hc
      have O3 := Lib.hid ho
      have R3 := Lib.hid ho.rs
      clear hn hc ho
      clear hb 
      go_wp2_with fail
      refine (same_yes' _ _ _ _ _ _ _ _ _ HNP.out HNQ.out (HP.out.rs.step AT.out.bel) (HQ.out.rs.step AT.out.bel) (by omega) (by omega) HEQ.out).mono ?_
      rintro e w6 ⟨rfl, hb⟩
      replace AT := Lib.hid (AT.out.step hb)
      replace UK := Lib.hid (UK.out.step hb)
      replace O2 := Lib.hid (O2.out.step hb)
      replace R2 := Lib.hid (R2.out.step hb)
      replace O3 := Lib.hid (O3.out.step hb)
      replace R3 := Lib.hid (R3.out.step hb)
      clear hb 
      go_wp2
      go_ret
      exact ⟨rfl, AT.out.bel⟩
    · have HEQ := Lib.hid f2
      have KCL := Lib.hid (kcl (fun h => f2 (hcl h).2))
      clear kc kd ki kj kcl hcl hps hqs hp1 hp2 hq1 hq2 hi hn2 ha1 ha2 hb1 hb2 e e2 g5 k5 g4 k4 g3 k3 g2 g1 f2
      go_enter Tryd.func7, Tryd.ntmps7
      go_wp2_with fail
      refine (small_any _ AT.out.laid).mono ?_
      rintro e w1 ⟨rfl, hb⟩
      replace AT := Lib.hid (AT.out.step hb)
      clear hb 
      go_wp2_with fail
      refine (short_yes HNP.out (HP.out.rs.step AT.out.bel) HP.out.len HP.out.str HSP.out).mono ?_
      rintro e wq ⟨rfl, hq⟩
      obtain rfl := hq
      go_wp2_with fail
      refine (short_yes HNQ.out (HQ.out.rs.step AT.out.bel) HQ.out.len HQ.out.str HSQ.out).mono ?_
      rintro e wq ⟨rfl, hq⟩
      obtain rfl := hq
      go_wp2_with fail
      refine (KI.out _ AT.out.laid (HP.out.rs.step AT.out.bel)).mono ?_
      rintro e w2 ⟨rfl, hb⟩
      replace AT := Lib.hid (AT.out.step hb)
      clear hb 
      go_wp2_with fail
      refine (KJ.out _ AT.out.laid (HQ.out.rs.step AT.out.bel)).mono ?_
      rintro e w3 ⟨rfl, hb⟩
      replace AT := Lib.hid (AT.out.step hb)
      clear hb 
      have UK := Lib.hid (Up.start w3)
      have HKS := Lib.hid AT.out.bel.size
      go_wp2_with fail
      refine (KC.out _ (HP.out.rs.step AT.out.bel)).mono ?_
      rintro e w4 ⟨A2, c2, n2, rfl, hn, hc, ho, hb⟩
      replace AT := Lib.hid (AT.out.step hb)
      replace UK := Lib.hid (UK.out.step hb)
      have HN2 := Lib.hid hn
      have HC2 := Lib.hid hc
      have O2 := Lib.hid ho
      have R2 := Lib.hid ho.rs
      clear hn hc ho
      clear hb 
      go_wp2_with fail
      refine (KD.out _ (HQ.out.rs.step AT.out.bel)).mono ?_
      rintro e w5 ⟨A3, c3, n3, rfl, hn, hc, ho, hb⟩
      replace AT := Lib.hid (AT.out.step hb)
      replace UK := Lib.hid (UK.out.step hb)
      replace O2 := Lib.hid (O2.out.step hb)
      replace R2 := Lib.hid (R2.out.step hb)
      have HN3 := Lib.hid hn
      have HC3 := Lib.hid hc
      have O3 := Lib.hid ho
      have R3 := Lib.hid ho.rs
      clear hn hc ho
      clear hb 
      go_wp2_with fail
      refine (same_no _ _ _ _ _ _ _ _ _ HNP.out HNQ.out (HP.out.rs.step AT.out.bel) (HQ.out.rs.step AT.out.bel) (by omega) (by omega) HEQ.out).mono ?_
      rintro e w6 ⟨rfl, hb⟩
      replace AT := Lib.hid (AT.out.step hb)
      replace UK := Lib.hid (UK.out.step hb)
      replace O2 := Lib.hid (O2.out.step hb)
      replace R2 := Lib.hid (R2.out.step hb)
      replace O3 := Lib.hid (O3.out.step hb)
      replace R3 := Lib.hid (R3.out.step hb)
      clear hb 
      go_wp2_with (at_builtin; refine wpList_app_g (by rfl) _ _ rfl O2.out (R3.out) rfl rfl HN3.out (by omega) UK.out.bel.size ?_)
      intro v' w7 ho hg
      have hu := UK.out.grown O2.out (Nat.le_refl _) hg
      replace AT := Lib.hid (At.grown HW.out AT.out O2.out HKS.out hg)
      obtain ⟨A4, n4, c4, rfl, hn, hc⟩ := ho.sl3
      replace UK := Lib.hid hu
      have HN4 := Lib.hid hn
      have HC4 := Lib.hid hc
      have O4 := Lib.hid ho
      have R4 := Lib.hid ho.rs
      clear hn hc ho hu hg O2 R2 O3 R3
      go_wp2_with fail
      refine (KCL.out _ _ _ _ HN4.out R4.out).mono ?_
      rintro e w8 ⟨rfl, hb⟩
      replace AT := Lib.hid (AT.out.step hb)
      replace UK := Lib.hid (UK.out.step hb)
      replace O4 := Lib.hid (O4.out.step hb)
      replace R4 := Lib.hid (R4.out.step hb)
      clear hb 
      go_wp2
      go_ret
      exact ⟨rfl, AT.out.bel⟩
  · have KCL := Lib.hid (kcl (fun h => f1 (hcl h).1))
    have ne1 := neq_str' x y f1
    clear kc kd ki kj kcl hcl hps hqs hp1 hp2 hq1 hq2 hi hn2 ha1 ha2 hb1 hb2 e e2 g5 k5 g4 k4 g3 k3 g2 g1 f1
    go_enter Tryd.func7, Tryd.ntmps7
    go_wp2_with fail
    refine (small_any _ AT.out.laid).mono ?_
    rintro e w1 ⟨rfl, hb⟩
    replace AT := Lib.hid (AT.out.step hb)
    clear hb 
    go_wp2_with fail
    refine (short_yes HNP.out (HP.out.rs.step AT.out.bel) HP.out.len HP.out.str HSP.out).mono ?_
    rintro e wq ⟨rfl, hq⟩
    obtain rfl := hq
    go_wp2_with fail
    refine (short_yes HNQ.out (HQ.out.rs.step AT.out.bel) HQ.out.len HQ.out.str HSQ.out).mono ?_
    rintro e wq ⟨rfl, hq⟩
    obtain rfl := hq
    go_wp2_with fail
    refine (KI.out _ AT.out.laid (HP.out.rs.step AT.out.bel)).mono ?_
    rintro e w2 ⟨rfl, hb⟩
    replace AT := Lib.hid (AT.out.step hb)
    clear hb 
    go_wp2_with fail
    refine (KJ.out _ AT.out.laid (HQ.out.rs.step AT.out.bel)).mono ?_
    rintro e w3 ⟨rfl, hb⟩
    replace AT := Lib.hid (AT.out.step hb)
    clear hb 
    have UK := Lib.hid (Up.start w3)
    have HKS := Lib.hid AT.out.bel.size
    go_wp2_with fail
    refine (KC.out _ (HP.out.rs.step AT.out.bel)).mono ?_
    rintro e w4 ⟨A2, c2, n2, rfl, hn, hc, ho, hb⟩
    replace AT := Lib.hid (AT.out.step hb)
    replace UK := Lib.hid (UK.out.step hb)
    have HN2 := Lib.hid hn
    have HC2 := Lib.hid hc
    have O2 := Lib.hid ho
    have R2 := Lib.hid ho.rs
    clear hn hc ho
    clear hb 
    go_wp2_with fail
    refine (KD.out _ (HQ.out.rs.step AT.out.bel)).mono ?_
    rintro e w5 ⟨A3, c3, n3, rfl, hn, hc, ho, hb⟩
    replace AT := Lib.hid (AT.out.step hb)
    replace UK := Lib.hid (UK.out.step hb)
    replace O2 := Lib.hid (O2.out.step hb)
    replace R2 := Lib.hid (R2.out.step hb)
    have HN3 := Lib.hid hn
    have HC3 := Lib.hid hc
    have O3 := Lib.hid ho
    have R3 := Lib.hid ho.rs
    clear hn hc ho
    clear hb 
    go_wp2_with (at_builtin; refine wpList_app_g (by rfl) _ _ rfl O2.out (R3.out) rfl rfl HN3.out (by omega) UK.out.bel.size ?_)
    intro v' w6 ho hg
    have hu := UK.out.grown O2.out (Nat.le_refl _) hg
    replace AT := Lib.hid (At.grown HW.out AT.out O2.out HKS.out hg)
    obtain ⟨A4, n4, c4, rfl, hn, hc⟩ := ho.sl3
    replace UK := Lib.hid hu
    have HN4 := Lib.hid hn
    have HC4 := Lib.hid hc
    have O4 := Lib.hid ho
    have R4 := Lib.hid ho.rs
    clear hn hc ho hu hg O2 R2 O3 R3
    go_wp2_with fail
    refine (KCL.out _ _ _ _ HN4.out R4.out).mono ?_
    rintro e w7 ⟨rfl, hb⟩
    replace AT := Lib.hid (AT.out.step hb)
    replace UK := Lib.hid (UK.out.step hb)
    replace O4 := Lib.hid (O4.out.step hb)
    replace R4 := Lib.hid (R4.out.step hb)
    clear hb 
    go_wp2
    go_ret
    exact ⟨rfl, AT.out.bel⟩
end Mk
end Go.Proofs.YtfemgakfckabhaaDoor
