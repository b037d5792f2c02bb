/-
  Layer 8: MerkleHalves.
-/
import Derived.Test.YtfemgakfckabhaaDoorMerkleLBinds
namespace Go.Proofs.YtfemgakfckabhaaDoor
open Go.RowKit
namespace Mk
attribute [local go_sem] S3.B_size S3.B_app S3.B_list
attribute [local go_sem] lit1
theorem half_pow {m : Nat} (h : ∃ e, m = 2 ^ e) (h2 : 2 ≤ m) : (∃ e, m / 2 = 2 ^ e) ∧ 2 * (m / 2) = m ∧ 1 ≤ m / 2 := by
  obtain ⟨e, rfl⟩ := h
  cases e with
  | zero => simp at h2
  | succ e =>
    have : 2 ^ (e + 1) / 2 = 2 ^ e := by rw [Nat.pow_succ]; omega
    exact ⟨⟨e, this⟩, by rw [this, Nat.pow_succ]; omega, by omega⟩

set_option maxHeartbeats 8000000 in
set_option maxRecDepth 100000 in
theorem halves_walk (A : Option Addr) (l : List Str) (c n : Nat) (i : Int) (w : World) (hns : n = l.length) (hW : S3.Laid w) (hl : Ls w A l c) (hi : isI64 i) :
    Calls Tryd.prog 8 #[.slice A n c, .int .i64 i] w fun e w' => e = .returned (.bool true) ∧ Below w.heap.size w w' := by
  have AT := Lib.hid (Lk.At.start hW)
  have HW := Lib.hid hW
  have HL := Lib.hid hl
  have HNS := Lib.hid hns
  have hcc : n ≤ c := by have := hl.cap; omega
  have hnn : (n : Int) ≤ 140737488355328 := by have := hl.len; omega
  unfold isI64 at hi
  clear hl hW hns
  by_cases hs : Short 100 l
  case neg =>
    have HS := Lib.hid hs
    clear hs
    go_enter Tryd.func8, Tryd.ntmps8
    go_wp2_with fail
    refine (small_any _ AT.out.laid).mono ?_
    rintro e w1 ⟨rfl, hb⟩
    replace AT := Lib.hid (AT.out.step hb)
    clear hb 
    go_wp2_with fail
    refine (short_no HNS.out (HL.out.rs.step AT.out.bel) HL.out.len HL.out.str HS.out).mono ?_
    rintro e wq ⟨rfl, hq⟩
    obtain rfl := hq
    go_wp2
    go_ret
    exact ⟨rfl, AT.out.bel⟩
  have hs2 := hs.2
  have HS := Lib.hid hs
  clear hs
  by_cases b1 : 64 < n
  · have b1' : (64 : Int) < (n : Int) := by omega
    clear hs2
    go_enter Tryd.func8, Tryd.ntmps8
    go_wp2_with fail
    refine (small_any _ AT.out.laid).mono ?_
    rintro e w1 ⟨rfl, hb⟩
    replace AT := Lib.hid (AT.out.step hb)
    clear hb 
    go_wp2_with fail
    refine (short_yes HNS.out (HL.out.rs.step AT.out.bel) HL.out.len HL.out.str HS.out).mono ?_
    rintro e wq ⟨rfl, hq⟩
    obtain rfl := hq
    go_wp2
    go_ret
    exact ⟨rfl, AT.out.bel⟩
  have b1' : (n : Int) ≤ 64 := by omega
  by_cases b2 : n < 2
  · have b2' : (n : Int) < 2 := by omega
    clear hs2
    go_enter Tryd.func8, Tryd.ntmps8
    go_wp2_with fail
    refine (small_any _ AT.out.laid).mono ?_
    rintro e w1 ⟨rfl, hb⟩
    replace AT := Lib.hid (AT.out.step hb)
    clear hb 
    go_wp2_with fail
    refine (short_yes HNS.out (HL.out.rs.step AT.out.bel) HL.out.len HL.out.str HS.out).mono ?_
    rintro e wq ⟨rfl, hq⟩
    obtain rfl := hq
    go_wp2
    go_ret
    exact ⟨rfl, AT.out.bel⟩
  have b2' : (2 : Int) ≤ (n : Int) := by omega
  by_cases b3 : i < 0
  · clear hs2
    go_enter Tryd.func8, Tryd.ntmps8
    go_wp2_with fail
    refine (small_any _ AT.out.laid).mono ?_
    rintro e w1 ⟨rfl, hb⟩
    replace AT := Lib.hid (AT.out.step hb)
    clear hb 
    go_wp2_with fail
    refine (short_yes HNS.out (HL.out.rs.step AT.out.bel) HL.out.len HL.out.str HS.out).mono ?_
    rintro e wq ⟨rfl, hq⟩
    obtain rfl := hq
    go_wp2
    go_ret
    exact ⟨rfl, AT.out.bel⟩
  by_cases b4 : (n : Int) ≤ i
  · have b3' : 0 ≤ i := by omega
    clear hs2 b3
    go_enter Tryd.func8, Tryd.ntmps8
    go_wp2_with fail
    refine (small_any _ AT.out.laid).mono ?_
    rintro e w1 ⟨rfl, hb⟩
    replace AT := Lib.hid (AT.out.step hb)
    clear hb 
    go_wp2_with fail
    refine (short_yes HNS.out (HL.out.rs.step AT.out.bel) HL.out.len HL.out.str HS.out).mono ?_
    rintro e wq ⟨rfl, hq⟩
    obtain rfl := hq
    go_wp2
    go_ret
    exact ⟨rfl, AT.out.bel⟩
  have b3' : 0 ≤ i := by omega
  have b4' : i < (n : Int) := by omega
  clear b3 b4
  obtain ⟨i, rfl⟩ := Int.eq_ofNat_of_zero_le b3'
  have h2 : 2 ≤ n := by omega
  have hn := HNS.out
  have h64 : n ≤ 64 := by omega
  have hls : ∀ s ∈ l, s.length ≤ 1000 := fun s hs => by have := hs2 s hs; omega
  have hp := sp_pos l.length
  have hk := sp_lt (n := l.length) (by omega)
  have hsT : ∀ s ∈ l.take (sp l.length), s.length ≤ 1000 := fun s h => hls s (List.mem_of_mem_take h)
  have hsD : ∀ s ∈ l.drop (sp l.length), s.length ≤ 1000 := fun s h => hls s (List.mem_of_mem_drop h)
  have eT : (l.take (sp l.length)).length = sp l.length := by rw [List.length_take]; omega
  have eD : (l.drop (sp l.length)).length = l.length - sp l.length := by rw [List.length_drop]
  have bT := root_le (n := 1000) (by omega) hsT
  have bD := root_le (n := 1000) (by omega) hsD
  obtain ⟨a, rfl⟩ := HL.out.rs.some_ (by omega)
  have rt := HL.out.rs.take (sp l.length)
  have rd := HL.out.rs.drop (sp l.length)
  have kT := fun A c w h hc hW => root_any A (l.take (sp l.length)) c (sp l.length) w eT.symm h hc (by omega) hsT hW
  have kD := fun A c w h hc hW => root_any A (l.drop (sp l.length)) c (l.length - sp l.length) w eD.symm h hc (by omega) hsD hW
  have kr := fun w h hW => root_any (some a) l c n w hn h hcc (by omega) hls hW
  have kp := fun w h hW => path_yes (some a) l i c n (i : Int) w hn rfl h hcc (by omega) hls (by omega) hW
  have kh := fun w hW => sha_any (1 :: (root (l.take (sp l.length)) ++ root (l.drop (sp l.length)))) w hW (by simp; omega)
  rw [show H (1 :: (root (l.take (sp l.length)) ++ root (l.drop (sp l.length)))) = root l from (root_two (by omega)).symm] at kh
  have hpl := path_length l i
  have hsp : ∀ m : Nat, (∃ e, m = 2 ^ e) → m < n → n ≤ 2 * m → sp l.length = m := fun m ⟨e, he⟩ h1 h3 => by subst he; rw [← hn]; exact sp_uniq h1 h3
  by_cases hik : i < sp l.length
  · have kq := fun A c w h hc hW => path_yes A (l.take (sp l.length)) i c (sp l.length) (i : Int) w eT.symm rfl h hc (by omega) hsT (by omega) hW
    have heq := path_lo (l := l) (by omega) hik
    have hql := path_length (l.take (sp l.length)) i
    have hik' : (i : Int) < (sp l.length : Int) := by omega
    rw [← hn] at kT kD kh rt rd hp hk eT eD kq heq hql hpl hsp hik' bT bD
    generalize l.take (sp n) = lT at *
    generalize l.drop (sp n) = lD at *
    generalize path l i = p at *
    generalize path lT i = q at *
    generalize root lT = ra at *
    generalize root lD = rd' at *
    generalize root l = r at *
    generalize sp n = k at *
    have HEQ := Lib.hid heq
    have HSP := Lib.hid hsp
    have KT := Lib.hid kT
    have KD := Lib.hid kD
    have KR := Lib.hid kr
    have KP := Lib.hid kp
    have KH := Lib.hid kh
    have KQ := Lib.hid kq
    have RT := Lib.hid rt
    have RD := Lib.hid rd
    have hpl' : p.length ≤ 64 := by omega
    have hql' : q.length ≤ 64 := by omega
    clear kT kD kr kp kh kq rt rd hpl hql heq hsp hsT hsD hls hs2 hn hi eT eD b1 b2 hik
    go_enter Tryd.func8, Tryd.ntmps8
    go_wp2_with fail
    refine (small_any _ AT.out.laid).mono ?_
    rintro e w1 ⟨rfl, hb⟩
    replace AT := Lib.hid (AT.out.step hb)
    clear hb 
    go_wp2_with fail
    refine (short_yes HNS.out (HL.out.rs.step AT.out.bel) HL.out.len HL.out.str HS.out).mono ?_
    rintro e wq ⟨rfl, hq⟩
    obtain rfl := hq
    go_wp2
    go_loop [6] (fun v => ∃ m : Nat, v = .int .i64 (m : Int) ∧ 1 ≤ m ∧ m ≤ 32 ∧ n ≤ 2 * m ∧ ∃ e, m = 2 ^ e) (fun v => (intOf v).toNat)
    case atStart => exact ⟨32, rfl, by omega, by omega, by omega, 5, rfl⟩
    case round =>
      obtain ⟨m, rfl, hm1, hm2, hm3, hme⟩ := hrel
      have HME := Lib.hid hme
      clear hme
      by_cases hmn : n ≤ m
      · have hmn' : (n : Int) ≤ (m : Int) := by omega
        go_wp2
        go_round
        case rel =>
          have hh := half_pow HME.out (by omega)
          exact ⟨m / 2, by go_num, hh.2.2, by omega, by omega, hh.1⟩
        case measure => simp [intOf]; omega
      · have hmn' : (m : Int) < (n : Int) := by omega
        obtain rfl : k = m := HSP.out m HME.out (by omega) hm3
        go_wp2
        replace AT := Lib.hid AT.out.drew
        refine wp_region_held_drew (S := (fun _ => True)) (by kernel_rfl) trivial (fun hHeld => ?_)
        generalize w1.drew = w1d at *
        refine wpAnyH_take (i := 0) (oi := ⟨_, _, _, _, _, _⟩) (v := ?_) rfl (by kernel_rfl) (by kernel_rfl) (by kernel_rfl) (fun _ _ _ h => h) (Or.inl ⟨by rfl, ?_⟩) (by assumption) ?_
        rotate_left
        · intro wz hSw
          try dsimp only at hSw
          go_simp
          try with_reducible rfl
        try simp only [Act.put, List.setIfInBounds_toArray, List.set_cons_zero, List.set_cons_succ]
        refine wpAnyH_take (i := 1) (oi := ⟨_, _, _, _, _, _⟩) (v := ?_) rfl (by kernel_rfl) (by kernel_rfl) (by kernel_rfl) (fun _ _ _ h => h) (Or.inl ⟨by rfl, ?_⟩) (by assumption) ?_
        rotate_left
        · intro wz hSw
          try dsimp only at hSw
          go_simp
          try with_reducible rfl
        try simp only [Act.put, List.setIfInBounds_toArray, List.set_cons_zero, List.set_cons_succ]
        refine wpAnyH_take (i := 2) (oi := ⟨_, _, _, _, _, _⟩) (v := .slice (some a) k c) rfl (by kernel_rfl) (by kernel_rfl) (by kernel_rfl) (fun _ _ _ h => h) (Or.inl ⟨by rfl, ?_⟩) (by assumption) ?_
        · intro wz hSw
          try dsimp only at hSw
          go_simp
          intro hx; omega
        try simp only [Act.put, List.setIfInBounds_toArray, List.set_cons_zero, List.set_cons_succ]
        refine wpAnyH_take (i := 4) (oi := ⟨_, _, _, _, _, _⟩) (v := ?_) rfl (by kernel_rfl) (by kernel_rfl) (by kernel_rfl) (fun _ _ _ h => h) (Or.inl ⟨by rfl, ?_⟩) (by assumption) ?_
        rotate_left
        · intro wz hSw
          try dsimp only at hSw
          go_simp
          try with_reducible rfl
        try simp only [Act.put, List.setIfInBounds_toArray, List.set_cons_zero, List.set_cons_succ]
        refine wpAnyH_take (i := 5) (oi := ⟨_, _, _, _, _, _⟩) (v := ?_) rfl (by kernel_rfl) (by kernel_rfl) (by kernel_rfl) (fun _ _ _ h => h) (Or.inl ⟨by rfl, ?_⟩) (by assumption) ?_
        rotate_left
        · intro wz hSw
          try dsimp only at hSw
          go_simp
          try with_reducible rfl
        try simp only [Act.put, List.setIfInBounds_toArray, List.set_cons_zero, List.set_cons_succ]
        refine wpAnyH_take (i := 6) (oi := ⟨_, _, _, _, _, _⟩) (v := .slice (some (a.add k)) (n - k) (c - k)) rfl (by kernel_rfl) (by kernel_rfl) (by kernel_rfl) (fun _ _ _ h => h) (Or.inl ⟨by rfl, ?_⟩) (by assumption) ?_
        · intro wz hSw
          try dsimp only at hSw
          go_simp
          rw [if_pos (by omega), if_neg (by omega)]
        try simp only [Act.put, List.setIfInBounds_toArray, List.set_cons_zero, List.set_cons_succ]
        refine wpAnyH_ready (rs := [3]) (by kernel_rfl) (by simp) ?_
        refine AllReadyH.cons (o := ⟨_, _, _, _, _, _⟩) rfl (fun K hK => ?_) AllReadyH.nil
        go_simp
        refine (KT.out _ _ _ (RT.out.step AT.out.bel) (by omega) AT.out.laid).mono ?_
        rintro e wz1 ⟨rfl, hb⟩
        replace AT := Lib.hid (AT.out.step hb)
        clear hb hHeld
        refine hK.out _ _ trivial (fun hHeld => ?_)
        clear hK K
        try simp only [Act.put, List.setIfInBounds_toArray, List.set_cons_zero, List.set_cons_succ]
        refine wpAnyH_ready (rs := [7]) (by kernel_rfl) (by simp) ?_
        refine AllReadyH.cons (o := ⟨_, _, _, _, _, _⟩) rfl (fun K hK => ?_) AllReadyH.nil
        go_simp
        refine (KD.out _ _ _ (RD.out.step AT.out.bel) (by omega) AT.out.laid).mono ?_
        rintro e wz2 ⟨rfl, hb⟩
        replace AT := Lib.hid (AT.out.step hb)
        clear hb hHeld
        refine hK.out _ _ trivial (fun hHeld => ?_)
        clear hK K
        try simp only [Act.put, List.setIfInBounds_toArray, List.set_cons_zero, List.set_cons_succ]
        refine wpAnyH_take (i := 8) (oi := ⟨_, _, _, _, _, _⟩) (v := ?_) rfl (by kernel_rfl) (by kernel_rfl) (by kernel_rfl) (fun _ _ _ h => h) (Or.inl ⟨by rfl, ?_⟩) (by assumption) ?_
        rotate_left
        · intro wz hSw
          try dsimp only at hSw
          go_simp
          try with_reducible rfl
        try simp only [Act.put, List.setIfInBounds_toArray, List.set_cons_zero, List.set_cons_succ]
        refine wpAnyH_take (i := 9) (oi := ⟨_, _, _, _, _, _⟩) (v := ?_) rfl (by kernel_rfl) (by kernel_rfl) (by kernel_rfl) (fun _ _ _ h => h) (Or.inl ⟨by rfl, ?_⟩) (by assumption) ?_
        rotate_left
        · intro wz hSw
          try dsimp only at hSw
          go_simp
          try with_reducible rfl
        try simp only [Act.put, List.setIfInBounds_toArray, List.set_cons_zero, List.set_cons_succ]
        refine wpAnyH_done (by kernel_rfl) ?_ _
        clear hHeld
        go_wp2_with fail
        refine (KP.out _ (HL.out.rs.step AT.out.bel) AT.out.laid).mono ?_
        rintro e w51 ⟨A2, c2, n2, rfl, hn, hc, ho, hb⟩
        replace AT := Lib.hid (AT.out.step hb)
        have HN2 := Lib.hid hn
        have HC2 := Lib.hid hc
        have O2 := Lib.hid ho
        have R2 := Lib.hid ho.rs
        clear hn hc ho
        clear hb 
        have UK := Lib.hid (Up.start w51)
        have HKS := Lib.hid AT.out.bel.size
        have KR2 := R2
        clear R2
        clear O2
        go_wp2_with fail
        refine (KQ.out _ _ _ (RT.out.step AT.out.bel) (by omega) AT.out.laid).mono ?_
        rintro e w52 ⟨A3, c3, n3, rfl, hn, hc, ho, hb⟩
        replace AT := Lib.hid (AT.out.step hb)
        replace UK := Lib.hid (UK.out.step hb)
        have HN3 := Lib.hid hn
        have HC3 := Lib.hid hc
        have O3 := Lib.hid ho
        have R3 := Lib.hid ho.rs
        clear hn hc ho
        clear hb 
        go_wp2_with fail
        refine (KR.out _ (HL.out.rs.step AT.out.bel) AT.out.laid).mono ?_
        rintro e w53 ⟨rfl, hb⟩
        replace AT := Lib.hid (AT.out.step hb)
        replace UK := Lib.hid (UK.out.step hb)
        replace O3 := Lib.hid (O3.out.step hb)
        replace R3 := Lib.hid (R3.out.step hb)
        clear hb 
        go_wp2_with fail
        refine (KH.out _ AT.out.laid).mono ?_
        rintro e w54 ⟨rfl, hb⟩
        replace AT := Lib.hid (AT.out.step hb)
        replace UK := Lib.hid (UK.out.step hb)
        replace O3 := Lib.hid (O3.out.step hb)
        replace R3 := Lib.hid (R3.out.step hb)
        clear hb 
        go_wp2_with (at_builtin; refine wpList_app_g (by rfl) _ _ rfl (O3.out.alloc _) (Rs.lit w54 [rd']) rfl rfl rfl (by rw [List.length_singleton]; omega) (UK.out.alloc _).bel.size ?_)
        intro v' w55 ho hg
        have hu := (UK.out.alloc _).grown (O3.out.alloc _) (Nat.le_refl _) hg
        replace AT := Lib.hid (At.grown HW.out (AT.out.alloc _) (O3.out.alloc _) HKS.out hg)
        obtain ⟨A4, n4, c4, rfl, hn, hc⟩ := ho.sl3
        replace UK := Lib.hid hu
        have HN4 := Lib.hid hn
        have HC4 := Lib.hid hc
        have O4 := Lib.hid ho
        have R4 := Lib.hid ho.rs
        clear hn hc ho hu hg O3 R3
        have R2 := Lib.hid (KR2.out.step UK.out.bel)
        go_wp2_with fail
        refine (same_yes' _ _ _ _ _ _ _ _ _ HN2.out HN4.out R2.out R4.out (by omega) (by rw [List.length_append, List.length_singleton]; omega) HEQ.out).mono ?_
        rintro e w56 ⟨rfl, hb⟩
        replace AT := Lib.hid (AT.out.step hb)
        replace UK := Lib.hid (UK.out.step hb)
        replace O4 := Lib.hid (O4.out.step hb)
        replace R4 := Lib.hid (R4.out.step hb)
        replace R2 := Lib.hid (R2.out.step hb)
        clear hb 
        go_wp2
        go_ret
        exact ⟨rfl, AT.out.bel⟩
  · have kq := fun A c w h hc hW => path_yes A (l.drop (sp l.length)) (i - sp l.length) c (l.length - sp l.length) ((i : Int) - (sp l.length : Int)) w eD.symm (by omega) h hc (by omega) hsD (by omega) hW
    have heq := path_hi (l := l) (by omega) (show sp l.length ≤ i by omega)
    have hql := path_length (l.drop (sp l.length)) (i - sp l.length)
    have hik' : (sp l.length : Int) ≤ (i : Int) := by omega
    rw [← hn] at kT kD kh rt rd hp hk eT eD kq heq hql hpl hsp hik' bT bD
    generalize l.take (sp n) = lT at *
    generalize l.drop (sp n) = lD at *
    generalize path l i = p at *
    generalize path lD (i - sp n) = q at *
    generalize root lT = ra at *
    generalize root lD = rd' at *
    generalize root l = r at *
    generalize sp n = k at *
    have HEQ := Lib.hid heq
    have HSP := Lib.hid hsp
    have KT := Lib.hid kT
    have KD := Lib.hid kD
    have KR := Lib.hid kr
    have KP := Lib.hid kp
    have KH := Lib.hid kh
    have KQ := Lib.hid kq
    have RT := Lib.hid rt
    have RD := Lib.hid rd
    have hpl' : p.length ≤ 64 := by omega
    have hql' : q.length ≤ 64 := by omega
    clear kT kD kr kp kh kq rt rd hpl hql heq hsp hsT hsD hls hs2 hn hi eT eD b1 b2 hik
    go_enter Tryd.func8, Tryd.ntmps8
    go_wp2_with fail
    refine (small_any _ AT.out.laid).mono ?_
    rintro e w1 ⟨rfl, hb⟩
    replace AT := Lib.hid (AT.out.step hb)
    clear hb 
    go_wp2_with fail
    refine (short_yes HNS.out (HL.out.rs.step AT.out.bel) HL.out.len HL.out.str HS.out).mono ?_
    rintro e wq ⟨rfl, hq⟩
    obtain rfl := hq
    go_wp2
    go_loop [6] (fun v => ∃ m : Nat, v = .int .i64 (m : Int) ∧ 1 ≤ m ∧ m ≤ 32 ∧ n ≤ 2 * m ∧ ∃ e, m = 2 ^ e) (fun v => (intOf v).toNat)
    case atStart => exact ⟨32, rfl, by omega, by omega, by omega, 5, rfl⟩
    case round =>
      obtain ⟨m, rfl, hm1, hm2, hm3, hme⟩ := hrel
      have HME := Lib.hid hme
      clear hme
      by_cases hmn : n ≤ m
      · have hmn' : (n : Int) ≤ (m : Int) := by omega
        go_wp2
        go_round
        case rel =>
          have hh := half_pow HME.out (by omega)
          exact ⟨m / 2, by go_num, hh.2.2, by omega, by omega, hh.1⟩
        case measure => simp [intOf]; omega
      · have hmn' : (m : Int) < (n : Int) := by omega
        obtain rfl : k = m := HSP.out m HME.out (by omega) hm3
        go_wp2
        replace AT := Lib.hid AT.out.drew
        refine wp_region_held_drew (S := (fun _ => True)) (by kernel_rfl) trivial (fun hHeld => ?_)
        generalize w1.drew = w1d at *
        refine wpAnyH_take (i := 0) (oi := ⟨_, _, _, _, _, _⟩) (v := ?_) rfl (by kernel_rfl) (by kernel_rfl) (by kernel_rfl) (fun _ _ _ h => h) (Or.inl ⟨by rfl, ?_⟩) (by assumption) ?_
        rotate_left
        · intro wz hSw
          try dsimp only at hSw
          go_simp
          try with_reducible rfl
        try simp only [Act.put, List.setIfInBounds_toArray, List.set_cons_zero, List.set_cons_succ]
        refine wpAnyH_take (i := 1) (oi := ⟨_, _, _, _, _, _⟩) (v := ?_) rfl (by kernel_rfl) (by kernel_rfl) (by kernel_rfl) (fun _ _ _ h => h) (Or.inl ⟨by rfl, ?_⟩) (by assumption) ?_
        rotate_left
        · intro wz hSw
          try dsimp only at hSw
          go_simp
          try with_reducible rfl
        try simp only [Act.put, List.setIfInBounds_toArray, List.set_cons_zero, List.set_cons_succ]
        refine wpAnyH_take (i := 2) (oi := ⟨_, _, _, _, _, _⟩) (v := .slice (some a) k c) rfl (by kernel_rfl) (by kernel_rfl) (by kernel_rfl) (fun _ _ _ h => h) (Or.inl ⟨by rfl, ?_⟩) (by assumption) ?_
        · intro wz hSw
          try dsimp only at hSw
          go_simp
          intro hx; omega
        try simp only [Act.put, List.setIfInBounds_toArray, List.set_cons_zero, List.set_cons_succ]
        refine wpAnyH_take (i := 4) (oi := ⟨_, _, _, _, _, _⟩) (v := ?_) rfl (by kernel_rfl) (by kernel_rfl) (by kernel_rfl) (fun _ _ _ h => h) (Or.inl ⟨by rfl, ?_⟩) (by assumption) ?_
        rotate_left
        · intro wz hSw
          try dsimp only at hSw
          go_simp
          try with_reducible rfl
        try simp only [Act.put, List.setIfInBounds_toArray, List.set_cons_zero, List.set_cons_succ]
        refine wpAnyH_take (i := 5) (oi := ⟨_, _, _, _, _, _⟩) (v := ?_) rfl (by kernel_rfl) (by kernel_rfl) (by kernel_rfl) (fun _ _ _ h => h) (Or.inl ⟨by rfl, ?_⟩) (by assumption) ?_
        rotate_left
        · intro wz hSw
          try dsimp only at hSw
          go_simp
          try with_reducible rfl
        try simp only [Act.put, List.setIfInBounds_toArray, List.set_cons_zero, List.set_cons_succ]
        refine wpAnyH_take (i := 6) (oi := ⟨_, _, _, _, _, _⟩) (v := .slice (some (a.add k)) (n - k) (c - k)) rfl (by kernel_rfl) (by kernel_rfl) (by kernel_rfl) (fun _ _ _ h => h) (Or.inl ⟨by rfl, ?_⟩) (by assumption) ?_
        · intro wz hSw
          try dsimp only at hSw
          go_simp
          rw [if_pos (by omega), if_neg (by omega)]
        try simp only [Act.put, List.setIfInBounds_toArray, List.set_cons_zero, List.set_cons_succ]
        refine wpAnyH_ready (rs := [3]) (by kernel_rfl) (by simp) ?_
        refine AllReadyH.cons (o := ⟨_, _, _, _, _, _⟩) rfl (fun K hK => ?_) AllReadyH.nil
        go_simp
        refine (KT.out _ _ _ (RT.out.step AT.out.bel) (by omega) AT.out.laid).mono ?_
        rintro e wz1 ⟨rfl, hb⟩
        replace AT := Lib.hid (AT.out.step hb)
        clear hb hHeld
        refine hK.out _ _ trivial (fun hHeld => ?_)
        clear hK K
        try simp only [Act.put, List.setIfInBounds_toArray, List.set_cons_zero, List.set_cons_succ]
        refine wpAnyH_ready (rs := [7]) (by kernel_rfl) (by simp) ?_
        refine AllReadyH.cons (o := ⟨_, _, _, _, _, _⟩) rfl (fun K hK => ?_) AllReadyH.nil
        go_simp
        refine (KD.out _ _ _ (RD.out.step AT.out.bel) (by omega) AT.out.laid).mono ?_
        rintro e wz2 ⟨rfl, hb⟩
        replace AT := Lib.hid (AT.out.step hb)
        clear hb hHeld
        refine hK.out _ _ trivial (fun hHeld => ?_)
        clear hK K
        try simp only [Act.put, List.setIfInBounds_toArray, List.set_cons_zero, List.set_cons_succ]
        refine wpAnyH_take (i := 8) (oi := ⟨_, _, _, _, _, _⟩) (v := ?_) rfl (by kernel_rfl) (by kernel_rfl) (by kernel_rfl) (fun _ _ _ h => h) (Or.inl ⟨by rfl, ?_⟩) (by assumption) ?_
        rotate_left
        · intro wz hSw
          try dsimp only at hSw
          go_simp
          try with_reducible rfl
        try simp only [Act.put, List.setIfInBounds_toArray, List.set_cons_zero, List.set_cons_succ]
        refine wpAnyH_take (i := 9) (oi := ⟨_, _, _, _, _, _⟩) (v := ?_) rfl (by kernel_rfl) (by kernel_rfl) (by kernel_rfl) (fun _ _ _ h => h) (Or.inl ⟨by rfl, ?_⟩) (by assumption) ?_
        rotate_left
        · intro wz hSw
          try dsimp only at hSw
          go_simp
          try with_reducible rfl
        try simp only [Act.put, List.setIfInBounds_toArray, List.set_cons_zero, List.set_cons_succ]
        refine wpAnyH_done (by kernel_rfl) ?_ _
        clear hHeld
        go_wp2_with fail
        refine (KP.out _ (HL.out.rs.step AT.out.bel) AT.out.laid).mono ?_
        rintro e w51 ⟨A2, c2, n2, rfl, hn, hc, ho, hb⟩
        replace AT := Lib.hid (AT.out.step hb)
        have HN2 := Lib.hid hn
        have HC2 := Lib.hid hc
        have O2 := Lib.hid ho
        have R2 := Lib.hid ho.rs
        clear hn hc ho
        clear hb 
        have UK := Lib.hid (Up.start w51)
        have HKS := Lib.hid AT.out.bel.size
        have KR2 := R2
        clear R2
        clear O2
        go_wp2_with fail
        refine (KQ.out _ _ _ (RD.out.step AT.out.bel) (by omega) AT.out.laid).mono ?_
        rintro e w52 ⟨A3, c3, n3, rfl, hn, hc, ho, hb⟩
        replace AT := Lib.hid (AT.out.step hb)
        replace UK := Lib.hid (UK.out.step hb)
        have HN3 := Lib.hid hn
        have HC3 := Lib.hid hc
        have O3 := Lib.hid ho
        have R3 := Lib.hid ho.rs
        clear hn hc ho
        clear hb 
        go_wp2_with fail
        refine (KR.out _ (HL.out.rs.step AT.out.bel) AT.out.laid).mono ?_
        rintro e w53 ⟨rfl, hb⟩
        replace AT := Lib.hid (AT.out.step hb)
        replace UK := Lib.hid (UK.out.step hb)
        replace O3 := Lib.hid (O3.out.step hb)
        replace R3 := Lib.hid (R3.out.step hb)
        clear hb 
        go_wp2_with fail
        refine (KH.out _ AT.out.laid).mono ?_
        rintro e w54 ⟨rfl, hb⟩
        replace AT := Lib.hid (AT.out.step hb)
        replace UK := Lib.hid (UK.out.step hb)
        replace O3 := Lib.hid (O3.out.step hb)
        replace R3 := Lib.hid (R3.out.step hb)
        clear hb 
        go_wp2_with (at_builtin; refine wpList_app_g (by rfl) _ _ rfl (O3.out.alloc _) (Rs.lit w54 [ra]) rfl rfl rfl (by rw [List.length_singleton]; omega) (UK.out.alloc _).bel.size ?_)
        intro v' w55 ho hg
        have hu := (UK.out.alloc _).grown (O3.out.alloc _) (Nat.le_refl _) hg
        replace AT := Lib.hid (At.grown HW.out (AT.out.alloc _) (O3.out.alloc _) HKS.out hg)
        obtain ⟨A4, n4, c4, rfl, hn, hc⟩ := ho.sl3
        replace UK := Lib.hid hu
        have HN4 := Lib.hid hn
        have HC4 := Lib.hid hc
        have O4 := Lib.hid ho
        have R4 := Lib.hid ho.rs
        clear hn hc ho hu hg O3 R3
        have R2 := Lib.hid (KR2.out.step UK.out.bel)
        go_wp2_with fail
        refine (same_yes' _ _ _ _ _ _ _ _ _ HN2.out HN4.out R2.out R4.out (by omega) (by rw [List.length_append, List.length_singleton]; omega) HEQ.out).mono ?_
        rintro e w56 ⟨rfl, hb⟩
        replace AT := Lib.hid (AT.out.step hb)
        replace UK := Lib.hid (UK.out.step hb)
        replace O4 := Lib.hid (O4.out.step hb)
        replace R4 := Lib.hid (R4.out.step hb)
        replace R2 := Lib.hid (R2.out.step hb)
        clear hb 
        go_wp2
        go_ret
        exact ⟨rfl, AT.out.bel⟩
end Mk
end Go.Proofs.YtfemgakfckabhaaDoor
