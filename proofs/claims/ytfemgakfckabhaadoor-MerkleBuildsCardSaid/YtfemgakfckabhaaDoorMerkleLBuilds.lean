/-
  Layer 8: MerkleBuilds.
-/
import Derived.Test.YtfemgakfckabhaaDoorMerkleLBinds
namespace Go.Proofs.YtfemgakfckabhaaDoor
open Go.RowKit
namespace Mk
attribute [local go_sem] S3.B_size S3.B_app S3.B_list
set_option maxHeartbeats 8000000 in
set_option maxRecDepth 100000 in
theorem builds_walk (A : Option Addr) (l : List Str) (c n : Nat) (z : Int) (w : World) (hns : n = l.length) (hW : S3.Laid w) (hl : Ls w A l c) (hi : isI64 z) :
    Calls Tryd.prog 3 #[.slice A n c, .int .i64 z] w fun e w' => e = .returned (.bool true) ∧ Below w.heap.size w w' := by
  have AT := Lib.hid (Lk.At.start hW)
  have HW := Lib.hid hW
  have HL := Lib.hid hl
  have HNS := Lib.hid hns
  have hcc : n ≤ c := by have := hl.cap; omega
  have hnn : (n : Int) ≤ 140737488355328 := by have := hl.len; omega
  unfold isI64 at hi
  clear hl hW hns
  by_cases hs : Short 100 l
  case neg =>
    have HS := Lib.hid hs
    clear hs
    go_enter Tryd.func3, Tryd.ntmps3
    go_wp2_with fail
    refine (small_any _ AT.out.laid).mono ?_
    rintro e w1 ⟨rfl, hb⟩
    replace AT := Lib.hid (AT.out.step hb)
    clear hb 
    go_wp2_with fail
    refine (short_no HNS.out (HL.out.rs.step AT.out.bel) HL.out.len HL.out.str HS.out).mono ?_
    rintro e wq ⟨rfl, hq⟩
    obtain rfl := hq
    go_wp2
    go_ret
    exact ⟨rfl, AT.out.bel⟩
  have hs2 := hs.2
  have h100 : l.length ≤ 100 := hs.1
  have HS := Lib.hid hs
  have HS2 := Lib.hid hs2
  clear hs
  have hn := HNS.out
  have hn1 : (n : Int) ≤ 100 := by omega
  have hls : ∀ s ∈ l, s.length ≤ 1000 := fun s hs => by have := hs2 s hs; omega
  have kr := fun w h hW => root_any A l c n w hn h hcc (by omega) hls hW
  have kq := fun w h => rroot_any 200 l (by omega) (by omega) hls A c n w hn h hcc
  generalize hroot : root l = r at *
  have KR := Lib.hid kr
  have KQ := Lib.hid kq
  clear kr kq hroot
  by_cases b1 : 0 ≤ z ∧ z < (n : Int)
  · obtain ⟨b1, b2⟩ := b1
    obtain ⟨i, rfl⟩ := Int.eq_ofNat_of_zero_le b1
    have kp := fun w h hW => path_yes A l i c n (i : Int) w hn rfl h hcc (by omega) hls (by omega) hW
    have kl := fun w h hW => link_yes A l i c n (i : Int) w hn rfl h hcc (by omega) hls (by omega) hW
    have krp := fun w h => rpath_any 200 l i (by omega) (by omega) hls (by omega) A c n (i : Int) w hn rfl h hcc
    have krl := fun w h => rlink_any l i (by omega) hls (by omega) A c n (i : Int) w hn rfl h hcc
    have hpl := path_length l i
    have hll := link_length l i
    generalize path l i = p at *
    generalize link l i = q at *
    have hpl' : p.length ≤ 101 := by omega
    have hll' : q.length ≤ 101 := by omega
    have b6 : i ≤ n := by omega
    have KP := Lib.hid kp
    have KL := Lib.hid kl
    have KRP := Lib.hid krp
    have KRL := Lib.hid krl
    clear kp kl krp krl hpl hll hls hs2 hn hi h100
    go_enter Tryd.func3, Tryd.ntmps3
    go_wp2_with fail
    refine (small_any _ AT.out.laid).mono ?_
    rintro e w1 ⟨rfl, hb⟩
    replace AT := Lib.hid (AT.out.step hb)
    clear hb 
    go_wp2_with fail
    refine (short_yes HNS.out (HL.out.rs.step AT.out.bel) HL.out.len HL.out.str HS.out).mono ?_
    rintro e wq ⟨rfl, hq⟩
    obtain rfl := hq
    go_wp2
    go_loopw [6] (fun v wr => ∃ k : Nat, v = .int .i64 (k : Int) ∧ k ≤ 5 ∧ Lk.At w wr) (fun v _ => 5 - (intOf v).toNat)
    case atStart => exact ⟨0, rfl, by omega, AT.out⟩
    case round =>
      obtain ⟨k, rfl, hk5, hat⟩ := hrel
      replace AT := Lib.hid hat
      clear hat
      by_cases hkn : k < n
      · have hkn' : (k : Int) < (n : Int) := by omega
        by_cases hk : k < 5
        · have hk' : (k : Int) < 5 := by omega
          have hkl : k < l.length := by have := HNS.out; omega
          obtain ⟨a, rfl⟩ := HL.out.rs.some_ (by omega)
          have hz := HS2.out _ (List.getElem_mem hkl)
          obtain ⟨x, hx⟩ : ∃ x, l[k]? = some x := ⟨_, List.getElem?_eq_getElem hkl⟩
          have hxe : l[k] = x := by rw [List.getElem?_eq_getElem hkl] at hx; injection hx
          rw [hxe] at hz
          have ka := fun w hW => leaf_any x w hW (by omega)
          have kb := fun w => rleaf_any x w (by omega)
          generalize leaf x = y at *
          have KA := Lib.hid ka
          have KB := Lib.hid kb
          have HX := Lib.hid hx
          clear ka kb hx hxe hz hkl
          go_wp2
          replace AT := Lib.hid AT.out.drew
          refine wp_region_held_drew (S := (fun w' => w'.cell? (a.add k) = some (.string (S3.B x)))) (by kernel_rfl) ((HL.out.rs.step AT.out.bel).at2 HX.out) (fun hHeld => ?_)
          generalize wr.drew = wrd at *
          refine wpAnyH_take (i := 0) (oi := ⟨_, _, _, _, _, _⟩) (v := ?_) rfl (by kernel_rfl) (by kernel_rfl) (by kernel_rfl) (fun _ _ _ h => h) (Or.inl ⟨by rfl, ?_⟩) (by assumption) ?_
          rotate_left
          · intro wz hSw
            try dsimp only at hSw
            go_simp
            try with_reducible rfl
          try simp only [Act.put, List.setIfInBounds_toArray, List.set_cons_zero, List.set_cons_succ]
          refine wpAnyH_take (i := 1) (oi := ⟨_, _, _, _, _, _⟩) (v := ?_) rfl (by kernel_rfl) (by kernel_rfl) (by kernel_rfl) (fun _ _ _ h => h) (Or.inl ⟨by rfl, ?_⟩) (by assumption) ?_
          rotate_left
          · intro wz hSw
            try dsimp only at hSw
            go_simp
            try with_reducible rfl
          try simp only [Act.put, List.setIfInBounds_toArray, List.set_cons_zero, List.set_cons_succ]
          refine wpAnyH_take (i := 2) (oi := ⟨_, _, _, _, _, _⟩) (v := ?_) rfl (by kernel_rfl) (by kernel_rfl) (by kernel_rfl) (fun _ _ _ h => h) (Or.inl ⟨by rfl, ?_⟩) (by assumption) ?_
          rotate_left
          · intro wz hSw
            try dsimp only at hSw
            go_simp
            try with_reducible rfl
          try simp only [Act.put, List.setIfInBounds_toArray, List.set_cons_zero, List.set_cons_succ]
          refine wpAnyH_take (i := 3) (oi := ⟨_, _, _, _, _, _⟩) (v := ?_) rfl (by kernel_rfl) (by kernel_rfl) (by kernel_rfl) (fun _ _ _ h => h) (Or.inl ⟨by rfl, ?_⟩) (by assumption) ?_
          rotate_left
          · intro wz hSw
            try dsimp only at hSw
            go_simp
            try with_reducible rfl
          try simp only [Act.put, List.setIfInBounds_toArray, List.set_cons_zero, List.set_cons_succ]
          refine wpAnyH_take (i := 5) (oi := ⟨_, _, _, _, _, _⟩) (v := ?_) rfl (by kernel_rfl) (by kernel_rfl) (by kernel_rfl) (fun _ _ _ h => h) (Or.inl ⟨by rfl, ?_⟩) (by assumption) ?_
          rotate_left
          · intro wz hSw
            try dsimp only at hSw
            go_simp
            try with_reducible rfl
          try simp only [Act.put, List.setIfInBounds_toArray, List.set_cons_zero, List.set_cons_succ]
          refine wpAnyH_take (i := 6) (oi := ⟨_, _, _, _, _, _⟩) (v := ?_) rfl (by kernel_rfl) (by kernel_rfl) (by kernel_rfl) (fun _ _ _ h => h) (Or.inl ⟨by rfl, ?_⟩) (by assumption) ?_
          rotate_left
          · intro wz hSw
            try dsimp only at hSw
            go_simp
            try with_reducible rfl
          try simp only [Act.put, List.setIfInBounds_toArray, List.set_cons_zero, List.set_cons_succ]
          refine wpAnyH_take (i := 7) (oi := ⟨_, _, _, _, _, _⟩) (v := ?_) rfl (by kernel_rfl) (by kernel_rfl) (by kernel_rfl) (fun _ _ _ h => h) (Or.inl ⟨by rfl, ?_⟩) (by assumption) ?_
          rotate_left
          · intro wz hSw
            try dsimp only at hSw
            go_simp
            try with_reducible rfl
          try simp only [Act.put, List.setIfInBounds_toArray, List.set_cons_zero, List.set_cons_succ]
          refine wpAnyH_take (i := 8) (oi := ⟨_, _, _, _, _, _⟩) (v := ?_) rfl (by kernel_rfl) (by kernel_rfl) (by kernel_rfl) (fun _ _ _ h => h) (Or.inl ⟨by rfl, ?_⟩) (by assumption) ?_
          rotate_left
          · intro wz hSw
            try dsimp only at hSw
            go_simp
            try with_reducible rfl
          try simp only [Act.put, List.setIfInBounds_toArray, List.set_cons_zero, List.set_cons_succ]
          refine wpAnyH_ready (rs := [4]) (by kernel_rfl) (by simp) ?_
          refine AllReadyH.cons (o := ⟨_, _, _, _, _, _⟩) rfl (fun K hK => ?_) AllReadyH.nil
          go_simp
          refine (KA.out _ AT.out.laid).mono ?_
          rintro e wz1 ⟨rfl, hb⟩
          replace AT := Lib.hid (AT.out.step hb)
          clear hb hHeld
          refine hK.out _ _ ((HL.out.rs.step AT.out.bel).at2 HX.out) (fun hHeld => ?_)
          clear hK K
          try simp only [Act.put, List.setIfInBounds_toArray, List.set_cons_zero, List.set_cons_succ]
          refine wpAnyH_ready (rs := [9]) (by kernel_rfl) (by simp) ?_
          refine AllReadyH.cons (o := ⟨_, _, _, _, _, _⟩) rfl (fun K hK => ?_) AllReadyH.nil
          go_simp
          refine (KB.out _).mono ?_
          rintro e wz2 ⟨rfl, hb⟩
          replace AT := Lib.hid (AT.out.step hb)
          clear hb hHeld
          refine hK.out _ _ ((HL.out.rs.step AT.out.bel).at2 HX.out) (fun hHeld => ?_)
          clear hK K
          try simp only [Act.put, List.setIfInBounds_toArray, List.set_cons_zero, List.set_cons_succ]
          refine wpAnyH_take (i := 10) (oi := ⟨_, _, _, _, _, _⟩) (v := ?_) rfl (by kernel_rfl) (by kernel_rfl) (by kernel_rfl) (fun _ _ _ h => h) (Or.inl ⟨by rfl, ?_⟩) (by assumption) ?_
          rotate_left
          · intro wz hSw
            try dsimp only at hSw
            go_simp
            try with_reducible rfl
          try simp only [Act.put, List.setIfInBounds_toArray, List.set_cons_zero, List.set_cons_succ]
          refine wpAnyH_done (by kernel_rfl) ?_ _
          clear hHeld
          go_wp2
          go_roundw
          case rel => exact ⟨k + 1, by go_num, by omega, AT.out⟩
          case measure => simp [intOf]; omega
        · obtain rfl : k = 5 := by omega
          go_wp2_with fail
          refine (KP.out _ (HL.out.rs.step AT.out.bel) AT.out.laid).mono ?_
          rintro e w51 ⟨A2, c2, n2, rfl, hn, hc, ho, hb⟩
          replace AT := Lib.hid (AT.out.step hb)
          have HN2 := Lib.hid hn
          have HC2 := Lib.hid hc
          have O2 := Lib.hid ho
          have R2 := Lib.hid ho.rs
          clear hn hc ho
          clear hb 
          go_wp2_with fail
          refine (KL.out _ (HL.out.rs.step AT.out.bel) AT.out.laid).mono ?_
          rintro e w52 ⟨A3, c3, n3, rfl, hn, hc, ho, hb⟩
          replace AT := Lib.hid (AT.out.step hb)
          replace O2 := Lib.hid (O2.out.step hb)
          replace R2 := Lib.hid (R2.out.step hb)
          have HN3 := Lib.hid hn
          have HC3 := Lib.hid hc
          have O3 := Lib.hid ho
          have R3 := Lib.hid ho.rs
          clear hn hc ho
          clear hb 
          clear O2 O3
          go_wp2_with fail
          refine (KR.out _ (HL.out.rs.step AT.out.bel) AT.out.laid).mono ?_
          rintro e w53 ⟨rfl, hb⟩
          replace AT := Lib.hid (AT.out.step hb)
          replace R2 := Lib.hid (R2.out.step hb)
          replace R3 := Lib.hid (R3.out.step hb)
          clear hb 
          go_wp2_with fail
          refine (KQ.out _ (HL.out.rs.step AT.out.bel)).mono ?_
          rintro e w54 ⟨rfl, hb⟩
          replace AT := Lib.hid (AT.out.step hb)
          replace R2 := Lib.hid (R2.out.step hb)
          replace R3 := Lib.hid (R3.out.step hb)
          clear hb 
          go_wp2_with fail
          refine (KRP.out _ (HL.out.rs.step AT.out.bel)).mono ?_
          rintro e w55 ⟨A4, c4, n4, rfl, hn, hc, ho, hb⟩
          replace AT := Lib.hid (AT.out.step hb)
          replace R2 := Lib.hid (R2.out.step hb)
          replace R3 := Lib.hid (R3.out.step hb)
          have HN4 := Lib.hid hn
          have HC4 := Lib.hid hc
          have O4 := Lib.hid ho
          have R4 := Lib.hid ho.rs
          clear hn hc ho
          clear hb 
          clear O4
          go_wp2_with fail
          refine (same_yes' _ _ _ _ _ _ _ _ _ HN2.out HN4.out R2.out R4.out (by omega) (by omega) rfl).mono ?_
          rintro e w56 ⟨rfl, hb⟩
          replace AT := Lib.hid (AT.out.step hb)
          replace R2 := Lib.hid (R2.out.step hb)
          replace R3 := Lib.hid (R3.out.step hb)
          replace R4 := Lib.hid (R4.out.step hb)
          clear hb 
          clear R2 R4
          go_wp2_with fail
          refine (KRL.out _ (HL.out.rs.step AT.out.bel)).mono ?_
          rintro e w57 ⟨A5, c5, n5, rfl, hn, hc, ho, hb⟩
          replace AT := Lib.hid (AT.out.step hb)
          replace R3 := Lib.hid (R3.out.step hb)
          have HN5 := Lib.hid hn
          have HC5 := Lib.hid hc
          have O5 := Lib.hid ho
          have R5 := Lib.hid ho.rs
          clear hn hc ho
          clear hb 
          clear O5
          go_wp2_with fail
          refine (same_yes' _ _ _ _ _ _ _ _ _ HN3.out HN5.out R3.out R5.out (by omega) (by omega) rfl).mono ?_
          rintro e w58 ⟨rfl, hb⟩
          replace AT := Lib.hid (AT.out.step hb)
          replace R3 := Lib.hid (R3.out.step hb)
          replace R5 := Lib.hid (R5.out.step hb)
          clear hb 
          go_wp2
          go_ret
          exact ⟨rfl, AT.out.bel⟩
      · have hkn' : (n : Int) ≤ (k : Int) := by omega
        go_wp2_with fail
        refine (KP.out _ (HL.out.rs.step AT.out.bel) AT.out.laid).mono ?_
        rintro e w51 ⟨A2, c2, n2, rfl, hn, hc, ho, hb⟩
        replace AT := Lib.hid (AT.out.step hb)
        have HN2 := Lib.hid hn
        have HC2 := Lib.hid hc
        have O2 := Lib.hid ho
        have R2 := Lib.hid ho.rs
        clear hn hc ho
        clear hb 
        go_wp2_with fail
        refine (KL.out _ (HL.out.rs.step AT.out.bel) AT.out.laid).mono ?_
        rintro e w52 ⟨A3, c3, n3, rfl, hn, hc, ho, hb⟩
        replace AT := Lib.hid (AT.out.step hb)
        replace O2 := Lib.hid (O2.out.step hb)
        replace R2 := Lib.hid (R2.out.step hb)
        have HN3 := Lib.hid hn
        have HC3 := Lib.hid hc
        have O3 := Lib.hid ho
        have R3 := Lib.hid ho.rs
        clear hn hc ho
        clear hb 
        clear O2 O3
        go_wp2_with fail
        refine (KR.out _ (HL.out.rs.step AT.out.bel) AT.out.laid).mono ?_
        rintro e w53 ⟨rfl, hb⟩
        replace AT := Lib.hid (AT.out.step hb)
        replace R2 := Lib.hid (R2.out.step hb)
        replace R3 := Lib.hid (R3.out.step hb)
        clear hb 
        go_wp2_with fail
        refine (KQ.out _ (HL.out.rs.step AT.out.bel)).mono ?_
        rintro e w54 ⟨rfl, hb⟩
        replace AT := Lib.hid (AT.out.step hb)
        replace R2 := Lib.hid (R2.out.step hb)
        replace R3 := Lib.hid (R3.out.step hb)
        clear hb 
        go_wp2_with fail
        refine (KRP.out _ (HL.out.rs.step AT.out.bel)).mono ?_
        rintro e w55 ⟨A4, c4, n4, rfl, hn, hc, ho, hb⟩
        replace AT := Lib.hid (AT.out.step hb)
        replace R2 := Lib.hid (R2.out.step hb)
        replace R3 := Lib.hid (R3.out.step hb)
        have HN4 := Lib.hid hn
        have HC4 := Lib.hid hc
        have O4 := Lib.hid ho
        have R4 := Lib.hid ho.rs
        clear hn hc ho
        clear hb 
        clear O4
        go_wp2_with fail
        refine (same_yes' _ _ _ _ _ _ _ _ _ HN2.out HN4.out R2.out R4.out (by omega) (by omega) rfl).mono ?_
        rintro e w56 ⟨rfl, hb⟩
        replace AT := Lib.hid (AT.out.step hb)
        replace R2 := Lib.hid (R2.out.step hb)
        replace R3 := Lib.hid (R3.out.step hb)
        replace R4 := Lib.hid (R4.out.step hb)
        clear hb 
        clear R2 R4
        go_wp2_with fail
        refine (KRL.out _ (HL.out.rs.step AT.out.bel)).mono ?_
        rintro e w57 ⟨A5, c5, n5, rfl, hn, hc, ho, hb⟩
        replace AT := Lib.hid (AT.out.step hb)
        replace R3 := Lib.hid (R3.out.step hb)
        have HN5 := Lib.hid hn
        have HC5 := Lib.hid hc
        have O5 := Lib.hid ho
        have R5 := Lib.hid ho.rs
        clear hn hc ho
        clear hb 
        clear O5
        go_wp2_with fail
        refine (same_yes' _ _ _ _ _ _ _ _ _ HN3.out HN5.out R3.out R5.out (by omega) (by omega) rfl).mono ?_
        rintro e w58 ⟨rfl, hb⟩
        replace AT := Lib.hid (AT.out.step hb)
        replace R3 := Lib.hid (R3.out.step hb)
        replace R5 := Lib.hid (R5.out.step hb)
        clear hb 
        go_wp2
        go_ret
        exact ⟨rfl, AT.out.bel⟩
  by_cases b2 : z = (n : Int)
  · subst b2
    have kp := fun w => path_no A l c n (n : Int) w hn (.inr (by omega)) (by omega)
    have kl := fun w h hW => link_yes A l n c n (n : Int) w hn rfl h hcc (by omega) hls (by omega) hW
    have krl := fun w h => rlink_any l n (by omega) hls (by omega) A c n (n : Int) w hn rfl h hcc
    have hll := link_length l n
    generalize link l n = q at *
    have hll' : q.length ≤ 101 := by omega
    have KP := Lib.hid kp
    have KL := Lib.hid kl
    have KRL := Lib.hid krl
    have hn0 : (0 : Int) ≤ (n : Int) := by omega
    clear kp kl krl hll hls hs2 hn hi h100 b1
    go_enter Tryd.func3, Tryd.ntmps3
    go_wp2_with fail
    refine (small_any _ AT.out.laid).mono ?_
    rintro e w1 ⟨rfl, hb⟩
    replace AT := Lib.hid (AT.out.step hb)
    clear hb 
    go_wp2_with fail
    refine (short_yes HNS.out (HL.out.rs.step AT.out.bel) HL.out.len HL.out.str HS.out).mono ?_
    rintro e wq ⟨rfl, hq⟩
    obtain rfl := hq
    go_wp2
    go_loopw [6] (fun v wr => ∃ k : Nat, v = .int .i64 (k : Int) ∧ k ≤ 5 ∧ Lk.At w wr) (fun v _ => 5 - (intOf v).toNat)
    case atStart => exact ⟨0, rfl, by omega, AT.out⟩
    case round =>
      obtain ⟨k, rfl, hk5, hat⟩ := hrel
      replace AT := Lib.hid hat
      clear hat
      by_cases hkn : k < n
      · have hkn' : (k : Int) < (n : Int) := by omega
        by_cases hk : k < 5
        · have hk' : (k : Int) < 5 := by omega
          have hkl : k < l.length := by have := HNS.out; omega
          obtain ⟨a, rfl⟩ := HL.out.rs.some_ (by omega)
          have hz := HS2.out _ (List.getElem_mem hkl)
          obtain ⟨x, hx⟩ : ∃ x, l[k]? = some x := ⟨_, List.getElem?_eq_getElem hkl⟩
          have hxe : l[k] = x := by rw [List.getElem?_eq_getElem hkl] at hx; injection hx
          rw [hxe] at hz
          have ka := fun w hW => leaf_any x w hW (by omega)
          have kb := fun w => rleaf_any x w (by omega)
          generalize leaf x = y at *
          have KA := Lib.hid ka
          have KB := Lib.hid kb
          have HX := Lib.hid hx
          clear ka kb hx hxe hz hkl
          go_wp2
          replace AT := Lib.hid AT.out.drew
          refine wp_region_held_drew (S := (fun w' => w'.cell? (a.add k) = some (.string (S3.B x)))) (by kernel_rfl) ((HL.out.rs.step AT.out.bel).at2 HX.out) (fun hHeld => ?_)
          generalize wr.drew = wrd at *
          refine wpAnyH_take (i := 0) (oi := ⟨_, _, _, _, _, _⟩) (v := ?_) rfl (by kernel_rfl) (by kernel_rfl) (by kernel_rfl) (fun _ _ _ h => h) (Or.inl ⟨by rfl, ?_⟩) (by assumption) ?_
          rotate_left
          · intro wz hSw
            try dsimp only at hSw
            go_simp
            try with_reducible rfl
          try simp only [Act.put, List.setIfInBounds_toArray, List.set_cons_zero, List.set_cons_succ]
          refine wpAnyH_take (i := 1) (oi := ⟨_, _, _, _, _, _⟩) (v := ?_) rfl (by kernel_rfl) (by kernel_rfl) (by kernel_rfl) (fun _ _ _ h => h) (Or.inl ⟨by rfl, ?_⟩) (by assumption) ?_
          rotate_left
          · intro wz hSw
            try dsimp only at hSw
            go_simp
            try with_reducible rfl
          try simp only [Act.put, List.setIfInBounds_toArray, List.set_cons_zero, List.set_cons_succ]
          refine wpAnyH_take (i := 2) (oi := ⟨_, _, _, _, _, _⟩) (v := ?_) rfl (by kernel_rfl) (by kernel_rfl) (by kernel_rfl) (fun _ _ _ h => h) (Or.inl ⟨by rfl, ?_⟩) (by assumption) ?_
          rotate_left
          · intro wz hSw
            try dsimp only at hSw
            go_simp
            try with_reducible rfl
          try simp only [Act.put, List.setIfInBounds_toArray, List.set_cons_zero, List.set_cons_succ]
          refine wpAnyH_take (i := 3) (oi := ⟨_, _, _, _, _, _⟩) (v := ?_) rfl (by kernel_rfl) (by kernel_rfl) (by kernel_rfl) (fun _ _ _ h => h) (Or.inl ⟨by rfl, ?_⟩) (by assumption) ?_
          rotate_left
          · intro wz hSw
            try dsimp only at hSw
            go_simp
            try with_reducible rfl
          try simp only [Act.put, List.setIfInBounds_toArray, List.set_cons_zero, List.set_cons_succ]
          refine wpAnyH_take (i := 5) (oi := ⟨_, _, _, _, _, _⟩) (v := ?_) rfl (by kernel_rfl) (by kernel_rfl) (by kernel_rfl) (fun _ _ _ h => h) (Or.inl ⟨by rfl, ?_⟩) (by assumption) ?_
          rotate_left
          · intro wz hSw
            try dsimp only at hSw
            go_simp
            try with_reducible rfl
          try simp only [Act.put, List.setIfInBounds_toArray, List.set_cons_zero, List.set_cons_succ]
          refine wpAnyH_take (i := 6) (oi := ⟨_, _, _, _, _, _⟩) (v := ?_) rfl (by kernel_rfl) (by kernel_rfl) (by kernel_rfl) (fun _ _ _ h => h) (Or.inl ⟨by rfl, ?_⟩) (by assumption) ?_
          rotate_left
          · intro wz hSw
            try dsimp only at hSw
            go_simp
            try with_reducible rfl
          try simp only [Act.put, List.setIfInBounds_toArray, List.set_cons_zero, List.set_cons_succ]
          refine wpAnyH_take (i := 7) (oi := ⟨_, _, _, _, _, _⟩) (v := ?_) rfl (by kernel_rfl) (by kernel_rfl) (by kernel_rfl) (fun _ _ _ h => h) (Or.inl ⟨by rfl, ?_⟩) (by assumption) ?_
          rotate_left
          · intro wz hSw
            try dsimp only at hSw
            go_simp
            try with_reducible rfl
          try simp only [Act.put, List.setIfInBounds_toArray, List.set_cons_zero, List.set_cons_succ]
          refine wpAnyH_take (i := 8) (oi := ⟨_, _, _, _, _, _⟩) (v := ?_) rfl (by kernel_rfl) (by kernel_rfl) (by kernel_rfl) (fun _ _ _ h => h) (Or.inl ⟨by rfl, ?_⟩) (by assumption) ?_
          rotate_left
          · intro wz hSw
            try dsimp only at hSw
            go_simp
            try with_reducible rfl
          try simp only [Act.put, List.setIfInBounds_toArray, List.set_cons_zero, List.set_cons_succ]
          refine wpAnyH_ready (rs := [4]) (by kernel_rfl) (by simp) ?_
          refine AllReadyH.cons (o := ⟨_, _, _, _, _, _⟩) rfl (fun K hK => ?_) AllReadyH.nil
          go_simp
          refine (KA.out _ AT.out.laid).mono ?_
          rintro e wz1 ⟨rfl, hb⟩
          replace AT := Lib.hid (AT.out.step hb)
          clear hb hHeld
          refine hK.out _ _ ((HL.out.rs.step AT.out.bel).at2 HX.out) (fun hHeld => ?_)
          clear hK K
          try simp only [Act.put, List.setIfInBounds_toArray, List.set_cons_zero, List.set_cons_succ]
          refine wpAnyH_ready (rs := [9]) (by kernel_rfl) (by simp) ?_
          refine AllReadyH.cons (o := ⟨_, _, _, _, _, _⟩) rfl (fun K hK => ?_) AllReadyH.nil
          go_simp
          refine (KB.out _).mono ?_
          rintro e wz2 ⟨rfl, hb⟩
          replace AT := Lib.hid (AT.out.step hb)
          clear hb hHeld
          refine hK.out _ _ ((HL.out.rs.step AT.out.bel).at2 HX.out) (fun hHeld => ?_)
          clear hK K
          try simp only [Act.put, List.setIfInBounds_toArray, List.set_cons_zero, List.set_cons_succ]
          refine wpAnyH_take (i := 10) (oi := ⟨_, _, _, _, _, _⟩) (v := ?_) rfl (by kernel_rfl) (by kernel_rfl) (by kernel_rfl) (fun _ _ _ h => h) (Or.inl ⟨by rfl, ?_⟩) (by assumption) ?_
          rotate_left
          · intro wz hSw
            try dsimp only at hSw
            go_simp
            try with_reducible rfl
          try simp only [Act.put, List.setIfInBounds_toArray, List.set_cons_zero, List.set_cons_succ]
          refine wpAnyH_done (by kernel_rfl) ?_ _
          clear hHeld
          go_wp2
          go_roundw
          case rel => exact ⟨k + 1, by go_num, by omega, AT.out⟩
          case measure => simp [intOf]; omega
        · obtain rfl : k = 5 := by omega
          go_wp2_with fail
          refine (KP.out _).mono ?_
          rintro e wq ⟨rfl, hq⟩
          obtain rfl := hq
          go_wp2_with fail
          refine (KL.out _ (HL.out.rs.step AT.out.bel) AT.out.laid).mono ?_
          rintro e w51 ⟨A3, c3, n3, rfl, hn, hc, ho, hb⟩
          replace AT := Lib.hid (AT.out.step hb)
          have HN3 := Lib.hid hn
          have HC3 := Lib.hid hc
          have O3 := Lib.hid ho
          have R3 := Lib.hid ho.rs
          clear hn hc ho
          clear hb 
          clear O3
          go_wp2_with fail
          refine (KR.out _ (HL.out.rs.step AT.out.bel) AT.out.laid).mono ?_
          rintro e w52 ⟨rfl, hb⟩
          replace AT := Lib.hid (AT.out.step hb)
          replace R3 := Lib.hid (R3.out.step hb)
          clear hb 
          go_wp2_with fail
          refine (KQ.out _ (HL.out.rs.step AT.out.bel)).mono ?_
          rintro e w53 ⟨rfl, hb⟩
          replace AT := Lib.hid (AT.out.step hb)
          replace R3 := Lib.hid (R3.out.step hb)
          clear hb 
          go_wp2_with fail
          refine (KRL.out _ (HL.out.rs.step AT.out.bel)).mono ?_
          rintro e w54 ⟨A5, c5, n5, rfl, hn, hc, ho, hb⟩
          replace AT := Lib.hid (AT.out.step hb)
          replace R3 := Lib.hid (R3.out.step hb)
          have HN5 := Lib.hid hn
          have HC5 := Lib.hid hc
          have O5 := Lib.hid ho
          have R5 := Lib.hid ho.rs
          clear hn hc ho
          clear hb 
          clear O5
          go_wp2_with fail
          refine (same_yes' _ _ _ _ _ _ _ _ _ HN3.out HN5.out R3.out R5.out (by omega) (by omega) rfl).mono ?_
          rintro e w55 ⟨rfl, hb⟩
          replace AT := Lib.hid (AT.out.step hb)
          replace R3 := Lib.hid (R3.out.step hb)
          replace R5 := Lib.hid (R5.out.step hb)
          clear hb 
          go_wp2
          go_ret
          exact ⟨rfl, AT.out.bel⟩
      · have hkn' : (n : Int) ≤ (k : Int) := by omega
        go_wp2_with fail
        refine (KP.out _).mono ?_
        rintro e wq ⟨rfl, hq⟩
        obtain rfl := hq
        go_wp2_with fail
        refine (KL.out _ (HL.out.rs.step AT.out.bel) AT.out.laid).mono ?_
        rintro e w51 ⟨A3, c3, n3, rfl, hn, hc, ho, hb⟩
        replace AT := Lib.hid (AT.out.step hb)
        have HN3 := Lib.hid hn
        have HC3 := Lib.hid hc
        have O3 := Lib.hid ho
        have R3 := Lib.hid ho.rs
        clear hn hc ho
        clear hb 
        clear O3
        go_wp2_with fail
        refine (KR.out _ (HL.out.rs.step AT.out.bel) AT.out.laid).mono ?_
        rintro e w52 ⟨rfl, hb⟩
        replace AT := Lib.hid (AT.out.step hb)
        replace R3 := Lib.hid (R3.out.step hb)
        clear hb 
        go_wp2_with fail
        refine (KQ.out _ (HL.out.rs.step AT.out.bel)).mono ?_
        rintro e w53 ⟨rfl, hb⟩
        replace AT := Lib.hid (AT.out.step hb)
        replace R3 := Lib.hid (R3.out.step hb)
        clear hb 
        go_wp2_with fail
        refine (KRL.out _ (HL.out.rs.step AT.out.bel)).mono ?_
        rintro e w54 ⟨A5, c5, n5, rfl, hn, hc, ho, hb⟩
        replace AT := Lib.hid (AT.out.step hb)
        replace R3 := Lib.hid (R3.out.step hb)
        have HN5 := Lib.hid hn
        have HC5 := Lib.hid hc
        have O5 := Lib.hid ho
        have R5 := Lib.hid ho.rs
        clear hn hc ho
        clear hb 
        clear O5
        go_wp2_with fail
        refine (same_yes' _ _ _ _ _ _ _ _ _ HN3.out HN5.out R3.out R5.out (by omega) (by omega) rfl).mono ?_
        rintro e w55 ⟨rfl, hb⟩
        replace AT := Lib.hid (AT.out.step hb)
        replace R3 := Lib.hid (R3.out.step hb)
        replace R5 := Lib.hid (R5.out.step hb)
        clear hb 
        go_wp2
        go_ret
        exact ⟨rfl, AT.out.bel⟩
  have kp := fun w => path_no A l c n z w hn (by omega) (by omega)
  have kl := fun w => link_no A l c n z w hn (by omega) (by omega)
  have KP := Lib.hid kp
  have KL := Lib.hid kl
  clear kp kl
  by_cases b3 : z < 0
  · clear hls hs2 hn hi h100 b1 b2
    go_enter Tryd.func3, Tryd.ntmps3
    go_wp2_with fail
    refine (small_any _ AT.out.laid).mono ?_
    rintro e w1 ⟨rfl, hb⟩
    replace AT := Lib.hid (AT.out.step hb)
    clear hb 
    go_wp2_with fail
    refine (short_yes HNS.out (HL.out.rs.step AT.out.bel) HL.out.len HL.out.str HS.out).mono ?_
    rintro e wq ⟨rfl, hq⟩
    obtain rfl := hq
    go_wp2
    go_loopw [6] (fun v wr => ∃ k : Nat, v = .int .i64 (k : Int) ∧ k ≤ 5 ∧ Lk.At w wr) (fun v _ => 5 - (intOf v).toNat)
    case atStart => exact ⟨0, rfl, by omega, AT.out⟩
    case round =>
      obtain ⟨k, rfl, hk5, hat⟩ := hrel
      replace AT := Lib.hid hat
      clear hat
      by_cases hkn : k < n
      · have hkn' : (k : Int) < (n : Int) := by omega
        by_cases hk : k < 5
        · have hk' : (k : Int) < 5 := by omega
          have hkl : k < l.length := by have := HNS.out; omega
          obtain ⟨a, rfl⟩ := HL.out.rs.some_ (by omega)
          have hz := HS2.out _ (List.getElem_mem hkl)
          obtain ⟨x, hx⟩ : ∃ x, l[k]? = some x := ⟨_, List.getElem?_eq_getElem hkl⟩
          have hxe : l[k] = x := by rw [List.getElem?_eq_getElem hkl] at hx; injection hx
          rw [hxe] at hz
          have ka := fun w hW => leaf_any x w hW (by omega)
          have kb := fun w => rleaf_any x w (by omega)
          generalize leaf x = y at *
          have KA := Lib.hid ka
          have KB := Lib.hid kb
          have HX := Lib.hid hx
          clear ka kb hx hxe hz hkl
          go_wp2
          replace AT := Lib.hid AT.out.drew
          refine wp_region_held_drew (S := (fun w' => w'.cell? (a.add k) = some (.string (S3.B x)))) (by kernel_rfl) ((HL.out.rs.step AT.out.bel).at2 HX.out) (fun hHeld => ?_)
          generalize wr.drew = wrd at *
          refine wpAnyH_take (i := 0) (oi := ⟨_, _, _, _, _, _⟩) (v := ?_) rfl (by kernel_rfl) (by kernel_rfl) (by kernel_rfl) (fun _ _ _ h => h) (Or.inl ⟨by rfl, ?_⟩) (by assumption) ?_
          rotate_left
          · intro wz hSw
            try dsimp only at hSw
            go_simp
            try with_reducible rfl
          try simp only [Act.put, List.setIfInBounds_toArray, List.set_cons_zero, List.set_cons_succ]
          refine wpAnyH_take (i := 1) (oi := ⟨_, _, _, _, _, _⟩) (v := ?_) rfl (by kernel_rfl) (by kernel_rfl) (by kernel_rfl) (fun _ _ _ h => h) (Or.inl ⟨by rfl, ?_⟩) (by assumption) ?_
          rotate_left
          · intro wz hSw
            try dsimp only at hSw
            go_simp
            try with_reducible rfl
          try simp only [Act.put, List.setIfInBounds_toArray, List.set_cons_zero, List.set_cons_succ]
          refine wpAnyH_take (i := 2) (oi := ⟨_, _, _, _, _, _⟩) (v := ?_) rfl (by kernel_rfl) (by kernel_rfl) (by kernel_rfl) (fun _ _ _ h => h) (Or.inl ⟨by rfl, ?_⟩) (by assumption) ?_
          rotate_left
          · intro wz hSw
            try dsimp only at hSw
            go_simp
            try with_reducible rfl
          try simp only [Act.put, List.setIfInBounds_toArray, List.set_cons_zero, List.set_cons_succ]
          refine wpAnyH_take (i := 3) (oi := ⟨_, _, _, _, _, _⟩) (v := ?_) rfl (by kernel_rfl) (by kernel_rfl) (by kernel_rfl) (fun _ _ _ h => h) (Or.inl ⟨by rfl, ?_⟩) (by assumption) ?_
          rotate_left
          · intro wz hSw
            try dsimp only at hSw
            go_simp
            try with_reducible rfl
          try simp only [Act.put, List.setIfInBounds_toArray, List.set_cons_zero, List.set_cons_succ]
          refine wpAnyH_take (i := 5) (oi := ⟨_, _, _, _, _, _⟩) (v := ?_) rfl (by kernel_rfl) (by kernel_rfl) (by kernel_rfl) (fun _ _ _ h => h) (Or.inl ⟨by rfl, ?_⟩) (by assumption) ?_
          rotate_left
          · intro wz hSw
            try dsimp only at hSw
            go_simp
            try with_reducible rfl
          try simp only [Act.put, List.setIfInBounds_toArray, List.set_cons_zero, List.set_cons_succ]
          refine wpAnyH_take (i := 6) (oi := ⟨_, _, _, _, _, _⟩) (v := ?_) rfl (by kernel_rfl) (by kernel_rfl) (by kernel_rfl) (fun _ _ _ h => h) (Or.inl ⟨by rfl, ?_⟩) (by assumption) ?_
          rotate_left
          · intro wz hSw
            try dsimp only at hSw
            go_simp
            try with_reducible rfl
          try simp only [Act.put, List.setIfInBounds_toArray, List.set_cons_zero, List.set_cons_succ]
          refine wpAnyH_take (i := 7) (oi := ⟨_, _, _, _, _, _⟩) (v := ?_) rfl (by kernel_rfl) (by kernel_rfl) (by kernel_rfl) (fun _ _ _ h => h) (Or.inl ⟨by rfl, ?_⟩) (by assumption) ?_
          rotate_left
          · intro wz hSw
            try dsimp only at hSw
            go_simp
            try with_reducible rfl
          try simp only [Act.put, List.setIfInBounds_toArray, List.set_cons_zero, List.set_cons_succ]
          refine wpAnyH_take (i := 8) (oi := ⟨_, _, _, _, _, _⟩) (v := ?_) rfl (by kernel_rfl) (by kernel_rfl) (by kernel_rfl) (fun _ _ _ h => h) (Or.inl ⟨by rfl, ?_⟩) (by assumption) ?_
          rotate_left
          · intro wz hSw
            try dsimp only at hSw
            go_simp
            try with_reducible rfl
          try simp only [Act.put, List.setIfInBounds_toArray, List.set_cons_zero, List.set_cons_succ]
          refine wpAnyH_ready (rs := [4]) (by kernel_rfl) (by simp) ?_
          refine AllReadyH.cons (o := ⟨_, _, _, _, _, _⟩) rfl (fun K hK => ?_) AllReadyH.nil
          go_simp
          refine (KA.out _ AT.out.laid).mono ?_
          rintro e wz1 ⟨rfl, hb⟩
          replace AT := Lib.hid (AT.out.step hb)
          clear hb hHeld
          refine hK.out _ _ ((HL.out.rs.step AT.out.bel).at2 HX.out) (fun hHeld => ?_)
          clear hK K
          try simp only [Act.put, List.setIfInBounds_toArray, List.set_cons_zero, List.set_cons_succ]
          refine wpAnyH_ready (rs := [9]) (by kernel_rfl) (by simp) ?_
          refine AllReadyH.cons (o := ⟨_, _, _, _, _, _⟩) rfl (fun K hK => ?_) AllReadyH.nil
          go_simp
          refine (KB.out _).mono ?_
          rintro e wz2 ⟨rfl, hb⟩
          replace AT := Lib.hid (AT.out.step hb)
          clear hb hHeld
          refine hK.out _ _ ((HL.out.rs.step AT.out.bel).at2 HX.out) (fun hHeld => ?_)
          clear hK K
          try simp only [Act.put, List.setIfInBounds_toArray, List.set_cons_zero, List.set_cons_succ]
          refine wpAnyH_take (i := 10) (oi := ⟨_, _, _, _, _, _⟩) (v := ?_) rfl (by kernel_rfl) (by kernel_rfl) (by kernel_rfl) (fun _ _ _ h => h) (Or.inl ⟨by rfl, ?_⟩) (by assumption) ?_
          rotate_left
          · intro wz hSw
            try dsimp only at hSw
            go_simp
            try with_reducible rfl
          try simp only [Act.put, List.setIfInBounds_toArray, List.set_cons_zero, List.set_cons_succ]
          refine wpAnyH_done (by kernel_rfl) ?_ _
          clear hHeld
          go_wp2
          go_roundw
          case rel => exact ⟨k + 1, by go_num, by omega, AT.out⟩
          case measure => simp [intOf]; omega
        · obtain rfl : k = 5 := by omega
          go_wp2_with fail
          refine (KP.out _).mono ?_
          rintro e wq ⟨rfl, hq⟩
          obtain rfl := hq
          go_wp2_with fail
          refine (KL.out _).mono ?_
          rintro e wq ⟨rfl, hq⟩
          obtain rfl := hq
          go_wp2_with fail
          refine (KR.out _ (HL.out.rs.step AT.out.bel) AT.out.laid).mono ?_
          rintro e w51 ⟨rfl, hb⟩
          replace AT := Lib.hid (AT.out.step hb)
          clear hb 
          go_wp2_with fail
          refine (KQ.out _ (HL.out.rs.step AT.out.bel)).mono ?_
          rintro e w52 ⟨rfl, hb⟩
          replace AT := Lib.hid (AT.out.step hb)
          clear hb 
          go_wp2
          go_ret
          exact ⟨rfl, AT.out.bel⟩
      · have hkn' : (n : Int) ≤ (k : Int) := by omega
        go_wp2_with fail
        refine (KP.out _).mono ?_
        rintro e wq ⟨rfl, hq⟩
        obtain rfl := hq
        go_wp2_with fail
        refine (KL.out _).mono ?_
        rintro e wq ⟨rfl, hq⟩
        obtain rfl := hq
        go_wp2_with fail
        refine (KR.out _ (HL.out.rs.step AT.out.bel) AT.out.laid).mono ?_
        rintro e w51 ⟨rfl, hb⟩
        replace AT := Lib.hid (AT.out.step hb)
        clear hb 
        go_wp2_with fail
        refine (KQ.out _ (HL.out.rs.step AT.out.bel)).mono ?_
        rintro e w52 ⟨rfl, hb⟩
        replace AT := Lib.hid (AT.out.step hb)
        clear hb 
        go_wp2
        go_ret
        exact ⟨rfl, AT.out.bel⟩
  · have b4 : (n : Int) < z := by omega
    have b5 : 0 ≤ z := by omega
    clear hls hs2 hn hi h100 b1 b2 b3
    go_enter Tryd.func3, Tryd.ntmps3
    go_wp2_with fail
    refine (small_any _ AT.out.laid).mono ?_
    rintro e w1 ⟨rfl, hb⟩
    replace AT := Lib.hid (AT.out.step hb)
    clear hb 
    go_wp2_with fail
    refine (short_yes HNS.out (HL.out.rs.step AT.out.bel) HL.out.len HL.out.str HS.out).mono ?_
    rintro e wq ⟨rfl, hq⟩
    obtain rfl := hq
    go_wp2
    go_loopw [6] (fun v wr => ∃ k : Nat, v = .int .i64 (k : Int) ∧ k ≤ 5 ∧ Lk.At w wr) (fun v _ => 5 - (intOf v).toNat)
    case atStart => exact ⟨0, rfl, by omega, AT.out⟩
    case round =>
      obtain ⟨k, rfl, hk5, hat⟩ := hrel
      replace AT := Lib.hid hat
      clear hat
      by_cases hkn : k < n
      · have hkn' : (k : Int) < (n : Int) := by omega
        by_cases hk : k < 5
        · have hk' : (k : Int) < 5 := by omega
          have hkl : k < l.length := by have := HNS.out; omega
          obtain ⟨a, rfl⟩ := HL.out.rs.some_ (by omega)
          have hz := HS2.out _ (List.getElem_mem hkl)
          obtain ⟨x, hx⟩ : ∃ x, l[k]? = some x := ⟨_, List.getElem?_eq_getElem hkl⟩
          have hxe : l[k] = x := by rw [List.getElem?_eq_getElem hkl] at hx; injection hx
          rw [hxe] at hz
          have ka := fun w hW => leaf_any x w hW (by omega)
          have kb := fun w => rleaf_any x w (by omega)
          generalize leaf x = y at *
          have KA := Lib.hid ka
          have KB := Lib.hid kb
          have HX := Lib.hid hx
          clear ka kb hx hxe hz hkl
          go_wp2
          replace AT := Lib.hid AT.out.drew
          refine wp_region_held_drew (S := (fun w' => w'.cell? (a.add k) = some (.string (S3.B x)))) (by kernel_rfl) ((HL.out.rs.step AT.out.bel).at2 HX.out) (fun hHeld => ?_)
          generalize wr.drew = wrd at *
          refine wpAnyH_take (i := 0) (oi := ⟨_, _, _, _, _, _⟩) (v := ?_) rfl (by kernel_rfl) (by kernel_rfl) (by kernel_rfl) (fun _ _ _ h => h) (Or.inl ⟨by rfl, ?_⟩) (by assumption) ?_
          rotate_left
          · intro wz hSw
            try dsimp only at hSw
            go_simp
            try with_reducible rfl
          try simp only [Act.put, List.setIfInBounds_toArray, List.set_cons_zero, List.set_cons_succ]
          refine wpAnyH_take (i := 1) (oi := ⟨_, _, _, _, _, _⟩) (v := ?_) rfl (by kernel_rfl) (by kernel_rfl) (by kernel_rfl) (fun _ _ _ h => h) (Or.inl ⟨by rfl, ?_⟩) (by assumption) ?_
          rotate_left
          · intro wz hSw
            try dsimp only at hSw
            go_simp
            try with_reducible rfl
          try simp only [Act.put, List.setIfInBounds_toArray, List.set_cons_zero, List.set_cons_succ]
          refine wpAnyH_take (i := 2) (oi := ⟨_, _, _, _, _, _⟩) (v := ?_) rfl (by kernel_rfl) (by kernel_rfl) (by kernel_rfl) (fun _ _ _ h => h) (Or.inl ⟨by rfl, ?_⟩) (by assumption) ?_
          rotate_left
          · intro wz hSw
            try dsimp only at hSw
            go_simp
            try with_reducible rfl
          try simp only [Act.put, List.setIfInBounds_toArray, List.set_cons_zero, List.set_cons_succ]
          refine wpAnyH_take (i := 3) (oi := ⟨_, _, _, _, _, _⟩) (v := ?_) rfl (by kernel_rfl) (by kernel_rfl) (by kernel_rfl) (fun _ _ _ h => h) (Or.inl ⟨by rfl, ?_⟩) (by assumption) ?_
          rotate_left
          · intro wz hSw
            try dsimp only at hSw
            go_simp
            try with_reducible rfl
          try simp only [Act.put, List.setIfInBounds_toArray, List.set_cons_zero, List.set_cons_succ]
          refine wpAnyH_take (i := 5) (oi := ⟨_, _, _, _, _, _⟩) (v := ?_) rfl (by kernel_rfl) (by kernel_rfl) (by kernel_rfl) (fun _ _ _ h => h) (Or.inl ⟨by rfl, ?_⟩) (by assumption) ?_
          rotate_left
          · intro wz hSw
            try dsimp only at hSw
            go_simp
            try with_reducible rfl
          try simp only [Act.put, List.setIfInBounds_toArray, List.set_cons_zero, List.set_cons_succ]
          refine wpAnyH_take (i := 6) (oi := ⟨_, _, _, _, _, _⟩) (v := ?_) rfl (by kernel_rfl) (by kernel_rfl) (by kernel_rfl) (fun _ _ _ h => h) (Or.inl ⟨by rfl, ?_⟩) (by assumption) ?_
          rotate_left
          · intro wz hSw
            try dsimp only at hSw
            go_simp
            try with_reducible rfl
          try simp only [Act.put, List.setIfInBounds_toArray, List.set_cons_zero, List.set_cons_succ]
          refine wpAnyH_take (i := 7) (oi := ⟨_, _, _, _, _, _⟩) (v := ?_) rfl (by kernel_rfl) (by kernel_rfl) (by kernel_rfl) (fun _ _ _ h => h) (Or.inl ⟨by rfl, ?_⟩) (by assumption) ?_
          rotate_left
          · intro wz hSw
            try dsimp only at hSw
            go_simp
            try with_reducible rfl
          try simp only [Act.put, List.setIfInBounds_toArray, List.set_cons_zero, List.set_cons_succ]
          refine wpAnyH_take (i := 8) (oi := ⟨_, _, _, _, _, _⟩) (v := ?_) rfl (by kernel_rfl) (by kernel_rfl) (by kernel_rfl) (fun _ _ _ h => h) (Or.inl ⟨by rfl, ?_⟩) (by assumption) ?_
          rotate_left
          · intro wz hSw
            try dsimp only at hSw
            go_simp
            try with_reducible rfl
          try simp only [Act.put, List.setIfInBounds_toArray, List.set_cons_zero, List.set_cons_succ]
          refine wpAnyH_ready (rs := [4]) (by kernel_rfl) (by simp) ?_
          refine AllReadyH.cons (o := ⟨_, _, _, _, _, _⟩) rfl (fun K hK => ?_) AllReadyH.nil
          go_simp
          refine (KA.out _ AT.out.laid).mono ?_
          rintro e wz1 ⟨rfl, hb⟩
          replace AT := Lib.hid (AT.out.step hb)
          clear hb hHeld
          refine hK.out _ _ ((HL.out.rs.step AT.out.bel).at2 HX.out) (fun hHeld => ?_)
          clear hK K
          try simp only [Act.put, List.setIfInBounds_toArray, List.set_cons_zero, List.set_cons_succ]
          refine wpAnyH_ready (rs := [9]) (by kernel_rfl) (by simp) ?_
          refine AllReadyH.cons (o := ⟨_, _, _, _, _, _⟩) rfl (fun K hK => ?_) AllReadyH.nil
          go_simp
          refine (KB.out _).mono ?_
          rintro e wz2 ⟨rfl, hb⟩
          replace AT := Lib.hid (AT.out.step hb)
          clear hb hHeld
          refine hK.out _ _ ((HL.out.rs.step AT.out.bel).at2 HX.out) (fun hHeld => ?_)
          clear hK K
          try simp only [Act.put, List.setIfInBounds_toArray, List.set_cons_zero, List.set_cons_succ]
          refine wpAnyH_take (i := 10) (oi := ⟨_, _, _, _, _, _⟩) (v := ?_) rfl (by kernel_rfl) (by kernel_rfl) (by kernel_rfl) (fun _ _ _ h => h) (Or.inl ⟨by rfl, ?_⟩) (by assumption) ?_
          rotate_left
          · intro wz hSw
            try dsimp only at hSw
            go_simp
            try with_reducible rfl
          try simp only [Act.put, List.setIfInBounds_toArray, List.set_cons_zero, List.set_cons_succ]
          refine wpAnyH_done (by kernel_rfl) ?_ _
          clear hHeld
          go_wp2
          go_roundw
          case rel => exact ⟨k + 1, by go_num, by omega, AT.out⟩
          case measure => simp [intOf]; omega
        · obtain rfl : k = 5 := by omega
          go_wp2_with fail
          refine (KP.out _).mono ?_
          rintro e wq ⟨rfl, hq⟩
          obtain rfl := hq
          go_wp2_with fail
          refine (KL.out _).mono ?_
          rintro e wq ⟨rfl, hq⟩
          obtain rfl := hq
          go_wp2_with fail
          refine (KR.out _ (HL.out.rs.step AT.out.bel) AT.out.laid).mono ?_
          rintro e w51 ⟨rfl, hb⟩
          replace AT := Lib.hid (AT.out.step hb)
          clear hb 
          go_wp2_with fail
          refine (KQ.out _ (HL.out.rs.step AT.out.bel)).mono ?_
          rintro e w52 ⟨rfl, hb⟩
          replace AT := Lib.hid (AT.out.step hb)
          clear hb 
          go_wp2
          go_ret
          exact ⟨rfl, AT.out.bel⟩
      · have hkn' : (n : Int) ≤ (k : Int) := by omega
        go_wp2_with fail
        refine (KP.out _).mono ?_
        rintro e wq ⟨rfl, hq⟩
        obtain rfl := hq
        go_wp2_with fail
        refine (KL.out _).mono ?_
        rintro e wq ⟨rfl, hq⟩
        obtain rfl := hq
        go_wp2_with fail
        refine (KR.out _ (HL.out.rs.step AT.out.bel) AT.out.laid).mono ?_
        rintro e w51 ⟨rfl, hb⟩
        replace AT := Lib.hid (AT.out.step hb)
        clear hb 
        go_wp2_with fail
        refine (KQ.out _ (HL.out.rs.step AT.out.bel)).mono ?_
        rintro e w52 ⟨rfl, hb⟩
        replace AT := Lib.hid (AT.out.step hb)
        clear hb 
        go_wp2
        go_ret
        exact ⟨rfl, AT.out.bel⟩
end Mk
end Go.Proofs.YtfemgakfckabhaaDoor
