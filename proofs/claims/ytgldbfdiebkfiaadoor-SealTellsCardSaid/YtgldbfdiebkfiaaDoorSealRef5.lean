/-
  SealRef, SealRef2, SealRef3, SealRef4, SealRef5: joined.
-/
import Derived.Test.YtgldbfdiebkfiaaDoorSealMath
import Derived.Test.YtgldbfdiebkfiaaDoorSignBase
import Derived.Laws.CopyRow
import Derived.Laws.ResultCell
/-
  Layer 6: the reference: H.
-/
namespace Go.Proofs.YtgldbfdiebkfiaaDoor
open Go.RowKit
namespace Se
attribute [local go_sem] S3.B_size S3.B_app

theorem encM_len : ∀ ls : List (List UInt8), (S2.Cd.encM S2.Cd.encT ls).length ≤ ls.flatten.length + 9 * ls.length
  | [] => by simp [S2.Cd.encM]
  | s :: ls => by
    have h1 := encM_len ls
    have h2 := S2.Cd.encN_len s.length
    have e : (S2.Cd.encM S2.Cd.encT (s :: ls)).length = (S2.Cd.encN s.length).length + s.length + (S2.Cd.encM S2.Cd.encT ls).length := by
      simp [S2.Cd.encM, S2.Cd.encT, Nat.add_assoc]
    rw [e, List.flatten_cons, List.length_append, List.length_cons]
    omega
theorem encL_len (ls : List (List UInt8)) : (S2.Cd.encL S2.Cd.encT ls).length ≤ ls.flatten.length + 9 * ls.length + 9 := by
  have h1 := encM_len ls
  have h2 := S2.Cd.encN_len ls.length
  have e : (S2.Cd.encL S2.Cd.encT ls).length = (S2.Cd.encN ls.length).length + (S2.Cd.encM S2.Cd.encT ls).length := by
    simp [S2.Cd.encL]
  rw [e]
  omega
/-- A block that a literal slice of strings is laid in. -/
theorem strs_row (w : World) (ls : List (List UInt8)) : S2.Row (w.alloc (.cells (ls.map fun s => Value.string (S3.B s)).toArray 9)) (w.alloc (.cells (ls.map fun s => Value.string (S3.B s)).toArray 9)).heap.size (some ⟨w.heap.size, 0, none⟩) (S2.Ss ls) := by
  refine .inr ⟨_, rfl, by simp, fun j u hu => ?_⟩
  have h := heap_alloc_last w (.cells (ls.map fun s => Value.string (S3.B s)).toArray 9)
  rw [Addr.add_lit, Nat.zero_add, cell_of_row _ _ _ _ _ _ h]
  rw [List.getElem?_toArray]
  exact hu

set_option maxHeartbeats 1000000 in
theorem rH_any (A : Option Addr) (ls : List (List UInt8)) (cap : Nat) (w : World) (hr : S2.Row w w.heap.size A (S2.Ss ls)) (hn : ls.length ≤ 10) (hl : ls.flatten.length ≤ 3800) :
    Calls Tryd.prog 33 #[.slice A ls.length cap] w fun e w' => e = .returned (.string (S3.B (H ls))) ∧ Below w.heap.size w w' := by
  have h1 := encM_len ls
  have h2 := encL_len ls
  have k1 := S2.refList_any A ls cap w hr (by omega) (by omega)
  have k2 := fun W => S5.Sg.rsha_ok W (S2.Cd.encL S2.Cd.encT ls) (by omega)
  rw [show S3.Sha.sha (S2.Cd.encL S2.Cd.encT ls) = H ls from rfl] at k2
  generalize H ls = d at k2 ⊢
  generalize S2.Cd.encL S2.Cd.encT ls = q at k1 k2
  have K1 := Lib.hid k1
  have K2 := Lib.hid k2
  clear k1 k2 h1 h2 hr hl
  go_enter Tryd.func33, Tryd.ntmps33
  go_wp2_with fail
  refine K1.out.mono ?_
  rintro e w1 ⟨rfl, h1⟩
  have G := Lib.hid h1
  clear h1
  go_wp2_with fail
  refine (K2.out _ _ G.out).mono ?_
  rintro e w2 ⟨rfl, h1⟩
  replace G := Lib.hid h1
  clear h1
  go_wp2
  go_ret
  exact ⟨rfl, G.out⟩
end Se
end Go.Proofs.YtgldbfdiebkfiaaDoor

/-
  Layer 6: the reference: tag, mix.
-/
namespace Go.Proofs.YtgldbfdiebkfiaaDoor
open Go.RowKit
namespace Se
attribute [local go_sem] S3.B_size S3.B_app S3.B_take S3.B_drop' S3.B_list

set_option maxHeartbeats 1000000 in
theorem rtag_any (k n d : List UInt8) (w : World) (hl : k.length + n.length + d.length ≤ 3700) :
    Calls Tryd.prog 25 #[.string (S3.B k), .string (S3.B n), .string (S3.B d)] w fun e w' => e = .returned (.string (S3.B (tag k n d))) ∧ Below w.heap.size w w' := by
  have hrow := strs_row w [[116, 97, 103], k, n, d]
  have k1 := rH_any (some ⟨w.heap.size, 0, none⟩) [[116, 97, 103], k, n, d] 4 _ hrow (by simp) (by simp; omega)
  have ht : tag k n d = (H [[116, 97, 103], k, n, d]).take 16 := rfl
  have h32 := H_len [[116, 97, 103], k, n, d]
  rw [ht]
  generalize H [[116, 97, 103], k, n, d] = q at k1 h32 ⊢
  have K1 := Lib.hid k1
  have HA := Lib.hid ((Below.refl w.heap.size w).alloc (Nat.le_refl _) (.cells #[.string (S3.B [116, 97, 103]), .string (S3.B k), .string (S3.B n), .string (S3.B d)] 9))
  clear k1 ht hrow hl
  go_enter Tryd.func25, Tryd.ntmps25
  go_wp2_with fail
  refine K1.out.mono ?_
  rintro e w1 ⟨rfl, h1⟩
  have G := Lib.hid (HA.out.trans (h1.mono HA.out.size))
  clear h1
  go_wp2
  go_ret
  exact ⟨rfl, G.out⟩

/-! ### mix -/
theorem own_below {w w' : World} {base n : Nat} {e : TypeId} {v : Value} {xs : List Value} (h : w.ownsRow base e 1 v n xs) (hb : Below w.heap.size w w') : w'.ownsRow base e 1 v n xs := by
  have hg : w.grownBy w' none := ⟨hb.os, hb.tape, hb.output, hb.size, fun k hk _ => hb.block k hk⟩
  refine h.kept hg ?_
  cases hv : v.ownBlock with
  | none => exact .inl rfl
  | some g => exact .inr (by simp)
theorem xor8 (a b : UInt8) : bits .xor .u8 (a.toNat : Int) (b.toNat : Int) = ((a ^^^ b).toNat : Nat) := by
  rw [u8_xor_nat _ _ a.toNat_lt b.toNat_lt, UInt8.toNat_xor]
/-- The block that the loop holds behind j bytes. -/
def held (k n : List UInt8) (j : Nat) : List UInt8 := if j = 0 then [] else blk k n ((j - 1) / 32)
theorem held_next (k n : List UInt8) (j : Nat) : held k n (j + 1) = blk k n (j / 32) := by
  unfold held
  rw [if_neg (by omega), Nat.add_sub_cancel]
theorem held_same (k n : List UInt8) (j : Nat) (h : ¬ j % 32 = 0) : held k n j = blk k n (j / 32) := by
  unfold held
  rw [if_neg (by omega)]
  congr 1
  omega

set_option maxHeartbeats 4000000 in
set_option maxRecDepth 100000 in
theorem rmix_any (k n s : List UInt8) (w : World) (hl : k.length + n.length + s.length ≤ 3700) :
    Calls Tryd.prog 26 #[.string (S3.B k), .string (S3.B n), .string (S3.B s)] w fun e w' => e = .returned (.string (S3.B (mix k n s))) ∧ Below w.heap.size w w' := by
  obtain ⟨i0, hi, hz0, hz1, hz2⟩ := info_parts S3.infoByte
  have hls : (s.length : Int) ≤ 3700 := by omega
  have HLL := Lib.hid hl
  clear hl
  go_enter Tryd.func26, Tryd.ntmps26
  go_wp2_with fail
  rw [show (⟨#[]⟩ : ByteArray) = S3.B (held k n 0) from rfl]
  go_loopw [7, 8, 9] (fun o b i wr => ∃ j : Nat, j ≤ s.length ∧ i = .int .i64 (j : Int) ∧ wr.ownsRow w.heap.size 5 1 o (mix k n (s.take j)).length (S3.U (mix k n (s.take j))) ∧ b = .string (S3.B (held k n j)) ∧ Below w.heap.size w wr) (fun _ _ i _ => s.length - (intOf i).toNat)
  case atStart => exact ⟨0, by omega, rfl, ⟨rfl, .inl ⟨rfl, rfl⟩⟩, rfl, Below.refl _ _⟩
  case round =>
    obtain ⟨j, hj, rfl, hown, rfl, hbel⟩ := hrel
    by_cases hc : j < s.length
    · have hc' : (j : Int) < s.length := by omega
      have hs := mix_step k n s j hc
      have hql : (mix k n (s.take j)).length = j := by rw [mix_len, List.length_take]; omega
      obtain ⟨q, hq⟩ : ∃ q, q = mix k n (s.take j) := ⟨_, rfl⟩
      rw [← hq] at hs hown hql
      have hsb : s.getD j 0 = s[j] := by rw [List.getD_eq_getElem?_getD, List.getElem?_eq_getElem hc]; rfl
      have hbl : (blk k n (j / 32)).length = 32 := H_len _
      have hsb2 : sb k n j = (blk k n (j / 32))[j % 32]'(by omega) := by
        unfold sb
        rw [List.getD_eq_getElem?_getD, List.getElem?_eq_getElem (by omega)]; rfl
      rw [hsb, hsb2] at hs
      have hnx := held_next k n j
      obtain ⟨blkv, hbv⟩ : ∃ b, b = blk k n (j / 32) := ⟨_, rfl⟩
      have hg2 : ∀ h, ((S3.B blkv)[j % 32]'h).toNat = ((blk k n (j / 32))[j % 32]'(by omega)).toNat := fun h => by subst hbv; rfl
      obtain ⟨vb, hvb⟩ : ∃ x, x = (blk k n (j / 32))[j % 32]'(by omega) := ⟨_, rfl⟩
      obtain ⟨va, hva⟩ : ∃ x, x = s[j] := ⟨_, rfl⟩
      have hg1 : ∀ h, ((S3.B s)[j]'h).toNat = va.toNat := fun h => by rw [hva]; rfl
      rw [← hvb] at hs hg2
      rw [← hva] at hs
      obtain ⟨x, hx⟩ : ∃ x, x = va ^^^ vb := ⟨_, rfl⟩
      have e1 : bits .xor .u8 (va.toNat : Int) (vb.toNat : Int) = (x.toNat : Nat) := by rw [hx]; exact xor8 _ _
      rw [← hx] at hs
      have hb32 : blkv.length = 32 := by rw [hbv]; exact hbl
      obtain ⟨m, hm⟩ : ∃ m, m = j % 32 := ⟨_, rfl⟩
      have hm32 : (m : Int) < 32 := by omega
      have em1 : (j : Int).tmod 32 = (m : Int) := by rw [Int.tmod_eq_emod_of_nonneg (by omega)]; omega
      have em2 : (j : Int) % 32 = (m : Int) := by omega
      have hg2' : ∀ h, ((S3.B blkv)[m]'h).toNat = vb.toNat := fun h => by subst hm; exact hg2 h
      have HS := Lib.hid hs
      have HNX := Lib.hid hnx
      have HL : Hid (q.length ≤ 3700) := Lib.hid (by omega)
      by_cases h0 : j % 32 = 0
      · have hnn : S2.Cd.encN (j / 32) = S5.Sg.encZ ((j / 32 : Nat) : Int) := by
          unfold S5.Sg.encZ
          rw [if_neg (by omega), Int.toNat_natCast]
        obtain ⟨d, hd⟩ : ∃ d, d = j / 32 := ⟨_, rfl⟩
        rw [← hd] at hnn hbv hnx
        have k1 := S5.Sg.rnum_ok wr (d : Int) (by unfold S5.Sg.isI S4.isI64; omega)
        rw [← hnn] at k1
        have hnl := S2.Cd.encN_len d
        have ed1 : (j : Int).tdiv 32 = (d : Int) := by rw [Int.tdiv_eq_ediv_of_nonneg (by omega)]; omega
        have ed2 : (j : Int) / 32 = (d : Int) := by omega
        have ed3 : IntKind.i64.wrap (d : Int) = d := IntWalk.i64_in _ (by omega)
        have hbv2 : blkv = H [[115, 116, 114, 101, 97, 109], k, n, S2.Cd.encN d] := hbv
        rw [← hbv] at hnx
        generalize S2.Cd.encN d = y at k1 hbv2 hnl
        have K1 := Lib.hid k1
        have HB2 := Lib.hid hbv2
        have HNX2 : Hid (held k n (j + 1) = blkv) := Lib.hid hnx
        have hm0 : (m : Int) = 0 := by omega
        have HOWN0 := Lib.hid hown
        have HBEL0 := Lib.hid hbel
        have hy9 : y.length ≤ 9 := hnl
        clear hs hnx HNX hbv hbv2 hg2 hvb hva hx hsb hsb2 hbl hq hown hbel h0 hql hj k1 hnn hd hnl
        have HNX := HNX2
        clear HNX2
        obtain rfl : m = 0 := by omega
        clear hm hm0
        rw [show ((0 : Nat) : Int) = 0 from rfl] at em1 em2 hm32
        go_wp2_with fail
        refine (K1.out _ (Below.refl _ _)).mono ?_
        rintro e w1 ⟨rfl, h1⟩
        have hown1 := own_below HOWN0.out h1
        have hbel1 := HBEL0.out.trans (h1.mono HBEL0.out.size)
        have hrow := strs_row w1 [[115, 116, 114, 101, 97, 109], k, n, y]
        have hLL := HLL.out
        have k2 := rH_any (some ⟨w1.heap.size, 0, none⟩) [[115, 116, 114, 101, 97, 109], k, n, y] 4 _ hrow (by simp) (by simp; omega)
        rw [← HB2.out] at k2
        have K2 := Lib.hid k2
        have hal := (Below.refl w1.heap.size w1).alloc (Nat.le_refl _) (.cells #[.string (S3.B [115, 116, 114, 101, 97, 109]), .string (S3.B k), .string (S3.B n), .string (S3.B y)] 9)
        have HOWN1 := Lib.hid (own_below hown1 hal)
        have HBEL1 := Lib.hid (hbel1.trans (hal.mono hbel1.size))
        clear h1 hown1 hbel1 hrow hLL k2 hal HOWN0 HBEL0 K1 HB2 hy9 ed1 ed2 ed3
        go_wp2_with fail
        refine K2.out.mono ?_
        rintro e w2 ⟨rfl, h1⟩
        have HOWN := Lib.hid (own_below HOWN1.out h1)
        have HBEL := Lib.hid (HBEL1.out.trans (h1.mono HBEL1.out.size))
        clear h1 HOWN1 HBEL1 K2
        go_wp2_with fail
        refine wp_region_held_drew (S := fun _ => True) (by kernel_rfl) trivial (fun hHeld => ?_)
        refine wpAnyH_take (i := 0) (oi := ⟨_, _, _, _, _, _⟩) (v := ?_) rfl (by kernel_rfl) (by kernel_rfl) (by kernel_rfl) (fun _ _ _ h => h) (Or.inl ⟨by rfl, ?_⟩) (by assumption) ?_
        rotate_left
        · intro wz hSw
          try dsimp only at hSw
          go_simp
          try with_reducible rfl
        try simp only [Act.put, List.setIfInBounds_toArray, List.set_cons_zero, List.set_cons_succ]
        refine wpAnyH_take (i := 1) (oi := ⟨_, _, _, _, _, _⟩) (v := ?_) rfl (by kernel_rfl) (by kernel_rfl) (by kernel_rfl) (fun _ _ _ h => h) (Or.inl ⟨by rfl, ?_⟩) (by assumption) ?_
        rotate_left
        · intro wz hSw
          try dsimp only at hSw
          go_simp
          try with_reducible rfl
        try simp only [Act.put, List.setIfInBounds_toArray, List.set_cons_zero, List.set_cons_succ]
        refine wpAnyH_take (i := 2) (oi := ⟨_, _, _, _, _, _⟩) (v := ?_) rfl (by kernel_rfl) (by kernel_rfl) (by kernel_rfl) (fun _ _ _ h => h) (Or.inl ⟨by rfl, ?_⟩) (by assumption) ?_
        rotate_left
        · intro wz hSw
          try dsimp only at hSw
          go_simp
          try with_reducible rfl
        try simp only [Act.put, List.setIfInBounds_toArray, List.set_cons_zero, List.set_cons_succ]
        refine wpAnyH_take (i := 3) (oi := ⟨_, _, _, _, _, _⟩) (v := ?_) rfl (by kernel_rfl) (by kernel_rfl) (by kernel_rfl) (fun _ _ _ h => h) (Or.inl ⟨by rfl, ?_⟩) (by assumption) ?_
        rotate_left
        · intro wz hSw
          try dsimp only at hSw
          go_simp
          try with_reducible rfl
        try simp only [Act.put, List.setIfInBounds_toArray, List.set_cons_zero, List.set_cons_succ]
        refine wpAnyH_take (i := 4) (oi := ⟨_, _, _, _, _, _⟩) (v := ?_) rfl (by kernel_rfl) (by kernel_rfl) (by kernel_rfl) (fun _ _ _ h => h) (Or.inl ⟨by rfl, ?_⟩) (by assumption) ?_
        rotate_left
        · intro wz hSw
          try dsimp only at hSw
          go_simp
          try with_reducible rfl
        try simp only [Act.put, List.setIfInBounds_toArray, List.set_cons_zero, List.set_cons_succ]
        refine wpAnyH_take (i := 5) (oi := ⟨_, _, _, _, _, _⟩) (v := ?_) rfl (by kernel_rfl) (by kernel_rfl) (by kernel_rfl) (fun _ _ _ h => h) (Or.inl ⟨by rfl, ?_⟩) (by assumption) ?_
        rotate_left
        · intro wz hSw
          try dsimp only at hSw
          go_simp
          try with_reducible rfl
        try simp only [Act.put, List.setIfInBounds_toArray, List.set_cons_zero, List.set_cons_succ]
        refine wpAnyH_take (i := 6) (oi := ⟨_, _, _, _, _, _⟩) (v := ?_) rfl (by kernel_rfl) (by kernel_rfl) (by kernel_rfl) (fun _ _ _ h => h) (Or.inl ⟨by rfl, ?_⟩) (by assumption) ?_
        rotate_left
        · intro wz hSw
          try dsimp only at hSw
          go_simp
          try with_reducible rfl
        try simp only [Act.put, List.setIfInBounds_toArray, List.set_cons_zero, List.set_cons_succ]
        refine wpAnyH_take (i := 7) (oi := ⟨_, _, _, _, _, _⟩) (v := ?_) rfl (by kernel_rfl) (by kernel_rfl) (by kernel_rfl) (fun _ _ _ h => h) (Or.inl ⟨by rfl, ?_⟩) (by assumption) ?_
        rotate_left
        · intro wz hSw
          try dsimp only at hSw
          go_simp
          try with_reducible rfl
        try simp only [Act.put, List.setIfInBounds_toArray, List.set_cons_zero, List.set_cons_succ]
        refine wpAnyH_take (i := 8) (oi := ⟨_, _, _, _, _, _⟩) (v := ?_) rfl (by kernel_rfl) (by kernel_rfl) (by kernel_rfl) (fun _ _ _ h => h) (Or.inl ⟨by rfl, ?_⟩) (by assumption) ?_
        rotate_left
        · intro wz hSw
          try dsimp only at hSw
          go_simp
          try with_reducible rfl
        try simp only [Act.put, List.setIfInBounds_toArray, List.set_cons_zero, List.set_cons_succ]
        refine wpAnyH_ready (rs := [9]) (by kernel_rfl) (by simp) ?_
        refine AllReadyH.cons (o := ⟨_, _, _, _, _, _⟩) rfl (fun K hK => ?_) AllReadyH.nil
        go_simp
        refine hK.out _ _ trivial (fun hHeld => ?_)
        clear hK K
        try simp only [Act.put, List.setIfInBounds_toArray, List.set_cons_zero, List.set_cons_succ]
        refine wpAnyH_ready (rs := [10]) (by kernel_rfl) (by simp) ?_
        refine AllReadyH.cons (o := ⟨_, _, _, _, _, _⟩) rfl (fun K hK => ?_) AllReadyH.nil
        have hown2 : w2.drew.ownsRow w.heap.size 5 1 u7 q.length (S3.U q) := HOWN.out
        have hbel2 : Below w.heap.size w w2.drew := HBEL.out.drew
        have hbase2 : w.heap.size ≤ w2.drew.heap.size := HBEL.out.size
        refine S3.step_append_own rfl _ _ 61 rfl w.heap.size 5 i0 (.int .u8 0) 1 1 Tryd.underlying61 hi hz0 hz1 hz2 rfl (by decide) _ _ _ rfl (hown2.alloc _) ⟨w2.heap.size, 0, none⟩ 1 1 [.int .u8 (x.toNat : Nat)] rfl rfl S3.one_cell (fun u hu => by simp at hu; subst hu; rfl) (by have := HL.out; unfold maxLen; omega) (by have := HL.out; omega) (by simp; exact Nat.le_succ_of_le HBEL.out.size) ?_
        intro v' w9 hown' hgrow
        have Rr := S3.own_more (r := [x]) rfl rfl hbase2 hown2 hbel2 hown' hgrow
        clear hown' hgrow hown2 hbel2
        refine hK.out _ _ trivial (fun hHeld => ?_)
        clear hK K
        try simp only [Act.put, List.setIfInBounds_toArray, List.set_cons_zero, List.set_cons_succ]
        refine wpAnyH_take (i := 11) (oi := ⟨_, _, _, _, _, _⟩) (v := ?_) rfl (by kernel_rfl) (by kernel_rfl) (by kernel_rfl) (fun _ _ _ h => h) (Or.inl ⟨by rfl, ?_⟩) (by assumption) ?_
        rotate_left
        · intro wz hSw
          try dsimp only at hSw
          go_simp
          try with_reducible rfl
        try simp only [Act.put, List.setIfInBounds_toArray, List.set_cons_zero, List.set_cons_succ]
        refine wpAnyH_done (by kernel_rfl) ?_ _
        have R2 : w9.ownsRow w.heap.size 5 1 v' (mix k n (s.take (j + 1))).length (S3.U (mix k n (s.take (j + 1)))) := by rw [HS.out]; exact Rr.1
        have R3 := Rr.2
        clear Rr
        go_wp2
        go_roundw
        case rel => exact ⟨j + 1, by omega, by go_num, R2, by rw [HNX.out], R3⟩
        case measure => simp [intOf]; omega
      · have hsame := held_same k n j h0
        rw [hsame, ← hbv]
        have HNX2 : Hid (held k n (j + 1) = blkv) := Lib.hid (by rw [hbv]; exact hnx)
        have hm0 : ¬ (m : Int) = 0 := by omega
        have HOWN := Lib.hid hown
        have HBEL := Lib.hid hbel
        clear hs hnx HNX hsame hbv hg2 hm hvb hva hx hsb hsb2 hbl hq hown hbel h0 hql hj
        have HNX := HNX2
        clear HNX2
        go_wp2_with fail
        refine wp_region_held_drew (S := fun _ => True) (by kernel_rfl) trivial (fun hHeld => ?_)
        refine wpAnyH_take (i := 0) (oi := ⟨_, _, _, _, _, _⟩) (v := ?_) rfl (by kernel_rfl) (by kernel_rfl) (by kernel_rfl) (fun _ _ _ h => h) (Or.inl ⟨by rfl, ?_⟩) (by assumption) ?_
        rotate_left
        · intro wz hSw
          try dsimp only at hSw
          go_simp
          try with_reducible rfl
        try simp only [Act.put, List.setIfInBounds_toArray, List.set_cons_zero, List.set_cons_succ]
        refine wpAnyH_take (i := 1) (oi := ⟨_, _, _, _, _, _⟩) (v := ?_) rfl (by kernel_rfl) (by kernel_rfl) (by kernel_rfl) (fun _ _ _ h => h) (Or.inl ⟨by rfl, ?_⟩) (by assumption) ?_
        rotate_left
        · intro wz hSw
          try dsimp only at hSw
          go_simp
          try with_reducible rfl
        try simp only [Act.put, List.setIfInBounds_toArray, List.set_cons_zero, List.set_cons_succ]
        refine wpAnyH_take (i := 2) (oi := ⟨_, _, _, _, _, _⟩) (v := ?_) rfl (by kernel_rfl) (by kernel_rfl) (by kernel_rfl) (fun _ _ _ h => h) (Or.inl ⟨by rfl, ?_⟩) (by assumption) ?_
        rotate_left
        · intro wz hSw
          try dsimp only at hSw
          go_simp
          try with_reducible rfl
        try simp only [Act.put, List.setIfInBounds_toArray, List.set_cons_zero, List.set_cons_succ]
        refine wpAnyH_take (i := 3) (oi := ⟨_, _, _, _, _, _⟩) (v := ?_) rfl (by kernel_rfl) (by kernel_rfl) (by kernel_rfl) (fun _ _ _ h => h) (Or.inl ⟨by rfl, ?_⟩) (by assumption) ?_
        rotate_left
        · intro wz hSw
          try dsimp only at hSw
          go_simp
          try with_reducible rfl
        try simp only [Act.put, List.setIfInBounds_toArray, List.set_cons_zero, List.set_cons_succ]
        refine wpAnyH_take (i := 4) (oi := ⟨_, _, _, _, _, _⟩) (v := ?_) rfl (by kernel_rfl) (by kernel_rfl) (by kernel_rfl) (fun _ _ _ h => h) (Or.inl ⟨by rfl, ?_⟩) (by assumption) ?_
        rotate_left
        · intro wz hSw
          try dsimp only at hSw
          go_simp
          try with_reducible rfl
        try simp only [Act.put, List.setIfInBounds_toArray, List.set_cons_zero, List.set_cons_succ]
        refine wpAnyH_take (i := 5) (oi := ⟨_, _, _, _, _, _⟩) (v := ?_) rfl (by kernel_rfl) (by kernel_rfl) (by kernel_rfl) (fun _ _ _ h => h) (Or.inl ⟨by rfl, ?_⟩) (by assumption) ?_
        rotate_left
        · intro wz hSw
          try dsimp only at hSw
          go_simp
          try with_reducible rfl
        try simp only [Act.put, List.setIfInBounds_toArray, List.set_cons_zero, List.set_cons_succ]
        refine wpAnyH_take (i := 6) (oi := ⟨_, _, _, _, _, _⟩) (v := ?_) rfl (by kernel_rfl) (by kernel_rfl) (by kernel_rfl) (fun _ _ _ h => h) (Or.inl ⟨by rfl, ?_⟩) (by assumption) ?_
        rotate_left
        · intro wz hSw
          try dsimp only at hSw
          go_simp
          try with_reducible rfl
        try simp only [Act.put, List.setIfInBounds_toArray, List.set_cons_zero, List.set_cons_succ]
        refine wpAnyH_take (i := 7) (oi := ⟨_, _, _, _, _, _⟩) (v := ?_) rfl (by kernel_rfl) (by kernel_rfl) (by kernel_rfl) (fun _ _ _ h => h) (Or.inl ⟨by rfl, ?_⟩) (by assumption) ?_
        rotate_left
        · intro wz hSw
          try dsimp only at hSw
          go_simp
          try with_reducible rfl
        try simp only [Act.put, List.setIfInBounds_toArray, List.set_cons_zero, List.set_cons_succ]
        refine wpAnyH_take (i := 8) (oi := ⟨_, _, _, _, _, _⟩) (v := ?_) rfl (by kernel_rfl) (by kernel_rfl) (by kernel_rfl) (fun _ _ _ h => h) (Or.inl ⟨by rfl, ?_⟩) (by assumption) ?_
        rotate_left
        · intro wz hSw
          try dsimp only at hSw
          go_simp
          try with_reducible rfl
        try simp only [Act.put, List.setIfInBounds_toArray, List.set_cons_zero, List.set_cons_succ]
        refine wpAnyH_ready (rs := [9]) (by kernel_rfl) (by simp) ?_
        refine AllReadyH.cons (o := ⟨_, _, _, _, _, _⟩) rfl (fun K hK => ?_) AllReadyH.nil
        go_simp
        refine hK.out _ _ trivial (fun hHeld => ?_)
        clear hK K
        try simp only [Act.put, List.setIfInBounds_toArray, List.set_cons_zero, List.set_cons_succ]
        refine wpAnyH_ready (rs := [10]) (by kernel_rfl) (by simp) ?_
        refine AllReadyH.cons (o := ⟨_, _, _, _, _, _⟩) rfl (fun K hK => ?_) AllReadyH.nil
        have hown2 : wr.drew.ownsRow w.heap.size 5 1 u7 q.length (S3.U q) := HOWN.out
        have hbel2 : Below w.heap.size w wr.drew := HBEL.out.drew
        have hbase2 : w.heap.size ≤ wr.drew.heap.size := HBEL.out.size
        refine S3.step_append_own rfl _ _ 61 rfl w.heap.size 5 i0 (.int .u8 0) 1 1 Tryd.underlying61 hi hz0 hz1 hz2 rfl (by decide) _ _ _ rfl (hown2.alloc _) ⟨wr.heap.size, 0, none⟩ 1 1 [.int .u8 (x.toNat : Nat)] rfl rfl S3.one_cell (fun u hu => by simp at hu; subst hu; rfl) (by have := HL.out; unfold maxLen; omega) (by have := HL.out; omega) (by simp; exact Nat.le_succ_of_le HBEL.out.size) ?_
        intro v' w9 hown' hgrow
        have Rr := S3.own_more (r := [x]) rfl rfl hbase2 hown2 hbel2 hown' hgrow
        clear hown' hgrow hown2 hbel2
        refine hK.out _ _ trivial (fun hHeld => ?_)
        clear hK K
        try simp only [Act.put, List.setIfInBounds_toArray, List.set_cons_zero, List.set_cons_succ]
        refine wpAnyH_take (i := 11) (oi := ⟨_, _, _, _, _, _⟩) (v := ?_) rfl (by kernel_rfl) (by kernel_rfl) (by kernel_rfl) (fun _ _ _ h => h) (Or.inl ⟨by rfl, ?_⟩) (by assumption) ?_
        rotate_left
        · intro wz hSw
          try dsimp only at hSw
          go_simp
          try with_reducible rfl
        try simp only [Act.put, List.setIfInBounds_toArray, List.set_cons_zero, List.set_cons_succ]
        refine wpAnyH_done (by kernel_rfl) ?_ _
        have R2 : w9.ownsRow w.heap.size 5 1 v' (mix k n (s.take (j + 1))).length (S3.U (mix k n (s.take (j + 1)))) := by rw [HS.out]; exact Rr.1
        have R3 := Rr.2
        clear Rr
        go_wp2
        go_roundw
        case rel => exact ⟨j + 1, by omega, by go_num, R2, by rw [HNX.out], R3⟩
        case measure => simp [intOf]; omega
    · obtain rfl : j = s.length := by omega
      rw [List.take_length] at hown
      have hcv := S3.conv_own hown
      have HBEL := Lib.hid hbel
      have HLE := Lib.hid hls
      clear hown hbel
      go_wp2
      go_ret
      exact ⟨rfl, HBEL.out⟩
end Se
end Go.Proofs.YtgldbfdiebkfiaaDoor

/-
  Layer 6: the reference: Seal, Open, wrapping.
-/
namespace Go.Proofs.YtgldbfdiebkfiaaDoor
open Go.RowKit
namespace Se
attribute [local go_sem] S3.B_size S3.B_app S3.B_list

def boxC (b : Bx) : Value := .agg #[.string (S3.B b.n), .string (S3.B b.d), .string (S3.B b.t)]
theorem infoBox (x y z : Value) : (Tryd.prog.info? 23).map (·.size) = some (#[x, y, z] : Array Value).size := by
  show (Tryd.prog.info? 23).map (·.size) = some 3
  kernel_rfl
theorem below_setRow {b : Nat} {W w : World} (h : Below b W w) (g : Nat) (hg : b ≤ g) (cs : Array Value) : Below b W (w.setRow g cs) :=
  h.trans ⟨rfl, rfl, rfl, by simp [World.setRow], fun k hk => setRow_other _ _ _ _ (by omega)⟩
/-- A block of three strings. -/
structure Blk3 (w : World) (g : Nat) (x y z : List UInt8) : Prop where
  lt : g < w.heap.size
  c0 : w.cell? ⟨g, 0, none⟩ = some (.string (S3.B x))
  c1 : w.cell? ⟨g, 1, none⟩ = some (.string (S3.B y))
  c2 : w.cell? ⟨g, 2, none⟩ = some (.string (S3.B z))
theorem Blk3.step {w w' : World} {g : Nat} {x y z : List UInt8} (h : Blk3 w g x y z) (hb : Below w.heap.size w w') : Blk3 w' g x y z :=
  ⟨Nat.lt_of_lt_of_le h.lt hb.size, (hb.cell (p := ⟨g, 0, none⟩) h.lt).trans h.c0, (hb.cell (p := ⟨g, 1, none⟩) h.lt).trans h.c1, (hb.cell (p := ⟨g, 2, none⟩) h.lt).trans h.c2⟩
theorem Blk3.new (w : World) (x y z : List UInt8) (t : TypeId) : Blk3 (w.alloc (.cells #[.string (S3.B x), .string (S3.B y), .string (S3.B z)] t)) w.heap.size x y z := by
  have h := heap_alloc_last w (.cells #[.string (S3.B x), .string (S3.B y), .string (S3.B z)] t)
  exact ⟨by simp, by rw [cell_of_row _ _ _ _ _ _ h]; rfl, by rw [cell_of_row _ _ _ _ _ _ h]; rfl, by rw [cell_of_row _ _ _ _ _ _ h]; rfl⟩

set_option maxHeartbeats 1000000 in
theorem rseal_any (k n p : List UInt8) (w : World) (hl : k.length + n.length + p.length ≤ 3700) :
    Calls Tryd.prog 17 #[.string (S3.B k), .string (S3.B n), .string (S3.B p)] w fun e w' => e = .returned (boxC (sealV k n p)) ∧ Below w.heap.size w w' := by
  have k1 := fun w => rmix_any k n p w hl
  have k2 := fun w => rtag_any k n (mix k n p) w (by rw [mix_len]; omega)
  unfold boxC sealV
  dsimp only
  generalize tag k n (mix k n p) = t at k2 ⊢
  generalize mix k n p = d at k1 k2 ⊢
  have K1 := Lib.hid k1
  have K2 := Lib.hid k2
  have hA := heap_alloc_last w (.cells #[.string ⟨#[]⟩, .string ⟨#[]⟩, .string ⟨#[]⟩] 23)
  have HA0 := Lib.hid hA
  have HL := Lib.hid (show w.heap.size < (w.alloc (.cells #[.string ⟨#[]⟩, .string ⟨#[]⟩, .string ⟨#[]⟩] 23)).heap.size by simp)
  have g := Lib.hid ((Below.refl w.heap.size w).alloc (Nat.le_refl _) (.cells #[.string ⟨#[]⟩, .string ⟨#[]⟩, .string ⟨#[]⟩] 23))
  clear k1 k2 hA hl
  go_enter Tryd.func17, Tryd.ntmps17
  go_wp2_with fail
  generalize w.alloc (.cells #[.string ⟨#[]⟩, .string ⟨#[]⟩, .string ⟨#[]⟩] 23) = w0 at *
  refine (K1.out _).mono ?_
  rintro e w1 ⟨rfl, h1⟩
  have G := Lib.hid h1
  clear h1
  go_wp2_with fail
  refine (K2.out _).mono ?_
  rintro e w2 ⟨rfl, h1⟩
  replace G := Lib.hid (G.out.trans (h1.mono G.out.size))
  clear h1
  have HA := Lib.hid ((G.out.block _ HL.out).trans HA0.out)
  go_wp2_with (refine S3.wpList_store_row rfl 23 _ _ rfl w.heap.size _ rfl rfl 23 _ HA.out (infoBox _ _ _) rfl (by simp [Value.oneCell']) ?_)
  exact bodyPost_ret (v := .agg #[.string (S3.B n), .string (S3.B d), .string (S3.B t)]) (results_cell_row Tryd.results17 _ _ w.heap.size 23 _ (0, 0) _ rfl (setRow_heap _ _ _ _ _ _ HA.out) Tryd.underlying23 rfl (infoBox _ _ _)) rfl
    ⟨rfl, below_setRow (g.out.trans (G.out.mono (by have := g.out.size; omega))) _ (Nat.le_refl _) _⟩

set_option maxHeartbeats 2000000 in
set_option maxRecDepth 100000 in
theorem ropen_any (k n d t : List UInt8) (w : World) (hl : k.length + n.length + d.length ≤ 3700) :
    Calls Tryd.prog 11 #[.string (S3.B k), .agg #[.string (S3.B n), .string (S3.B d), .string (S3.B t)]] w fun e w' => e = .returned (.tuple #[.string (S3.B (openV k ⟨n, d, t⟩).1), .bool (openV k ⟨n, d, t⟩).2]) ∧ Below w.heap.size w w' := by
  have k1 := fun w => rtag_any k n d w (by omega)
  have k2 := fun w => rmix_any k n d w hl
  unfold openV
  dsimp only
  generalize tag k n d = u at k1 ⊢
  generalize mix k n d = m at k2 ⊢
  have K1 := Lib.hid k1
  have K2 := Lib.hid k2
  have HB0 := Lib.hid (Blk3.new w n d t 23)
  have g := Lib.hid ((Below.refl w.heap.size w).alloc (Nat.le_refl _) (.cells #[.string (S3.B n), .string (S3.B d), .string (S3.B t)] 23))
  clear k1 k2 hl
  by_cases ht : t = u
  · rw [if_pos ht]
    subst ht
    go_enter Tryd.func11, Tryd.ntmps11
    go_wp2_with fail
    generalize w.alloc (.cells #[.string (S3.B n), .string (S3.B d), .string (S3.B t)] 23) = w0 at *
    have HB := Lib.hid (HB0.out.step (Below.refl w0.heap.size w0).drew)
    have g0 := Lib.hid g.out.drew
    refine wp_region_held_drew (S := (fun w' => w'.cell? ⟨w.heap.size, 0, none⟩ = some (.string (S3.B n)) ∧ w'.cell? ⟨w.heap.size, 1, none⟩ = some (.string (S3.B d)) ∧ w'.cell? ⟨w.heap.size, 2, none⟩ = some (.string (S3.B t)))) (by kernel_rfl) ⟨HB.out.c0, HB.out.c1, HB.out.c2⟩ (fun hHeld => ?_)
    refine wpAnyH_take (i := 0) (oi := ⟨_, _, _, _, _, _⟩) (v := ?_) rfl (by kernel_rfl) (by kernel_rfl) (by kernel_rfl) (fun _ _ _ h => h) (Or.inl ⟨by rfl, ?_⟩) (by assumption) ?_
    rotate_left
    · intro wz hSw
      try dsimp only at hSw
      go_simp
      try with_reducible rfl
    try simp only [Act.put, List.setIfInBounds_toArray, List.set_cons_zero, List.set_cons_succ]
    refine wpAnyH_take (i := 1) (oi := ⟨_, _, _, _, _, _⟩) (v := ?_) rfl (by kernel_rfl) (by kernel_rfl) (by kernel_rfl) (fun _ _ _ h => h) (Or.inl ⟨by rfl, ?_⟩) (by assumption) ?_
    rotate_left
    · intro wz hSw
      try dsimp only at hSw
      go_simp
      try with_reducible rfl
    try simp only [Act.put, List.setIfInBounds_toArray, List.set_cons_zero, List.set_cons_succ]
    refine wpAnyH_take (i := 2) (oi := ⟨_, _, _, _, _, _⟩) (v := ?_) rfl (by kernel_rfl) (by kernel_rfl) (by kernel_rfl) (fun _ _ _ h => h) (Or.inl ⟨by rfl, ?_⟩) (by assumption) ?_
    rotate_left
    · intro wz hSw
      try dsimp only at hSw
      go_simp
      try with_reducible rfl
    try simp only [Act.put, List.setIfInBounds_toArray, List.set_cons_zero, List.set_cons_succ]
    refine wpAnyH_take (i := 3) (oi := ⟨_, _, _, _, _, _⟩) (v := ?_) rfl (by kernel_rfl) (by kernel_rfl) (by kernel_rfl) (fun _ _ _ h => h) (Or.inl ⟨by rfl, ?_⟩) (by assumption) ?_
    rotate_left
    · intro wz hSw
      try dsimp only at hSw
      go_simp
      try with_reducible rfl
    try simp only [Act.put, List.setIfInBounds_toArray, List.set_cons_zero, List.set_cons_succ]
    refine wpAnyH_take (i := 4) (oi := ⟨_, _, _, _, _, _⟩) (v := ?_) rfl (by kernel_rfl) (by kernel_rfl) (by kernel_rfl) (fun _ _ _ h => h) (Or.inl ⟨by rfl, ?_⟩) (by assumption) ?_
    rotate_left
    · intro wz hSw
      try dsimp only at hSw
      go_simp
      try with_reducible rfl
    try simp only [Act.put, List.setIfInBounds_toArray, List.set_cons_zero, List.set_cons_succ]
    refine wpAnyH_take (i := 5) (oi := ⟨_, _, _, _, _, _⟩) (v := ?_) rfl (by kernel_rfl) (by kernel_rfl) (by kernel_rfl) (fun _ _ _ h => h) (Or.inl ⟨by rfl, ?_⟩) (by assumption) ?_
    rotate_left
    · intro wz hSw
      try dsimp only at hSw
      go_simp
      try with_reducible rfl
    try simp only [Act.put, List.setIfInBounds_toArray, List.set_cons_zero, List.set_cons_succ]
    refine wpAnyH_take (i := 6) (oi := ⟨_, _, _, _, _, _⟩) (v := ?_) rfl (by kernel_rfl) (by kernel_rfl) (by kernel_rfl) (fun _ _ _ h => h) (Or.inl ⟨by rfl, ?_⟩) (by assumption) ?_
    rotate_left
    · intro wz hSw
      try dsimp only at hSw
      go_simp
      try with_reducible rfl
    try simp only [Act.put, List.setIfInBounds_toArray, List.set_cons_zero, List.set_cons_succ]
    refine wpAnyH_ready (rs := [7]) (by kernel_rfl) (by simp) ?_
    refine AllReadyH.cons (o := ⟨_, _, _, _, _, _⟩) rfl (fun K hK => ?_) AllReadyH.nil
    go_simp
    refine (K1.out _).mono ?_
    rintro e w1 ⟨rfl, hb⟩
    have G := Lib.hid hb
    have HB1 := Lib.hid (HB.out.step hb)
    clear hb hHeld
    refine hK.out _ _ ⟨HB1.out.c0, HB1.out.c1, HB1.out.c2⟩ (fun hHeld => ?_)
    clear hK K
    try simp only [Act.put, List.setIfInBounds_toArray, List.set_cons_zero, List.set_cons_succ]
    refine wpAnyH_take (i := 8) (oi := ⟨_, _, _, _, _, _⟩) (v := .bool false) rfl (by kernel_rfl) (by kernel_rfl) (by kernel_rfl) (fun _ _ _ h => h) (Or.inl ⟨by rfl, ?_⟩) (by assumption) ?_
    · intro wz hSw
      try dsimp only at hSw
      go_simp
    try simp only [Act.put, List.setIfInBounds_toArray, List.set_cons_zero, List.set_cons_succ]
    refine wpAnyH_done (by kernel_rfl) ?_ _
    clear hHeld
    have c0 := HB1.out.c0
    have c1 := HB1.out.c1
    go_wp2_with fail
    clear c0 c1
    refine (K2.out _).mono ?_
    rintro e w2 ⟨rfl, h1⟩
    have G2 := Lib.hid ((g0.out.trans (G.out.mono g0.out.size)).trans (h1.mono (by have := g0.out.size; have := G.out.size; omega)))
    clear h1
    go_wp2
    go_ret2
    exact ⟨rfl, G2.out⟩
  · rw [if_neg ht]
    have hne : (t == u) = false := beq_eq_false_iff_ne.2 ht
    go_enter Tryd.func11, Tryd.ntmps11
    go_wp2_with fail
    generalize w.alloc (.cells #[.string (S3.B n), .string (S3.B d), .string (S3.B t)] 23) = w0 at *
    have HB := Lib.hid (HB0.out.step (Below.refl w0.heap.size w0).drew)
    have g0 := Lib.hid g.out.drew
    refine wp_region_held_drew (S := (fun w' => w'.cell? ⟨w.heap.size, 0, none⟩ = some (.string (S3.B n)) ∧ w'.cell? ⟨w.heap.size, 1, none⟩ = some (.string (S3.B d)) ∧ w'.cell? ⟨w.heap.size, 2, none⟩ = some (.string (S3.B t)))) (by kernel_rfl) ⟨HB.out.c0, HB.out.c1, HB.out.c2⟩ (fun hHeld => ?_)
    refine wpAnyH_take (i := 0) (oi := ⟨_, _, _, _, _, _⟩) (v := ?_) rfl (by kernel_rfl) (by kernel_rfl) (by kernel_rfl) (fun _ _ _ h => h) (Or.inl ⟨by rfl, ?_⟩) (by assumption) ?_
    rotate_left
    · intro wz hSw
      try dsimp only at hSw
      go_simp
      try with_reducible rfl
    try simp only [Act.put, List.setIfInBounds_toArray, List.set_cons_zero, List.set_cons_succ]
    refine wpAnyH_take (i := 1) (oi := ⟨_, _, _, _, _, _⟩) (v := ?_) rfl (by kernel_rfl) (by kernel_rfl) (by kernel_rfl) (fun _ _ _ h => h) (Or.inl ⟨by rfl, ?_⟩) (by assumption) ?_
    rotate_left
    · intro wz hSw
      try dsimp only at hSw
      go_simp
      try with_reducible rfl
    try simp only [Act.put, List.setIfInBounds_toArray, List.set_cons_zero, List.set_cons_succ]
    refine wpAnyH_take (i := 2) (oi := ⟨_, _, _, _, _, _⟩) (v := ?_) rfl (by kernel_rfl) (by kernel_rfl) (by kernel_rfl) (fun _ _ _ h => h) (Or.inl ⟨by rfl, ?_⟩) (by assumption) ?_
    rotate_left
    · intro wz hSw
      try dsimp only at hSw
      go_simp
      try with_reducible rfl
    try simp only [Act.put, List.setIfInBounds_toArray, List.set_cons_zero, List.set_cons_succ]
    refine wpAnyH_take (i := 3) (oi := ⟨_, _, _, _, _, _⟩) (v := ?_) rfl (by kernel_rfl) (by kernel_rfl) (by kernel_rfl) (fun _ _ _ h => h) (Or.inl ⟨by rfl, ?_⟩) (by assumption) ?_
    rotate_left
    · intro wz hSw
      try dsimp only at hSw
      go_simp
      try with_reducible rfl
    try simp only [Act.put, List.setIfInBounds_toArray, List.set_cons_zero, List.set_cons_succ]
    refine wpAnyH_take (i := 4) (oi := ⟨_, _, _, _, _, _⟩) (v := ?_) rfl (by kernel_rfl) (by kernel_rfl) (by kernel_rfl) (fun _ _ _ h => h) (Or.inl ⟨by rfl, ?_⟩) (by assumption) ?_
    rotate_left
    · intro wz hSw
      try dsimp only at hSw
      go_simp
      try with_reducible rfl
    try simp only [Act.put, List.setIfInBounds_toArray, List.set_cons_zero, List.set_cons_succ]
    refine wpAnyH_take (i := 5) (oi := ⟨_, _, _, _, _, _⟩) (v := ?_) rfl (by kernel_rfl) (by kernel_rfl) (by kernel_rfl) (fun _ _ _ h => h) (Or.inl ⟨by rfl, ?_⟩) (by assumption) ?_
    rotate_left
    · intro wz hSw
      try dsimp only at hSw
      go_simp
      try with_reducible rfl
    try simp only [Act.put, List.setIfInBounds_toArray, List.set_cons_zero, List.set_cons_succ]
    refine wpAnyH_take (i := 6) (oi := ⟨_, _, _, _, _, _⟩) (v := ?_) rfl (by kernel_rfl) (by kernel_rfl) (by kernel_rfl) (fun _ _ _ h => h) (Or.inl ⟨by rfl, ?_⟩) (by assumption) ?_
    rotate_left
    · intro wz hSw
      try dsimp only at hSw
      go_simp
      try with_reducible rfl
    try simp only [Act.put, List.setIfInBounds_toArray, List.set_cons_zero, List.set_cons_succ]
    refine wpAnyH_ready (rs := [7]) (by kernel_rfl) (by simp) ?_
    refine AllReadyH.cons (o := ⟨_, _, _, _, _, _⟩) rfl (fun K hK => ?_) AllReadyH.nil
    go_simp
    refine (K1.out _).mono ?_
    rintro e w1 ⟨rfl, hb⟩
    have G := Lib.hid hb
    have HB1 := Lib.hid (HB.out.step hb)
    clear hb hHeld
    refine hK.out _ _ ⟨HB1.out.c0, HB1.out.c1, HB1.out.c2⟩ (fun hHeld => ?_)
    clear hK K
    try simp only [Act.put, List.setIfInBounds_toArray, List.set_cons_zero, List.set_cons_succ]
    refine wpAnyH_take (i := 8) (oi := ⟨_, _, _, _, _, _⟩) (v := .bool true) rfl (by kernel_rfl) (by kernel_rfl) (by kernel_rfl) (fun _ _ _ h => h) (Or.inl ⟨by rfl, ?_⟩) (by assumption) ?_
    · intro wz hSw
      try dsimp only at hSw
      go_simp
    try simp only [Act.put, List.setIfInBounds_toArray, List.set_cons_zero, List.set_cons_succ]
    refine wpAnyH_done (by kernel_rfl) ?_ _
    clear hHeld
    go_wp2
    go_ret2
    exact ⟨rfl, g0.out.trans (G.out.mono g0.out.size)⟩
end Se
end Go.Proofs.YtgldbfdiebkfiaaDoor

/-
  Layer 6: the reference: wrapping, Unwrap.
-/
namespace Go.Proofs.YtgldbfdiebkfiaaDoor
open Go.RowKit
namespace Se
attribute [local go_sem] S3.B_size S3.B_app S3.B_list

theorem wkey_len (a b c : Int) : (wkey a b c).length = 32 := H_len _
set_option maxHeartbeats 1000000 in
theorem rwrapping_any (a b c : Int) (w : World) (ia : S5.Sg.isI a) (ib : S5.Sg.isI b) (ic : S5.Sg.isI c) :
    Calls Tryd.prog 36 #[.int .i64 a, .int .i64 b, .int .i64 c] w fun e w' => e = .returned (.string (S3.B (wkey a b c))) ∧ Below w.heap.size w w' := by
  have k1 := fun W => S5.Sg.rnum_ok W a ia
  have k2 := fun W => S5.Sg.rnum_ok W b ib
  have k3 := fun W => S5.Sg.rnum_ok W c ic
  have l1 := S5.Sg.encZ_len a
  have l2 := S5.Sg.encZ_len b
  have l3 := S5.Sg.encZ_len c
  have hw : wkey a b c = H [[119, 114, 97, 112], S5.Sg.encZ a, S5.Sg.encZ b, S5.Sg.encZ c] := rfl
  rw [hw]
  generalize S5.Sg.encZ a = x at k1 l1 ⊢
  generalize S5.Sg.encZ b = y at k2 l2 ⊢
  generalize S5.Sg.encZ c = z at k3 l3 ⊢
  obtain ⟨q, hq⟩ : ∃ q, q = H [[119, 114, 97, 112], x, y, z] := ⟨_, rfl⟩
  have HQ := Lib.hid hq
  rw [← hq]
  have K1 := Lib.hid k1
  have K2 := Lib.hid k2
  have K3 := Lib.hid k3
  clear k1 k2 k3 hq hw ia ib ic
  go_enter Tryd.func36, Tryd.ntmps36
  go_wp2_with fail
  refine (K1.out w _ (Below.refl _ _)).mono ?_
  rintro e w1 ⟨rfl, h1⟩
  have G := Lib.hid h1
  clear h1
  go_wp2_with fail
  refine (K2.out w _ G.out).mono ?_
  rintro e w2 ⟨rfl, h1⟩
  replace G := Lib.hid h1
  clear h1
  go_wp2_with fail
  refine (K3.out w _ G.out).mono ?_
  rintro e w3 ⟨rfl, h1⟩
  replace G := Lib.hid h1
  clear h1
  have hrow := strs_row w3 [[119, 114, 97, 112], x, y, z]
  have k4 := rH_any (some ⟨w3.heap.size, 0, none⟩) [[119, 114, 97, 112], x, y, z] 4 _ hrow (by simp) (by simp; omega)
  rw [← HQ.out] at k4
  have K4 := Lib.hid k4
  replace G := Lib.hid (G.out.alloc G.out.size (.cells #[.string (S3.B [119, 114, 97, 112]), .string (S3.B x), .string (S3.B y), .string (S3.B z)] 9))
  clear k4 hrow
  go_wp2_with fail
  refine K4.out.mono ?_
  rintro e w4 ⟨rfl, h1⟩
  replace G := Lib.hid (G.out.trans (h1.mono G.out.size))
  clear h1
  go_wp2
  go_ret
  exact ⟨rfl, G.out⟩

/-- A block that holds a wrap. -/
structure Blk5 (w : World) (g : Nat) (to eph : Int) (n d t : List UInt8) : Prop where
  lt : g < w.heap.size
  c0 : w.cell? ⟨g, 0, none⟩ = some (.int .i64 to)
  c1 : w.cell? ⟨g, 1, none⟩ = some (.int .i64 eph)
  c2 : w.cell? ⟨g, 2, none⟩ = some (.string (S3.B n))
  c3 : w.cell? ⟨g, 3, none⟩ = some (.string (S3.B d))
  c4 : w.cell? ⟨g, 4, none⟩ = some (.string (S3.B t))
theorem Blk5.step {w w' : World} {g : Nat} {to eph : Int} {n d t : List UInt8} (h : Blk5 w g to eph n d t) (hb : Below w.heap.size w w') : Blk5 w' g to eph n d t :=
  ⟨Nat.lt_of_lt_of_le h.lt hb.size, (hb.cell (p := ⟨g, 0, none⟩) h.lt).trans h.c0, (hb.cell (p := ⟨g, 1, none⟩) h.lt).trans h.c1, (hb.cell (p := ⟨g, 2, none⟩) h.lt).trans h.c2, (hb.cell (p := ⟨g, 3, none⟩) h.lt).trans h.c3, (hb.cell (p := ⟨g, 4, none⟩) h.lt).trans h.c4⟩
theorem Blk5.new (w : World) (to eph : Int) (n d t : List UInt8) (ty : TypeId) : Blk5 (w.alloc (.cells #[.int .i64 to, .int .i64 eph, .string (S3.B n), .string (S3.B d), .string (S3.B t)] ty)) w.heap.size to eph n d t := by
  have h := heap_alloc_last w (.cells #[.int .i64 to, .int .i64 eph, .string (S3.B n), .string (S3.B d), .string (S3.B t)] ty)
  exact ⟨by simp, by rw [cell_of_row _ _ _ _ _ _ h]; rfl, by rw [cell_of_row _ _ _ _ _ _ h]; rfl, by rw [cell_of_row _ _ _ _ _ _ h]; rfl, by rw [cell_of_row _ _ _ _ _ _ h]; rfl, by rw [cell_of_row _ _ _ _ _ _ h]; rfl⟩

set_option maxHeartbeats 4000000 in
set_option maxRecDepth 100000 in
theorem runwrap_any (x to eph : Int) (n d t : List UInt8) (w : World) (ix : S5.Sg.isI x) (it : S5.Sg.isI to) (ie : S5.Sg.isI eph) (hl : n.length + d.length ≤ 3600) :
    Calls Tryd.prog 15 #[.int .i64 x, .agg #[.int .i64 to, .int .i64 eph, .string (S3.B n), .string (S3.B d), .string (S3.B t)]] w fun e w' => e = .returned (.tuple #[.string (S3.B (unwrapV x ⟨to, eph, ⟨n, d, t⟩⟩).1), .bool (unwrapV x ⟨to, eph, ⟨n, d, t⟩⟩).2]) ∧ Below w.heap.size w w' := by
  have HB := Lib.hid (Blk5.new w to eph n d t 25)
  have g := Lib.hid ((Below.refl w.heap.size w).alloc (Nat.le_refl _) (.cells #[.int .i64 to, .int .i64 eph, .string (S3.B n), .string (S3.B d), .string (S3.B t)] 25))
  have hyes : isSec x ∧ isPub eph ∧ to = (S5.Sg.pub x : Nat) → unwrapV x ⟨to, eph, ⟨n, d, t⟩⟩ = openV (wkey to eph (S4.powP eph x : Nat)) ⟨n, d, t⟩ := fun h => if_pos h
  have hno : ¬ (isSec x ∧ isPub eph ∧ to = (S5.Sg.pub x : Nat)) → (unwrapV x ⟨to, eph, ⟨n, d, t⟩⟩).1 = [] ∧ (unwrapV x ⟨to, eph, ⟨n, d, t⟩⟩).2 = false := fun h => by
    have e : unwrapV x ⟨to, eph, ⟨n, d, t⟩⟩ = ([], false) := if_neg h
    rw [e]
    exact ⟨rfl, rfl⟩
  by_cases h0 : x < 1
  · obtain ⟨hv1, hv2⟩ := hno (fun h => by obtain ⟨⟨_, _⟩, ⟨_, _⟩, _⟩ := h; omega)
    rw [hv1, hv2]
    clear hv1 hv2 hno hyes
    go_enter Tryd.func15, Tryd.ntmps15
    go_wp2
    go_ret2
    exact ⟨rfl, g.out⟩
  by_cases h1 : 2305843009213693950 ≤ x
  · obtain ⟨hv1, hv2⟩ := hno (fun h => by obtain ⟨⟨_, _⟩, ⟨_, _⟩, _⟩ := h; omega)
    rw [hv1, hv2]
    clear hv1 hv2 hno hyes
    go_enter Tryd.func15, Tryd.ntmps15
    go_wp2
    go_ret2
    exact ⟨rfl, g.out⟩
  by_cases h2 : eph < 1
  · obtain ⟨hv1, hv2⟩ := hno (fun h => by obtain ⟨⟨_, _⟩, ⟨_, _⟩, _⟩ := h; omega)
    rw [hv1, hv2]
    clear hv1 hv2 hno hyes
    go_enter Tryd.func15, Tryd.ntmps15
    go_wp2
    go_ret2
    exact ⟨rfl, g.out⟩
  by_cases h3 : 2305843009213693951 ≤ eph
  · obtain ⟨hv1, hv2⟩ := hno (fun h => by obtain ⟨⟨_, _⟩, ⟨_, _⟩, _⟩ := h; omega)
    rw [hv1, hv2]
    clear hv1 hv2 hno hyes
    go_enter Tryd.func15, Tryd.ntmps15
    go_wp2
    go_ret2
    exact ⟨rfl, g.out⟩
  have k1 := fun W => S5.Sg.rexp_ok W 37 x ix
  rw [show S4.powP 37 x = S5.Sg.pub x from rfl] at k1
  have hcond : isSec x ∧ isPub eph := ⟨⟨by omega, by omega⟩, by omega, by omega⟩
  by_cases hto : to = (S5.Sg.pub x : Nat)
  · rw [hyes ⟨hcond.1, hcond.2, hto⟩]
    have k2 := fun W => S5.Sg.rexp_ok W eph x ix
    have hp := S4.powP_lt eph x
    have k3 := fun w => rwrapping_any to eph (S4.powP eph x : Nat) w it ie (by unfold S5.Sg.isI S4.isI64; omega)
    have hkl := wkey_len to eph (S4.powP eph x : Nat)
    generalize wkey to eph (S4.powP eph x : Nat) = k at k3 hkl ⊢
    generalize S4.powP eph x = sh at k2 k3
    have k4 := fun w => ropen_any k n d t w (by omega)
    generalize (openV k ⟨n, d, t⟩).1 = o1 at k4 ⊢
    generalize (openV k ⟨n, d, t⟩).2 = o2 at k4 ⊢
    obtain ⟨pz, hpz⟩ : ∃ z : Int, z = (S5.Sg.pub x : Nat) := ⟨_, rfl⟩
    rw [← hpz] at k1 hto
    subst hto
    have K1 := Lib.hid k1
    have K2 := Lib.hid k2
    have K3 := Lib.hid k3
    have K4 := Lib.hid k4
    clear k1 k2 k3 k4 hyes hno hcond hp hpz it ie ix hl hkl
    go_enter Tryd.func15, Tryd.ntmps15
    go_wp2_with fail
    generalize w.alloc (.cells #[.int .i64 to, .int .i64 eph, .string (S3.B n), .string (S3.B d), .string (S3.B t)] 25) = w0 at *
    replace HB := Lib.hid (HB.out.step (Below.refl _ _).drew)
    replace g := Lib.hid g.out.drew
    refine wp_region_held_drew (S := (fun w' => w'.cell? ⟨w.heap.size, 0, none⟩ = some (.int .i64 to) ∧ w'.cell? ⟨w.heap.size, 1, none⟩ = some (.int .i64 eph) ∧ w'.cell? ⟨w.heap.size, 2, none⟩ = some (.string (S3.B n)) ∧ w'.cell? ⟨w.heap.size, 3, none⟩ = some (.string (S3.B d)) ∧ w'.cell? ⟨w.heap.size, 4, none⟩ = some (.string (S3.B t)))) (by kernel_rfl) ⟨HB.out.c0, HB.out.c1, HB.out.c2, HB.out.c3, HB.out.c4⟩ (fun hHeld => ?_)
    refine wpAnyH_take (i := 0) (oi := ⟨_, _, _, _, _, _⟩) (v := ?_) rfl (by kernel_rfl) (by kernel_rfl) (by kernel_rfl) (fun _ _ _ h => h) (Or.inl ⟨by rfl, ?_⟩) (by assumption) ?_
    rotate_left
    · intro wz hSw
      try dsimp only at hSw
      go_simp
      try with_reducible rfl
    try simp only [Act.put, List.setIfInBounds_toArray, List.set_cons_zero, List.set_cons_succ]
    refine wpAnyH_take (i := 1) (oi := ⟨_, _, _, _, _, _⟩) (v := ?_) rfl (by kernel_rfl) (by kernel_rfl) (by kernel_rfl) (fun _ _ _ h => h) (Or.inl ⟨by rfl, ?_⟩) (by assumption) ?_
    rotate_left
    · intro wz hSw
      try dsimp only at hSw
      go_simp
      try with_reducible rfl
    try simp only [Act.put, List.setIfInBounds_toArray, List.set_cons_zero, List.set_cons_succ]
    refine wpAnyH_take (i := 2) (oi := ⟨_, _, _, _, _, _⟩) (v := ?_) rfl (by kernel_rfl) (by kernel_rfl) (by kernel_rfl) (fun _ _ _ h => h) (Or.inl ⟨by rfl, ?_⟩) (by assumption) ?_
    rotate_left
    · intro wz hSw
      try dsimp only at hSw
      go_simp
      try with_reducible rfl
    try simp only [Act.put, List.setIfInBounds_toArray, List.set_cons_zero, List.set_cons_succ]
    refine wpAnyH_ready (rs := [3]) (by kernel_rfl) (by simp) ?_
    refine AllReadyH.cons (o := ⟨_, _, _, _, _, _⟩) rfl (fun K hK => ?_) AllReadyH.nil
    go_simp
    refine (K1.out _ _ (Below.refl _ _)).mono ?_
    rintro e w1 ⟨rfl, hb⟩
    replace g := Lib.hid (g.out.trans (hb.mono g.out.size))
    replace HB := Lib.hid (HB.out.step hb)
    clear hb hHeld
    refine hK.out _ _ ⟨HB.out.c0, HB.out.c1, HB.out.c2, HB.out.c3, HB.out.c4⟩ (fun hHeld => ?_)
    clear hK K
    try simp only [Act.put, List.setIfInBounds_toArray, List.set_cons_zero, List.set_cons_succ]
    refine wpAnyH_take (i := 4) (oi := ⟨_, _, _, _, _, _⟩) (v := .bool false) rfl (by kernel_rfl) (by kernel_rfl) (by kernel_rfl) (fun _ _ _ h => h) (Or.inl ⟨by rfl, ?_⟩) (by assumption) ?_
    · intro wz hSw
      try dsimp only at hSw
      go_simp
    try simp only [Act.put, List.setIfInBounds_toArray, List.set_cons_zero, List.set_cons_succ]
    refine wpAnyH_done (by kernel_rfl) ?_ _
    clear hHeld
    go_wp2_with fail
    replace HB := Lib.hid (HB.out.step (Below.refl _ _).drew)
    replace g := Lib.hid g.out.drew
    refine wp_region_held_drew (S := (fun w' => w'.cell? ⟨w.heap.size, 0, none⟩ = some (.int .i64 to) ∧ w'.cell? ⟨w.heap.size, 1, none⟩ = some (.int .i64 eph) ∧ w'.cell? ⟨w.heap.size, 2, none⟩ = some (.string (S3.B n)) ∧ w'.cell? ⟨w.heap.size, 3, none⟩ = some (.string (S3.B d)) ∧ w'.cell? ⟨w.heap.size, 4, none⟩ = some (.string (S3.B t)))) (by kernel_rfl) ⟨HB.out.c0, HB.out.c1, HB.out.c2, HB.out.c3, HB.out.c4⟩ (fun hHeld => ?_)
    refine wpAnyH_take (i := 0) (oi := ⟨_, _, _, _, _, _⟩) (v := ?_) rfl (by kernel_rfl) (by kernel_rfl) (by kernel_rfl) (fun _ _ _ h => h) (Or.inl ⟨by rfl, ?_⟩) (by assumption) ?_
    rotate_left
    · intro wz hSw
      try dsimp only at hSw
      go_simp
      try with_reducible rfl
    try simp only [Act.put, List.setIfInBounds_toArray, List.set_cons_zero, List.set_cons_succ]
    refine wpAnyH_take (i := 1) (oi := ⟨_, _, _, _, _, _⟩) (v := ?_) rfl (by kernel_rfl) (by kernel_rfl) (by kernel_rfl) (fun _ _ _ h => h) (Or.inl ⟨by rfl, ?_⟩) (by assumption) ?_
    rotate_left
    · intro wz hSw
      try dsimp only at hSw
      go_simp
      try with_reducible rfl
    try simp only [Act.put, List.setIfInBounds_toArray, List.set_cons_zero, List.set_cons_succ]
    refine wpAnyH_take (i := 2) (oi := ⟨_, _, _, _, _, _⟩) (v := ?_) rfl (by kernel_rfl) (by kernel_rfl) (by kernel_rfl) (fun _ _ _ h => h) (Or.inl ⟨by rfl, ?_⟩) (by assumption) ?_
    rotate_left
    · intro wz hSw
      try dsimp only at hSw
      go_simp
      try with_reducible rfl
    try simp only [Act.put, List.setIfInBounds_toArray, List.set_cons_zero, List.set_cons_succ]
    refine wpAnyH_take (i := 3) (oi := ⟨_, _, _, _, _, _⟩) (v := ?_) rfl (by kernel_rfl) (by kernel_rfl) (by kernel_rfl) (fun _ _ _ h => h) (Or.inl ⟨by rfl, ?_⟩) (by assumption) ?_
    rotate_left
    · intro wz hSw
      try dsimp only at hSw
      go_simp
      try with_reducible rfl
    try simp only [Act.put, List.setIfInBounds_toArray, List.set_cons_zero, List.set_cons_succ]
    refine wpAnyH_take (i := 4) (oi := ⟨_, _, _, _, _, _⟩) (v := ?_) rfl (by kernel_rfl) (by kernel_rfl) (by kernel_rfl) (fun _ _ _ h => h) (Or.inl ⟨by rfl, ?_⟩) (by assumption) ?_
    rotate_left
    · intro wz hSw
      try dsimp only at hSw
      go_simp
      try with_reducible rfl
    try simp only [Act.put, List.setIfInBounds_toArray, List.set_cons_zero, List.set_cons_succ]
    refine wpAnyH_take (i := 5) (oi := ⟨_, _, _, _, _, _⟩) (v := ?_) rfl (by kernel_rfl) (by kernel_rfl) (by kernel_rfl) (fun _ _ _ h => h) (Or.inl ⟨by rfl, ?_⟩) (by assumption) ?_
    rotate_left
    · intro wz hSw
      try dsimp only at hSw
      go_simp
      try with_reducible rfl
    try simp only [Act.put, List.setIfInBounds_toArray, List.set_cons_zero, List.set_cons_succ]
    refine wpAnyH_take (i := 6) (oi := ⟨_, _, _, _, _, _⟩) (v := ?_) rfl (by kernel_rfl) (by kernel_rfl) (by kernel_rfl) (fun _ _ _ h => h) (Or.inl ⟨by rfl, ?_⟩) (by assumption) ?_
    rotate_left
    · intro wz hSw
      try dsimp only at hSw
      go_simp
      try with_reducible rfl
    try simp only [Act.put, List.setIfInBounds_toArray, List.set_cons_zero, List.set_cons_succ]
    refine wpAnyH_take (i := 9) (oi := ⟨_, _, _, _, _, _⟩) (v := ?_) rfl (by kernel_rfl) (by kernel_rfl) (by kernel_rfl) (fun _ _ _ h => h) (Or.inl ⟨by rfl, ?_⟩) (by assumption) ?_
    rotate_left
    · intro wz hSw
      try dsimp only at hSw
      go_simp
      try with_reducible rfl
    try simp only [Act.put, List.setIfInBounds_toArray, List.set_cons_zero, List.set_cons_succ]
    refine wpAnyH_take (i := 10) (oi := ⟨_, _, _, _, _, _⟩) (v := ?_) rfl (by kernel_rfl) (by kernel_rfl) (by kernel_rfl) (fun _ _ _ h => h) (Or.inl ⟨by rfl, ?_⟩) (by assumption) ?_
    rotate_left
    · intro wz hSw
      try dsimp only at hSw
      go_simp
      try with_reducible rfl
    try simp only [Act.put, List.setIfInBounds_toArray, List.set_cons_zero, List.set_cons_succ]
    refine wpAnyH_ready (rs := [7]) (by kernel_rfl) (by simp) ?_
    refine AllReadyH.cons (o := ⟨_, _, _, _, _, _⟩) rfl (fun K hK => ?_) AllReadyH.nil
    go_simp
    refine (K2.out _ _ (Below.refl _ _)).mono ?_
    rintro e w2 ⟨rfl, hb⟩
    replace g := Lib.hid (g.out.trans (hb.mono g.out.size))
    replace HB := Lib.hid (HB.out.step hb)
    clear hb hHeld
    refine hK.out _ _ ⟨HB.out.c0, HB.out.c1, HB.out.c2, HB.out.c3, HB.out.c4⟩ (fun hHeld => ?_)
    clear hK K
    try simp only [Act.put, List.setIfInBounds_toArray, List.set_cons_zero, List.set_cons_succ]
    refine wpAnyH_ready (rs := [8]) (by kernel_rfl) (by simp) ?_
    refine AllReadyH.cons (o := ⟨_, _, _, _, _, _⟩) rfl (fun K hK => ?_) AllReadyH.nil
    go_simp
    refine (K3.out _).mono ?_
    rintro e w3 ⟨rfl, hb⟩
    replace g := Lib.hid (g.out.trans (hb.mono g.out.size))
    replace HB := Lib.hid (HB.out.step hb)
    clear hb hHeld
    refine hK.out _ _ ⟨HB.out.c0, HB.out.c1, HB.out.c2, HB.out.c3, HB.out.c4⟩ (fun hHeld => ?_)
    clear hK K
    try simp only [Act.put, List.setIfInBounds_toArray, List.set_cons_zero, List.set_cons_succ]
    refine wpAnyH_ready (rs := [11]) (by kernel_rfl) (by simp) ?_
    refine AllReadyH.cons (o := ⟨_, _, _, _, _, _⟩) rfl (fun K hK => ?_) AllReadyH.nil
    go_simp
    refine (K4.out _).mono ?_
    rintro e w4 ⟨rfl, hb⟩
    replace g := Lib.hid (g.out.trans (hb.mono g.out.size))
    replace HB := Lib.hid (HB.out.step hb)
    clear hb hHeld
    refine hK.out _ _ ⟨HB.out.c0, HB.out.c1, HB.out.c2, HB.out.c3, HB.out.c4⟩ (fun hHeld => ?_)
    clear hK K
    try simp only [Act.put, List.setIfInBounds_toArray, List.set_cons_zero, List.set_cons_succ]
    refine wpAnyH_take (i := 12) (oi := ⟨_, _, _, _, _, _⟩) (v := ?_) rfl (by kernel_rfl) (by kernel_rfl) (by kernel_rfl) (fun _ _ _ h => h) (Or.inl ⟨by rfl, ?_⟩) (by assumption) ?_
    rotate_left
    · intro wz hSw
      try dsimp only at hSw
      go_simp
      try with_reducible rfl
    try simp only [Act.put, List.setIfInBounds_toArray, List.set_cons_zero, List.set_cons_succ]
    refine wpAnyH_take (i := 13) (oi := ⟨_, _, _, _, _, _⟩) (v := ?_) rfl (by kernel_rfl) (by kernel_rfl) (by kernel_rfl) (fun _ _ _ h => h) (Or.inl ⟨by rfl, ?_⟩) (by assumption) ?_
    rotate_left
    · intro wz hSw
      try dsimp only at hSw
      go_simp
      try with_reducible rfl
    try simp only [Act.put, List.setIfInBounds_toArray, List.set_cons_zero, List.set_cons_succ]
    refine wpAnyH_take (i := 14) (oi := ⟨_, _, _, _, _, _⟩) (v := ?_) rfl (by kernel_rfl) (by kernel_rfl) (by kernel_rfl) (fun _ _ _ h => h) (Or.inl ⟨by rfl, ?_⟩) (by assumption) ?_
    rotate_left
    · intro wz hSw
      try dsimp only at hSw
      go_simp
      try with_reducible rfl
    try simp only [Act.put, List.setIfInBounds_toArray, List.set_cons_zero, List.set_cons_succ]
    refine wpAnyH_take (i := 15) (oi := ⟨_, _, _, _, _, _⟩) (v := ?_) rfl (by kernel_rfl) (by kernel_rfl) (by kernel_rfl) (fun _ _ _ h => h) (Or.inl ⟨by rfl, ?_⟩) (by assumption) ?_
    rotate_left
    · intro wz hSw
      try dsimp only at hSw
      go_simp
      try with_reducible rfl
    try simp only [Act.put, List.setIfInBounds_toArray, List.set_cons_zero, List.set_cons_succ]
    refine wpAnyH_done (by kernel_rfl) ?_ _
    clear hHeld
    go_wp2
    go_ret2
    exact ⟨rfl, g.out⟩
  · obtain ⟨hv1, hv2⟩ := hno (fun h => hto h.2.2)
    rw [hv1, hv2]
    obtain ⟨pz, hpz⟩ : ∃ z : Int, z = (S5.Sg.pub x : Nat) := ⟨_, rfl⟩
    rw [← hpz] at k1 hto
    have hne : (to == pz) = false := beq_eq_false_iff_ne.2 hto
    have K1 := Lib.hid k1
    clear k1 hyes hno hcond hv1 hv2 hto hpz it ie ix hl
    go_enter Tryd.func15, Tryd.ntmps15
    go_wp2_with fail
    generalize w.alloc (.cells #[.int .i64 to, .int .i64 eph, .string (S3.B n), .string (S3.B d), .string (S3.B t)] 25) = w0 at *
    replace HB := Lib.hid (HB.out.step (Below.refl _ _).drew)
    replace g := Lib.hid g.out.drew
    refine wp_region_held_drew (S := (fun w' => w'.cell? ⟨w.heap.size, 0, none⟩ = some (.int .i64 to) ∧ w'.cell? ⟨w.heap.size, 1, none⟩ = some (.int .i64 eph) ∧ w'.cell? ⟨w.heap.size, 2, none⟩ = some (.string (S3.B n)) ∧ w'.cell? ⟨w.heap.size, 3, none⟩ = some (.string (S3.B d)) ∧ w'.cell? ⟨w.heap.size, 4, none⟩ = some (.string (S3.B t)))) (by kernel_rfl) ⟨HB.out.c0, HB.out.c1, HB.out.c2, HB.out.c3, HB.out.c4⟩ (fun hHeld => ?_)
    refine wpAnyH_take (i := 0) (oi := ⟨_, _, _, _, _, _⟩) (v := ?_) rfl (by kernel_rfl) (by kernel_rfl) (by kernel_rfl) (fun _ _ _ h => h) (Or.inl ⟨by rfl, ?_⟩) (by assumption) ?_
    rotate_left
    · intro wz hSw
      try dsimp only at hSw
      go_simp
      try with_reducible rfl
    try simp only [Act.put, List.setIfInBounds_toArray, List.set_cons_zero, List.set_cons_succ]
    refine wpAnyH_take (i := 1) (oi := ⟨_, _, _, _, _, _⟩) (v := ?_) rfl (by kernel_rfl) (by kernel_rfl) (by kernel_rfl) (fun _ _ _ h => h) (Or.inl ⟨by rfl, ?_⟩) (by assumption) ?_
    rotate_left
    · intro wz hSw
      try dsimp only at hSw
      go_simp
      try with_reducible rfl
    try simp only [Act.put, List.setIfInBounds_toArray, List.set_cons_zero, List.set_cons_succ]
    refine wpAnyH_take (i := 2) (oi := ⟨_, _, _, _, _, _⟩) (v := ?_) rfl (by kernel_rfl) (by kernel_rfl) (by kernel_rfl) (fun _ _ _ h => h) (Or.inl ⟨by rfl, ?_⟩) (by assumption) ?_
    rotate_left
    · intro wz hSw
      try dsimp only at hSw
      go_simp
      try with_reducible rfl
    try simp only [Act.put, List.setIfInBounds_toArray, List.set_cons_zero, List.set_cons_succ]
    refine wpAnyH_ready (rs := [3]) (by kernel_rfl) (by simp) ?_
    refine AllReadyH.cons (o := ⟨_, _, _, _, _, _⟩) rfl (fun K hK => ?_) AllReadyH.nil
    go_simp
    refine (K1.out _ _ (Below.refl _ _)).mono ?_
    rintro e w1 ⟨rfl, hb⟩
    replace g := Lib.hid (g.out.trans (hb.mono g.out.size))
    replace HB := Lib.hid (HB.out.step hb)
    clear hb hHeld
    refine hK.out _ _ ⟨HB.out.c0, HB.out.c1, HB.out.c2, HB.out.c3, HB.out.c4⟩ (fun hHeld => ?_)
    clear hK K
    try simp only [Act.put, List.setIfInBounds_toArray, List.set_cons_zero, List.set_cons_succ]
    refine wpAnyH_take (i := 4) (oi := ⟨_, _, _, _, _, _⟩) (v := .bool true) rfl (by kernel_rfl) (by kernel_rfl) (by kernel_rfl) (fun _ _ _ h => h) (Or.inl ⟨by rfl, ?_⟩) (by assumption) ?_
    · intro wz hSw
      try dsimp only at hSw
      go_simp
      exact beq_eq_false_iff_ne.1 hne
    try simp only [Act.put, List.setIfInBounds_toArray, List.set_cons_zero, List.set_cons_succ]
    refine wpAnyH_done (by kernel_rfl) ?_ _
    clear hHeld
    go_wp2
    go_ret2
    exact ⟨rfl, g.out⟩
end Se
end Go.Proofs.YtgldbfdiebkfiaaDoor

/-
  Layer 6: the reference: Wrap.
-/
namespace Go.Proofs.YtgldbfdiebkfiaaDoor
open Go.RowKit
namespace Se
attribute [local go_sem] S3.B_size S3.B_app S3.B_list

/-- A store of a struct into a part of a block. -/
theorem wpList_store_part {P : Program} {ops : Array Oper} {rest : List Oper} {o : Oper} {a : Act} {w : World} {Q : Exit → Act → World → Prop} (hgd : o.guard = none) (ty : TypeId) (x y : Operand) (ho : o.op = .store ty x y)
    (g k : Nat) (cells : Array Value) (hx : a.eval x = .pointer (some ⟨g, k, none⟩)) (hy : a.eval y = .agg cells)
    (t : TypeId) (old : Array Value) (hg : w.heap[g]? = some (.cells old t (0, 0))) (hi : (P.info? ty).map (·.size) = some cells.size)
    (hfit : k + cells.size ≤ old.size) (h1 : cells.all (·.oneCell') = true)
    (new : Array Value) (hnew : (old.toList.take k ++ cells.toList ++ old.toList.drop (k + cells.size)).toArray = new)
    (h : wpList P ops Q rest (a.put o.dst undef) (w.setRow g new)) : wpList P ops Q (o :: rest) a w :=
  wpList_plain hgd fun _ hK => by
    rw [← hnew] at h
    have hst := run_storeCells_at P g k t cells.toList 0 old w hg (by simpa using hfit) (fun v hv => (Array.all_eq_true_iff_forall_mem.1 h1) v (by simpa using hv))
    have hrun : (storeVar ty ⟨g, k, none⟩ (.agg cells)).run P w = .ok () (w.setRow g (old.toList.take k ++ cells.toList ++ old.toList.drop (k + cells.size)).toArray) := by
      cases hq : P.info? ty with
      | none => simp [hq] at hi
      | some i =>
        have hs : cells.size = i.size := by simp [hq] at hi; omega
        simp only [Nat.add_zero, Array.length_toList] at hst
        simp [storeVar, sizeOf, typeInfo, hq, Value.cells, hs] at hst ⊢
        exact hst
    unfold Oper.wp execOp
    simp only [ho, hx, hy, Instr.storeAt, Instr.sureAddr, Sem.run_bind, Sem.run_pure, Result.andThen_ok, hrun]
    exact hK _ _ h
theorem results_row_tmp {P : Program} {fn : Func} {p u : Tmp} {ty : TypeId} (h : fn.results = #[.cell p ty, .tmp u]) (tmps : Array Value) (w : World) (g : Nat) (t : TypeId) (cs : Array Value) (fr : Nat × Nat) (d : TypeDesc)
    (hp : tmps.getD p undef = .pointer (some ⟨g, 0, none⟩)) (hg : w.heap[g]? = some (.cells cs t fr))
    (hu : P.underlying ty = some d) (hd : (match d with | .struct _ | .array _ _ => true | _ => false) = true) (hi : (P.info? ty).map (·.size) = some cs.size) :
    (results fn tmps).run P w = .ok (.tuple #[.agg cs, tmps.getD u undef]) w := by
  rw [results_cell_tmp h, hp]
  simp [asAddr, run_loadVar_row w g t ty cs fr d hg hu hd hi]
theorem infoWrap (a b c d e : Value) : (Tryd.prog.info? 25).map (·.size) = some (#[a, b, c, d, e] : Array Value).size := by
  show (Tryd.prog.info? 25).map (·.size) = some 5
  kernel_rfl
def wrapC (w : Wr) : Value := .agg #[.int .i64 w.to, .int .i64 w.eph, .string (S3.B w.box.n), .string (S3.B w.box.d), .string (S3.B w.box.t)]

set_option maxHeartbeats 4000000 in
set_option maxRecDepth 100000 in
theorem rwrap_any (y : Int) (seed p : List UInt8) (w : World) (iy : S5.Sg.isI y) (hl : seed.length + p.length ≤ 3600) :
    Calls Tryd.prog 13 #[.int .i64 y, .string (S3.B seed), .string (S3.B p)] w fun e w' => e = .returned (.tuple #[wrapC (wrapV y seed p).1, .bool (wrapV y seed p).2]) ∧ Below w.heap.size w w' := by
  have g := Lib.hid ((Below.refl w.heap.size w).alloc (Nat.le_refl _) (.cells #[.int .i64 0, .int .i64 0, .string ⟨#[]⟩, .string ⟨#[]⟩, .string ⟨#[]⟩] 25))
  by_cases h1 : y < 1
  · rw [show wrapV y seed p = (wrap0, false) from if_neg (fun h => by obtain ⟨_, _⟩ := h; omega)]
    clear iy hl
    go_enter Tryd.func13, Tryd.ntmps13
    go_wp2
    go_returns
    exact ⟨rfl, g.out⟩
  · by_cases h2 : 2305843009213693951 ≤ y
    · rw [show wrapV y seed p = (wrap0, false) from if_neg (fun h => by obtain ⟨_, _⟩ := h; omega)]
      clear iy hl
      go_enter Tryd.func13, Tryd.ntmps13
      go_wp2
      go_returns
      exact ⟨rfl, g.out⟩
    · have hin : isPub y := ⟨by omega, by omega⟩
      rw [show wrapV y seed p = (wrapIn y seed p, true) from if_pos hin]
      have k1 := fun W => S5.Sg.rnum_ok W y iy
      have l1 := S5.Sg.encZ_len y
      have he0 : ephS y seed = 1 + S3.num (H [[101, 112, 104], seed, S5.Sg.encZ y]) % 2305843009213693949 := rfl
      have hE := ephS_in y seed
      obtain ⟨e0, he⟩ : ∃ e, e = ephS y seed := ⟨_, rfl⟩
      have hwi : wrapIn y seed p = ⟨y, (S5.Sg.pub e0 : Nat), sealV (wkey y (S5.Sg.pub e0 : Nat) (S4.powP y e0 : Nat)) (H [[110, 111, 110, 99, 101], wkey y (S5.Sg.pub e0 : Nat) (S4.powP y e0 : Nat)]) p⟩ := by rw [he]; rfl
      rw [hwi]
      rw [← he] at he0 hE
      have ie : S5.Sg.isI (e0 : Int) := by unfold S5.Sg.isI S4.isI64; omega
      have k4 := fun W => S5.Sg.rexp_ok W 37 e0 ie
      rw [show S4.powP 37 e0 = S5.Sg.pub e0 from rfl] at k4
      have k5 := fun W => S5.Sg.rexp_ok W y e0 ie
      have hp1 := S5.Sg.pub_lt e0
      have hp2 := S4.powP_lt y e0
      have k6 := fun w => rwrapping_any y (S5.Sg.pub e0 : Nat) (S4.powP y e0 : Nat) w iy (by unfold S5.Sg.isI S4.isI64; omega) (by unfold S5.Sg.isI S4.isI64; omega)
      have hk := wkey_len y (S5.Sg.pub e0 : Nat) (S4.powP y e0 : Nat)
      obtain ⟨pe, hpe⟩ : ∃ z : Int, z = (S5.Sg.pub e0 : Nat) := ⟨_, rfl⟩
      rw [← hpe] at k4 k6 hk ⊢
      generalize wkey y pe (S4.powP y e0 : Nat) = k at k6 hk ⊢
      obtain ⟨nn, hnn⟩ : ∃ z, z = H [[110, 111, 110, 99, 101], k] := ⟨_, rfl⟩
      have hnl : nn.length = 32 := by rw [hnn]; exact H_len _
      rw [← hnn]
      have k8 := fun w => rseal_any k nn p w (by omega)
      unfold wrapC
      unfold boxC at k8
      dsimp only
      generalize (sealV k nn p).n = bn at k8 ⊢
      generalize (sealV k nn p).d = bd at k8 ⊢
      generalize (sealV k nn p).t = bt at k8 ⊢
      obtain ⟨sh, hsh⟩ : ∃ z : Int, z = (S4.powP y e0 : Nat) := ⟨_, rfl⟩
      rw [← hsh] at k5 k6
      generalize S5.Sg.encZ y = z at k1 l1 he0
      obtain ⟨hq, hhq⟩ : ∃ q, q = H [[101, 112, 104], seed, z] := ⟨_, rfl⟩
      have hql : hq.length = 32 := by rw [hhq]; exact H_len _
      rw [← hhq] at he0
      have k3 := fun W => S5.Sg.rhnum_ok W hq (by omega)
      have hnlt := S5.Sg.num_lt hq
      obtain ⟨hn, hhn⟩ : ∃ q, q = S3.num hq := ⟨_, rfl⟩
      rw [← hhn] at k3 he0 hnlt
      obtain ⟨r, hr⟩ : ∃ r, r = hn % 2305843009213693949 := ⟨_, rfl⟩
      have e1 : (hn : Int).tmod 2305843009213693949 = (r : Int) := by rw [Int.tmod_eq_emod_of_nonneg (by omega)]; omega
      have e2 : (hn : Int) % 2305843009213693949 = (r : Int) := by omega
      have e3 : IntKind.i64.wrap (1 + (r : Int)) = (e0 : Int) := by rw [show 1 + (r : Int) = (e0 : Int) by omega]; exact IntWalk.i64_in _ (by omega)
      have K1 := Lib.hid k1
      have K3 := Lib.hid k3
      have K4 := Lib.hid k4
      have K5 := Lib.hid k5
      have K6 := Lib.hid k6
      have K8 := Lib.hid k8
      have HQ := Lib.hid hhq
      have HN := Lib.hid hnn
      have HLL := Lib.hid hl
      have HK := Lib.hid hk
      have HA0 := Lib.hid (heap_alloc_last w (.cells #[.int .i64 0, .int .i64 0, .string ⟨#[]⟩, .string ⟨#[]⟩, .string ⟨#[]⟩] 25))
      have HL0 : Hid (w.heap.size < (w.alloc (.cells #[.int .i64 0, .int .i64 0, .string ⟨#[]⟩, .string ⟨#[]⟩, .string ⟨#[]⟩] 25)).heap.size) := Lib.hid (by simp)
      clear k1 k3 k4 k5 k6 k8 hhq hnn hl hk hwi he he0 hE ie hp1 hp2 hpe hsh hhn hr hnlt hin iy hql hnl
      go_enter Tryd.func13, Tryd.ntmps13
      go_wp2_with fail
      generalize w.alloc (.cells #[.int .i64 0, .int .i64 0, .string ⟨#[]⟩, .string ⟨#[]⟩, .string ⟨#[]⟩] 25) = w0 at *
      refine (K1.out w0 _ (Below.refl _ _)).mono ?_
      rintro e w1 ⟨rfl, hb⟩
      have P := Lib.hid hb
      clear hb
      have hrow := strs_row w1 [[101, 112, 104], seed, z]
      have hLL := HLL.out
      have k2 := rH_any (some ⟨w1.heap.size, 0, none⟩) [[101, 112, 104], seed, z] 3 _ hrow (by simp) (by simp; omega)
      rw [← HQ.out] at k2
      have K2 := Lib.hid k2
      replace P := Lib.hid (P.out.alloc P.out.size (.cells #[.string (S3.B [101, 112, 104]), .string (S3.B seed), .string (S3.B z)] 9))
      clear k2 hrow hLL
      go_wp2_with fail
      refine K2.out.mono ?_
      rintro e w2 ⟨rfl, hb⟩
      replace P := Lib.hid (P.out.trans (hb.mono P.out.size))
      clear hb K2
      go_wp2_with fail
      refine (K3.out _ _ (Below.refl _ _)).mono ?_
      rintro e w3 ⟨rfl, hb⟩
      replace P := Lib.hid (P.out.trans (hb.mono P.out.size))
      clear hb
      go_wp2_with fail
      refine (K4.out _ _ (Below.refl _ _)).mono ?_
      rintro e w4 ⟨rfl, hb⟩
      replace P := Lib.hid (P.out.trans (hb.mono P.out.size))
      clear hb
      have HB : Hid (Blk5 (w4.alloc (.cells #[.int .i64 y, .int .i64 pe, .string ⟨#[]⟩, .string ⟨#[]⟩, .string ⟨#[]⟩] 25)) w4.heap.size y pe [] [] []) := Lib.hid (Blk5.new w4 y pe [] [] [] 25)
      have HG := Lib.hid (heap_alloc_last w4 (.cells #[.int .i64 y, .int .i64 pe, .string ⟨#[]⟩, .string ⟨#[]⟩, .string ⟨#[]⟩] 25))
      have HGE : Hid (w0.heap.size ≤ w4.heap.size) := Lib.hid P.out.size
      replace P := Lib.hid (P.out.alloc P.out.size (.cells #[.int .i64 y, .int .i64 pe, .string ⟨#[]⟩, .string ⟨#[]⟩, .string ⟨#[]⟩] 25))
      go_wp2_with fail
      generalize w4.alloc (.cells #[.int .i64 y, .int .i64 pe, .string ⟨#[]⟩, .string ⟨#[]⟩, .string ⟨#[]⟩] 25) = wA at *
      replace P := Lib.hid P.out.drew
      replace HB := Lib.hid (HB.out.step (Below.refl wA.heap.size wA).drew)
      have HB0 := HB
      replace HG : Hid (wA.drew.heap[w4.heap.size]? = some (.cells #[.int .i64 y, .int .i64 pe, .string ⟨#[]⟩, .string ⟨#[]⟩, .string ⟨#[]⟩] 25 (0, 0))) := Lib.hid HG.out
      refine wp_region_held_drew (S := (fun w' => w'.cell? ⟨w4.heap.size, 1, none⟩ = some (.int .i64 pe))) (by kernel_rfl) HB.out.c1 (fun hHeld => ?_)
      refine wpAnyH_take (i := 0) (oi := ⟨_, _, _, _, _, _⟩) (v := ?_) rfl (by kernel_rfl) (by kernel_rfl) (by kernel_rfl) (fun _ _ _ h => h) (Or.inl ⟨by rfl, ?_⟩) (by assumption) ?_
      rotate_left
      · intro wz hSw
        try dsimp only at hSw
        go_simp
        try with_reducible rfl
      try simp only [Act.put, List.setIfInBounds_toArray, List.set_cons_zero, List.set_cons_succ]
      refine wpAnyH_take (i := 1) (oi := ⟨_, _, _, _, _, _⟩) (v := ?_) rfl (by kernel_rfl) (by kernel_rfl) (by kernel_rfl) (fun _ _ _ h => h) (Or.inl ⟨by rfl, ?_⟩) (by assumption) ?_
      rotate_left
      · intro wz hSw
        try dsimp only at hSw
        go_simp
        try with_reducible rfl
      try simp only [Act.put, List.setIfInBounds_toArray, List.set_cons_zero, List.set_cons_succ]
      refine wpAnyH_take (i := 2) (oi := ⟨_, _, _, _, _, _⟩) (v := ?_) rfl (by kernel_rfl) (by kernel_rfl) (by kernel_rfl) (fun _ _ _ h => h) (Or.inl ⟨by rfl, ?_⟩) (by assumption) ?_
      rotate_left
      · intro wz hSw
        try dsimp only at hSw
        go_simp
        try with_reducible rfl
      try simp only [Act.put, List.setIfInBounds_toArray, List.set_cons_zero, List.set_cons_succ]
      refine wpAnyH_take (i := 3) (oi := ⟨_, _, _, _, _, _⟩) (v := ?_) rfl (by kernel_rfl) (by kernel_rfl) (by kernel_rfl) (fun _ _ _ h => h) (Or.inl ⟨by rfl, ?_⟩) (by assumption) ?_
      rotate_left
      · intro wz hSw
        try dsimp only at hSw
        go_simp
        try with_reducible rfl
      try simp only [Act.put, List.setIfInBounds_toArray, List.set_cons_zero, List.set_cons_succ]
      refine wpAnyH_take (i := 4) (oi := ⟨_, _, _, _, _, _⟩) (v := ?_) rfl (by kernel_rfl) (by kernel_rfl) (by kernel_rfl) (fun _ _ _ h => h) (Or.inl ⟨by rfl, ?_⟩) (by assumption) ?_
      rotate_left
      · intro wz hSw
        try dsimp only at hSw
        go_simp
        try with_reducible rfl
      try simp only [Act.put, List.setIfInBounds_toArray, List.set_cons_zero, List.set_cons_succ]
      refine wpAnyH_ready (rs := [5]) (by kernel_rfl) (by simp) ?_
      refine AllReadyH.cons (o := ⟨_, _, _, _, _, _⟩) rfl (fun K hK => ?_) AllReadyH.nil
      go_simp
      refine (K5.out _ _ (Below.refl _ _)).mono ?_
      rintro e w5 ⟨rfl, hb⟩
      replace P := Lib.hid (P.out.trans (hb.mono P.out.size))
      replace HB := Lib.hid (HB.out.step hb)
      replace HG := Lib.hid ((hb.block _ HB0.out.lt).trans HG.out)
      clear hb hHeld HB0
      have HB0 := HB
      refine hK.out _ _ HB.out.c1 (fun hHeld => ?_)
      clear hK K
      try simp only [Act.put, List.setIfInBounds_toArray, List.set_cons_zero, List.set_cons_succ]
      refine wpAnyH_ready (rs := [6]) (by kernel_rfl) (by simp) ?_
      refine AllReadyH.cons (o := ⟨_, _, _, _, _, _⟩) rfl (fun K hK => ?_) AllReadyH.nil
      go_simp
      refine (K6.out _).mono ?_
      rintro e w6 ⟨rfl, hb⟩
      replace P := Lib.hid (P.out.trans (hb.mono P.out.size))
      replace HB := Lib.hid (HB.out.step hb)
      replace HG := Lib.hid ((hb.block _ HB0.out.lt).trans HG.out)
      clear hb hHeld HB0
      have HB0 := HB
      refine hK.out _ _ HB.out.c1 (fun hHeld => ?_)
      clear hK K
      try simp only [Act.put, List.setIfInBounds_toArray, List.set_cons_zero, List.set_cons_succ]
      refine wpAnyH_take (i := 7) (oi := ⟨_, _, _, _, _, _⟩) (v := ?_) rfl (by kernel_rfl) (by kernel_rfl) (by kernel_rfl) (fun _ _ _ h => h) (Or.inl ⟨by rfl, ?_⟩) (by assumption) ?_
      rotate_left
      · intro wz hSw
        try dsimp only at hSw
        go_simp
        try with_reducible rfl
      try simp only [Act.put, List.setIfInBounds_toArray, List.set_cons_zero, List.set_cons_succ]
      refine wpAnyH_done (by kernel_rfl) ?_ _
      clear hHeld
      have hrow := strs_row w6 [[110, 111, 110, 99, 101], k]
      have k7 := rH_any (some ⟨w6.heap.size, 0, none⟩) [[110, 111, 110, 99, 101], k] 2 _ hrow (by simp) (by have := HK.out; simp; omega)
      rw [← HN.out] at k7
      have K7 := Lib.hid k7
      have hal := (Below.refl w6.heap.size w6).alloc (Nat.le_refl _) (.cells #[.string (S3.B [110, 111, 110, 99, 101]), .string (S3.B k)] 9)
      replace P := Lib.hid (P.out.trans (hal.mono P.out.size))
      replace HG := Lib.hid ((hal.block _ HB0.out.lt).trans HG.out)
      replace HB0 := Lib.hid (HB0.out.step hal)
      clear k7 hrow hal HB
      go_wp2_with fail
      refine K7.out.mono ?_
      rintro e w7 ⟨rfl, hb⟩
      replace P := Lib.hid (P.out.trans (hb.mono P.out.size))
      replace HG := Lib.hid ((hb.block _ HB0.out.lt).trans HG.out)
      replace HB0 := Lib.hid (HB0.out.step hb)
      clear hb K7
      go_wp2_with fail
      refine (K8.out _).mono ?_
      rintro e w8 ⟨rfl, hb⟩
      replace P := Lib.hid (P.out.trans (hb.mono P.out.size))
      replace HG := Lib.hid ((hb.block _ HB0.out.lt).trans HG.out)
      clear hb HB0
      have HG1 := Lib.hid (setRow_heap w8 w4.heap.size #[.int .i64 y, .int .i64 pe, .string ⟨#[]⟩, .string ⟨#[]⟩, .string ⟨#[]⟩] #[.int .i64 y, .int .i64 pe, .string (S3.B bn), .string (S3.B bd), .string (S3.B bt)] 25 (0, 0) HG.out)
      have HA : Hid ((w8.setRow w4.heap.size #[.int .i64 y, .int .i64 pe, .string (S3.B bn), .string (S3.B bd), .string (S3.B bt)]).heap[w.heap.size]? = _) := Lib.hid ((setRow_other w8 w4.heap.size w.heap.size _ (by have := HL0.out; have := HGE.out; omega)).trans ((P.out.block _ HL0.out).trans HA0.out))
      go_wp2_with (first | (refine wpList_store_part rfl 23 _ _ rfl w4.heap.size 2 _ rfl rfl 25 _ HG.out (infoBox _ _ _) (show 2 + 3 ≤ 5 by omega) (by simp [Value.oneCell']) #[.int .i64 y, .int .i64 pe, .string (S3.B bn), .string (S3.B bd), .string (S3.B bt)] rfl ?_) | (refine wpList_load_row rfl 25 _ rfl w4.heap.size rfl 25 _ (0, 0) _ HG1.out Tryd.underlying25 rfl (infoWrap _ _ _ _ _) ?_) | (refine S3.wpList_store_row rfl 25 _ _ rfl w.heap.size _ rfl rfl 25 _ HA.out (infoWrap _ _ _ _ _) rfl (by simp [Value.oneCell']) ?_))
      have hb8 := g.out.trans (P.out.mono (by have := g.out.size; omega))
      have hg1 : w.heap.size ≤ w4.heap.size := Nat.le_trans g.out.size HGE.out
      exact bodyPost_ret (v := .tuple #[.agg #[.int .i64 y, .int .i64 pe, .string (S3.B bn), .string (S3.B bd), .string (S3.B bt)], .bool true]) (results_row_tmp Tryd.results13 _ _ w.heap.size 25 _ (0, 0) _ rfl (setRow_heap _ _ _ _ _ _ HA.out) Tryd.underlying25 rfl (infoWrap _ _ _ _ _)) rfl
        ⟨rfl, below_setRow (below_setRow hb8 _ hg1 _) _ (Nat.le_refl _) _⟩
end Se
end Go.Proofs.YtgldbfdiebkfiaaDoor
