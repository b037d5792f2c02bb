/-
  SumRefHex, SumRefUn, SumHexMath: joined.
-/
import Derived.Test.YtcbhjagcfbinoaaDoorSumMem
/-
  Layer 3: the document's own Hex (agoraref03).
-/
namespace Go.Proofs.YtcbhjagcfbinoaaDoor.S3
open Go.RowKit
attribute [local go_sem] B_size B_drop' B_take B_list B_app

/-- The digit of a number below 16. -/
def hexd (n : Nat) : UInt8 := UInt8.ofNat (if n < 10 then 48 + n else 87 + n)
/-- The digits of a list of bytes. -/
def hex : List UInt8 → List UInt8
  | [] => []
  | b :: l => hexd (b.toNat / 16) :: hexd (b.toNat % 16) :: hex l
theorem hex_length (l : List UInt8) : (hex l).length = 2 * l.length := by
  induction l with
  | nil => rfl
  | cons b l ih => simp only [hex, List.length_cons, ih]; omega
theorem hex_append (l m : List UInt8) : hex (l ++ m) = hex l ++ hex m := by
  induction l with
  | nil => rfl
  | cons b l ih => simp only [hex, List.cons_append, ih]
theorem hex_succ (l : List UInt8) (k : Nat) (h : k < l.length) : hex (l.take (k + 1)) = hex (l.take k) ++ [hexd (l[k].toNat / 16), hexd (l[k].toNat % 16)] := by
  rw [List.take_succ_eq_append_getElem h, hex_append]; rfl
theorem hexd_lit (n : Nat) (h : n < 16) : ∀ h2, ((⟨#[48, 49, 50, 51, 52, 53, 54, 55, 56, 57, 97, 98, 99, 100, 101, 102]⟩ : ByteArray)[n]'h2).toNat = (hexd n).toNat := by
  have : ∀ n : Fin 16, ((⟨#[48, 49, 50, 51, 52, 53, 54, 55, 56, 57, 97, 98, 99, 100, 101, 102]⟩ : ByteArray)[n.1]'n.2).toNat = (hexd n.1).toNat := by decide
  exact fun _ => this ⟨n, h⟩

set_option maxHeartbeats 1000000 in
set_option maxRecDepth 100000 in
theorem refHex_any (l : List UInt8) (w : World) (hl : l.length ≤ 1099511627776) :
    Calls Tryd.prog 29 #[.string (B l)] w fun e w' => e = .returned (.string (B (hex l))) ∧ Below w.heap.size w w' := by
  obtain ⟨i0, hi, hz0, hz1, hz2⟩ := info_parts infoByte
  have hl3 : (l.length : Int) ≤ 1099511627776 := by omega
  go_enter Tryd.func29, Tryd.ntmps29
  go_wp2_with fail
  go_loopw [3, 4] (fun o i wr => ∃ k : Nat, i = .int .i64 (k : Int) ∧ k ≤ l.length ∧ wr.ownsRow w.heap.size 5 1 o (hex (l.take k)).length (U (hex (l.take k))) ∧ Below w.heap.size w wr) (fun _ i _ => l.length - (intOf i).toNat)
  case atStart => exact ⟨0, rfl, by omega, ⟨rfl, .inl ⟨rfl, rfl⟩⟩, Below.refl _ _⟩
  case round =>
    obtain ⟨k, rfl, hk, hown, hbel⟩ := hrel
    have hbase : w.heap.size ≤ wr.heap.size := hbel.size
    by_cases hc : k < l.length
    · have hc' : (k : Int) < l.length := by omega
      have hs := hex_succ l k hc
      have hql : (hex (l.take k)).length ≤ 2 * k := by rw [hex_length, List.length_take]; omega
      obtain ⟨q, hq⟩ : ∃ q, q = hex (l.take k) := ⟨_, rfl⟩
      rw [← hq] at hs hown hql
      obtain ⟨b, hb⟩ : ∃ b : Nat, b = l[k].toNat := ⟨_, rfl⟩
      have hb2 := l[k].toNat_lt
      rw [← hb] at hb2 hs
      have hg : ∀ h, ((B l)[k]'h).toNat = b := fun h => hb.symm
      have hb3 : (b : Int) ≤ 255 := by omega
      obtain ⟨x, hx⟩ : ∃ x, x = b / 16 := ⟨_, rfl⟩
      obtain ⟨y, hy⟩ : ∃ y, y = b % 16 := ⟨_, rfl⟩
      rw [← hx, ← hy] at hs
      have hb4 : (b : Int).tmod 16 = (y : Int) := by rw [Int.tmod_eq_emod_of_nonneg (by omega)]; omega
      have hb5 : (b : Int) / 16 = (x : Int) := by omega
      have hx2 : (x : Int) < 16 := by omega
      have hy2 : (y : Int) < 16 := by omega
      have hwx : IntKind.u8.wrap (x : Int) = (x : Int) := IntWalk.u8_in _ (by omega)
      have d1 := hexd_lit x (by omega)
      have d2 := hexd_lit y (by omega)
      have HS := Lib.hid hs
      clear hs hq hb hb2 hx hy
      go_wp2_with fail
      refine wp_region_held_drew (S := fun _ => True) (by kernel_rfl) trivial (fun hHeld => ?_)
      refine wpAnyH_take (i := 0) (oi := ⟨_, _, _, _, _, _⟩) (v := ?_) rfl (by kernel_rfl) (by kernel_rfl) (by kernel_rfl) (fun _ _ _ h => h) (Or.inl ⟨by rfl, ?_⟩) (by assumption) ?_
      rotate_left
      · intro wz hSw
        try dsimp only at hSw
        go_simp
        try with_reducible rfl
      try simp only [Act.put, List.setIfInBounds_toArray, List.set_cons_zero, List.set_cons_succ]
      refine wpAnyH_take (i := 1) (oi := ⟨_, _, _, _, _, _⟩) (v := ?_) rfl (by kernel_rfl) (by kernel_rfl) (by kernel_rfl) (fun _ _ _ h => h) (Or.inl ⟨by rfl, ?_⟩) (by assumption) ?_
      rotate_left
      · intro wz hSw
        try dsimp only at hSw
        go_simp
        try with_reducible rfl
      try simp only [Act.put, List.setIfInBounds_toArray, List.set_cons_zero, List.set_cons_succ]
      refine wpAnyH_take (i := 2) (oi := ⟨_, _, _, _, _, _⟩) (v := ?_) rfl (by kernel_rfl) (by kernel_rfl) (by kernel_rfl) (fun _ _ _ h => h) (Or.inl ⟨by rfl, ?_⟩) (by assumption) ?_
      rotate_left
      · intro wz hSw
        try dsimp only at hSw
        go_simp
        try with_reducible rfl
      try simp only [Act.put, List.setIfInBounds_toArray, List.set_cons_zero, List.set_cons_succ]
      refine wpAnyH_take (i := 3) (oi := ⟨_, _, _, _, _, _⟩) (v := ?_) rfl (by kernel_rfl) (by kernel_rfl) (by kernel_rfl) (fun _ _ _ h => h) (Or.inl ⟨by rfl, ?_⟩) (by assumption) ?_
      rotate_left
      · intro wz hSw
        try dsimp only at hSw
        go_simp
        try with_reducible rfl
      try simp only [Act.put, List.setIfInBounds_toArray, List.set_cons_zero, List.set_cons_succ]
      refine wpAnyH_take (i := 4) (oi := ⟨_, _, _, _, _, _⟩) (v := ?_) rfl (by kernel_rfl) (by kernel_rfl) (by kernel_rfl) (fun _ _ _ h => h) (Or.inl ⟨by rfl, ?_⟩) (by assumption) ?_
      rotate_left
      · intro wz hSw
        try dsimp only at hSw
        go_simp
        try with_reducible rfl
      try simp only [Act.put, List.setIfInBounds_toArray, List.set_cons_zero, List.set_cons_succ]
      refine wpAnyH_take (i := 5) (oi := ⟨_, _, _, _, _, _⟩) (v := ?_) rfl (by kernel_rfl) (by kernel_rfl) (by kernel_rfl) (fun _ _ _ h => h) (Or.inl ⟨by rfl, ?_⟩) (by assumption) ?_
      rotate_left
      · intro wz hSw
        try dsimp only at hSw
        go_simp
        try with_reducible rfl
      try simp only [Act.put, List.setIfInBounds_toArray, List.set_cons_zero, List.set_cons_succ]
      refine wpAnyH_take (i := 6) (oi := ⟨_, _, _, _, _, _⟩) (v := ?_) rfl (by kernel_rfl) (by kernel_rfl) (by kernel_rfl) (fun _ _ _ h => h) (Or.inl ⟨by rfl, ?_⟩) (by assumption) ?_
      rotate_left
      · intro wz hSw
        try dsimp only at hSw
        go_simp
        try with_reducible rfl
      try simp only [Act.put, List.setIfInBounds_toArray, List.set_cons_zero, List.set_cons_succ]
      refine wpAnyH_take (i := 7) (oi := ⟨_, _, _, _, _, _⟩) (v := ?_) rfl (by kernel_rfl) (by kernel_rfl) (by kernel_rfl) (fun _ _ _ h => h) (Or.inl ⟨by rfl, ?_⟩) (by assumption) ?_
      rotate_left
      · intro wz hSw
        try dsimp only at hSw
        go_simp
        try with_reducible rfl
      try simp only [Act.put, List.setIfInBounds_toArray, List.set_cons_zero, List.set_cons_succ]
      refine wpAnyH_take (i := 8) (oi := ⟨_, _, _, _, _, _⟩) (v := ?_) rfl (by kernel_rfl) (by kernel_rfl) (by kernel_rfl) (fun _ _ _ h => h) (Or.inl ⟨by rfl, ?_⟩) (by assumption) ?_
      rotate_left
      · intro wz hSw
        try dsimp only at hSw
        go_simp
        try with_reducible rfl
      try simp only [Act.put, List.setIfInBounds_toArray, List.set_cons_zero, List.set_cons_succ]
      refine wpAnyH_take (i := 9) (oi := ⟨_, _, _, _, _, _⟩) (v := ?_) rfl (by kernel_rfl) (by kernel_rfl) (by kernel_rfl) (fun _ _ _ h => h) (Or.inl ⟨by rfl, ?_⟩) (by assumption) ?_
      rotate_left
      · intro wz hSw
        try dsimp only at hSw
        go_simp
        try with_reducible rfl
      try simp only [Act.put, List.setIfInBounds_toArray, List.set_cons_zero, List.set_cons_succ]
      refine wpAnyH_take (i := 10) (oi := ⟨_, _, _, _, _, _⟩) (v := ?_) rfl (by kernel_rfl) (by kernel_rfl) (by kernel_rfl) (fun _ _ _ h => h) (Or.inl ⟨by rfl, ?_⟩) (by assumption) ?_
      rotate_left
      · intro wz hSw
        try dsimp only at hSw
        go_simp
        try with_reducible rfl
      try simp only [Act.put, List.setIfInBounds_toArray, List.set_cons_zero, List.set_cons_succ]
      refine wpAnyH_ready (rs := [11]) (by kernel_rfl) (by simp) ?_
      refine AllReadyH.cons (o := ⟨_, _, _, _, _, _⟩) rfl (fun K hK => ?_) AllReadyH.nil
      go_simp
      refine hK.out _ _ trivial (fun hHeld => ?_)
      clear hK K
      try simp only [Act.put, List.setIfInBounds_toArray, List.set_cons_zero, List.set_cons_succ]
      refine wpAnyH_ready (rs := [12]) (by kernel_rfl) (by simp) ?_
      refine AllReadyH.cons (o := ⟨_, _, _, _, _, _⟩) rfl (fun K hK => ?_) AllReadyH.nil
      have hown2 : wr.drew.ownsRow w.heap.size 5 1 u3 q.length (U q) := hown
      have hbel2 : Below w.heap.size w wr.drew := hbel.drew
      have hbase2 : w.heap.size ≤ wr.drew.heap.size := hbase
      refine step_append_own rfl _ _ 48 rfl w.heap.size 5 i0 (.int .u8 0) 1 1 Tryd.underlying48 hi hz0 hz1 hz2 rfl (by decide) _ _ _ rfl (hown2.alloc _) ⟨wr.heap.size, 0, none⟩ 2 2 [.int .u8 ((hexd x).toNat : Nat), .int .u8 ((hexd y).toNat : Nat)] rfl rfl two_cells (fun u hu => by simp at hu; rcases hu with rfl | rfl <;> rfl) (by unfold maxLen; omega) (by omega) (by simp; omega) ?_
      intro v' w1 hown' hgrow
      have R := own_more (r := [hexd x, hexd y]) rfl rfl hbase2 hown2 hbel2 hown' hgrow
      clear hown' hgrow hown hown2 hbel hbel2
      refine hK.out _ _ trivial (fun hHeld => ?_)
      clear hK K
      try simp only [Act.put, List.setIfInBounds_toArray, List.set_cons_zero, List.set_cons_succ]
      refine wpAnyH_take (i := 13) (oi := ⟨_, _, _, _, _, _⟩) (v := ?_) rfl (by kernel_rfl) (by kernel_rfl) (by kernel_rfl) (fun _ _ _ h => h) (Or.inl ⟨by rfl, ?_⟩) (by assumption) ?_
      rotate_left
      · intro wz hSw
        try dsimp only at hSw
        go_simp
        try with_reducible rfl
      try simp only [Act.put, List.setIfInBounds_toArray, List.set_cons_zero, List.set_cons_succ]
      refine wpAnyH_done (by kernel_rfl) ?_ _
      have R2 : w1.ownsRow w.heap.size 5 1 v' (hex (l.take (k + 1))).length (U (hex (l.take (k + 1)))) := by rw [HS.out]; exact R.1
      have R3 := R.2
      clear R
      go_wp2
      go_roundw
      case rel => exact ⟨k + 1, by go_num, by omega, R2, R3⟩
      case measure => simp [intOf]; omega
    · have hk2 : k = l.length := by omega
      subst hk2
      rw [List.take_length] at hown
      have hcv := conv_own hown
      go_wp2
      go_ret
      exact ⟨rfl, hbel⟩
end Go.Proofs.YtcbhjagcfbinoaaDoor.S3

/-
  Layer 3: the document's own Unhex (agoraref03).
-/
namespace Go.Proofs.YtcbhjagcfbinoaaDoor.S3
open Go.RowKit
attribute [local go_sem] B_size B_drop' B_take B_list B_app

/-- The value of a hexadecimal digit; 16: it is none. -/
def dig (c : Nat) : Nat := if 48 ≤ c ∧ c ≤ 57 then c - 48 else if 97 ≤ c ∧ c ≤ 102 then c - 87 else 16
def unhex : List UInt8 → Option (List UInt8)
  | [] => some []
  | [_] => none
  | a :: b :: l => if dig a.toNat = 16 ∨ dig b.toNat = 16 then none else (unhex l).map fun r => UInt8.ofNat (16 * dig a.toNat + dig b.toNat) :: r
theorem unhex_odd : ∀ l : List UInt8, l.length % 2 = 1 → unhex l = none
  | [], h => by simp at h
  | [_], _ => rfl
  | a :: b :: l, h => by
    have := unhex_odd l (by simp only [List.length_cons] at h; omega)
    rw [unhex, this]
    split <;> rfl
/-- What the loop keeps: q is what the first j bytes say. -/
def UH (l : List UInt8) (j : Nat) (q : List UInt8) : Prop := j ≤ l.length ∧ (l.length - j) % 2 = 0 ∧ q.length ≤ j ∧ unhex l = (unhex (l.drop j)).map fun r => q ++ r
theorem uh_start (l : List UInt8) (h : l.length % 2 = 0) : UH l 0 [] := ⟨by omega, by omega, Nat.le_refl _, by simp⟩
theorem uh_end {l q : List UInt8} (h : UH l l.length q) : unhex l = some q := by
  rw [h.2.2.2, List.drop_length]; simp [unhex]
theorem uh_drop {l : List UInt8} {j : Nat} (h : j + 1 < l.length) : l.drop j = l[j] :: l[j + 1] :: l.drop (j + 2) := by
  rw [List.drop_eq_getElem_cons (by omega), List.drop_eq_getElem_cons h]
theorem uh_bad {l q : List UInt8} {j : Nat} (hu : UH l j q) (h : j + 1 < l.length) (hb : dig l[j].toNat = 16 ∨ dig l[j + 1].toNat = 16) : unhex l = none := by
  rw [hu.2.2.2, uh_drop h, unhex, if_pos hb]; rfl
theorem uh_next {l q : List UInt8} {j : Nat} (hu : UH l j q) (h : j + 1 < l.length) (hb : ¬ (dig l[j].toNat = 16 ∨ dig l[j + 1].toNat = 16)) : UH l (j + 2) (q ++ [UInt8.ofNat (16 * dig l[j].toNat + dig l[j + 1].toNat)]) := by
  obtain ⟨h1, h2, h3, h4⟩ := hu
  refine ⟨by omega, by omega, by simp; omega, ?_⟩
  rw [h4, uh_drop h, unhex, if_neg hb, Option.map_map]
  congr 1
  funext r
  simp
theorem dig_le (c : Nat) : dig c ≤ 16 := by unfold dig; split <;> (try split) <;> omega

end Go.Proofs.YtcbhjagcfbinoaaDoor.S3

/-
  Layer 3: what Hex and Unhex are to each other, in plain Lean.
-/
namespace Go.Proofs.YtcbhjagcfbinoaaDoor.S3

theorem hexd_nat (n : Nat) (h : n < 16) : (hexd n).toNat = if n < 10 then 48 + n else 87 + n := by
  unfold hexd
  rw [UInt8.toNat_ofNat']
  split <;> omega
theorem dig_hexd (n : Nat) (h : n < 16) : dig (hexd n).toNat = n := by
  rw [hexd_nat n h]
  unfold dig
  split
  · rw [if_pos (by omega)]; omega
  · rw [if_neg (by omega), if_pos (by omega)]; omega
theorem hexd_dig (c : UInt8) (h : dig c.toNat ≠ 16) : hexd (dig c.toNat) = c := by
  apply UInt8.toNat_inj.1
  have h16 : dig c.toNat < 16 := by have := dig_le c.toNat; omega
  rw [hexd_nat _ h16]
  unfold dig at h ⊢
  split
  · split <;> omega
  · rename_i h1
    rw [if_neg h1] at h
    split
    · split <;> omega
    · rename_i h2
      rw [if_neg h2] at h
      exact absurd rfl h
theorem unhex_app : ∀ (s r : List UInt8), unhex (hex s ++ r) = (unhex r).map (s ++ ·)
  | [], r => by simp [hex]
  | b :: s, r => by
    have hb := b.toNat_lt
    have d1 := dig_hexd (b.toNat / 16) (by omega)
    have d2 := dig_hexd (b.toNat % 16) (by omega)
    rw [hex, List.cons_append, List.cons_append, unhex, d1, d2, if_neg (by omega), unhex_app s r]
    have e : UInt8.ofNat (16 * (b.toNat / 16) + b.toNat % 16) = b := by
      apply UInt8.toNat_inj.1
      rw [UInt8.toNat_ofNat']; omega
    rw [e]
    cases unhex r <;> rfl
theorem unhex_hex (s : List UInt8) : unhex (hex s) = some s := by
  have := unhex_app s []
  rw [List.append_nil] at this
  rw [this]
  simp [unhex]
theorem hex_unhex : ∀ (t x : List UInt8), unhex t = some x → hex x = t
  | [], x, h => by
    rw [unhex] at h
    cases h
    rfl
  | [_], x, h => by rw [unhex] at h; cases h
  | a :: b :: l, x, h => by
    rw [unhex] at h
    split at h
    · cases h
    · rename_i hd
      cases hu : unhex l with
      | none => rw [hu] at h; cases h
      | some r =>
        rw [hu] at h
        cases h
        have ha : dig a.toNat < 16 := by have := dig_le a.toNat; omega
        have hb : dig b.toNat < 16 := by have := dig_le b.toNat; omega
        have e : (UInt8.ofNat (16 * dig a.toNat + dig b.toNat)).toNat = 16 * dig a.toNat + dig b.toNat := by rw [UInt8.toNat_ofNat']; omega
        rw [hex, e, hex_unhex l r hu, show (16 * dig a.toNat + dig b.toNat) / 16 = dig a.toNat by omega, show (16 * dig a.toNat + dig b.toNat) % 16 = dig b.toNat by omega, hexd_dig a (by omega), hexd_dig b (by omega)]
theorem hex_digit (s : List UInt8) : ∀ d ∈ hex s, (48 ≤ d.toNat ∧ d.toNat ≤ 57) ∨ (97 ≤ d.toNat ∧ d.toNat ≤ 102) := by
  induction s with
  | nil => intro d hd; cases hd
  | cons b s ih =>
    have hb := b.toNat_lt
    intro d hd
    rw [hex, List.mem_cons, List.mem_cons] at hd
    rcases hd with rfl | rfl | hd
    · rw [hexd_nat _ (by omega)]; split <;> omega
    · rw [hexd_nat _ (by omega)]; split <;> omega
    · exact ih d hd
theorem unhex_zero (s : List UInt8) : unhex (hex s ++ [48]) = none := unhex_odd _ (by rw [List.length_append, hex_length]; simp [Nat.add_mod])
theorem unhex_upper (s : List UInt8) : unhex (hex s ++ [65, 48]) = none := by rw [unhex_app]; rfl
end Go.Proofs.YtcbhjagcfbinoaaDoor.S3
