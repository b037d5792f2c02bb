/-
  Layer 2 (code) in plain Lean: what the encodings are, how they are read, and that the one inverts the other. No program.
-/
import Derived.Below
namespace Go.Proofs.YtojbicpchjiplaaGreatDoor.S2
namespace Cd

/-! ### Varints -/
/-- The digits of n to the base 128, least first, at most k + 1 of them. -/
def vi : Nat → Nat → List UInt8
  | 0, n => [UInt8.ofNat n]
  | k + 1, n => if n < 128 then [UInt8.ofNat n] else UInt8.ofNat (n % 128 + 128) :: vi k (n / 128)
def encN (n : Nat) : List UInt8 := vi 8 n
/-- Reads at most k digits; 'first': the next one is the first. -/
def dv : Nat → Bool → List UInt8 → Option (Nat × List UInt8)
  | 0, _, _ => none
  | _ + 1, _, [] => none
  | k + 1, first, b :: r => if b.toNat < 128 then (if b.toNat = 0 ∧ first = false then none else some (b.toNat, r)) else (dv k false r).map fun p => (b.toNat - 128 + 128 * p.1, p.2)
def decN (l : List UInt8) : Option (Nat × List UInt8) := dv 9 true l

theorem ofNat_toNat' (n : Nat) (h : n < 256) : (UInt8.ofNat n).toNat = n := by
  simp [UInt8.toNat_ofNat']; omega
theorem dv_vi : ∀ (k n : Nat) (first : Bool) (r : List UInt8), n < 128 ^ (k + 1) → (first = true ∨ 0 < n) → dv (k + 1) first (vi k n ++ r) = some (n, r)
  | 0, n, first, r, h, hf => by
    simp only [vi, List.cons_append, List.nil_append, dv]
    have h' : n < 128 := by simpa using h
    rw [ofNat_toNat' n (by omega), if_pos h', if_neg]
    rintro ⟨h0, h1⟩
    rcases hf with hf | hf
    · rw [hf] at h1; cases h1
    · omega
  | k + 1, n, first, r, h, hf => by
    simp only [vi]
    split
    · rename_i hn
      simp only [List.cons_append, List.nil_append, dv]
      rw [ofNat_toNat' n (by omega), if_pos hn, if_neg]
      rintro ⟨h0, h1⟩
      rcases hf with hf | hf
      · rw [hf] at h1; cases h1
      · omega
    · rename_i hn
      have hm : n / 128 < 128 ^ (k + 1) := by
        rw [Nat.pow_succ] at h
        omega
      have ih := dv_vi k (n / 128) false r hm (.inr (by omega))
      rw [List.cons_append, dv, ofNat_toNat' _ (by omega), if_neg (by omega), ih]
      simp only [Option.map_some, Option.some.injEq, Prod.mk.injEq, and_true]
      omega
theorem vi_dv : ∀ (k : Nat) (first : Bool) (l : List UInt8) (n : Nat) (r : List UInt8), dv (k + 1) first l = some (n, r) → l = vi k n ++ r ∧ n < 128 ^ (k + 1) ∧ (first = true ∨ 0 < n)
  | k, first, [], n, r, h => by simp [dv] at h
  | k, first, b :: t, n, r, h => by
    rw [dv] at h
    split at h
    · rename_i hb
      split at h
      · cases h
      · rename_i hz
        simp only [Option.some.injEq, Prod.mk.injEq] at h
        obtain ⟨rfl, rfl⟩ := h
        have e : UInt8.ofNat b.toNat = b := by simp
        refine ⟨?_, ?_, ?_⟩
        · cases k <;> simp [vi, hb]
        · calc b.toNat < 128 ^ 1 := by simpa using hb
            _ ≤ 128 ^ (k + 1) := Nat.pow_le_pow_right (by omega) (by omega)
        · cases first
          · right
            rcases Nat.eq_zero_or_pos b.toNat with h0 | h0
            · exact absurd ⟨h0, rfl⟩ hz
            · exact h0
          · exact .inl rfl
    · rename_i hb
      cases k with
      | zero => simp [dv] at h
      | succ k =>
        rcases hd : dv (k + 1) false t with _ | ⟨m, r'⟩
        · rw [hd] at h; cases h
        · rw [hd] at h
          simp only [Option.map_some, Option.some.injEq, Prod.mk.injEq] at h
          obtain ⟨h1, rfl⟩ := h
          obtain ⟨e, hm, hp⟩ := vi_dv k false t m r' hd
          have hm0 : 0 < m := by
            rcases hp with hp | hp
            · cases hp
            · exact hp
          have hb' := b.toNat_lt
          refine ⟨?_, ?_, .inr (by omega)⟩
          · rw [vi, if_neg (by omega), List.cons_append, e]
            have e1 : n / 128 = m := by omega
            have e2 : n % 128 + 128 = b.toNat := by omega
            rw [e1, e2]
            simp
          · rw [Nat.pow_succ]; omega
theorem encN_ne (n : Nat) : encN n ≠ [] := by
  unfold encN vi; split <;> simp
theorem vi_len : ∀ (k n : Nat), (vi k n).length ≤ k + 1
  | 0, n => by simp [vi]
  | k + 1, n => by
    rw [vi]; split
    · simp
    · have := vi_len k (n / 128); simp; omega
theorem encN_len (n : Nat) : (encN n).length ≤ 9 := vi_len 8 n
/-! ### A kind of values: how one is written, how one is read, which can be written -/
structure Codec {α : Type} (enc : α → List UInt8) (dec : List UInt8 → Option (α × List UInt8)) (ok : α → Prop) : Prop where
  back : ∀ a r, ok a → dec (enc a ++ r) = some (a, r)
  again : ∀ l a r, dec l = some (a, r) → l = enc a ++ r ∧ ok a

section
variable {α : Type} {enc : α → List UInt8} {dec : List UInt8 → Option (α × List UInt8)} {ok : α → Prop}
end

def okN (n : Nat) : Prop := n < 9223372036854775808
theorem codecN : Codec encN decN okN where
  back := fun a r h => dv_vi 8 a true r (by unfold okN at h; omega) (.inl rfl)
  again := fun l a r h => by
    obtain ⟨h1, h2, _⟩ := vi_dv 8 true l a r h
    exact ⟨h1, by unfold okN; omega⟩

/-! ### Zigzag -/
def most : Int := 2305843009213693952
def okI (n : Int) : Prop := -most ≤ n ∧ n ≤ most
instance (n : Int) : Decidable (okI n) := by unfold okI; infer_instance
/-! ### Strings -/
def takeN (n : Nat) (l : List UInt8) : Option (List UInt8 × List UInt8) := if n ≤ l.length then some (l.take n, l.drop n) else none
def encT (s : List UInt8) : List UInt8 := encN s.length ++ s
def decT (l : List UInt8) : Option (List UInt8 × List UInt8) := (decN l).bind fun p => takeN p.1 p.2
def okT (s : List UInt8) : Prop := okN s.length
theorem codecT : Codec encT decT okT where
  back := fun a r h => by
    unfold encT decT
    rw [List.append_assoc, codecN.back _ _ h]
    simp [takeN]
  again := fun l a r h => by
    unfold decT at h
    rcases hd : decN l with _ | ⟨z, r'⟩
    · rw [hd] at h; cases h
    · rw [hd] at h
      simp only [Option.bind_some, takeN] at h
      split at h
      · rename_i hk
        simp only [Option.some.injEq, Prod.mk.injEq] at h
        obtain ⟨rfl, rfl⟩ := h
        obtain ⟨e, hz⟩ := codecN.again _ _ _ hd
        have el : (r'.take z).length = z := by rw [List.length_take]; omega
        refine ⟨?_, ?_⟩
        · unfold encT
          rw [el, List.append_assoc, List.take_append_drop]
          exact e
        · unfold okT; rw [el]; exact hz
      · cases h
theorem encT_ne (s : List UInt8) : encT s ≠ [] := by
  unfold encT
  intro h
  exact encN_ne _ (List.append_eq_nil_iff.1 h).1

/-! ### Lists -/
section
variable {α : Type} (enc : α → List UInt8) (dec : List UInt8 → Option (α × List UInt8)) (ok : α → Prop)
def encM : List α → List UInt8
  | [] => []
  | a :: r => enc a ++ encM r
def decM : Nat → List UInt8 → Option (List α × List UInt8)
  | 0, l => some ([], l)
  | n + 1, l => (dec l).bind fun p => (decM n p.2).map fun q => (p.1 :: q.1, q.2)
def encL (as : List α) : List UInt8 := encN as.length ++ encM enc as
def decL (l : List UInt8) : Option (List α × List UInt8) := (decN l).bind fun p => if p.1 ≤ p.2.length then decM dec p.1 p.2 else none
def okL (as : List α) : Prop := okN as.length ∧ ∀ a ∈ as, ok a
variable {enc} {dec} {ok}
theorem encM_back (h : Codec enc dec ok) : ∀ (as : List α) (r : List UInt8), (∀ a ∈ as, ok a) → decM dec as.length (encM enc as ++ r) = some (as, r)
  | [], r, _ => rfl
  | a :: as, r, ha => by
    rw [encM, List.length_cons, decM, List.append_assoc, h.back a _ (ha a (by simp))]
    simp only [Option.bind_some]
    rw [encM_back h as r (fun b hb => ha b (by simp [hb]))]
    rfl
theorem decM_again (h : Codec enc dec ok) : ∀ (n : Nat) (l : List UInt8) (as : List α) (r : List UInt8), decM dec n l = some (as, r) → l = encM enc as ++ r ∧ as.length = n ∧ ∀ a ∈ as, ok a
  | 0, l, as, r, hd => by
    simp only [decM, Option.some.injEq, Prod.mk.injEq] at hd
    obtain ⟨rfl, rfl⟩ := hd
    simp [encM]
  | n + 1, l, as, r, hd => by
    rw [decM] at hd
    rcases h1 : dec l with _ | ⟨a, r1⟩
    · rw [h1] at hd; cases hd
    · rw [h1] at hd
      simp only [Option.bind_some] at hd
      rcases h2 : decM dec n r1 with _ | ⟨as', r2⟩
      · rw [h2] at hd; cases hd
      · rw [h2] at hd
        simp only [Option.map_some, Option.some.injEq, Prod.mk.injEq] at hd
        obtain ⟨rfl, rfl⟩ := hd
        obtain ⟨e1, ha⟩ := h.again _ _ _ h1
        obtain ⟨e2, hl, hall⟩ := decM_again h n r1 as' r2 h2
        refine ⟨by rw [encM, List.append_assoc, ← e2]; exact e1, by simp [hl], ?_⟩
        intro b hb
        rcases List.mem_cons.1 hb with rfl | hb
        · exact ha
        · exact hall b hb
theorem encM_length (hne : ∀ a, ok a → enc a ≠ []) : ∀ (as : List α), (∀ a ∈ as, ok a) → as.length ≤ (encM enc as).length
  | [], _ => by simp
  | a :: as, ha => by
    have h1 := encM_length hne as (fun b hb => ha b (by simp [hb]))
    have h2 := List.length_pos_iff.2 (hne a (ha a (by simp)))
    rw [encM, List.length_append, List.length_cons]
    omega
theorem codecL (h : Codec enc dec ok) (hne : ∀ a, ok a → enc a ≠ []) : Codec (encL enc) (decL dec) (okL ok) where
  back := fun as r ha => by
    unfold encL decL
    rw [List.append_assoc, codecN.back _ _ ha.1]
    simp only [Option.bind_some]
    rw [if_pos, encM_back h as r ha.2]
    have := encM_length hne as ha.2
    rw [List.length_append]
    omega
  again := fun l as r hd => by
    unfold decL at hd
    rcases h1 : decN l with _ | ⟨n, r1⟩
    · rw [h1] at hd; cases hd
    · rw [h1] at hd
      simp only [Option.bind_some] at hd
      split at hd
      · obtain ⟨e, hn⟩ := codecN.again _ _ _ h1
        obtain ⟨e2, hl, hall⟩ := decM_again h n r1 as r hd
        refine ⟨?_, ?_, hall⟩
        · unfold encL
          rw [hl, List.append_assoc, ← e2]
          exact e
        · rw [hl]; exact hn
      · cases hd
theorem encM_snoc (as : List α) (a : α) : encM enc (as ++ [a]) = encM enc as ++ enc a := by
  induction as with
  | nil => simp [encM]
  | cons b as ih => rw [List.cons_append, encM, encM, ih, List.append_assoc]
theorem encM_append (as bs : List α) : encM enc (as ++ bs) = encM enc as ++ encM enc bs := by
  induction as with
  | nil => simp [encM]
  | cons b as ih => rw [List.cons_append, encM, encM, ih, List.append_assoc]
theorem encM_take (as : List α) (k : Nat) (h : k < as.length) : encM enc (as.take (k + 1)) = encM enc (as.take k) ++ enc as[k] := by
  rw [List.take_succ_eq_append_getElem h, encM_snoc]
theorem encM_le (N : Nat) : ∀ (as : List α), (∀ a ∈ as, (enc a).length ≤ N) → (encM enc as).length ≤ as.length * N
  | [], _ => by simp [encM]
  | a :: as, h => by
    have h1 := encM_le N as (fun b hb => h b (by simp [hb]))
    have h2 := h a (by simp)
    rw [encM, List.length_append, List.length_cons, Nat.succ_mul]
    omega
end
theorem codecTs : Codec (encL encT) (decL decT) (okL okT) := codecL codecT (fun s _ => encT_ne s)
/-! ### A reader: what is left of its input, if it has not failed -/
abbrev St := Option (List UInt8)
section
variable {α : Type} (dec : List UInt8 → Option (α × List UInt8))
def rest (o : Option (α × List UInt8)) : St := o.map (·.2)
def val (z : α) (o : Option (α × List UInt8)) : α := (o.map (·.1)).getD z
end
end Cd
end Go.Proofs.YtojbicpchjiplaaGreatDoor.S2
