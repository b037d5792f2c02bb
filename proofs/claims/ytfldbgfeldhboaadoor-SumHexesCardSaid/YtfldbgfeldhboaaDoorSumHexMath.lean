/-
  Layer 3: what Hex and Unhex are to each other, in plain Lean.
-/
import Derived.Test.YtfldbgfeldhboaaDoorSumRefUn
namespace Go.Proofs.YtfldbgfeldhboaaDoor

theorem hexd_nat (n : Nat) (h : n < 16) : (hexd n).toNat = if n < 10 then 48 + n else 87 + n := by
  unfold hexd
  rw [UInt8.toNat_ofNat']
  split <;> omega
theorem dig_hexd (n : Nat) (h : n < 16) : dig (hexd n).toNat = n := by
  rw [hexd_nat n h]
  unfold dig
  split
  · rw [if_pos (by omega)]; omega
  · rw [if_neg (by omega), if_pos (by omega)]; omega
theorem hexd_dig (c : UInt8) (h : dig c.toNat ≠ 16) : hexd (dig c.toNat) = c := by
  apply UInt8.toNat_inj.1
  have h16 : dig c.toNat < 16 := by have := dig_le c.toNat; omega
  rw [hexd_nat _ h16]
  unfold dig at h ⊢
  split
  · split <;> omega
  · rename_i h1
    rw [if_neg h1] at h
    split
    · split <;> omega
    · rename_i h2
      rw [if_neg h2] at h
      exact absurd rfl h
theorem unhex_app : ∀ (s r : List UInt8), unhex (hex s ++ r) = (unhex r).map (s ++ ·)
  | [], r => by simp [hex]
  | b :: s, r => by
    have hb := b.toNat_lt
    have d1 := dig_hexd (b.toNat / 16) (by omega)
    have d2 := dig_hexd (b.toNat % 16) (by omega)
    rw [hex, List.cons_append, List.cons_append, unhex, d1, d2, if_neg (by omega), unhex_app s r]
    have e : UInt8.ofNat (16 * (b.toNat / 16) + b.toNat % 16) = b := by
      apply UInt8.toNat_inj.1
      rw [UInt8.toNat_ofNat']; omega
    rw [e]
    cases unhex r <;> rfl
theorem unhex_hex (s : List UInt8) : unhex (hex s) = some s := by
  have := unhex_app s []
  rw [List.append_nil] at this
  rw [this]
  simp [unhex]
theorem hex_unhex : ∀ (t x : List UInt8), unhex t = some x → hex x = t
  | [], x, h => by
    rw [unhex] at h
    cases h
    rfl
  | [_], x, h => by rw [unhex] at h; cases h
  | a :: b :: l, x, h => by
    rw [unhex] at h
    split at h
    · cases h
    · rename_i hd
      cases hu : unhex l with
      | none => rw [hu] at h; cases h
      | some r =>
        rw [hu] at h
        cases h
        have ha : dig a.toNat < 16 := by have := dig_le a.toNat; omega
        have hb : dig b.toNat < 16 := by have := dig_le b.toNat; omega
        have e : (UInt8.ofNat (16 * dig a.toNat + dig b.toNat)).toNat = 16 * dig a.toNat + dig b.toNat := by rw [UInt8.toNat_ofNat']; omega
        rw [hex, e, hex_unhex l r hu, show (16 * dig a.toNat + dig b.toNat) / 16 = dig a.toNat by omega, show (16 * dig a.toNat + dig b.toNat) % 16 = dig b.toNat by omega, hexd_dig a (by omega), hexd_dig b (by omega)]
theorem hex_digit (s : List UInt8) : ∀ d ∈ hex s, (48 ≤ d.toNat ∧ d.toNat ≤ 57) ∨ (97 ≤ d.toNat ∧ d.toNat ≤ 102) := by
  induction s with
  | nil => intro d hd; cases hd
  | cons b s ih =>
    have hb := b.toNat_lt
    intro d hd
    rw [hex, List.mem_cons, List.mem_cons] at hd
    rcases hd with rfl | rfl | hd
    · rw [hexd_nat _ (by omega)]; split <;> omega
    · rw [hexd_nat _ (by omega)]; split <;> omega
    · exact ih d hd
theorem unhex_zero (s : List UInt8) : unhex (hex s ++ [48]) = none := unhex_odd _ (by rw [List.length_append, hex_length]; simp [Nat.add_mod])
theorem unhex_upper (s : List UInt8) : unhex (hex s ++ [65, 48]) = none := by rw [unhex_app]; rfl
end Go.Proofs.YtfldbgfeldhboaaDoor
