/-
  Layer 3: what Num is to the bytes, in plain Lean.
-/
import Derived.Test.YtfldbgfeldhboaaDoorSumRefNum
namespace Go.Proofs.YtfldbgfeldhboaaDoor

/-- The number whose digits to the base 256 are the bytes. -/
def val : List UInt8 → Nat
  | [] => 0
  | a :: x => a.toNat * 256 ^ x.length + val x
theorem val_lt : ∀ l : List UInt8, val l < 256 ^ l.length
  | [] => by simp [val]
  | a :: x => by
    have h := val_lt x
    have ha := a.toNat_lt
    rw [val, List.length_cons, Nat.pow_succ]
    have : a.toNat * 256 ^ x.length ≤ 255 * 256 ^ x.length := Nat.mul_le_mul_right _ (by omega)
    omega
theorem val_snoc : ∀ (l : List UInt8) (b : UInt8), val (l ++ [b]) = 256 * val l + b.toNat
  | [], b => by simp [val]
  | a :: x, b => by
    rw [List.cons_append, val, val, val_snoc x b, List.length_append, List.length_singleton, Nat.pow_succ, Nat.mul_add]
    have : a.toNat * (256 ^ x.length * 256) = 256 * (a.toNat * 256 ^ x.length) := by rw [Nat.mul_comm (256 ^ x.length), Nat.mul_left_comm]
    omega
theorem pre_val (l : List UInt8) (k : Nat) (h : k ≤ l.length) : pre l k = val (l.take k) := by
  induction k with
  | zero => simp [pre, val]
  | succ k ih =>
    rw [pre, ih (by omega), List.take_add_one, List.getElem?_eq_getElem (by omega), Option.toList_some, val_snoc, List.getD_eq_getElem?_getD, List.getElem?_eq_getElem (by omega)]
    rfl
theorem pre_congr (l m : List UInt8) (k : Nat) (h : ∀ i, i < k → l.getD i 0 = m.getD i 0) : pre l k = pre m k := by
  induction k with
  | zero => rfl
  | succ k ih => rw [pre, pre, ih (fun i hi => h i (by omega)), h k (by omega)]
theorem less_val : ∀ (x y : List UInt8), x.length = y.length → Op.bytesLess x y = decide (val x < val y)
  | [], [], _ => by simp [Op.bytesLess, val]
  | a :: x, b :: y, h => by
    have hl : x.length = y.length := by simpa using h
    have hx := val_lt x
    have hy := val_lt y
    rw [Op.bytesLess, val, val, less_val x y hl, hl]
    rw [hl] at hx
    obtain ⟨P, hP⟩ : ∃ P, P = 256 ^ y.length := ⟨_, rfl⟩
    rw [← hP] at hx hy ⊢
    have hu : (a < b) ↔ a.toNat < b.toNat := UInt8.lt_iff_toNat_lt
    rcases Nat.lt_trichotomy a.toNat b.toNat with h1 | h1 | h1
    · have h2 : (a.toNat + 1) * P ≤ b.toNat * P := Nat.mul_le_mul_right _ h1
      rw [Nat.add_mul, Nat.one_mul] at h2
      have h3 : a < b := hu.2 h1
      have h4 : a.toNat * P + val x < b.toNat * P + val y := by omega
      rw [decide_eq_true h3, decide_eq_true h4]
      rfl
    · have h3 : a = b := UInt8.toNat_inj.1 h1
      subst h3
      simp
    · have h2 : (b.toNat + 1) * P ≤ a.toNat * P := Nat.mul_le_mul_right _ h1
      rw [Nat.add_mul, Nat.one_mul] at h2
      have h3 : ¬ a < b := fun h => by have := hu.1 h; omega
      have h4 : ¬ a.toNat * P + val x < b.toNat * P + val y := by omega
      have h5 : (a == b) = false := by
        rw [beq_eq_false_iff_ne]; intro e; subst e; omega
      rw [decide_eq_false h3, decide_eq_false h4, h5]
      rfl
/-- The first eight bytes; zeros where bytes lack. -/
def head8 (s : List UInt8) : List UInt8 := (s ++ List.replicate (8 - s.length) 0).take 8
theorem head8_length (s : List UInt8) : (head8 s).length = 8 := by
  simp only [head8, List.length_take, List.length_append, List.length_replicate]; omega
theorem head8_get (s : List UInt8) (i : Nat) (h : i < 8) : (head8 s).getD i 0 = s.getD i 0 := by
  simp only [head8, List.getD_eq_getElem?_getD]
  rw [List.getElem?_take_of_lt h]
  by_cases hs : i < s.length
  · rw [List.getElem?_append_left hs]
  · rw [List.getElem?_append_right (by omega), List.getElem?_replicate, List.getElem?_eq_none (l := s) (by omega)]
    split <;> rfl
theorem num_head (s u : List UInt8) : num (head8 s ++ u) = num s := by
  rw [num, num]
  congr 1
  apply pre_congr
  intro i hi
  have h8 := head8_length s
  rw [← head8_get s i hi, List.getD_eq_getElem?_getD, List.getD_eq_getElem?_getD, List.getElem?_append_left (by omega)]
theorem num_val (s : List UInt8) : num s = val (head8 s) / 8 := by
  have h := num_head s []
  rw [List.append_nil] at h
  rw [← h, num, pre_val _ _ (by rw [head8_length]; exact Nat.le_refl _), List.take_of_length_le (by rw [head8_length]; exact Nat.le_refl _)]
theorem num_le (s : List UInt8) : num s ≤ 2305843009213693951 := by
  have := val_lt (head8 s)
  rw [head8_length] at this
  rw [num_val]
  omega
/-- The byte i of what is recovered. -/
def backAt (n i : Nat) : UInt8 := UInt8.ofNat (n * 8 / 256 ^ (7 - i))
theorem back_eq (p : List UInt8) (hp : p.length = 8) : (List.range 8).map (backAt (val p / 8)) = p.take 7 ++ [UInt8.ofNat ((p.getD 7 0).toNat / 8 * 8)] := by
  match p, hp with
  | [a, b, c, d, e, f, g, h], _ =>
    have ha := a.toNat_lt
    have hb := b.toNat_lt
    have hc := c.toNat_lt
    have hd := d.toNat_lt
    have he := e.toNat_lt
    have hf := f.toNat_lt
    have hg := g.toNat_lt
    have hh := h.toNat_lt
    have hv : val [a, b, c, d, e, f, g, h] = a.toNat * 72057594037927936 + (b.toNat * 281474976710656 + (c.toNat * 1099511627776 + (d.toNat * 4294967296 + (e.toNat * 16777216 + (f.toNat * 65536 + (g.toNat * 256 + h.toNat)))))) := by
      simp [val]
    have hl : (List.range 8).map (backAt (val [a, b, c, d, e, f, g, h] / 8)) = [backAt (val [a, b, c, d, e, f, g, h] / 8) 0, backAt (val [a, b, c, d, e, f, g, h] / 8) 1, backAt (val [a, b, c, d, e, f, g, h] / 8) 2, backAt (val [a, b, c, d, e, f, g, h] / 8) 3, backAt (val [a, b, c, d, e, f, g, h] / 8) 4, backAt (val [a, b, c, d, e, f, g, h] / 8) 5, backAt (val [a, b, c, d, e, f, g, h] / 8) 6, backAt (val [a, b, c, d, e, f, g, h] / 8) 7] := rfl
    rw [hl, hv]
    have key : ∀ i (x : UInt8) (m : Nat), m = x.toNat → (a.toNat * 72057594037927936 + (b.toNat * 281474976710656 + (c.toNat * 1099511627776 + (d.toNat * 4294967296 + (e.toNat * 16777216 + (f.toNat * 65536 + (g.toNat * 256 + h.toNat))))))) / 8 * 8 / 256 ^ (7 - i) % 256 = m → backAt ((a.toNat * 72057594037927936 + (b.toNat * 281474976710656 + (c.toNat * 1099511627776 + (d.toNat * 4294967296 + (e.toNat * 16777216 + (f.toNat * 65536 + (g.toNat * 256 + h.toNat))))))) / 8) i = x := by
      intro i x m hm hk
      apply UInt8.toNat_inj.1
      rw [backAt, UInt8.toNat_ofNat', ← hm]
      exact hk
    have e7 : (UInt8.ofNat (h.toNat / 8 * 8)).toNat = h.toNat / 8 * 8 := by rw [UInt8.toNat_ofNat']; omega
    rw [key 0 a _ rfl (by simp only [Nat.reduceSub, Nat.reducePow]; omega), key 1 b _ rfl (by simp only [Nat.reduceSub, Nat.reducePow]; omega), key 2 c _ rfl (by simp only [Nat.reduceSub, Nat.reducePow]; omega), key 3 d _ rfl (by simp only [Nat.reduceSub, Nat.reducePow]; omega), key 4 e _ rfl (by simp only [Nat.reduceSub, Nat.reducePow]; omega), key 5 f _ rfl (by simp only [Nat.reduceSub, Nat.reducePow]; omega), key 6 g _ rfl (by simp only [Nat.reduceSub, Nat.reducePow]; omega), key 7 (UInt8.ofNat (h.toNat / 8 * 8)) _ e7.symm (by simp only [Nat.reduceSub, Nat.reducePow]; omega)]
    rfl
end Go.Proofs.YtfldbgfeldhboaaDoor
