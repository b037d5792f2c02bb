/-
  SHA-256 in plain Lean, more: a message is eaten block by block.
-/
import Derived.Test.YtcbhjagcfbinoaaDoorSumShaDef
namespace Go.Proofs.YtcbhjagcfbinoaaDoor.S3
namespace Sha

theorem getD_take (b : List UInt8) (j : Nat) (h : j < 64) : (b.take 64).getD j 0 = b.getD j 0 := by
  rw [List.getD_eq_getElem?_getD, List.getD_eq_getElem?_getD, List.getElem?_take_of_lt h]
theorem word_take (b : List UInt8) (i : Nat) (h : i < 16) : word (b.take 64) i = word b i := by
  unfold word
  rw [getD_take _ _ (by omega), getD_take _ _ (by omega), getD_take _ _ (by omega), getD_take _ _ (by omega)]
theorem sched_take (b : List UInt8) (n : Nat) : sched (b.take 64) n = sched b n := by
  induction n with
  | zero => rfl
  | succ n ih =>
    rw [sched, sched, ih]
    by_cases h : n < 16
    · rw [if_pos h, if_pos h, word_take _ _ h]
    · rw [if_neg h, if_neg h]
theorem rounds_take (b : List UInt8) (h : List (BitVec 32)) (n : Nat) : rounds (b.take 64) h n = rounds b h n := by
  induction n with
  | zero => rfl
  | succ n ih => rw [rounds, rounds, ih, sched_take]
theorem next_take (h : List (BitVec 32)) (b : List UInt8) : next h (b.take 64) = next h b := by
  rw [next, next, rounds_take]
theorem rounds_length (b : List UInt8) (h : List (BitVec 32)) (n : Nat) (hh : h.length = 8) : (rounds b h n).length = 8 := by
  cases n with
  | zero => exact hh
  | succ n => rfl
theorem next_length (h : List (BitVec 32)) (b : List UInt8) (hh : h.length = 8) : (next h b).length = 8 := by
  rw [next, List.length_zipWith, rounds_length b h 64 hh, hh]; rfl

/-- The state after all whole blocks of a list. -/
def eat (h : List (BitVec 32)) (q : List UInt8) : List (BitVec 32) := if q.length < 64 then h else eat (next h (q.take 64)) (q.drop 64)
termination_by q.length
decreasing_by rw [List.length_drop]; omega
theorem eat_small {h : List (BitVec 32)} {q : List UInt8} (hq : q.length < 64) : eat h q = h := by rw [eat, if_pos hq]
theorem eat_step {h : List (BitVec 32)} {q : List UInt8} (hq : ¬ q.length < 64) : eat h q = eat (next h q) (q.drop 64) := by
  rw [eat, if_neg hq, next_take]
theorem eat_append (n : Nat) : ∀ (h : List (BitVec 32)) (a b : List UInt8), a.length = 64 * n → eat h (a ++ b) = eat (eat h a) b := by
  induction n with
  | zero =>
    intro h a b ha
    rw [List.eq_nil_of_length_eq_zero (by omega : a.length = 0), eat_small (q := []) (by simp)]; rfl
  | succ n ih =>
    intro h a b ha
    have e : next h (a ++ b) = next h a := by rw [← next_take h (a ++ b), List.take_append_of_le_length (by omega), next_take]
    rw [eat_step (q := a ++ b) (by rw [List.length_append]; omega), eat_step (q := a) (by omega), List.drop_append_of_le_length (by omega), ih _ _ _ (by rw [List.length_drop]; omega), e]
theorem eat_blocks (p : List UInt8) (i n : Nat) (hp : p.length = 64 * (i + n)) : eat (blocks p i) (p.drop (64 * i)) = blocks p (i + n) := by
  induction n generalizing i with
  | zero => rw [eat_small (by rw [List.length_drop]; omega)]; rfl
  | succ n ih =>
    rw [eat_step (by rw [List.length_drop]; omega), List.drop_drop, show 64 * i + 64 = 64 * (i + 1) by omega, ← next_take]
    have := ih (i + 1) (by omega)
    rw [blocks] at this
    rw [this]
    congr 1
    omega
theorem eat_sha (p : List UInt8) (hp : p.length % 64 = 0) : eat firsts p = blocks p (p.length / 64) := by
  have := eat_blocks p 0 (p.length / 64) (by omega)
  rw [Nat.mul_zero, List.drop_zero, Nat.zero_add] at this
  exact this
theorem sha_eat (s : List UInt8) : sha s = (eat firsts (padded s)).flatMap be := by
  rw [sha, eat_sha _ (padded_length s)]
end Sha
end Go.Proofs.YtcbhjagcfbinoaaDoor.S3
