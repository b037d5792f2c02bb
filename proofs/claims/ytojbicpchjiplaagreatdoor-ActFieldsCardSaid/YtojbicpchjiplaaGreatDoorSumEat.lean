/-
  SumShaDef, SumEat: joined.
-/
import GoSem.Core.Next
/-
  SHA-256 over lists of words, in plain Lean. No program.
-/
namespace Go.Proofs.YtojbicpchjiplaaGreatDoor.S3
namespace Sha

/-- A word turned to the right. -/
def rot (x : BitVec 32) (n : Nat) : BitVec 32 := (x >>> n) ||| (x <<< (32 - n))
/-- The initial state. -/
def firsts : List (BitVec 32) := [1779033703#32, 3144134277#32, 1013904242#32, 2773480762#32, 1359893119#32, 2600822924#32, 528734635#32, 1541459225#32]
/-- The round constants. -/
def adds : List (BitVec 32) := [1116352408#32, 1899447441#32, 3049323471#32, 3921009573#32, 961987163#32, 1508970993#32, 2453635748#32, 2870763221#32, 3624381080#32, 310598401#32, 607225278#32, 1426881987#32, 1925078388#32, 2162078206#32, 2614888103#32, 3248222580#32, 3835390401#32, 4022224774#32, 264347078#32, 604807628#32, 770255983#32, 1249150122#32, 1555081692#32, 1996064986#32, 2554220882#32, 2821834349#32, 2952996808#32, 3210313671#32, 3336571891#32, 3584528711#32, 113926993#32, 338241895#32, 666307205#32, 773529912#32, 1294757372#32, 1396182291#32, 1695183700#32, 1986661051#32, 2177026350#32, 2456956037#32, 2730485921#32, 2820302411#32, 3259730800#32, 3345764771#32, 3516065817#32, 3600352804#32, 4094571909#32, 275423344#32, 430227734#32, 506948616#32, 659060556#32, 883997877#32, 958139571#32, 1322822218#32, 1537002063#32, 1747873779#32, 1955562222#32, 2024104815#32, 2227730452#32, 2361852424#32, 2428436474#32, 2756734187#32, 3204031479#32, 3329325298#32]
theorem firsts_length : firsts.length = 8 := rfl
theorem adds_length : adds.length = 64 := by decide
/-- The word at place i of a block. -/
def word (b : List UInt8) (i : Nat) : BitVec 32 :=
  BitVec.ofNat 32 ((b.getD (4 * i) 0).toNat * 16777216 + (b.getD (4 * i + 1) 0).toNat * 65536 + (b.getD (4 * i + 2) 0).toNat * 256 + (b.getD (4 * i + 3) 0).toNat)
def sig0 (x : BitVec 32) : BitVec 32 := rot x 7 ^^^ rot x 18 ^^^ x >>> 3
def sig1 (x : BitVec 32) : BitVec 32 := rot x 17 ^^^ rot x 19 ^^^ x >>> 10
/-- The word that follows the first i words of a schedule. -/
def more (w : List (BitVec 32)) (i : Nat) : BitVec 32 := w.getD (i - 16) 0 + sig0 (w.getD (i - 15) 0) + w.getD (i - 7) 0 + sig1 (w.getD (i - 2) 0)
/-- The first n words of the schedule. -/
def sched (b : List UInt8) : Nat → List (BitVec 32)
  | 0 => []
  | i + 1 => sched b i ++ [if i < 16 then word b i else more (sched b i) i]
theorem sched_length (b : List UInt8) (n : Nat) : (sched b n).length = n := by
  induction n with
  | zero => rfl
  | succ n ih => rw [sched, List.length_append, ih]; rfl
/-- A round. -/
def round (v : List (BitVec 32)) (k w : BitVec 32) : List (BitVec 32) :=
  let g := fun i => v.getD i 0
  let one := g 7 + (rot (g 4) 6 ^^^ rot (g 4) 11 ^^^ rot (g 4) 25) + ((g 4 &&& g 5) ^^^ (~~~ g 4 &&& g 6)) + k + w
  let two := (rot (g 0) 2 ^^^ rot (g 0) 13 ^^^ rot (g 0) 22) + ((g 0 &&& g 1) ^^^ (g 0 &&& g 2) ^^^ (g 1 &&& g 2))
  [one + two, g 0, g 1, g 2, g 3 + one, g 4, g 5, g 6]
/-- The state after n rounds. -/
def rounds (b : List UInt8) (h : List (BitVec 32)) : Nat → List (BitVec 32)
  | 0 => h
  | i + 1 => round (rounds b h i) (adds.getD i 0) ((sched b 64).getD i 0)
/-- The state after a block. -/
def next (h : List (BitVec 32)) (b : List UInt8) : List (BitVec 32) := List.zipWith (· + ·) (rounds b h 64) h
/-- The padded message. -/
def padded (s : List UInt8) : List UInt8 :=
  s ++ [128] ++ List.replicate ((119 - s.length % 64) % 64) 0 ++ (List.range 8).map fun k => UInt8.ofNat (8 * s.length / 256 ^ (7 - k))
/-- The state after the first n blocks. -/
def blocks (p : List UInt8) : Nat → List (BitVec 32)
  | 0 => firsts
  | i + 1 => next (blocks p i) ((p.drop (64 * i)).take 64)
/-- The four bytes of a word, the most significant one first. -/
def be (x : BitVec 32) : List UInt8 := [⟨(x >>> 24).setWidth 8⟩, ⟨(x >>> 16).setWidth 8⟩, ⟨(x >>> 8).setWidth 8⟩, ⟨x.setWidth 8⟩]
def sha (s : List UInt8) : List UInt8 := (blocks (padded s) ((padded s).length / 64)).flatMap be
theorem padded_length (s : List UInt8) : (padded s).length % 64 = 0 := by
  simp only [padded, List.length_append, List.length_cons, List.length_nil, List.length_replicate, List.length_map, List.length_range]
  omega
end Sha
end Go.Proofs.YtojbicpchjiplaaGreatDoor.S3

/-
  SHA-256 in plain Lean, more: a message is eaten block by block.
-/
namespace Go.Proofs.YtojbicpchjiplaaGreatDoor.S3
namespace Sha

theorem getD_take (b : List UInt8) (j : Nat) (h : j < 64) : (b.take 64).getD j 0 = b.getD j 0 := by
  rw [List.getD_eq_getElem?_getD, List.getD_eq_getElem?_getD, List.getElem?_take_of_lt h]
theorem word_take (b : List UInt8) (i : Nat) (h : i < 16) : word (b.take 64) i = word b i := by
  unfold word
  rw [getD_take _ _ (by omega), getD_take _ _ (by omega), getD_take _ _ (by omega), getD_take _ _ (by omega)]
theorem sched_take (b : List UInt8) (n : Nat) : sched (b.take 64) n = sched b n := by
  induction n with
  | zero => rfl
  | succ n ih =>
    rw [sched, sched, ih]
    by_cases h : n < 16
    · rw [if_pos h, if_pos h, word_take _ _ h]
    · rw [if_neg h, if_neg h]
theorem rounds_take (b : List UInt8) (h : List (BitVec 32)) (n : Nat) : rounds (b.take 64) h n = rounds b h n := by
  induction n with
  | zero => rfl
  | succ n ih => rw [rounds, rounds, ih, sched_take]
theorem next_take (h : List (BitVec 32)) (b : List UInt8) : next h (b.take 64) = next h b := by
  rw [next, next, rounds_take]
theorem rounds_length (b : List UInt8) (h : List (BitVec 32)) (n : Nat) (hh : h.length = 8) : (rounds b h n).length = 8 := by
  cases n with
  | zero => exact hh
  | succ n => rfl
theorem next_length (h : List (BitVec 32)) (b : List UInt8) (hh : h.length = 8) : (next h b).length = 8 := by
  rw [next, List.length_zipWith, rounds_length b h 64 hh, hh]; rfl

/-- The state after all whole blocks of a list. -/
def eat (h : List (BitVec 32)) (q : List UInt8) : List (BitVec 32) := if q.length < 64 then h else eat (next h (q.take 64)) (q.drop 64)
termination_by q.length
decreasing_by rw [List.length_drop]; omega
theorem eat_small {h : List (BitVec 32)} {q : List UInt8} (hq : q.length < 64) : eat h q = h := by rw [eat, if_pos hq]
theorem eat_step {h : List (BitVec 32)} {q : List UInt8} (hq : ¬ q.length < 64) : eat h q = eat (next h q) (q.drop 64) := by
  rw [eat, if_neg hq, next_take]
theorem eat_append (n : Nat) : ∀ (h : List (BitVec 32)) (a b : List UInt8), a.length = 64 * n → eat h (a ++ b) = eat (eat h a) b := by
  induction n with
  | zero =>
    intro h a b ha
    rw [List.eq_nil_of_length_eq_zero (by omega : a.length = 0), eat_small (q := []) (by simp)]; rfl
  | succ n ih =>
    intro h a b ha
    have e : next h (a ++ b) = next h a := by rw [← next_take h (a ++ b), List.take_append_of_le_length (by omega), next_take]
    rw [eat_step (q := a ++ b) (by rw [List.length_append]; omega), eat_step (q := a) (by omega), List.drop_append_of_le_length (by omega), ih _ _ _ (by rw [List.length_drop]; omega), e]
theorem eat_blocks (p : List UInt8) (i n : Nat) (hp : p.length = 64 * (i + n)) : eat (blocks p i) (p.drop (64 * i)) = blocks p (i + n) := by
  induction n generalizing i with
  | zero => rw [eat_small (by rw [List.length_drop]; omega)]; rfl
  | succ n ih =>
    rw [eat_step (by rw [List.length_drop]; omega), List.drop_drop, show 64 * i + 64 = 64 * (i + 1) by omega, ← next_take]
    have := ih (i + 1) (by omega)
    rw [blocks] at this
    rw [this]
    congr 1
    omega
theorem eat_sha (p : List UInt8) (hp : p.length % 64 = 0) : eat firsts p = blocks p (p.length / 64) := by
  have := eat_blocks p 0 (p.length / 64) (by omega)
  rw [Nat.mul_zero, List.drop_zero, Nat.zero_add] at this
  exact this
theorem sha_eat (s : List UInt8) : sha s = (eat firsts (padded s)).flatMap be := by
  rw [sha, eat_sha _ (padded_length s)]
end Sha
end Go.Proofs.YtojbicpchjiplaaGreatDoor.S3
