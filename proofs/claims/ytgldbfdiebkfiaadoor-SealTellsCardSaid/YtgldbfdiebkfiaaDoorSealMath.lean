/-
  Layer 6: what the functions return, in plain Lean: digests of lists, the stream, boxes and wraps; that opening inverts sealing and unwrapping inverts wrapping.
-/
import Derived.Test.YtgldbfdiebkfiaaDoorSignMath
namespace Go.Proofs.YtgldbfdiebkfiaaDoor
open Go.RowKit
namespace Se

/-- The digest of a list of strings. -/
def H (ls : List (List UInt8)) : List UInt8 := S3.Sha.sha (S2.Cd.encL S2.Cd.encT ls)
theorem flat_len : ∀ l : List (BitVec 32), (l.flatMap S3.Sha.be).length = 4 * l.length
  | [] => rfl
  | x :: t => by
    rw [List.flatMap_cons, List.length_append, flat_len t, List.length_cons]
    simp [S3.Sha.be]
    omega
theorem next_len (h : List (BitVec 32)) (b : List UInt8) (hh : h.length = 8) : (S3.Sha.next h b).length = 8 := by
  have hr : ∀ n, (S3.Sha.rounds b h n).length = 8 := by
    intro n
    cases n with
    | zero => exact hh
    | succ n => rfl
  unfold S3.Sha.next
  rw [List.length_zipWith, hr, hh]
  rfl
theorem blocks_len (p : List UInt8) : ∀ n : Nat, (S3.Sha.blocks p n).length = 8
  | 0 => rfl
  | n + 1 => next_len _ _ (blocks_len p n)
theorem sha_len (l : List UInt8) : (S3.Sha.sha l).length = 32 := by
  unfold S3.Sha.sha
  rw [flat_len, blocks_len]
theorem H_len (ls : List (List UInt8)) : (H ls).length = 32 := sha_len _

/-! ### The stream -/
def wStream : List UInt8 := [115, 116, 114, 101, 97, 109]
def wTag : List UInt8 := [116, 97, 103]
def wEph : List UInt8 := [101, 112, 104]
def wWrap : List UInt8 := [119, 114, 97, 112]
def wNonce : List UInt8 := [110, 111, 110, 99, 101]
/-- The block of the stream with number i. -/
def blk (k n : List UInt8) (i : Nat) : List UInt8 := H [wStream, k, n, S2.Cd.encN i]
/-- The stream's byte at place i. -/
def sb (k n : List UInt8) (i : Nat) : UInt8 := (blk k n (i / 32)).getD (i % 32) 0
/-- The xor of a string, of which i bytes went before, and the stream. -/
def mixFrom (k n : List UInt8) : Nat → List UInt8 → List UInt8
  | _, [] => []
  | i, b :: s => (b ^^^ sb k n i) :: mixFrom k n (i + 1) s
def mix (k n s : List UInt8) : List UInt8 := mixFrom k n 0 s
theorem mixFrom_len (k n : List UInt8) : ∀ (i : Nat) (s : List UInt8), (mixFrom k n i s).length = s.length
  | _, [] => rfl
  | i, b :: s => by rw [mixFrom, List.length_cons, mixFrom_len, List.length_cons]
theorem mix_len (k n s : List UInt8) : (mix k n s).length = s.length := mixFrom_len k n 0 s
theorem xor_xor (a b : UInt8) : a ^^^ b ^^^ b = a := by
  rw [UInt8.xor_assoc, UInt8.xor_self, UInt8.xor_zero]
theorem mixFrom_twice (k n : List UInt8) : ∀ (i : Nat) (s : List UInt8), mixFrom k n i (mixFrom k n i s) = s
  | _, [] => rfl
  | i, b :: s => by rw [mixFrom, mixFrom, mixFrom_twice, xor_xor]
theorem mix_twice (k n s : List UInt8) : mix k n (mix k n s) = s := mixFrom_twice k n 0 s
theorem mixFrom_take (k n : List UInt8) : ∀ (i : Nat) (s : List UInt8) (j : Nat), mixFrom k n i (s.take j) = (mixFrom k n i s).take j
  | _, [], j => by simp [mixFrom]
  | i, b :: s, 0 => by simp [mixFrom]
  | i, b :: s, j + 1 => by rw [List.take_succ_cons, mixFrom, mixFrom, List.take_succ_cons, mixFrom_take]
theorem mix_take (k n s : List UInt8) (j : Nat) : mix k n (s.take j) = (mix k n s).take j := mixFrom_take k n 0 s j
theorem mixFrom_get (k n : List UInt8) : ∀ (i : Nat) (s : List UInt8) (j : Nat), j < s.length → (mixFrom k n i s).getD j 0 = s.getD j 0 ^^^ sb k n (i + j)
  | _, [], j, h => absurd h (Nat.not_lt_zero _)
  | i, b :: s, 0, _ => by simp [mixFrom]
  | i, b :: s, j + 1, h => by
    have hs : j < s.length := by simpa using h
    rw [mixFrom, List.getD_cons_succ, List.getD_cons_succ, mixFrom_get k n (i + 1) s j hs]
    congr 2
    omega
theorem mix_get (k n s : List UInt8) (j : Nat) (h : j < s.length) : (mix k n s).getD j 0 = s.getD j 0 ^^^ sb k n j := by
  have := mixFrom_get k n 0 s j h
  rw [Nat.zero_add] at this
  exact this
/-- The string mixed so far grows by a byte. -/
theorem mix_step (k n s : List UInt8) (j : Nat) (h : j < s.length) : mix k n (s.take (j + 1)) = mix k n (s.take j) ++ [s.getD j 0 ^^^ sb k n j] := by
  have hl : j < (mix k n s).length := by rw [mix_len]; exact h
  rw [mix_take, mix_take, List.take_add_one, List.getElem?_eq_getElem hl]
  have e := mix_get k n s j h
  rw [List.getD_eq_getElem?_getD, List.getElem?_eq_getElem hl] at e
  rw [← e]
  rfl

/-! ### Boxes -/
def tag (k n d : List UInt8) : List UInt8 := (H [wTag, k, n, d]).take 16
theorem tag_len (k n d : List UInt8) : (tag k n d).length = 16 := by unfold tag; rw [List.length_take, H_len]; rfl
/-- A box: nonce, data, tag. -/
structure Bx where
  n : List UInt8
  d : List UInt8
  t : List UInt8
def sealV (k n p : List UInt8) : Bx := ⟨n, mix k n p, tag k n (mix k n p)⟩
def openV (k : List UInt8) (b : Bx) : List UInt8 × Bool := if b.t = tag k b.n b.d then (mix k b.n b.d, true) else ([], false)
theorem open_seal (k n p : List UInt8) : openV k (sealV k n p) = (p, true) := by
  unfold openV sealV
  rw [if_pos rfl, mix_twice]
theorem seal_open (k : List UInt8) (b : Bx) (h : (openV k b).2 = true) : sealV k b.n (openV k b).1 = b := by
  unfold openV at h ⊢
  split at h
  · rename_i ht
    rw [if_pos ht]
    unfold sealV
    rw [mix_twice, ← ht]
  · cases h
theorem open_no (k : List UInt8) (b : Bx) (h : (openV k b).2 = false) : (openV k b).1 = [] := by
  unfold openV at h ⊢
  split at h
  · cases h
  · rename_i ht
    rw [if_neg ht]

/-! ### Wraps -/
structure Wr where
  to : Int
  eph : Int
  box : Bx
def isPub (y : Int) : Prop := 1 ≤ y ∧ y < 2305843009213693951
instance (y : Int) : Decidable (isPub y) := by unfold isPub; exact inferInstance
def isSec (x : Int) : Prop := 1 ≤ x ∧ x < 2305843009213693950
instance (x : Int) : Decidable (isSec x) := by unfold isSec; exact inferInstance
def ephS (y : Int) (seed : List UInt8) : Nat := 1 + S3.num (H [wEph, seed, S5.Sg.encZ y]) % 2305843009213693949
theorem ephS_in (y : Int) (seed : List UInt8) : 1 ≤ ephS y seed ∧ ephS y seed ≤ 2305843009213693949 := by unfold ephS; omega
def wkey (to eph shared : Int) : List UInt8 := H [wWrap, S5.Sg.encZ to, S5.Sg.encZ eph, S5.Sg.encZ shared]
def wrapIn (y : Int) (seed p : List UInt8) : Wr :=
  let e := ephS y seed
  let g : Int := (S5.Sg.pub e : Nat)
  let k := wkey y g (S4.powP y e : Nat)
  ⟨y, g, sealV k (H [wNonce, k]) p⟩
def wrap0 : Wr := ⟨0, 0, ⟨[], [], []⟩⟩
def wrapV (y : Int) (seed p : List UInt8) : Wr × Bool := if isPub y then (wrapIn y seed p, true) else (wrap0, false)
def unwrapV (x : Int) (w : Wr) : List UInt8 × Bool :=
  if isSec x ∧ isPub w.eph ∧ w.to = (S5.Sg.pub x : Nat) then openV (wkey w.to w.eph (S4.powP w.eph x : Nat)) w.box else ([], false)
/-- Both sides compute the same shared integer. -/
theorem shared (x e : Int) : S4.powP ((S5.Sg.pub x : Nat) : Int) e = S4.powP ((S5.Sg.pub e : Nat) : Int) x := by
  have h37 : ¬ (37 : Int) % 2305843009213693951 = 0 := by decide
  unfold S5.Sg.pub
  rw [S4.pow_pow 37 x e h37, S4.pow_pow 37 e x h37, Int.mul_comm]
theorem pub_isPub (x : Int) : isPub (S5.Sg.pub x : Nat) := by
  have h1 := S5.Sg.pub_lt x
  have h2 := S5.Sg.pub_ne x
  unfold isPub
  omega
theorem unwrap_wrap (x : Int) (seed p : List UInt8) (hx : isSec x) : unwrapV x (wrapV (S5.Sg.pub x : Nat) seed p).1 = (p, true) := by
  unfold wrapV
  rw [if_pos (pub_isPub x)]
  unfold unwrapV wrapIn
  dsimp only
  rw [if_pos ⟨hx, pub_isPub _, rfl⟩, shared, open_seal]
end Se
end Go.Proofs.YtgldbfdiebkfiaaDoor
