/-
  SignMath, SignBase: joined.
-/
import Derived.Test.YtojbicpchjiplaaGreatDoorGroupPow
import Derived.Test.YtojbicpchjiplaaGreatDoorCodePut
import Derived.Test.YtojbicpchjiplaaGreatDoorSumNumAny
import Derived.Test.YtojbicpchjiplaaGreatDoorSumEat
import Derived.Test.YtojbicpchjiplaaGreatDoorSumShaAny
import Derived.Test.YtojbicpchjiplaaGreatDoorSumRefSum
/-
  Layer 5: what the functions return, in plain Lean: the hash, secrets, challenges, keys, signatures; and the group's laws under them.
-/
namespace Go.Proofs.YtojbicpchjiplaaGreatDoor.S5
open Go.RowKit
namespace Sg

theorem num_lt (l : List UInt8) : S3.num l < 2305843009213693952 := by
  have := S3.pre_lt l 8
  rw [show (256 : Nat) ^ 8 = 18446744073709551616 from rfl] at this
  unfold S3.num
  omega
/-- The hash of a string. -/
def hash (l : List UInt8) : Nat := S3.num (S3.Sha.sha l)
theorem hash_lt (l : List UInt8) : hash l < 2305843009213693952 := num_lt _
/-- A hash reduced to a secret. -/
def sec (l : List UInt8) : Nat := 1 + hash l % 2305843009213693949
theorem sec_lt (l : List UInt8) : 1 ≤ sec l ∧ sec l ≤ 2305843009213693949 := by unfold sec; omega
/-- The encoding of an integer. -/
def encZ (n : Int) : List UInt8 := if n < 0 then [] else S2.Cd.encN n.toNat
theorem encZ_len (n : Int) : (encZ n).length ≤ 9 := by
  unfold encZ
  split
  · simp
  · exact S2.Cd.encN_len _
def tSign : List UInt8 := S2.Cd.encT [115, 105, 103, 110]
def tNonce : List UInt8 := S2.Cd.encT [110, 111, 110, 99, 101]
/-- The string of a challenge. -/
def chalS (r y : Int) (m : List UInt8) : List UInt8 := tSign ++ encZ r ++ encZ y ++ S2.Cd.encT m
def chal (r y : Int) (m : List UInt8) : Nat := hash (chalS r y m) % 2305843009213693950
theorem chal_lt (r y : Int) (m : List UInt8) : chal r y m < 2305843009213693950 := Nat.mod_lt _ (by decide)
/-- The power of 37. -/
def pub (x : Int) : Nat := S4.powP 37 x
theorem pub_lt (x : Int) : pub x < 2305843009213693951 := S4.powP_lt 37 x
theorem pub_ne (x : Int) : pub x ≠ 0 := S4.powP_ne 37 x (by decide)
/-- Of: the secret and the public integer. -/
def ofV (x : Int) : Int × Int := if 1 ≤ x ∧ x ≤ 2305843009213693949 then (x, (pub x : Nat)) else (0, 0)
def Rt (x y : Int) : Prop := 1 ≤ x ∧ x ≤ 2305843009213693949 ∧ y = (pub x : Nat)
instance (x y : Int) : Decidable (Rt x y) := by unfold Rt; exact inferInstance
theorem ofV_right (x y : Int) : (1 ≤ x ∧ (x, y) = ofV x) ↔ Rt x y := by
  unfold ofV Rt
  constructor
  · rintro ⟨h1, h2⟩
    split at h2
    · rename_i h
      injection h2 with _ h3
      exact ⟨h.1, h.2, h3⟩
    · injection h2 with h3 _
      omega
  · rintro ⟨h1, h2, h3⟩
    rw [if_pos ⟨h1, h2⟩, h3]
    exact ⟨h1, rfl⟩
def nonS (x : Int) (m : List UInt8) : List UInt8 := tNonce ++ encZ x ++ S2.Cd.encT m
def non (x : Int) (m : List UInt8) : Nat := sec (nonS x m)
/-- The signature with a nonce. -/
def sigU (x y : Int) (u : Int) (m : List UInt8) : Int × Int := (chal (pub u : Nat) y m, (u + (chal (pub u : Nat) y m : Nat) * x % 2305843009213693950) % 2305843009213693950)
def signV (x y : Int) (m : List UInt8) : Int × Int := if Rt x y then sigU x y (non x m : Nat) m else (0, 0)
def comm (y E S : Int) : Int := (pub S : Nat) * (S4.powP y (2305843009213693950 - E) : Nat) % 2305843009213693951
def Rg (y E S : Int) : Prop := 1 ≤ y ∧ y ≤ 2305843009213693950 ∧ 0 ≤ E ∧ E ≤ 2305843009213693949 ∧ 0 ≤ S ∧ S ≤ 2305843009213693949
instance (y E S : Int) : Decidable (Rg y E S) := by unfold Rg; exact inferInstance
def verV (y : Int) (m : List UInt8) (E S : Int) : Bool := decide (Rg y E S ∧ (chal (comm y E S) y m : Int) = E)

/-! ### The group's laws -/
/-- The commitment of a response to a challenge e, with the secret x and the nonce u, is the nonce's power. -/
theorem comm_of (x u e : Int) : comm (pub x : Nat) e ((u + e * x % 2305843009213693950) % 2305843009213693950) = (pub u : Nat) := by
  have h37 : ¬ (37 : Int) % 2305843009213693951 = 0 := by decide
  unfold comm pub
  rw [S4.pow_pow 37 x _ h37, S4.pow_sum 37 _ _ h37]
  refine congrArg (fun n : Nat => (n : Int)) (S4.pow_same 37 _ _ h37 ?_)
  rw [Int.emod_emod, Int.mul_sub, Int.mul_comm x e]
  generalize e * x = p
  omega
theorem sig_holds (x y u : Int) (m : List UInt8) (h : Rt x y) : verV y m (sigU x y u m).1 (sigU x y u m).2 = true := by
  obtain ⟨_, _, rfl⟩ := h
  have hc := chal_lt (pub u : Nat) (pub x : Nat) m
  have h1 := pub_lt x
  have h2 := pub_ne x
  unfold verV sigU
  apply decide_eq_true
  refine ⟨⟨by omega, by omega, by omega, by omega, ?_, ?_⟩, ?_⟩
  · exact Int.emod_nonneg _ (by decide)
  · have := Int.emod_lt_of_pos (u + (chal (pub u : Nat) (pub x : Nat) m : Nat) * x % 2305843009213693950) (show (0 : Int) < 2305843009213693950 by decide)
    show (u + (chal (pub u : Nat) (pub x : Nat) m : Nat) * x % 2305843009213693950) % 2305843009213693950 ≤ 2305843009213693949
    omega
  · show (chal (comm (pub x : Nat) (chal (pub u : Nat) (pub x : Nat) m : Nat) ((u + (chal (pub u : Nat) (pub x : Nat) m : Nat) * x % 2305843009213693950) % 2305843009213693950)) (pub x : Nat) m : Int) = _
    rw [comm_of]
end Sg
end Go.Proofs.YtojbicpchjiplaaGreatDoor.S5

/-
  Layer 5: the contracts of the layers below in one form: whatever the world that only grew above W, the call hands back the value, and the world has only grown.
-/
namespace Go.Proofs.YtojbicpchjiplaaGreatDoor.S5
open Go.RowKit

namespace Sg
/-- The call hands back v, in whatever world that has only grown above W's heap. -/
def Ok (W : World) (f : Nat) (args : Array Value) (v : Value) : Prop := ∀ w, Below W.heap.size W w → Calls Tryz.prog f args w fun e w' => e = .returned v ∧ Below W.heap.size W w'
theorem Ok.same {W : World} {f : Nat} {args : Array Value} {v : Value} (h : ∀ w, Calls Tryz.prog f args w fun e w' => e = .returned v ∧ w' = w) : Ok W f args v :=
  fun w hb => (h w).mono fun _ _ h => ⟨h.1, by rw [h.2]; exact hb⟩
theorem Ok.drew {W : World} {f : Nat} {args : Array Value} {v : Value} (h : ∀ w, Calls Tryz.prog f args w fun e w' => e = .returned v ∧ S4.Drew w w') : Ok W f args v :=
  fun w hb => (h w).mono fun _ _ h => ⟨h.1, by obtain ⟨n, rfl⟩ := h.2; exact ⟨hb.1, hb.2, hb.3, hb.4, hb.5⟩⟩
theorem Ok.grown {W : World} {f : Nat} {args : Array Value} {v : Value} (h : ∀ w, Calls Tryz.prog f args w fun e w' => e = .returned v ∧ Below w.heap.size w w') : Ok W f args v :=
  fun w hb => (h w).mono fun _ _ h => ⟨h.1, hb.trans (h.2.mono hb.size)⟩

def isI (n : Int) : Prop := S4.isI64 n

/-! ### Layer 2 -/
theorem text_ok (W : World) (s : List UInt8) (h : s.length ≤ 1099511627776) : Ok W 55 #[.string (S3.B s)] (.string (S3.B (S2.Cd.encT s))) := Ok.grown fun w => S2.cText_any s w h
theorem num_ok (W : World) (n : Int) (h : isI n) : Ok W 56 #[.int .i64 n] (.string (S3.B (encZ n))) := Ok.grown fun w => by
  unfold isI S4.isI64 at h
  unfold encZ
  by_cases hn : n < 0
  · rw [if_pos hn]
    exact S2.cNum_neg n w hn
  · rw [if_neg hn]
    obtain ⟨m, rfl⟩ := Int.eq_ofNat_of_zero_le (show 0 ≤ n by omega)
    exact S2.cNum_any m w (by omega)
/-! ### Layer 3 -/
theorem sha_ok (W : World) (l : List UInt8) (hW : S3.Laid W) (h : l.length ≤ 281474976710656) : Ok W 136 #[.string (S3.B l)] (.string (S3.B (S3.Sha.sha l))) := fun w hb => S3.sha_any W w l h hW hb
theorem hnum_ok (W : World) (l : List UInt8) (h : l.length ≤ 1099511627776) : Ok W 135 #[.string (S3.B l)] (.int .i64 (S3.num l : Nat)) := Ok.same fun w => (S3.num_any l w (by omega)).mono fun _ _ h => ⟨h.1, h.2.symm⟩
theorem flat_len : ∀ l : List (BitVec 32), (l.flatMap S3.Sha.be).length = 4 * l.length
  | [] => rfl
  | x :: t => by
    rw [List.flatMap_cons, List.length_append, flat_len t, List.length_cons]
    simp [S3.Sha.be]
    omega
theorem sha_len (l : List UInt8) : (S3.Sha.sha l).length = 32 := by
  unfold S3.Sha.sha
  rw [flat_len, S3.blocks_length]

/-! ### Layer 4 -/
theorem exp_ok (W : World) (a e : Int) (ha : isI a) (he : isI e) : Ok W 67 #[.int .i64 a, .int .i64 e] (.int .i64 (S4.powP a e : Nat)) := Ok.drew fun w => S4.exp_any a e w ha he
theorem mul_ok (W : World) (a b : Int) (ha : isI a) (hb : isI b) : Ok W 66 #[.int .i64 a, .int .i64 b] (.int .i64 (a * b % 2305843009213693951)) := Ok.drew fun w => S4.mul_any a b w ha hb
theorem addN_ok (W : World) (a b : Int) (ha : isI a) (hb : isI b) : Ok W 85 #[.int .i64 a, .int .i64 b] (.int .i64 ((a + b) % 2305843009213693950)) := Ok.same fun w => S4.addN_any a b w ha hb
theorem mulN_ok (W : World) (a b : Int) (ha : isI a) (hb : isI b) : Ok W 86 #[.int .i64 a, .int .i64 b] (.int .i64 (a * b % 2305843009213693950)) := Ok.drew fun w => S4.mulN_any a b w ha hb
end Sg
end Go.Proofs.YtojbicpchjiplaaGreatDoor.S5
