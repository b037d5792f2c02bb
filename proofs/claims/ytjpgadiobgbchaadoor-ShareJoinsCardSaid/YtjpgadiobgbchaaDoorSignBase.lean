/-
  Layer 5: the contracts of the layers below in one form: whatever the world that only grew above W, the call hands back the value, and the world has only grown.
-/
import Derived.Test.YtjpgadiobgbchaaDoorSignMath
import Derived.Test.YtjpgadiobgbchaaDoorCodePut
import Derived.Test.YtjpgadiobgbchaaDoorCodeRef
import Derived.Test.YtjpgadiobgbchaaDoorSumShaAny
import Derived.Test.YtjpgadiobgbchaaDoorSumNumAny
import Derived.Test.YtjpgadiobgbchaaDoorSumRefSum
import Derived.Test.YtjpgadiobgbchaaDoorGroupPow
namespace Go.Proofs.YtjpgadiobgbchaaDoor.S5
open Go.RowKit

namespace Sg
/-- The call hands back v, in whatever world that has only grown above W's heap. -/
def Ok (W : World) (f : Nat) (args : Array Value) (v : Value) : Prop := ∀ w, Below W.heap.size W w → Calls Tryd.prog f args w fun e w' => e = .returned v ∧ Below W.heap.size W w'
theorem Ok.same {W : World} {f : Nat} {args : Array Value} {v : Value} (h : ∀ w, Calls Tryd.prog f args w fun e w' => e = .returned v ∧ w' = w) : Ok W f args v :=
  fun w hb => (h w).mono fun _ _ h => ⟨h.1, by rw [h.2]; exact hb⟩
theorem Ok.drew {W : World} {f : Nat} {args : Array Value} {v : Value} (h : ∀ w, Calls Tryd.prog f args w fun e w' => e = .returned v ∧ S4.Drew w w') : Ok W f args v :=
  fun w hb => (h w).mono fun _ _ h => ⟨h.1, by obtain ⟨n, rfl⟩ := h.2; exact ⟨hb.1, hb.2, hb.3, hb.4, hb.5⟩⟩
theorem Ok.grown {W : World} {f : Nat} {args : Array Value} {v : Value} (h : ∀ w, Calls Tryd.prog f args w fun e w' => e = .returned v ∧ Below w.heap.size w w') : Ok W f args v :=
  fun w hb => (h w).mono fun _ _ h => ⟨h.1, hb.trans (h.2.mono hb.size)⟩

def isI (n : Int) : Prop := S4.isI64 n

/-! ### Layer 2 -/
theorem text_ok (W : World) (s : List UInt8) (h : s.length ≤ 1099511627776) : Ok W 40 #[.string (S3.B s)] (.string (S3.B (S2.Cd.encT s))) := Ok.grown fun w => S2.cText_any s w h
theorem rtext_ok (W : World) (s : List UInt8) (h : s.length ≤ 1099511627776) : Ok W 42 #[.string (S3.B s)] (.string (S3.B (S2.Cd.encT s))) := Ok.grown fun w => S2.refText_any s w h
theorem num_ok (W : World) (n : Int) (h : isI n) : Ok W 41 #[.int .i64 n] (.string (S3.B (encZ n))) := Ok.grown fun w => by
  unfold isI S4.isI64 at h
  unfold encZ
  by_cases hn : n < 0
  · rw [if_pos hn]
    exact S2.cNum_neg n w hn
  · rw [if_neg hn]
    obtain ⟨m, rfl⟩ := Int.eq_ofNat_of_zero_le (show 0 ≤ n by omega)
    exact S2.cNum_any m w (by omega)
theorem rnum_ok (W : World) (n : Int) (h : isI n) : Ok W 43 #[.int .i64 n] (.string (S3.B (encZ n))) := Ok.grown fun w => by
  unfold isI S4.isI64 at h
  unfold encZ
  by_cases hn : n < 0
  · rw [if_pos hn]
    exact S2.refNum_neg n w hn
  · rw [if_neg hn]
    exact S2.refNum_i n w (by omega) h.2

/-! ### Layer 3 -/
theorem sha_ok (W : World) (l : List UInt8) (hW : S3.Laid W) (h : l.length ≤ 281474976710656) : Ok W 39 #[.string (S3.B l)] (.string (S3.B (S3.Sha.sha l))) := fun w hb => S3.sha_any W w l h hW hb
theorem rsha_ok (W : World) (l : List UInt8) (h : l.length ≤ 4000) : Ok W 46 #[.string (S3.B l)] (.string (S3.B (S3.Sha.sha l))) := Ok.grown fun w => S3.refSha_any l w h
theorem hnum_ok (W : World) (l : List UInt8) (h : l.length ≤ 1099511627776) : Ok W 38 #[.string (S3.B l)] (.int .i64 (S3.num l : Nat)) := Ok.same fun w => (S3.num_any l w (by omega)).mono fun _ _ h => ⟨h.1, h.2.symm⟩
theorem rhnum_ok (W : World) (l : List UInt8) (h : l.length ≤ 1099511627776) : Ok W 45 #[.string (S3.B l)] (.int .i64 (S3.num l : Nat)) := Ok.same fun w => (S3.refNum_any l w h).mono fun _ _ h => ⟨h.1, h.2.symm⟩
theorem flat_len : ∀ l : List (BitVec 32), (l.flatMap S3.Sha.be).length = 4 * l.length
  | [] => rfl
  | x :: t => by
    rw [List.flatMap_cons, List.length_append, flat_len t, List.length_cons]
    simp [S3.Sha.be]
    omega
theorem sha_len (l : List UInt8) : (S3.Sha.sha l).length = 32 := by
  unfold S3.Sha.sha
  rw [flat_len, S3.blocks_length]

/-! ### Layer 4 -/
theorem exp_ok (W : World) (a e : Int) (ha : isI a) (he : isI e) : Ok W 34 #[.int .i64 a, .int .i64 e] (.int .i64 (S4.powP a e : Nat)) := Ok.drew fun w => S4.exp_any a e w ha he
theorem mul_ok (W : World) (a b : Int) (ha : isI a) (hb : isI b) : Ok W 21 #[.int .i64 a, .int .i64 b] (.int .i64 (a * b % 2305843009213693951)) := Ok.drew fun w => S4.mul_any a b w ha hb
theorem rmul_ok (W : World) (a b : Int) : Ok W 28 #[.int .i64 a, .int .i64 b] (.int .i64 (a * b % 2305843009213693951)) := Ok.same fun w => S4.refMul_any a b w
end Sg
end Go.Proofs.YtjpgadiobgbchaaDoor.S5
