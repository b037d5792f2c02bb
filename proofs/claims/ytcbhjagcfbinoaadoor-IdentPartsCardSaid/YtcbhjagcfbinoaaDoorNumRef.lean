/-
  The document's own answer for layer 1 (agoraref01): the walks of its functions.
-/
import Derived.Test.YtcbhjagcfbinoaaDoorNumLaw
namespace Go.Proofs.YtcbhjagcfbinoaaDoor.S1
open Go.RowKit

theorem lim_hi (x : Int) (h : 1125899906842624 ≤ x) : lim x = 1125899906842624 := by unfold lim; rw [if_neg (by omega)]; split <;> omega
theorem lim_lo (x : Int) (h : x ≤ -1125899906842624) : lim x = -1125899906842624 := by unfold lim; rw [if_neg (c := 1125899906842624 < x) (by omega)]; split <;> omega
theorem lim_mid (x : Int) (h0 : -1125899906842624 ≤ x) (h1 : x ≤ 1125899906842624) : lim x = x := by unfold lim; rw [if_neg (by omega), if_neg (by omega)]

theorem mg_nn (n : Int) : 0 ≤ mg n := by unfold mg; omega
theorem mg_zero (n : Int) : mg n = 0 ↔ n = 0 := by unfold mg; omega
theorem lim_big (s : Bool) (p : Int) (h : 1125899906842624 < p) : lim (if s = true then -1125899906842624 else 1125899906842624) = lim (if s = true then -p else p) := by
  cases s
  · simp only [Bool.false_eq_true, if_false]; rw [lim_hi _ (by omega), lim_hi _ (by omega)]
  · simp only [if_true]; rw [lim_lo _ (by omega), lim_lo _ (by omega)]
end Go.Proofs.YtcbhjagcfbinoaaDoor.S1
