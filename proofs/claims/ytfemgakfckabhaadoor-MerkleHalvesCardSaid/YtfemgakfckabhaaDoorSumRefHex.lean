/-
  Layer 3: the document's own Hex (agoraref03).
-/
import Derived.Test.YtfemgakfckabhaaDoorSumMem
namespace Go.Proofs.YtfemgakfckabhaaDoor.S3
open Go.RowKit
attribute [local go_sem] B_size B_drop' B_take B_list B_app

/-- The digit of a number below 16. -/
def hexd (n : Nat) : UInt8 := UInt8.ofNat (if n < 10 then 48 + n else 87 + n)
/-- The digits of a list of bytes. -/
def hex : List UInt8 → List UInt8
  | [] => []
  | b :: l => hexd (b.toNat / 16) :: hexd (b.toNat % 16) :: hex l
theorem hex_length (l : List UInt8) : (hex l).length = 2 * l.length := by
  induction l with
  | nil => rfl
  | cons b l ih => simp only [hex, List.length_cons, ih]; omega
theorem hex_append (l m : List UInt8) : hex (l ++ m) = hex l ++ hex m := by
  induction l with
  | nil => rfl
  | cons b l ih => simp only [hex, List.cons_append, ih]
theorem hex_succ (l : List UInt8) (k : Nat) (h : k < l.length) : hex (l.take (k + 1)) = hex (l.take k) ++ [hexd (l[k].toNat / 16), hexd (l[k].toNat % 16)] := by
  rw [List.take_succ_eq_append_getElem h, hex_append]; rfl
theorem hexd_lit (n : Nat) (h : n < 16) : ∀ h2, ((⟨#[48, 49, 50, 51, 52, 53, 54, 55, 56, 57, 97, 98, 99, 100, 101, 102]⟩ : ByteArray)[n]'h2).toNat = (hexd n).toNat := by
  have : ∀ n : Fin 16, ((⟨#[48, 49, 50, 51, 52, 53, 54, 55, 56, 57, 97, 98, 99, 100, 101, 102]⟩ : ByteArray)[n.1]'n.2).toNat = (hexd n.1).toNat := by decide
  exact fun _ => this ⟨n, h⟩

end Go.Proofs.YtfemgakfckabhaaDoor.S3
