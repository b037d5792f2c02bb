/-
  Layer 5: the package's variadic hash, which joins its parts by the library's strings.Join with the empty separator.
-/
import Derived.Test.YtlcgcpjhmbbgfaaDoorSignLand
import Derived.Test.YtlcgcpjhmbbgfaaDoorShelf
import Derived.Lib.Join
namespace Go.Proofs.YtlcgcpjhmbbgfaaDoor
open Go.RowKit
namespace Sg
attribute [local go_sem] S3.B_size S3.B_app

theorem join_flat (ls : List (List UInt8)) : Go.Lib.join ls [] = ls.flatten := by
  cases ls with
  | nil => rfl
  | cons x r =>
    rw [Go.Lib.join_cons]
    simp [Go.Lib.joinTail]
theorem map_B (ls : List (List UInt8)) : (ls.map S3.B).map (fun b => b.data.toList) = ls := by
  rw [List.map_map]
  induction ls with
  | nil => rfl
  | cons x r ih => rw [List.map_cons, ih]; rfl

/-- strings.Join with the empty separator, of a row of strings in a block. -/
theorem join_ok (bk c : Nat) (ls : List (List UInt8)) (w : World) (hr : ∀ (j : Nat) x, ls[j]? = some x → w.cell? ⟨bk, j, none⟩ = some (.string (S3.B x))) (hbk : bk < w.heap.size) (hc : ls.length ≤ c) (hn : ls.length ≤ 1000) (hl : ls.flatten.length ≤ 4000) :
    Calls Tryd.prog 49 #[.slice (some ⟨bk, 0, none⟩) ls.length c, .string ⟨#[]⟩] w fun e w' => e = .returned (.string (S3.B ls.flatten)) ∧ Below w.heap.size w w' := by
  have h := Tryd.strings_Join bk 0 c (ls.map S3.B) ⟨#[]⟩ w (fun j x hx => by
    rw [List.getElem?_map] at hx
    cases he : ls[j]? with
    | none => rw [he] at hx; exact absurd hx (by simp)
    | some y =>
      rw [he] at hx
      obtain rfl : S3.B y = x := by simpa using hx
      rw [Nat.zero_add]
      exact hr j y he) hbk (by rw [List.length_map]; omega) (by rw [List.length_map]; exact hc) (by
    rw [map_B, show (⟨#[]⟩ : ByteArray).data.toList = [] from rfl, join_flat]
    omega)
  rw [map_B, show (⟨#[]⟩ : ByteArray).data.toList = [] from rfl, join_flat, List.length_map] at h
  exact h

set_option maxHeartbeats 2000000 in
set_option maxRecDepth 100000 in
theorem phash_any (bk c : Nat) (ls : List (List UInt8)) (w : World) (hW : S3.Laid w) (hr : ∀ (j : Nat) x, ls[j]? = some x → w.cell? ⟨bk, j, none⟩ = some (.string (S3.B x))) (hbk : bk < w.heap.size) (hc : ls.length ≤ c) (hn : ls.length ≤ 1000) (hl : ls.flatten.length ≤ 4000) :
    Calls Tryd.prog 29 #[.slice (some ⟨bk, 0, none⟩) ls.length c] w fun e w' => e = .returned (.int .i64 (hash ls.flatten : Nat)) ∧ Below w.heap.size w w' := by
  have k0 := join_ok bk c ls w hr hbk hc hn hl
  have k1 := fun W hW => sha_ok W ls.flatten hW (by omega)
  have k2 := fun W => hnum_ok W (S3.Sha.sha ls.flatten) (by rw [sha_len]; decide)
  rw [hash_eq] at k2
  generalize hash ls.flatten = h at k2 ⊢
  generalize S3.Sha.sha ls.flatten = d at k1 k2
  have K0 := Lib.hid k0
  have K1 := Lib.hid k1
  have K2 := Lib.hid k2
  have HW := Lib.hid hW
  clear k0 k1 k2 hl hW hr hbk hc hn
  go_enter Tryd.func29, Tryd.ntmps29
  go_wp2_with fail
  refine K0.out.mono ?_
  rintro e w1 ⟨rfl, h1⟩
  have G := Lib.hid h1
  clear h1
  go_wp2_with fail
  refine (K1.out _ (laid_below HW.out G.out) _ (Below.refl _ _)).mono ?_
  rintro e w2 ⟨rfl, h1⟩
  replace G := Lib.hid (G.out.trans (h1.mono G.out.size))
  clear h1
  go_wp2_with fail
  refine (K2.out _ _ (Below.refl _ _)).mono ?_
  rintro e w3 ⟨rfl, h1⟩
  replace G := Lib.hid (G.out.trans (h1.mono G.out.size))
  clear h1
  go_wp2
  go_ret
  exact ⟨rfl, G.out⟩
end Sg
end Go.Proofs.YtlcgcpjhmbbgfaaDoor
