/-
  WalAlone, proved: for every input that can be read as data the law returns true and leaves its arguments as they were.
  Conditions: none.
-/
import Derived.Test.YtihanhdepijijaaWalLAlone
import Derived.Test.YtihanhdepijijaaWalArgs
import Derived.Test.YtihanhdepijijaaCodeKit
import Derived.SizedLaws
namespace Go.Proofs.Ytihanhdepijijaa
open Go.ChangeShapes Go.WideShapes Go.ChangeAt Go.WideMaps Go.WideElems Go.RowKit
open Go.ChangeMaps (open_string shut_string)

set_option maxRecDepth 100000 in
theorem walAlone_lifted (os : Os) (started : os.Started) (H : Type) (enc : TypeId × Value → H) :
    ReturnsInHanded {} Try.checked os 6 .any (Rows.walAloneSpec.pre6 enc Try.prog Try.f6 Rows.walAloneRow.domain false) (Rows.walAloneSpec.post enc Try.prog Try.f6 false true false false) := by
  refine returnsInHanded_of_change_sized (C := Try.checked) S2.own started (by kernel_rfl) Try.func6
    (ChangeSpec.witness6 (enc := enc) (C := Try.checked) false ⟨#[], #[.slice none 0 0, .slice none 0 0], []⟩ 8 (by kernel_rfl) (by kernel_rfl) (by kernel_rfl) (by kernel_rfl)) ?_
  intro W base args ds gs before hval0 hW _ hsz _
  have hval : ∀ (j : Nat) t v, Try.f6.params[j]? = some t → args[j]? = some v → Value.okWide Try.prog W .any base t v := hval0
  have hW' := hW
  obtain ⟨p, q, hA0, hV, rfl, _, _⟩ := hW
  have hA : DataW.TrodAll enc Try.prog W 0 (fun _ => true) true Try.f6.params.toList args.toList ds p := hA0
  obtain ⟨rfl, rfl⟩ := trodVars_none hV
  rw [Try.params6] at hA hval
  obtain ⟨v0, v1, d0, d1, p0, p1, rfl, rfl, rfl, h0, h1⟩ := trodAll_two hA
  have hz0 : ∀ n ∈ d0.weights Try.prog 32, n ≤ reachBytes := fun n hn => by simpa using List.all_eq_true.1 hsz _ (DataW.weights_mem_each (j := 0) (t := 32) rfl rfl n hn)
  obtain ⟨sa0, sl0, sc0, rfl⟩ := okWide_slice Try.underlying32 (hval 0 32 v0 rfl rfl)
  obtain ⟨fu0, hf0⟩ := h0
  obtain ⟨B0, c0, z0, hv0, R0, m0, k0, q0⟩ := Wl.open_strs_c (enc := enc) (w := W) (fuel := fu0) (v := .slice sa0 sl0 sc0) hf0 hz0
  rw [hv0] at hW'
  rw [hv0]
  have hz1 : ∀ n ∈ d1.weights Try.prog 32, n ≤ reachBytes := fun n hn => by simpa using List.all_eq_true.1 hsz _ (DataW.weights_mem_each (j := 1) (t := 32) rfl rfl n hn)
  obtain ⟨sa1, sl1, sc1, rfl⟩ := okWide_slice Try.underlying32 (hval 1 32 v1 rfl rfl)
  obtain ⟨fu1, hf1⟩ := h1
  obtain ⟨B1, c1, z1, hv1, R1, m1, k1, q1⟩ := Wl.open_strs_c (enc := enc) (w := W) (fuel := fu1) (v := .slice sa1 sl1 sc1) hf1 hz1
  rw [hv1] at hW'
  rw [hv1]
  clear hA0 hval0 hval
  refine (Wl.alone_walk z0 B0 z0.length c0 rfl m0 k0 z1 B1 z1.length c1 rfl m1 k1 q1 W R0 R1).mono fun e W' ⟨he, hg⟩ => ?_
  subst he
  exact ⟨_, rfl, S2.law_post (s := Rows.walAloneSpec) hW' rfl (by kernel_rfl) rfl rfl rfl (fun t ht => by
    rw [Try.params6] at ht
    have hall : (Try.f6.params.toList.all fun u => Try.prog.readableRec u && decide (u < Try.prog.types.size)) = true := by kernel_rfl
    rw [Try.params6] at hall
    have h := List.all_eq_true.1 hall t ht
    rw [Bool.and_eq_true] at h
    exact ⟨h.1, of_decide_eq_true h.2⟩) hg⟩

theorem walAlone_holds : Rows.WalAloneSaid :=
  OpenClaim.holds_of_wide 6 Try.f6 rfl rfl rfl rfl rfl rfl rfl ⟨rfl, rfl, rfl, rfl, rfl⟩ rfl rfl rfl rfl rfl (by kernel_rfl) Try.func6 (by kernel_rfl)
    (of_decide_eq_true (by kernel_rfl)) (by unfold Func.isWrapper; first | (rw [if_pos (by decide +kernel)]; kernel_rfl) | (rw [if_neg (by decide +kernel)]; exact ⟨rfl, rfl⟩))
    (fun os started H enc _ => walAlone_lifted os started H enc)
#print axioms walAlone_holds
end Go.Proofs.Ytihanhdepijijaa
