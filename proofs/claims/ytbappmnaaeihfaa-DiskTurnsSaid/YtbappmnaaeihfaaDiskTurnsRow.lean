/-
  DiskTurns, proved: for every input that can be read as data the law returns true and leaves its arguments as they were.
  Conditions: none.
-/
import Derived.Test.YtbappmnaaeihfaaDiskLTurns
import Derived.Test.YtbappmnaaeihfaaDiskOpen
import Derived.Test.YtbappmnaaeihfaaCodeKit
import Derived.SizedLaws
namespace Go.Proofs.Ytbappmnaaeihfaa
open Go.ChangeShapes Go.WideShapes Go.ChangeAt Go.WideMaps Go.WideElems Go.RowKit
open Go.ChangeMaps (open_string shut_string)

set_option maxRecDepth 100000 in
theorem diskTurns_lifted (os : Os) (started : os.Started) (H : Type) (enc : TypeId × Value → H) :
    ReturnsInHanded {} Try.checked os 5 .any (Rows.diskTurnsSpec.pre6 enc Try.prog Try.f5 Rows.diskTurnsRow.domain false) (Rows.diskTurnsSpec.post enc Try.prog Try.f5 false true false false) := by
  refine returnsInHanded_of_change_sized (C := Try.checked) S2.own started (by kernel_rfl) Try.func5
    (ChangeSpec.witness6 (enc := enc) (C := Try.checked) false ⟨#[], #[.string ⟨#[]⟩, .string ⟨#[]⟩, .int .i64 0, .slice none 0 0], []⟩ 8 (by kernel_rfl) (by kernel_rfl) (by kernel_rfl) (by kernel_rfl)) ?_
  intro W base args ds gs before hval0 hW _ hsz _
  have hval : ∀ (j : Nat) t v, Try.f5.params[j]? = some t → args[j]? = some v → Value.okWide Try.prog W .any base t v := hval0
  have hW' := hW
  obtain ⟨p, q, hA0, hV, rfl, _, _⟩ := hW
  have hA : DataW.TrodAll enc Try.prog W 0 (fun _ => true) true Try.f5.params.toList args.toList ds p := hA0
  obtain ⟨rfl, rfl⟩ := trodVars_none hV
  rw [Try.params5] at hA hval
  obtain ⟨v0, v1, v2, v3, d0, d1, d2, d3, p0, p1, p2, p3, rfl, rfl, rfl, h0, h1, h2, h3⟩ := trodAll_four hA
  obtain ⟨x0, rfl, rfl, rfl, ws0⟩ := open_string Try.underlying9 (hval 0 9 v0 rfl rfl) h0
  have hl0 : x0.data.toList.length ≤ 140737488355328 := by have := sized_string hsz (j := 0) (t := 9) rfl rfl; have := reachBytes_lt; omega
  obtain ⟨x1, rfl, rfl, rfl, ws1⟩ := open_string Try.underlying9 (hval 1 9 v1 rfl rfl) h1
  have hl1 : x1.data.toList.length ≤ 140737488355328 := by have := sized_string hsz (j := 1) (t := 9) rfl rfl; have := reachBytes_lt; omega
  obtain ⟨x2, rfl, rfl, rfl, wx2⟩ := open_int Try.underlying3 (hval 2 3 v2 rfl rfl) h2
  have hx2 := bounds_i64 wx2
  have hz3 : ∀ n ∈ d3.weights Try.prog 23, n ≤ reachBytes := fun n hn => by simpa using List.all_eq_true.1 hsz _ (DataW.weights_mem_each (j := 3) (t := 23) rfl rfl n hn)
  obtain ⟨sa3, sl3, sc3, rfl⟩ := okWide_slice Try.underlying23 (hval 3 23 v3 rfl rfl)
  obtain ⟨fu3, hf3⟩ := h3
  obtain ⟨B3, c3, z3, hv3, R3, m3, k3⟩ := Dk.open_ints_ (enc := enc) (w := W) (fuel := fu3) (v := .slice sa3 sl3 sc3) hf3 hz3
  rw [hv3] at hW'
  rw [hv3]
  clear hA0 hval0 hval
  refine (Dk.turns_walk x0.data.toList x1.data.toList x2 z3 B3 z3.length c3 (Nat.le_trans hl0 (by decide)) (Nat.le_trans hl1 (by decide)) rfl k3 W R3).mono fun e W' ⟨he, hg⟩ => ?_
  subst he
  exact ⟨_, rfl, S2.law_post (s := Rows.diskTurnsSpec) hW' rfl (by kernel_rfl) rfl rfl rfl (fun t ht => by
    rw [Try.params5] at ht
    have hall : (Try.f5.params.toList.all fun u => Try.prog.readableRec u && decide (u < Try.prog.types.size)) = true := by kernel_rfl
    rw [Try.params5] at hall
    have h := List.all_eq_true.1 hall t ht
    rw [Bool.and_eq_true] at h
    exact ⟨h.1, of_decide_eq_true h.2⟩) hg⟩

theorem diskTurns_holds : Rows.DiskTurnsSaid :=
  OpenClaim.holds_of_wide 5 Try.f5 rfl rfl rfl rfl rfl rfl rfl ⟨rfl, rfl, rfl, rfl, rfl⟩ rfl rfl rfl rfl rfl (by kernel_rfl) Try.func5 (by kernel_rfl)
    (of_decide_eq_true (by kernel_rfl)) (by unfold Func.isWrapper; first | (rw [if_pos (by decide +kernel)]; kernel_rfl) | (rw [if_neg (by decide +kernel)]; exact ⟨rfl, rfl⟩))
    (fun os started H enc _ => diskTurns_lifted os started H enc)
#print axioms diskTurns_holds
end Go.Proofs.Ytbappmnaaeihfaa
