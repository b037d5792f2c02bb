/-
  ActFields, proved: the given row's statement and, with the given tie, the card: for every input (its arguments and the listed variables read as data) the law returns true and leaves its arguments as they were.
  Conditions: the row's own (the listed variables hold what their initialisers lay).
-/
import Derived.Test.YtojbicpchjiplaaGreatDoorActLFields
import Derived.Test.YtojbicpchjiplaaGreatDoorActOpen
import Derived.Test.YtojbicpchjiplaaGreatDoorActFun
import Derived.Test.YtojbicpchjiplaaGreatDoorCodeKit
import Derived.Test.YtojbicpchjiplaaGreatDoorSumLaid
import Derived.Test.YtojbicpchjiplaaGreatDoorTie
import Derived.Test.YtojbicpchjiplaaGreatDoorCards
import Derived.SizedLaws
import Derived.SevenTiedAt
namespace Go.Proofs.YtojbicpchjiplaaGreatDoor
open Go.ChangeShapes Go.WideShapes Go.ChangeAt Go.WideMaps Go.WideElems Go.RowKit
open Go.ChangeMaps (open_string shut_string)

set_option maxRecDepth 100000 in
theorem actFields_lifted (os : Os) (started : os.Started) (H : Type) (enc : TypeId × Value → H) :
    ReturnsInHanded {} Tryz.checked os 7 .any (fun w args => (Rows.actFieldsSpec.pre enc Tryz.prog Tryz.f7 [] false w args ∧ laidMetH Tryz.prog S3.laidL w) ∧ sizedMet enc Tryz.prog Tryz.f7 (OpenSpec.ofChange Rows.actFieldsSpec) false w args)
      (Rows.actFieldsSpec.post enc Tryz.prog Tryz.f7 false true false false) := by
  refine returnsInHanded_of_change_and (C := Tryz.checked) (X := fun w _ => laidMetH Tryz.prog S3.laidL w) (fun _ _ _ hh h => h.of_heap hh) S3.own started (by kernel_rfl) Tryz.func7
    (ChangeSpec.witness_shaped (enc := enc) (C := Tryz.checked) (os := os) (X := fun w _ => laidMetH Tryz.prog S3.laidL w) false (World.doorLaid Tryz.prog S3.doorSteps os) #[.agg #[.string ⟨#[]⟩, .int .i64 0, .string ⟨#[]⟩, .int .i64 0, .int .i64 0, .string ⟨#[]⟩, .string ⟨#[]⟩, .int .i64 0, .string ⟨#[]⟩, .slice none 0 0, .string ⟨#[]⟩, .string ⟨#[]⟩, .string ⟨#[]⟩, .string ⟨#[]⟩, .int .i64 0, .slice none 0 0, .int .i64 0, .int .i64 0, .int .i64 0, .int .i64 0]] 8 rfl (World.shaped_of_RefB (by kernel_rfl) (by kernel_rfl)) (by kernel_rfl) (by kernel_rfl) (by kernel_rfl) (S3.door_met os _)) ?_
  intro W base args ds gs before hval0 hW _ hsz hL _
  have hval : ∀ (j : Nat) t v, Tryz.f7.params[j]? = some t → args[j]? = some v → Value.okWide Tryz.prog W .any base t v := hval0
  have hW' := hW
  obtain ⟨p, q, hA0, hV, rfl, _, _⟩ := hW
  have hA : DataW.TrodAll enc Tryz.prog W 0 (fun _ => true) true Tryz.f7.params.toList args.toList ds p := hA0
  rw [Tryz.params7] at hA hval
  obtain ⟨l, rfl⟩ : ∃ l : List Value, args = ⟨l⟩ := ⟨args.toList, rfl⟩
  obtain ⟨v0, l0, d0, e0, p0, q0, hl0, rfl, rfl, h0, r0⟩ := trodAll_cons hA
  obtain ⟨hl1, rfl, rfl⟩ := trodAll_nil r0
  have hl : l = [v0] := (show l = v0 :: l0 from hl0).trans (by rw [hl1])
  subst hl
  clear hl0 hl1
  obtain ⟨rfl, rfl⟩ := trodVars_none hV
  have hy0 : ∀ n ∈ d0.weights Tryz.prog 29, n ≤ reachBytes := fun n hn => by simpa using List.all_eq_true.1 hsz _ (DataW.weights_mem_each (j := 0) (t := 29) rfl rfl n hn)
  obtain ⟨a0, e0, s0, A0, nA0, cA0, Q0, nQ0, cQ0, rfl, hp0, hz0⟩ := Ao.openV_Act (hval 0 29 v0 rfl rfl) h0 hy0
  clear hA0 hval0 hval
  have hL2 := S3.laid_of hL
  refine (Ax.fields_walk (Ld.pk W hL2) (Ld.small_ok W hL2) a0 e0 s0 A0 nA0 cA0 Q0 nQ0 cQ0 hp0 hz0).mono fun e W' ⟨he, hg⟩ => ?_
  subst he
  exact ⟨_, rfl, S2.law_post (s := Rows.actFieldsSpec) hW' rfl (by kernel_rfl) rfl rfl rfl (fun t ht => by
    rw [Tryz.params7] at ht
    have hall : (Tryz.f7.params.toList.all fun u => Tryz.prog.readableRec u && decide (u < Tryz.prog.types.size)) = true := by kernel_rfl
    rw [Tryz.params7] at hall
    have h := List.all_eq_true.1 hall t ht
    rw [Bool.and_eq_true] at h
    exact ⟨h.1, of_decide_eq_true h.2⟩) hg⟩

theorem actFields_holds : Rows.ActFieldsSaid :=
  OpenClaim.holds_of_wide 7 Tryz.f7 rfl rfl rfl rfl rfl rfl rfl ⟨rfl, rfl, rfl, rfl, rfl⟩ rfl rfl rfl rfl rfl (by kernel_rfl) Tryz.func7 (by kernel_rfl)
    (of_decide_eq_true (by kernel_rfl)) (by unfold Func.isWrapper; rw [if_neg (of_decide_eq_false (by kernel_rfl))]; exact ⟨rfl, rfl⟩)
    (fun os started H enc _ => actFields_lifted os started H enc)

theorem actFields_card : Rows.ActFieldsCardSaid :=
  Claim7.holds_tied_plain_at .later [] [.data, .data] true (true, "562ef884d8ba3cdb9d9b99d4d5a72881e1b49e495616f4ab06f123b00c742e48") false
    actFields_holds (fun _ h => by cases h) (by kernel_rfl) (fun _ h => by cases h) actFields_row_tie rfl ⟨rfl, rfl⟩ (by kernel_rfl) rfl
    (fun f fn hf hfn => by
      obtain rfl : f = 7 := Option.some.inj ((show Tryz.prog.funcNamed "agora/agoralaw12.ActFields" = some 7 by kernel_rfl).symm.trans hf) |>.symm
      obtain rfl : fn = Tryz.f7 := (Option.some.inj (Tryz.func7.symm.trans hfn)).symm
      exact ⟨by kernel_rfl, fun j t ht => by
        rw [Tryz.params7] at ht
        have hm : t ∈ [29] := by simpa using Array.mem_of_getElem? ht
        have hall : ([29].all fun u => !Tryz.prog.wantsStandIn u) = true := by kernel_rfl
        exact (show Tryz.prog.wantsStandIn t = false by simpa using List.all_eq_true.1 hall t hm)⟩)
    (by kernel_rfl)
#print axioms actFields_card
end Go.Proofs.YtojbicpchjiplaaGreatDoor
