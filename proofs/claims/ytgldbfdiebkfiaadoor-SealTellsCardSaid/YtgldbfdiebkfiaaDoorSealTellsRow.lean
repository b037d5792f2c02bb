/-
  SealTells, proved: the given row's statement and, with the given tie, the card: for every input (its arguments and the listed variables read as data) the law returns true and leaves its arguments as they were.
  Conditions: the row's own (the listed variables hold what their initialisers lay).
-/
import Derived.Test.YtgldbfdiebkfiaaDoorSealTells
import Derived.Test.YtgldbfdiebkfiaaDoorSealOpen
import Derived.Test.YtgldbfdiebkfiaaDoorSealFun
import Derived.Test.YtgldbfdiebkfiaaDoorCodeKit
import Derived.Test.YtgldbfdiebkfiaaDoorSumLaid
import Derived.Test.YtgldbfdiebkfiaaDoorTie
import Derived.Test.YtgldbfdiebkfiaaDoorCards
import Derived.SizedLaws
import Derived.SevenTiedAt
namespace Go.Proofs.YtgldbfdiebkfiaaDoor
open Go.ChangeShapes Go.WideShapes Go.ChangeAt Go.WideMaps Go.WideElems Go.RowKit
open Go.ChangeMaps (open_string shut_string)

set_option maxRecDepth 100000 in
theorem sealTells_lifted (os : Os) (started : os.Started) (H : Type) (enc : TypeId × Value → H) :
    ReturnsInHanded {} Tryd.checked os 3 .any (fun w args => (Rows.sealTellsSpec.pre enc Tryd.prog Tryd.f3 [] false w args ∧ laidMetH Tryd.prog S3.laidL w) ∧ sizedMet enc Tryd.prog Tryd.f3 (OpenSpec.ofChange Rows.sealTellsSpec) false w args)
      (Rows.sealTellsSpec.post enc Tryd.prog Tryd.f3 false true false false) := by
  refine returnsInHanded_of_change_and (C := Tryd.checked) (X := fun w _ => laidMetH Tryd.prog S3.laidL w) (fun _ _ _ hh h => h.of_heap hh) S3.own started (by kernel_rfl) Tryd.func3
    (ChangeSpec.witness_shaped (enc := enc) (C := Tryd.checked) (os := os) (X := fun w _ => laidMetH Tryd.prog S3.laidL w) false (World.doorLaid Tryd.prog S3.doorSteps os) #[.agg #[.string ⟨#[]⟩, .string ⟨#[]⟩, .string ⟨#[]⟩, .string ⟨#[]⟩, .string ⟨#[]⟩, .string ⟨#[]⟩, .int .i64 0, .int .i64 0, .int .i64 0, .int .i64 0, .string ⟨#[]⟩, .string ⟨#[]⟩, .string ⟨#[]⟩]] 8 rfl (World.shaped_of_RefB (by kernel_rfl) (by kernel_rfl)) (by kernel_rfl) (by kernel_rfl) (by kernel_rfl) (S3.door_met os _)) ?_
  intro W base args ds gs before hval0 hW _ hsz hL _
  have hval : ∀ (j : Nat) t v, Tryd.f3.params[j]? = some t → args[j]? = some v → Value.okWide Tryd.prog W .any base t v := hval0
  have hW' := hW
  obtain ⟨p, q, hA0, hV, rfl, _, _⟩ := hW
  have hA : DataW.TrodAll enc Tryd.prog W 0 (fun _ => true) true Tryd.f3.params.toList args.toList ds p := hA0
  rw [Tryd.params3] at hA hval
  obtain ⟨l, rfl⟩ : ∃ l : List Value, args = ⟨l⟩ := ⟨args.toList, rfl⟩
  obtain ⟨v0, l0, d0, e0, p0, q0, hl0, rfl, rfl, h0, r0⟩ := trodAll_cons hA
  obtain ⟨hl1, rfl, rfl⟩ := trodAll_nil r0
  have hl : l = [v0] := (show l = v0 :: l0 from hl0).trans (by rw [hl1])
  subst hl
  clear hl0 hl1
  obtain ⟨rfl, rfl⟩ := trodVars_none hV
  have hz0 : ∀ n ∈ d0.weights Tryd.prog 27, n ≤ reachBytes := fun n hn => by simpa using List.all_eq_true.1 hsz _ (DataW.weights_mem_each (j := 0) (t := 27) rfl rfl n hn)
  obtain ⟨a0_0, a0_1, a0_2, a0_3, a0_4, a0_5, a0_6, a0_7, a0_8, a0_9, a0_10, a0_11, a0_12, rfl, p0_0, p0_1, p0_2, p0_3, p0_4, p0_5, p0_6, p0_7, p0_8, p0_9, p0_10, p0_11, p0_12⟩ := Se.openV_Case (hval 0 27 v0 rfl rfl) h0 hz0
  clear hA0 hval0 hval
  have hL2 := S3.laid_of hL
  refine (Se.tells_walk Se.landed a0_0 a0_1 a0_2 a0_3 a0_4 a0_5 a0_10 a0_11 a0_12 a0_6 a0_7 a0_8 a0_9 W hL2 p0_0 p0_1 p0_2 p0_3 p0_4 p0_5 p0_10 p0_11 p0_12 p0_6 p0_7 p0_8 p0_9).mono fun e W' ⟨he, hg⟩ => ?_
  subst he
  exact ⟨_, rfl, S2.law_post (s := Rows.sealTellsSpec) hW' rfl (by kernel_rfl) rfl rfl rfl (fun t ht => by
    rw [Tryd.params3] at ht
    have hall : (Tryd.f3.params.toList.all fun u => Tryd.prog.readableRec u && decide (u < Tryd.prog.types.size)) = true := by kernel_rfl
    rw [Tryd.params3] at hall
    have h := List.all_eq_true.1 hall t ht
    rw [Bool.and_eq_true] at h
    exact ⟨h.1, of_decide_eq_true h.2⟩) hg⟩

theorem sealTells_holds : Rows.SealTellsSaid :=
  OpenClaim.holds_of_wide 3 Tryd.f3 rfl rfl rfl rfl rfl rfl rfl ⟨rfl, rfl, rfl, rfl, rfl⟩ rfl rfl rfl rfl rfl (by kernel_rfl) Tryd.func3 (by kernel_rfl)
    (of_decide_eq_true (by kernel_rfl)) (by unfold Func.isWrapper; rw [if_neg (of_decide_eq_false (by kernel_rfl))]; exact ⟨rfl, rfl⟩)
    (fun os started H enc _ => sealTells_lifted os started H enc)

theorem sealTells_card : Rows.SealTellsCardSaid :=
  Claim7.holds_tied_plain_at .later [] [.data, .data] true (true, "9f9370e13a793d2a164b4ea61d3e281ca0f669ba01fe781ee2be7499ede6218a") false
    sealTells_holds (fun _ h => by cases h) (by kernel_rfl) (fun _ h => by cases h) sealTells_row_tie rfl ⟨rfl, rfl⟩ (by kernel_rfl) rfl
    (fun f fn hf hfn => by
      obtain rfl : f = 3 := Option.some.inj ((show Tryd.prog.funcNamed "agora/agoralaw06.SealTells" = some 3 by kernel_rfl).symm.trans hf) |>.symm
      obtain rfl : fn = Tryd.f3 := (Option.some.inj (Tryd.func3.symm.trans hfn)).symm
      exact ⟨by kernel_rfl, fun j t ht => by
        rw [Tryd.params3] at ht
        have hm : t ∈ [27] := by simpa using Array.mem_of_getElem? ht
        have hall : ([27].all fun u => !Tryd.prog.wantsStandIn u) = true := by kernel_rfl
        exact (show Tryd.prog.wantsStandIn t = false by simpa using List.all_eq_true.1 hall t hm)⟩)
    (by kernel_rfl)
#print axioms sealTells_card
end Go.Proofs.YtgldbfdiebkfiaaDoor
