/-
  IdentParts, proved: the given row's statement and, with the given tie, the card: for every input (its arguments and the listed variables read as data) the law returns true and leaves its arguments as they were.
  Conditions: the row's own (the listed variables hold what their initialisers lay).
-/
import Derived.Test.YtcbhjagcfbinoaaDoorIdentLParts
import Derived.Test.YtcbhjagcfbinoaaDoorIdentOpen
import Derived.Test.YtcbhjagcfbinoaaDoorIdentDoor
import Derived.Test.YtcbhjagcfbinoaaDoorCodeKit
import Derived.Test.YtcbhjagcfbinoaaDoorSumLaid
import Derived.Test.YtcbhjagcfbinoaaDoorTie
import Derived.Test.YtcbhjagcfbinoaaDoorCards
import Derived.SizedLaws
import Derived.Deep.DeepHandedRow
import Derived.SevenTiedAt
namespace Go.Proofs.YtcbhjagcfbinoaaDoor
open Go.ChangeShapes Go.WideShapes Go.ChangeAt Go.WideMaps Go.WideElems Go.RowKit
open Go.ChangeMaps (open_string shut_string)

set_option maxRecDepth 100000 in
theorem identParts_lifted (os : Os) (started : os.Started) (H : Type) (enc : TypeId × Value → H) :
    ReturnsInHanded {} Tryd.checked os 7 .any ((OpenSpec.ofChange Rows.identPartsSpec).preRow enc Tryd.prog Tryd.f7 [] false Idt.laidL)
      (Rows.identPartsSpec.post enc Tryd.prog Tryd.f7 false true false false) := by
  refine returnsInHanded_of_row (C := Tryd.checked) (s := OpenSpec.ofChange Rows.identPartsSpec) (F := fun _ _ _ => 0) (laid := Idt.laidL) S3.own started (by kernel_rfl) Tryd.func7
    (ChangeSpec.witness_shaped (enc := enc) (C := Tryd.checked) (os := os) (X := fun w _ => laidMetH Tryd.prog Idt.laidL w) false (World.doorLaid Tryd.prog Idt.doorSteps os) #[.slice none 0 0, .int .i64 0, .int .i64 0] 8 rfl (World.shaped_of_RefB (by kernel_rfl) (by kernel_rfl)) (by kernel_rfl) (by kernel_rfl) (by kernel_rfl) (Idt.door_met os _)) ?_
  intro W base args ds gs before hval0 hW0 _ _ hsz0 hL hSh _
  have hW : DataW.Whole enc Tryd.prog Tryd.f7.params.toList Rows.identPartsSpec.vars false W args.toList ds gs before := hW0
  have hsz : (DataW.weightsEach Tryd.prog (Tryd.f7.params.toList ++ Rows.identPartsSpec.plain.varTypes Tryd.prog) (ds ++ gs)).all (· ≤ reachBytes) = true := hsz0
  have hval : ∀ (j : Nat) t v, Tryd.f7.params[j]? = some t → args[j]? = some v → Value.okWide Tryd.prog W .any base t v := hval0
  have hW' := hW
  obtain ⟨p, q, hA0, hV, rfl, _, _⟩ := hW
  have hA : DataW.TrodAll enc Tryd.prog W 0 (fun _ => true) true Tryd.f7.params.toList args.toList ds p := hA0
  rw [Tryd.params7] at hA hval
  obtain ⟨v0, v1, v2, d0, d1, d2, p0, p1, p2, rfl, rfl, rfl, h0, h1, h2⟩ := trodAll_three hA
  obtain ⟨rfl, rfl⟩ := trodVars_none hV
  have hz0 : ∀ n ∈ d0.weights Tryd.prog 29, n ≤ reachBytes := fun n hn => by simpa using List.all_eq_true.1 hsz _ (DataW.weights_mem_each (j := 0) (t := 29) rfl rfl n hn)
  obtain ⟨sa0, sl0, sc0, rfl⟩ := okWide_slice Tryd.underlying29 (hval 0 29 v0 rfl rfl)
  obtain ⟨fu0, hf0⟩ := h0
  obtain ⟨B0, c0, z0, hv0, R0⟩ := Idt.open_list (enc := enc) (w := W) (fuel := fu0) (v := .slice sa0 sl0 sc0) hf0 hz0
  rw [hv0] at hW'
  rw [hv0]
  obtain ⟨x1, rfl, rfl, rfl, wx1⟩ := open_int Tryd.underlying3 (hval 1 3 v1 rfl rfl) h1
  have hx1 := bounds_i64 wx1
  obtain ⟨x2, rfl, rfl, rfl, wx2⟩ := open_int Tryd.underlying3 (hval 2 3 v2 rfl rfl) h2
  have hx2 := bounds_i64 wx2
  clear hA0 hval0 hval
  refine (Idt.parts_walk (Idt.pk_of hL hSh) z0 B0 z0.length c0 x1 x2 rfl R0 hx1 hx2).mono fun e W' ⟨he, hg⟩ => ?_
  subst he
  exact ⟨_, rfl, S2.law_post (s := Rows.identPartsSpec) hW' rfl (by kernel_rfl) rfl rfl rfl (fun t ht => by
    rw [Tryd.params7] at ht
    have hall : (Tryd.f7.params.toList.all fun u => Tryd.prog.readableRec u && decide (u < Tryd.prog.types.size)) = true := by kernel_rfl
    rw [Tryd.params7] at hall
    have h := List.all_eq_true.1 hall t ht
    rw [Bool.and_eq_true] at h
    exact ⟨h.1, of_decide_eq_true h.2⟩) hg⟩

theorem identParts_holds : Rows.IdentPartsSaid :=
  OpenClaim.holds_of_wide 7 Tryd.f7 rfl rfl rfl rfl rfl rfl rfl ⟨rfl, rfl, rfl, rfl, rfl⟩ rfl rfl rfl rfl rfl (by kernel_rfl) Tryd.func7 (by kernel_rfl)
    (of_decide_eq_true (by kernel_rfl)) (by unfold Func.isWrapper; rw [if_neg (of_decide_eq_false (by kernel_rfl))]; exact ⟨rfl, rfl⟩)
    (fun os started H enc _ => by rw [OpenClaim.pre_eq_preRow]; exact identParts_lifted os started H enc)

theorem identParts_card : Rows.IdentPartsCardSaid :=
  Claim7.holds_tied_plain_at .later [] [.data, .data, .data, .data, .data, .sentinel, .sentinel] true (true, "c8547fec9d7884cab9d3316a900d54ad66b7ff7b893c55abf1cde90705c5f4f1") true
    identParts_holds (fun _ h => by cases h) (by kernel_rfl) (fun _ h => by cases h) identParts_row_tie rfl ⟨rfl, rfl⟩ (by kernel_rfl) rfl
    (fun f fn hf hfn => by
      obtain rfl : f = 7 := Option.some.inj ((show Tryd.prog.funcNamed "agora/agoralaw11.IdentParts" = some 7 by kernel_rfl).symm.trans hf) |>.symm
      obtain rfl : fn = Tryd.f7 := (Option.some.inj (Tryd.func7.symm.trans hfn)).symm
      exact ⟨by kernel_rfl, fun j t ht => by
        rw [Tryd.params7] at ht
        have hm : t ∈ [29, 3, 3] := by simpa using Array.mem_of_getElem? ht
        have hall : ([29, 3, 3].all fun u => !Tryd.prog.wantsStandIn u) = true := by kernel_rfl
        exact (show Tryd.prog.wantsStandIn t = false by simpa using List.all_eq_true.1 hall t hm)⟩)
    (by kernel_rfl)
#print axioms identParts_card
end Go.Proofs.YtcbhjagcfbinoaaDoor
