/-
  SignVerifies, proved: the given row's statement and, with the given tie, the card: for every input (its arguments and the listed variables read as data) the law returns true and leaves its arguments as they were.
  Conditions: the row's own (the listed variables hold what their initialisers lay).
-/
import Derived.Test.YtlcgcpjhmbbgfaaDoorSignVerifies
import Derived.Test.YtlcgcpjhmbbgfaaDoorSignFun
import Derived.Test.YtlcgcpjhmbbgfaaDoorCodeKit
import Derived.Test.YtlcgcpjhmbbgfaaDoorSumLaid
import Derived.Test.YtlcgcpjhmbbgfaaDoorSignOpen
import Derived.Test.YtlcgcpjhmbbgfaaDoorTie
import Derived.Test.YtlcgcpjhmbbgfaaDoorCards
import Derived.SizedLaws
import Derived.SevenTiedAt
namespace Go.Proofs.YtlcgcpjhmbbgfaaDoor
open Go.ChangeShapes Go.WideShapes Go.ChangeAt Go.WideMaps Go.WideElems Go.RowKit
open Go.ChangeMaps (open_string shut_string)

set_option maxRecDepth 100000 in
theorem signVerifies_lifted (os : Os) (started : os.Started) (H : Type) (enc : TypeId × Value → H) :
    ReturnsInHanded {} Tryd.checked os 5 .any (fun w args => (Rows.signVerifiesSpec.pre enc Tryd.prog Tryd.f5 [] false w args ∧ laidMetH Tryd.prog S3.laidL w) ∧ sizedMet enc Tryd.prog Tryd.f5 (OpenSpec.ofChange Rows.signVerifiesSpec) false w args)
      (Rows.signVerifiesSpec.post enc Tryd.prog Tryd.f5 false true false false) := by
  refine returnsInHanded_of_change_and (C := Tryd.checked) (X := fun w _ => laidMetH Tryd.prog S3.laidL w) (fun _ _ _ hh h => h.of_heap hh) S3.own started (by kernel_rfl) Tryd.func5
    (ChangeSpec.witness_shaped (enc := enc) (C := Tryd.checked) (os := os) (X := fun w _ => laidMetH Tryd.prog S3.laidL w) false (World.doorLaid Tryd.prog S3.doorSteps os) #[.int .i64 0, .string ⟨#[]⟩, .agg #[.int .i64 0, .int .i64 0], .string ⟨#[]⟩, .int .i64 0] 8 rfl (World.shaped_of_RefB (by kernel_rfl) (by kernel_rfl)) (by kernel_rfl) (by kernel_rfl) (by kernel_rfl) (S3.door_met os _)) ?_
  intro W base args ds gs before hval0 hW _ _ hL _
  have hval : ∀ (j : Nat) t v, Tryd.f5.params[j]? = some t → args[j]? = some v → Value.okWide Tryd.prog W .any base t v := hval0
  have hW' := hW
  obtain ⟨p, q, hA0, hV, rfl, _, _⟩ := hW
  have hA : DataW.TrodAll enc Tryd.prog W 0 (fun _ => true) true Tryd.f5.params.toList args.toList ds p := hA0
  rw [Tryd.params5] at hA hval
  obtain ⟨l, rfl⟩ : ∃ l : List Value, args = ⟨l⟩ := ⟨args.toList, rfl⟩
  obtain ⟨v0, l0, d0, e0, p0, q0, hl0, rfl, rfl, h0, r0⟩ := trodAll_cons hA
  obtain ⟨v1, l1, d1, e1, p1, q1, hl1, rfl, rfl, h1, r1⟩ := trodAll_cons r0
  obtain ⟨v2, l2, d2, e2, p2, q2, hl2, rfl, rfl, h2, r2⟩ := trodAll_cons r1
  obtain ⟨v3, l3, d3, e3, p3, q3, hl3, rfl, rfl, h3, r3⟩ := trodAll_cons r2
  obtain ⟨v4, l4, d4, e4, p4, q4, hl4, rfl, rfl, h4, r4⟩ := trodAll_cons r3
  obtain ⟨hl5, rfl, rfl⟩ := trodAll_nil r4
  have hl : l = [v0, v1, v2, v3, v4] := (show l = v0 :: l0 from hl0).trans (by rw [hl1, hl2, hl3, hl4, hl5])
  subst hl
  clear hl0 hl1 hl2 hl3 hl4 hl5
  obtain ⟨rfl, rfl⟩ := trodVars_none hV
  obtain ⟨x0, rfl, rfl, rfl, wx0⟩ := open_int Tryd.underlying3 (hval 0 3 v0 rfl rfl) h0
  have hx0 := bounds_i64 wx0
  obtain ⟨x1, rfl, rfl, rfl, ws1⟩ := open_string Tryd.underlying9 (hval 1 9 v1 rfl rfl) h1
  obtain ⟨x2a, x2b, rfl, hx2a, hx2b⟩ := Sg.openSig (hval 2 30 v2 rfl rfl) h2
  obtain ⟨x3, rfl, rfl, rfl, ws3⟩ := open_string Tryd.underlying9 (hval 3 9 v3 rfl rfl) h3
  obtain ⟨x4, rfl, rfl, rfl, wx4⟩ := open_int Tryd.underlying3 (hval 4 3 v4 rfl rfl) h4
  have hx4 := bounds_i64 wx4
  clear hA0 hval0 hval
  have hL2 := S3.laid_of hL
  refine (Sg.verifies_walk Sg.landed x3.data.toList x1.data.toList x0 x2a x2b x4 W hL2 hx0 hx2a hx2b).mono fun e W' ⟨he, hg⟩ => ?_
  subst he
  exact ⟨_, rfl, S2.law_post (s := Rows.signVerifiesSpec) hW' rfl (by kernel_rfl) rfl rfl rfl (fun t ht => by
    rw [Tryd.params5] at ht
    have hall : (Tryd.f5.params.toList.all fun u => Tryd.prog.readableRec u && decide (u < Tryd.prog.types.size)) = true := by kernel_rfl
    rw [Tryd.params5] at hall
    have h := List.all_eq_true.1 hall t ht
    rw [Bool.and_eq_true] at h
    exact ⟨h.1, of_decide_eq_true h.2⟩) hg⟩

theorem signVerifies_holds : Rows.SignVerifiesSaid :=
  OpenClaim.holds_of_wide 5 Tryd.f5 rfl rfl rfl rfl rfl rfl rfl ⟨rfl, rfl, rfl, rfl, rfl⟩ rfl rfl rfl rfl rfl (by kernel_rfl) Tryd.func5 (by kernel_rfl)
    (of_decide_eq_true (by kernel_rfl)) (by unfold Func.isWrapper; rw [if_neg (of_decide_eq_false (by kernel_rfl))]; exact ⟨rfl, rfl⟩)
    (fun os started H enc _ => signVerifies_lifted os started H enc)

theorem signVerifies_card : Rows.SignVerifiesCardSaid :=
  Claim7.holds_tied_plain_at .later [] [.data, .data] true (true, "be93ee0aa0b33ed55689be3d691e6566f10427663218cc94f8a1ca7ee0b7ca4b") false
    signVerifies_holds (fun _ h => by cases h) (by kernel_rfl) (fun _ h => by cases h) signVerifies_row_tie rfl ⟨rfl, rfl⟩ (by kernel_rfl) rfl
    (fun f fn hf hfn => by
      obtain rfl : f = 5 := Option.some.inj ((show Tryd.prog.funcNamed "agora/agoralaw05.SignVerifies" = some 5 by kernel_rfl).symm.trans hf) |>.symm
      obtain rfl : fn = Tryd.f5 := (Option.some.inj (Tryd.func5.symm.trans hfn)).symm
      exact ⟨by kernel_rfl, fun j t ht => by
        rw [Tryd.params5] at ht
        have hm : t ∈ [3, 9, 30, 9, 3] := by simpa using Array.mem_of_getElem? ht
        have hall : ([3, 9, 30, 9, 3].all fun u => !Tryd.prog.wantsStandIn u) = true := by kernel_rfl
        exact (show Tryd.prog.wantsStandIn t = false by simpa using List.all_eq_true.1 hall t hm)⟩)
    (by kernel_rfl)
#print axioms signVerifies_card
end Go.Proofs.YtlcgcpjhmbbgfaaDoor
