/-
  ShareJoins, proved: the given row's statement and, with the given tie, the card: for every input (its arguments and the listed variables read as data) the law returns true and leaves its arguments as they were.
  Conditions: the row's own (the listed variables hold what their initialisers lay).
-/
import Derived.Test.YtjpgadiobgbchaaDoorShareJoins
import Derived.Test.YtjpgadiobgbchaaDoorShareOpen
import Derived.Test.YtjpgadiobgbchaaDoorShareFun
import Derived.Test.YtjpgadiobgbchaaDoorCodeKit
import Derived.Test.YtjpgadiobgbchaaDoorSumLaid
import Derived.Test.YtjpgadiobgbchaaDoorTie
import Derived.Test.YtjpgadiobgbchaaDoorCards
import Derived.SizedLaws
import Derived.SevenTiedAt
namespace Go.Proofs.YtjpgadiobgbchaaDoor
open Go.ChangeShapes Go.WideShapes Go.ChangeAt Go.WideMaps Go.WideElems Go.RowKit
open Go.ChangeMaps (open_string shut_string)

set_option maxRecDepth 100000 in
theorem shareJoins_lifted (os : Os) (started : os.Started) (H : Type) (enc : TypeId × Value → H) :
    ReturnsInHanded {} Tryd.checked os 4 .any (fun w args => (Rows.shareJoinsSpec.pre enc Tryd.prog Tryd.f4 [] false w args ∧ laidMetH Tryd.prog S3.laidL w) ∧ sizedMet enc Tryd.prog Tryd.f4 (OpenSpec.ofChange Rows.shareJoinsSpec) false w args)
      (Rows.shareJoinsSpec.post enc Tryd.prog Tryd.f4 false true false false) := by
  refine returnsInHanded_of_change_and (C := Tryd.checked) (X := fun w _ => laidMetH Tryd.prog S3.laidL w) (fun _ _ _ hh h => h.of_heap hh) S3.own started (by kernel_rfl) Tryd.func4
    (ChangeSpec.witness_shaped (enc := enc) (C := Tryd.checked) (os := os) (X := fun w _ => laidMetH Tryd.prog S3.laidL w) false (World.doorLaid Tryd.prog S3.doorSteps os) #[.int .i64 0, .int .i64 0, .int .i64 0, .string ⟨#[]⟩, .slice none 0 0, .slice none 0 0] 8 rfl (World.shaped_of_RefB (by kernel_rfl) (by kernel_rfl)) (by kernel_rfl) (by kernel_rfl) (by kernel_rfl) (S3.door_met os _)) ?_
  intro W base args ds gs before hval0 hW _ hsz hL _
  have hval : ∀ (j : Nat) t v, Tryd.f4.params[j]? = some t → args[j]? = some v → Value.okWide Tryd.prog W .any base t v := hval0
  have hW' := hW
  obtain ⟨p, q, hA0, hV, rfl, _, _⟩ := hW
  have hA : DataW.TrodAll enc Tryd.prog W 0 (fun _ => true) true Tryd.f4.params.toList args.toList ds p := hA0
  rw [Tryd.params4] at hA hval
  obtain ⟨l, rfl⟩ : ∃ l : List Value, args = ⟨l⟩ := ⟨args.toList, rfl⟩
  obtain ⟨v0, l0, d0, e0, p0, q0, hl0, rfl, rfl, h0, r0⟩ := trodAll_cons hA
  obtain ⟨v1, l1, d1, e1, p1, q1, hl1, rfl, rfl, h1, r1⟩ := trodAll_cons r0
  obtain ⟨v2, l2, d2, e2, p2, q2, hl2, rfl, rfl, h2, r2⟩ := trodAll_cons r1
  obtain ⟨v3, l3, d3, e3, p3, q3, hl3, rfl, rfl, h3, r3⟩ := trodAll_cons r2
  obtain ⟨v4, l4, d4, e4, p4, q4, hl4, rfl, rfl, h4, r4⟩ := trodAll_cons r3
  obtain ⟨v5, l5, d5, e5, p5, q5, hl5, rfl, rfl, h5, r5⟩ := trodAll_cons r4
  obtain ⟨hl6, rfl, rfl⟩ := trodAll_nil r5
  have hl : l = [v0, v1, v2, v3, v4, v5] := (show l = v0 :: l0 from hl0).trans (by rw [hl1, hl2, hl3, hl4, hl5, hl6])
  subst hl
  clear hl0 hl1 hl2 hl3 hl4 hl5 hl6
  obtain ⟨rfl, rfl⟩ := trodVars_none hV
  obtain ⟨x0, rfl, rfl, rfl, wx0⟩ := open_int Tryd.underlying3 (hval 0 3 v0 rfl rfl) h0
  have hx0 := bounds_i64 wx0
  obtain ⟨x1, rfl, rfl, rfl, wx1⟩ := open_int Tryd.underlying3 (hval 1 3 v1 rfl rfl) h1
  have hx1 := bounds_i64 wx1
  obtain ⟨x2, rfl, rfl, rfl, wx2⟩ := open_int Tryd.underlying3 (hval 2 3 v2 rfl rfl) h2
  have hx2 := bounds_i64 wx2
  obtain ⟨x3, rfl, rfl, rfl, ws3⟩ := open_string Tryd.underlying9 (hval 3 9 v3 rfl rfl) h3
  have hl3 : x3.data.toList.length ≤ 140737488355328 := by have := sized_string hsz (j := 3) (t := 9) rfl rfl; have := reachBytes_lt; omega
  have hz4 : ∀ n ∈ d4.weights Tryd.prog 31, n ≤ reachBytes := fun n hn => by simpa using List.all_eq_true.1 hsz _ (DataW.weights_mem_each (j := 4) (t := 31) rfl rfl n hn)
  obtain ⟨sa4, sl4, sc4, rfl⟩ := okWide_slice Tryd.underlying31 (hval 4 31 v4 rfl rfl)
  obtain ⟨fu4, hf4⟩ := h4
  obtain ⟨B4, c4, z4, hv4, R4, k4, m4, q4⟩ := Sh.open_ilist (enc := enc) (w := W) (fuel := fu4) (v := .slice sa4 sl4 sc4) hf4 hz4
  rw [hv4] at hW'
  rw [hv4]
  have hz5 : ∀ n ∈ d5.weights Tryd.prog 22, n ≤ reachBytes := fun n hn => by simpa using List.all_eq_true.1 hsz _ (DataW.weights_mem_each (j := 5) (t := 22) rfl rfl n hn)
  obtain ⟨sa5, sl5, sc5, rfl⟩ := okWide_slice Tryd.underlying22 (hval 5 22 v5 rfl rfl)
  obtain ⟨fu5, hf5⟩ := h5
  obtain ⟨B5, c5, z5, hv5, R5, k5, m5, e5⟩ := Sh.open_shares (enc := enc) (w := W) (fuel := fu5) (v := .slice sa5 sl5 sc5) hf5 hz5
  rw [hv5] at hW'
  rw [hv5]
  clear hA0 hval0 hval
  have hL2 := S3.laid_of hL
  refine (Sh.joins_walk Sh.landed x0 x1 x2 x3.data.toList B4 B5 z4 z5 c4 c5 W hL2 hx0 hx1 hx2 R4 (Nat.le_trans m4 (by decide)) R5 (Nat.le_trans m5 (by decide)) k5 e5).mono fun e W' ⟨he, hg⟩ => ?_
  subst he
  exact ⟨_, rfl, S2.law_post (s := Rows.shareJoinsSpec) hW' rfl (by kernel_rfl) rfl rfl rfl (fun t ht => by
    rw [Tryd.params4] at ht
    have hall : (Tryd.f4.params.toList.all fun u => Tryd.prog.readableRec u && decide (u < Tryd.prog.types.size)) = true := by kernel_rfl
    rw [Tryd.params4] at hall
    have h := List.all_eq_true.1 hall t ht
    rw [Bool.and_eq_true] at h
    exact ⟨h.1, of_decide_eq_true h.2⟩) hg⟩

theorem shareJoins_holds : Rows.ShareJoinsSaid :=
  OpenClaim.holds_of_wide 4 Tryd.f4 rfl rfl rfl rfl rfl rfl rfl ⟨rfl, rfl, rfl, rfl, rfl⟩ rfl rfl rfl rfl rfl (by kernel_rfl) Tryd.func4 (by kernel_rfl)
    (of_decide_eq_true (by kernel_rfl)) (by unfold Func.isWrapper; rw [if_neg (of_decide_eq_false (by kernel_rfl))]; exact ⟨rfl, rfl⟩)
    (fun os started H enc _ => shareJoins_lifted os started H enc)

theorem shareJoins_card : Rows.ShareJoinsCardSaid :=
  Claim7.holds_tied_plain_at .later [] [.data, .data] true (true, "285ae1ec3fccfa0aa1830c777d64914a1a868fca764fcdb69261ae59210b6106") false
    shareJoins_holds (fun _ h => by cases h) (by kernel_rfl) (fun _ h => by cases h) shareJoins_row_tie rfl ⟨rfl, rfl⟩ (by kernel_rfl) rfl
    (fun f fn hf hfn => by
      obtain rfl : f = 4 := Option.some.inj ((show Tryd.prog.funcNamed "agora/agoralaw07.ShareJoins" = some 4 by kernel_rfl).symm.trans hf) |>.symm
      obtain rfl : fn = Tryd.f4 := (Option.some.inj (Tryd.func4.symm.trans hfn)).symm
      exact ⟨by kernel_rfl, fun j t ht => by
        rw [Tryd.params4] at ht
        have hm : t ∈ [3, 3, 3, 9, 31, 22] := by simpa using Array.mem_of_getElem? ht
        have hall : ([3, 3, 3, 9, 31, 22].all fun u => !Tryd.prog.wantsStandIn u) = true := by kernel_rfl
        exact (show Tryd.prog.wantsStandIn t = false by simpa using List.all_eq_true.1 hall t hm)⟩)
    (by kernel_rfl)
#print axioms shareJoins_card
end Go.Proofs.YtjpgadiobgbchaaDoor
