/-
  MerkleOnce, proved: the given row's statement and, with the given tie, the card: for every input (its arguments and the listed variables read as data) the law returns true and leaves its arguments as they were.
  Conditions: the row's own (the listed variables hold what their initialisers lay).
-/
import Derived.Test.YtfemgakfckabhaaDoorMerkleLOnce
import Derived.Test.YtfemgakfckabhaaDoorMerkleOpen
import Derived.Test.YtfemgakfckabhaaDoorCodeKit
import Derived.Test.YtfemgakfckabhaaDoorSumLaid
import Derived.Test.YtfemgakfckabhaaDoorTie
import Derived.Test.YtfemgakfckabhaaDoorCards
import Derived.SizedLaws
import Derived.SevenTiedAt
namespace Go.Proofs.YtfemgakfckabhaaDoor
open Go.ChangeShapes Go.WideShapes Go.ChangeAt Go.WideMaps Go.WideElems Go.RowKit
open Go.ChangeMaps (open_string shut_string)

set_option maxRecDepth 100000 in
theorem merkleOnce_lifted (os : Os) (started : os.Started) (H : Type) (enc : TypeId × Value → H) :
    ReturnsInHanded {} Tryd.checked os 7 .any (fun w args => (Rows.merkleOnceSpec.pre enc Tryd.prog Tryd.f7 [] false w args ∧ laidMetH Tryd.prog S3.laidL w) ∧ sizedMet enc Tryd.prog Tryd.f7 (OpenSpec.ofChange Rows.merkleOnceSpec) false w args)
      (Rows.merkleOnceSpec.post enc Tryd.prog Tryd.f7 false true false false) := by
  refine returnsInHanded_of_change_and (C := Tryd.checked) (X := fun w _ => laidMetH Tryd.prog S3.laidL w) (fun _ _ _ hh h => h.of_heap hh) S3.own started (by kernel_rfl) Tryd.func7
    (ChangeSpec.witness_shaped (enc := enc) (C := Tryd.checked) (os := os) (X := fun w _ => laidMetH Tryd.prog S3.laidL w) false (World.doorLaid Tryd.prog S3.doorSteps os) #[.int .i64 0, .int .i64 0, .string ⟨#[]⟩, .string ⟨#[]⟩, .slice none 0 0, .string ⟨#[]⟩, .slice none 0 0] 8 rfl (World.shaped_of_RefB (by kernel_rfl) (by kernel_rfl)) (by kernel_rfl) (by kernel_rfl) (by kernel_rfl) (S3.door_met os _)) ?_
  intro W base args ds gs before hval0 hW _ hsz hL _
  have hval : ∀ (j : Nat) t v, Tryd.f7.params[j]? = some t → args[j]? = some v → Value.okWide Tryd.prog W .any base t v := hval0
  have hW' := hW
  obtain ⟨p, q, hA0, hV, rfl, _, _⟩ := hW
  have hA : DataW.TrodAll enc Tryd.prog W 0 (fun _ => true) true Tryd.f7.params.toList args.toList ds p := hA0
  rw [Tryd.params7] at hA hval
  obtain ⟨l, rfl⟩ : ∃ l : List Value, args = ⟨l⟩ := ⟨args.toList, rfl⟩
  obtain ⟨v0, l0, d0, e0, p0, q0, hl0, rfl, rfl, h0, r0⟩ := trodAll_cons hA
  obtain ⟨v1, l1, d1, e1, p1, q1, hl1, rfl, rfl, h1, r1⟩ := trodAll_cons r0
  obtain ⟨v2, l2, d2, e2, p2, q2, hl2, rfl, rfl, h2, r2⟩ := trodAll_cons r1
  obtain ⟨v3, l3, d3, e3, p3, q3, hl3, rfl, rfl, h3, r3⟩ := trodAll_cons r2
  obtain ⟨v4, l4, d4, e4, p4, q4, hl4, rfl, rfl, h4, r4⟩ := trodAll_cons r3
  obtain ⟨v5, l5, d5, e5, p5, q5, hl5, rfl, rfl, h5, r5⟩ := trodAll_cons r4
  obtain ⟨v6, l6, d6, e6, p6, q6, hl6, rfl, rfl, h6, r6⟩ := trodAll_cons r5
  obtain ⟨hl7, rfl, rfl⟩ := trodAll_nil r6
  have hl : l = [v0, v1, v2, v3, v4, v5, v6] := (show l = v0 :: l0 from hl0).trans (by rw [hl1, hl2, hl3, hl4, hl5, hl6, hl7])
  subst hl
  clear hl0 hl1 hl2 hl3 hl4 hl5 hl6 hl7
  obtain ⟨rfl, rfl⟩ := trodVars_none hV
  obtain ⟨x0, rfl, rfl, rfl, wx0⟩ := open_int Tryd.underlying3 (hval 0 3 v0 rfl rfl) h0
  have hx0 := bounds_i64 wx0
  obtain ⟨x1, rfl, rfl, rfl, wx1⟩ := open_int Tryd.underlying3 (hval 1 3 v1 rfl rfl) h1
  have hx1 := bounds_i64 wx1
  obtain ⟨x2, rfl, rfl, rfl, ws2⟩ := open_string Tryd.underlying9 (hval 2 9 v2 rfl rfl) h2
  have hl2 : x2.data.toList.length ≤ 140737488355328 := by have := sized_string hsz (j := 2) (t := 9) rfl rfl; have := reachBytes_lt; omega
  obtain ⟨x3, rfl, rfl, rfl, ws3⟩ := open_string Tryd.underlying9 (hval 3 9 v3 rfl rfl) h3
  have hl3 : x3.data.toList.length ≤ 140737488355328 := by have := sized_string hsz (j := 3) (t := 9) rfl rfl; have := reachBytes_lt; omega
  have hz4 : ∀ n ∈ d4.weights Tryd.prog 22, n ≤ reachBytes := fun n hn => by simpa using List.all_eq_true.1 hsz _ (DataW.weights_mem_each (j := 4) (t := 22) rfl rfl n hn)
  obtain ⟨sa4, sl4, sc4, rfl⟩ := okWide_slice Tryd.underlying22 (hval 4 22 v4 rfl rfl)
  obtain ⟨fu4, hf4⟩ := h4
  obtain ⟨B4, c4, z4, hv4, R4⟩ := Mk.open_list (enc := enc) (w := W) (fuel := fu4) (v := .slice sa4 sl4 sc4) hf4 hz4
  rw [hv4] at hW'
  rw [hv4]
  obtain ⟨x5, rfl, rfl, rfl, ws5⟩ := open_string Tryd.underlying9 (hval 5 9 v5 rfl rfl) h5
  have hl5 : x5.data.toList.length ≤ 140737488355328 := by have := sized_string hsz (j := 5) (t := 9) rfl rfl; have := reachBytes_lt; omega
  have hz6 : ∀ n ∈ d6.weights Tryd.prog 22, n ≤ reachBytes := fun n hn => by simpa using List.all_eq_true.1 hsz _ (DataW.weights_mem_each (j := 6) (t := 22) rfl rfl n hn)
  obtain ⟨sa6, sl6, sc6, rfl⟩ := okWide_slice Tryd.underlying22 (hval 6 22 v6 rfl rfl)
  obtain ⟨fu6, hf6⟩ := h6
  obtain ⟨B6, c6, z6, hv6, R6⟩ := Mk.open_list (enc := enc) (w := W) (fuel := fu6) (v := .slice sa6 sl6 sc6) hf6 hz6
  rw [hv6] at hW'
  rw [hv6]
  clear hA0 hval0 hval
  have hL2 := S3.laid_of hL
  refine (Mk.once_walk B4 B6 z4 z6 c4 c6 z4.length z6.length x0 x1 x2.data.toList x3.data.toList x5.data.toList W rfl rfl hL2 R4 R6 hl2 hl3 hl5 hx0 hx1).mono fun e W' ⟨he, hg⟩ => ?_
  subst he
  exact ⟨_, rfl, S2.law_post (s := Rows.merkleOnceSpec) hW' rfl (by kernel_rfl) rfl rfl rfl (fun t ht => by
    rw [Tryd.params7] at ht
    have hall : (Tryd.f7.params.toList.all fun u => Tryd.prog.readableRec u && decide (u < Tryd.prog.types.size)) = true := by kernel_rfl
    rw [Tryd.params7] at hall
    have h := List.all_eq_true.1 hall t ht
    rw [Bool.and_eq_true] at h
    exact ⟨h.1, of_decide_eq_true h.2⟩) hg⟩

theorem merkleOnce_holds : Rows.MerkleOnceSaid :=
  OpenClaim.holds_of_wide 7 Tryd.f7 rfl rfl rfl rfl rfl rfl rfl ⟨rfl, rfl, rfl, rfl, rfl⟩ rfl rfl rfl rfl rfl (by kernel_rfl) Tryd.func7 (by kernel_rfl)
    (of_decide_eq_true (by kernel_rfl)) (by unfold Func.isWrapper; rw [if_neg (of_decide_eq_false (by kernel_rfl))]; exact ⟨rfl, rfl⟩)
    (fun os started H enc _ => merkleOnce_lifted os started H enc)

theorem merkleOnce_card : Rows.MerkleOnceCardSaid :=
  Claim7.holds_tied_plain_at .later [] [.data, .data] true (true, "fe5a6c0da1b37336a03ce42029e83f23be03ea58d32f0790a395d2ccddc57b34") false
    merkleOnce_holds (fun _ h => by cases h) (by kernel_rfl) (fun _ h => by cases h) merkleOnce_row_tie rfl ⟨rfl, rfl⟩ (by kernel_rfl) rfl
    (fun f fn hf hfn => by
      obtain rfl : f = 7 := Option.some.inj ((show Tryd.prog.funcNamed "agora/agoralaw08.MerkleOnce" = some 7 by kernel_rfl).symm.trans hf) |>.symm
      obtain rfl : fn = Tryd.f7 := (Option.some.inj (Tryd.func7.symm.trans hfn)).symm
      exact ⟨by kernel_rfl, fun j t ht => by
        rw [Tryd.params7] at ht
        have hm : t ∈ [3, 3, 9, 9, 22, 9, 22] := by simpa using Array.mem_of_getElem? ht
        have hall : ([3, 3, 9, 9, 22, 9, 22].all fun u => !Tryd.prog.wantsStandIn u) = true := by kernel_rfl
        exact (show Tryd.prog.wantsStandIn t = false by simpa using List.all_eq_true.1 hall t hm)⟩)
    (by kernel_rfl)
#print axioms merkleOnce_card
end Go.Proofs.YtfemgakfckabhaaDoor
