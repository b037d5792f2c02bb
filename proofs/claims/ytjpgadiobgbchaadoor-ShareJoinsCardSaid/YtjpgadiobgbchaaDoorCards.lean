/-
  DERIVED. GIVEN WITH THE SEED: THE CARDS: each row of YtjpgadiobgbchaaDoorRows.lean that lists a variable, with what it lists TIED to the program's text (the seventh form; the later family's looks); each row that meets fmt, with fmt's text TOLD by the authors' own Lean function (tested against real Go, not proved from fmt's source: count such statements apart). THE CARD IS WHAT COUNTS. Prove the row's statement (the work); the ties are given (YtjpgadiobgbchaaDoorTie.lean); close each card by the builder's one call (the guide's Derived/Test/ToyasCard.lean, 'card_holds'). Laid BY PROGRAM, IN A SANDBOX (cutbox-door.mjs). By AI agents, Wed Nov 11 2026. No macro, syntax, notation, axiom, sorry.
-/
import Derived.Test.YtjpgadiobgbchaaDoorRows
import GoSem.ClaimSeven
namespace Go.Proofs.YtjpgadiobgbchaaDoor
namespace Rows

/-- THE TIED CARD OF 'agoralaw07.ShareTells'. -/
def shareTellsCard : Claim7 := { stood := { row := shareTellsRow, standIns := [], harness := (true, "285ae1ec3fccfa0aa1830c777d64914a1a868fca764fcdb69261ae59210b6106"), looks := false }, kinds := [], alts := [], laidByText := true, laidKinds := [.data, .data], laidTests := true, laidLooks := .later }
def ShareTellsCardSaid : Prop := Claim7.holds Tryd.pinned (.plain (OpenSpec.ofChange shareTellsSpec)) shareTellsCard

/-- THE TIED CARD OF 'agoralaw07.ShareJoins'. -/
def shareJoinsCard : Claim7 := { stood := { row := shareJoinsRow, standIns := [], harness := (true, "285ae1ec3fccfa0aa1830c777d64914a1a868fca764fcdb69261ae59210b6106"), looks := false }, kinds := [], alts := [], laidByText := true, laidKinds := [.data, .data], laidTests := true, laidLooks := .later }
def ShareJoinsCardSaid : Prop := Claim7.holds Tryd.pinned (.plain (OpenSpec.ofChange shareJoinsSpec)) shareJoinsCard

/-- THE TIED CARD OF 'agoralaw07.ShareHides'. -/
def shareHidesCard : Claim7 := { stood := { row := shareHidesRow, standIns := [], harness := (true, "285ae1ec3fccfa0aa1830c777d64914a1a868fca764fcdb69261ae59210b6106"), looks := false }, kinds := [], alts := [], laidByText := true, laidKinds := [.data, .data], laidTests := true, laidLooks := .later }
def ShareHidesCardSaid : Prop := Claim7.holds Tryd.pinned (.plain (OpenSpec.ofChange shareHidesSpec)) shareHidesCard

/-- THE TIED CARD OF 'agoralaw07.ShareAdds'. -/
def shareAddsCard : Claim7 := { stood := { row := shareAddsRow, standIns := [], harness := (true, "285ae1ec3fccfa0aa1830c777d64914a1a868fca764fcdb69261ae59210b6106"), looks := false }, kinds := [], alts := [], laidByText := true, laidKinds := [.data, .data], laidTests := true, laidLooks := .later }
def ShareAddsCardSaid : Prop := Claim7.holds Tryd.pinned (.plain (OpenSpec.ofChange shareAddsSpec)) shareAddsCard

/-- THE TIED CARD OF 'agoralaw07.ShareDetects'. -/
def shareDetectsCard : Claim7 := { stood := { row := shareDetectsRow, standIns := [], harness := (true, "285ae1ec3fccfa0aa1830c777d64914a1a868fca764fcdb69261ae59210b6106"), looks := false }, kinds := [], alts := [], laidByText := true, laidKinds := [.data, .data], laidTests := true, laidLooks := .later }
def ShareDetectsCardSaid : Prop := Claim7.holds Tryd.pinned (.plain (OpenSpec.ofChange shareDetectsSpec)) shareDetectsCard

/-- THE SECOND FORM's CARD OF 'agoralaw07.ShareTells'. -/
def shareTellsUptoCard : Claim7 := { stood := { row := shareTellsUptoRow, standIns := [], harness := (true, "285ae1ec3fccfa0aa1830c777d64914a1a868fca764fcdb69261ae59210b6106"), looks := false }, kinds := [], alts := [], laidByText := true, laidKinds := [.data, .data], laidTests := true, laidLooks := .later }
def ShareTellsUptoCardSaid : Prop := Claim7.holds Tryd.pinned (.plain (OpenSpec.upto shareTellsSpec)) shareTellsUptoCard

/-- THE SECOND FORM's CARD OF 'agoralaw07.ShareJoins'. -/
def shareJoinsUptoCard : Claim7 := { stood := { row := shareJoinsUptoRow, standIns := [], harness := (true, "285ae1ec3fccfa0aa1830c777d64914a1a868fca764fcdb69261ae59210b6106"), looks := false }, kinds := [], alts := [], laidByText := true, laidKinds := [.data, .data], laidTests := true, laidLooks := .later }
def ShareJoinsUptoCardSaid : Prop := Claim7.holds Tryd.pinned (.plain (OpenSpec.upto shareJoinsSpec)) shareJoinsUptoCard

/-- THE SECOND FORM's CARD OF 'agoralaw07.ShareHides'. -/
def shareHidesUptoCard : Claim7 := { stood := { row := shareHidesUptoRow, standIns := [], harness := (true, "285ae1ec3fccfa0aa1830c777d64914a1a868fca764fcdb69261ae59210b6106"), looks := false }, kinds := [], alts := [], laidByText := true, laidKinds := [.data, .data], laidTests := true, laidLooks := .later }
def ShareHidesUptoCardSaid : Prop := Claim7.holds Tryd.pinned (.plain (OpenSpec.upto shareHidesSpec)) shareHidesUptoCard

/-- THE SECOND FORM's CARD OF 'agoralaw07.ShareAdds'. -/
def shareAddsUptoCard : Claim7 := { stood := { row := shareAddsUptoRow, standIns := [], harness := (true, "285ae1ec3fccfa0aa1830c777d64914a1a868fca764fcdb69261ae59210b6106"), looks := false }, kinds := [], alts := [], laidByText := true, laidKinds := [.data, .data], laidTests := true, laidLooks := .later }
def ShareAddsUptoCardSaid : Prop := Claim7.holds Tryd.pinned (.plain (OpenSpec.upto shareAddsSpec)) shareAddsUptoCard

/-- THE SECOND FORM's CARD OF 'agoralaw07.ShareDetects'. -/
def shareDetectsUptoCard : Claim7 := { stood := { row := shareDetectsUptoRow, standIns := [], harness := (true, "285ae1ec3fccfa0aa1830c777d64914a1a868fca764fcdb69261ae59210b6106"), looks := false }, kinds := [], alts := [], laidByText := true, laidKinds := [.data, .data], laidTests := true, laidLooks := .later }
def ShareDetectsUptoCardSaid : Prop := Claim7.holds Tryd.pinned (.plain (OpenSpec.upto shareDetectsSpec)) shareDetectsUptoCard
end Rows
end Go.Proofs.YtjpgadiobgbchaaDoor
