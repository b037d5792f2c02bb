/-
  DERIVED. GIVEN WITH THE SEED: THE CARDS: each row of YtlcgcpjhmbbgfaaDoorRows.lean that lists a variable, with what it lists TIED to the program's text (the seventh form; the later family's looks); each row that meets fmt, with fmt's text TOLD by the authors' own Lean function (tested against real Go, not proved from fmt's source: count such statements apart). THE CARD IS WHAT COUNTS. Prove the row's statement (the work); the ties are given (YtlcgcpjhmbbgfaaDoorTie.lean); close each card by the builder's one call (the guide's Derived/Test/ToyasCard.lean, 'card_holds'). Laid BY PROGRAM, IN A SANDBOX (cutbox-door.mjs). By AI agents, Wed Nov 11 2026. No macro, syntax, notation, axiom, sorry.
-/
import Derived.Test.YtlcgcpjhmbbgfaaDoorRows
import GoSem.ClaimSeven
namespace Go.Proofs.YtlcgcpjhmbbgfaaDoor
namespace Rows

/-- THE TIED CARD OF 'agoralaw05.SignKeys'. -/
def signKeysCard : Claim7 := { stood := { row := signKeysRow, standIns := [], harness := (true, "be93ee0aa0b33ed55689be3d691e6566f10427663218cc94f8a1ca7ee0b7ca4b"), looks := false }, kinds := [], alts := [], laidByText := true, laidKinds := [.data, .data], laidTests := true, laidLooks := .later }
def SignKeysCardSaid : Prop := Claim7.holds Tryd.pinned (.plain (OpenSpec.ofChange signKeysSpec)) signKeysCard

/-- THE TIED CARD OF 'agoralaw05.SignTells'. -/
def signTellsCard : Claim7 := { stood := { row := signTellsRow, standIns := [], harness := (true, "be93ee0aa0b33ed55689be3d691e6566f10427663218cc94f8a1ca7ee0b7ca4b"), looks := false }, kinds := [], alts := [], laidByText := true, laidKinds := [.data, .data], laidTests := true, laidLooks := .later }
def SignTellsCardSaid : Prop := Claim7.holds Tryd.pinned (.plain (OpenSpec.ofChange signTellsSpec)) signTellsCard

/-- THE TIED CARD OF 'agoralaw05.SignVerifies'. -/
def signVerifiesCard : Claim7 := { stood := { row := signVerifiesRow, standIns := [], harness := (true, "be93ee0aa0b33ed55689be3d691e6566f10427663218cc94f8a1ca7ee0b7ca4b"), looks := false }, kinds := [], alts := [], laidByText := true, laidKinds := [.data, .data], laidTests := true, laidLooks := .later }
def SignVerifiesCardSaid : Prop := Claim7.holds Tryd.pinned (.plain (OpenSpec.ofChange signVerifiesSpec)) signVerifiesCard

/-- THE TIED CARD OF 'agoralaw05.SignHolds'. -/
def signHoldsCard : Claim7 := { stood := { row := signHoldsRow, standIns := [], harness := (true, "be93ee0aa0b33ed55689be3d691e6566f10427663218cc94f8a1ca7ee0b7ca4b"), looks := false }, kinds := [], alts := [], laidByText := true, laidKinds := [.data, .data], laidTests := true, laidLooks := .later }
def SignHoldsCardSaid : Prop := Claim7.holds Tryd.pinned (.plain (OpenSpec.ofChange signHoldsSpec)) signHoldsCard

/-- THE TIED CARD OF 'agoralaw05.SignBinds'. -/
def signBindsCard : Claim7 := { stood := { row := signBindsRow, standIns := [], harness := (true, "be93ee0aa0b33ed55689be3d691e6566f10427663218cc94f8a1ca7ee0b7ca4b"), looks := false }, kinds := [], alts := [], laidByText := true, laidKinds := [.data, .data], laidTests := true, laidLooks := .later }
def SignBindsCardSaid : Prop := Claim7.holds Tryd.pinned (.plain (OpenSpec.ofChange signBindsSpec)) signBindsCard

/-- THE TIED CARD OF 'agoralaw05.SignMoves'. -/
def signMovesCard : Claim7 := { stood := { row := signMovesRow, standIns := [], harness := (true, "be93ee0aa0b33ed55689be3d691e6566f10427663218cc94f8a1ca7ee0b7ca4b"), looks := false }, kinds := [], alts := [], laidByText := true, laidKinds := [.data, .data], laidTests := true, laidLooks := .later }
def SignMovesCardSaid : Prop := Claim7.holds Tryd.pinned (.plain (OpenSpec.ofChange signMovesSpec)) signMovesCard

/-- THE TIED CARD OF 'agoralaw05.SignSolves'. -/
def signSolvesCard : Claim7 := { stood := { row := signSolvesRow, standIns := [], harness := (true, "be93ee0aa0b33ed55689be3d691e6566f10427663218cc94f8a1ca7ee0b7ca4b"), looks := false }, kinds := [], alts := [], laidByText := true, laidKinds := [.data, .data], laidTests := true, laidLooks := .later }
def SignSolvesCardSaid : Prop := Claim7.holds Tryd.pinned (.plain (OpenSpec.ofChange signSolvesSpec)) signSolvesCard

/-- THE SECOND FORM's CARD OF 'agoralaw05.SignKeys'. -/
def signKeysUptoCard : Claim7 := { stood := { row := signKeysUptoRow, standIns := [], harness := (true, "be93ee0aa0b33ed55689be3d691e6566f10427663218cc94f8a1ca7ee0b7ca4b"), looks := false }, kinds := [], alts := [], laidByText := true, laidKinds := [.data, .data], laidTests := true, laidLooks := .later }
def SignKeysUptoCardSaid : Prop := Claim7.holds Tryd.pinned (.plain (OpenSpec.upto signKeysSpec)) signKeysUptoCard

/-- THE SECOND FORM's CARD OF 'agoralaw05.SignTells'. -/
def signTellsUptoCard : Claim7 := { stood := { row := signTellsUptoRow, standIns := [], harness := (true, "be93ee0aa0b33ed55689be3d691e6566f10427663218cc94f8a1ca7ee0b7ca4b"), looks := false }, kinds := [], alts := [], laidByText := true, laidKinds := [.data, .data], laidTests := true, laidLooks := .later }
def SignTellsUptoCardSaid : Prop := Claim7.holds Tryd.pinned (.plain (OpenSpec.upto signTellsSpec)) signTellsUptoCard

/-- THE SECOND FORM's CARD OF 'agoralaw05.SignVerifies'. -/
def signVerifiesUptoCard : Claim7 := { stood := { row := signVerifiesUptoRow, standIns := [], harness := (true, "be93ee0aa0b33ed55689be3d691e6566f10427663218cc94f8a1ca7ee0b7ca4b"), looks := false }, kinds := [], alts := [], laidByText := true, laidKinds := [.data, .data], laidTests := true, laidLooks := .later }
def SignVerifiesUptoCardSaid : Prop := Claim7.holds Tryd.pinned (.plain (OpenSpec.upto signVerifiesSpec)) signVerifiesUptoCard

/-- THE SECOND FORM's CARD OF 'agoralaw05.SignHolds'. -/
def signHoldsUptoCard : Claim7 := { stood := { row := signHoldsUptoRow, standIns := [], harness := (true, "be93ee0aa0b33ed55689be3d691e6566f10427663218cc94f8a1ca7ee0b7ca4b"), looks := false }, kinds := [], alts := [], laidByText := true, laidKinds := [.data, .data], laidTests := true, laidLooks := .later }
def SignHoldsUptoCardSaid : Prop := Claim7.holds Tryd.pinned (.plain (OpenSpec.upto signHoldsSpec)) signHoldsUptoCard

/-- THE SECOND FORM's CARD OF 'agoralaw05.SignBinds'. -/
def signBindsUptoCard : Claim7 := { stood := { row := signBindsUptoRow, standIns := [], harness := (true, "be93ee0aa0b33ed55689be3d691e6566f10427663218cc94f8a1ca7ee0b7ca4b"), looks := false }, kinds := [], alts := [], laidByText := true, laidKinds := [.data, .data], laidTests := true, laidLooks := .later }
def SignBindsUptoCardSaid : Prop := Claim7.holds Tryd.pinned (.plain (OpenSpec.upto signBindsSpec)) signBindsUptoCard

/-- THE SECOND FORM's CARD OF 'agoralaw05.SignMoves'. -/
def signMovesUptoCard : Claim7 := { stood := { row := signMovesUptoRow, standIns := [], harness := (true, "be93ee0aa0b33ed55689be3d691e6566f10427663218cc94f8a1ca7ee0b7ca4b"), looks := false }, kinds := [], alts := [], laidByText := true, laidKinds := [.data, .data], laidTests := true, laidLooks := .later }
def SignMovesUptoCardSaid : Prop := Claim7.holds Tryd.pinned (.plain (OpenSpec.upto signMovesSpec)) signMovesUptoCard

/-- THE SECOND FORM's CARD OF 'agoralaw05.SignSolves'. -/
def signSolvesUptoCard : Claim7 := { stood := { row := signSolvesUptoRow, standIns := [], harness := (true, "be93ee0aa0b33ed55689be3d691e6566f10427663218cc94f8a1ca7ee0b7ca4b"), looks := false }, kinds := [], alts := [], laidByText := true, laidKinds := [.data, .data], laidTests := true, laidLooks := .later }
def SignSolvesUptoCardSaid : Prop := Claim7.holds Tryd.pinned (.plain (OpenSpec.upto signSolvesSpec)) signSolvesUptoCard
end Rows
end Go.Proofs.YtlcgcpjhmbbgfaaDoor
