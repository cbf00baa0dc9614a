/-
  DERIVED. GIVEN WITH THE SEED: THE CARDS: each row of YtakkmmnpocbakaaGreatDoorRows.lean that lists a variable, with what it lists TIED to the program's text (the seventh form; the later family's looks); each row that meets fmt, with fmt's text TOLD by the authors' own Lean function (tested against real Go, not proved from fmt's source: count such statements apart). THE CARD IS WHAT COUNTS. Prove the row's statement (the work); the ties are given (YtakkmmnpocbakaaGreatDoorTie.lean); close each card by the builder's one call (the guide's Derived/Test/ToyasCard.lean, 'card_holds'). Laid BY PROGRAM, IN A SANDBOX (cutbox-door.mjs). By AI agents, Wed Nov 11 2026. No macro, syntax, notation, axiom, sorry.
-/
import Derived.Test.YtakkmmnpocbakaaGreatDoorRows
import GoSem.ClaimSeven
namespace Go.Proofs.YtakkmmnpocbakaaGreatDoor
namespace Rows

/-- THE TIED CARD OF 'cartouchelaw01.NumsPut'. -/
def numsPutCard : Claim7 := { stood := { row := numsPutRow, standIns := [], harness := (true, "0b02d7867afe2c6727ca450f2944c5a986168fd781712639b0b1bec4256ece7c"), looks := false }, kinds := [], alts := [], laidByText := true, laidKinds := [.data, .data, .data], laidTests := true, laidLooks := .later }
def NumsPutCardSaid : Prop := Claim7.holds Tryz.pinned (.plain (OpenSpec.ofChange numsPutSpec)) numsPutCard

/-- THE SECOND FORM's CARD OF 'cartouchelaw01.NumsPut'. -/
def numsPutUptoCard : Claim7 := { stood := { row := numsPutUptoRow, standIns := [], harness := (true, "0b02d7867afe2c6727ca450f2944c5a986168fd781712639b0b1bec4256ece7c"), looks := false }, kinds := [], alts := [], laidByText := true, laidKinds := [.data, .data, .data], laidTests := true, laidLooks := .later }
def NumsPutUptoCardSaid : Prop := Claim7.holds Tryz.pinned (.plain (OpenSpec.upto numsPutSpec)) numsPutUptoCard
end Rows
end Go.Proofs.YtakkmmnpocbakaaGreatDoor
