/-
  DERIVED. GIVEN WITH THE SEED: THE CARDS: each row of YtkjeejaecagbaaaGreatDoorRows.lean that lists a variable, with what it lists TIED to the program's text (the seventh form; the later family's looks); each row that meets fmt, with fmt's text TOLD by the authors' own Lean function (tested against real Go, not proved from fmt's source: count such statements apart). THE CARD IS WHAT COUNTS. Prove the row's statement (the work); the ties are given (YtkjeejaecagbaaaGreatDoorTie.lean); close each card by the builder's one call (the guide's Derived/Test/ToyasCard.lean, 'card_holds'). Laid BY PROGRAM, IN A SANDBOX (cutbox-door.mjs). By AI agents, Wed Nov 11 2026. No macro, syntax, notation, axiom, sorry.
-/
import Derived.Test.YtkjeejaecagbaaaGreatDoorRows
import GoSem.ClaimSeven
namespace Go.Proofs.YtkjeejaecagbaaaGreatDoor
namespace Rows

/-- THE TIED CARD OF 'cartouchelaw03.TextsOf'. -/
def textsOfCard : Claim7 := { stood := { row := textsOfRow, standIns := [], harness := (true, "fe40ad8ca34d158ce2bd43eed811d9ad1491ce818d64a827f78e9c344d6a3708"), looks := false }, kinds := [], alts := [], laidByText := true, laidKinds := [.data, .data, .data], laidTests := true, laidLooks := .later }
def TextsOfCardSaid : Prop := Claim7.holds Tryz.pinned (.plain (OpenSpec.ofChange textsOfSpec)) textsOfCard

/-- THE SECOND FORM's CARD OF 'cartouchelaw03.TextsOf'. -/
def textsOfUptoCard : Claim7 := { stood := { row := textsOfUptoRow, standIns := [], harness := (true, "fe40ad8ca34d158ce2bd43eed811d9ad1491ce818d64a827f78e9c344d6a3708"), looks := false }, kinds := [], alts := [], laidByText := true, laidKinds := [.data, .data, .data], laidTests := true, laidLooks := .later }
def TextsOfUptoCardSaid : Prop := Claim7.holds Tryz.pinned (.plain (OpenSpec.upto textsOfSpec)) textsOfUptoCard
end Rows
end Go.Proofs.YtkjeejaecagbaaaGreatDoor
