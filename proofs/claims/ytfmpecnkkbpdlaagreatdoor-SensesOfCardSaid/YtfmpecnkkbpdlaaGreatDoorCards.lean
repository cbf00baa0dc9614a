/-
  DERIVED. GIVEN WITH THE SEED: THE CARDS: each row of YtfmpecnkkbpdlaaGreatDoorRows.lean that lists a variable, with what it lists TIED to the program's text (the seventh form; the later family's looks); each row that meets fmt, with fmt's text TOLD by the authors' own Lean function (tested against real Go, not proved from fmt's source: count such statements apart). THE CARD IS WHAT COUNTS. Prove the row's statement (the work); the ties are given (YtfmpecnkkbpdlaaGreatDoorTie.lean); close each card by the builder's one call (the guide's Derived/Test/ToyasCard.lean, 'card_holds'). Laid BY PROGRAM, IN A SANDBOX (cutbox-door.mjs). By AI agents, Wed Nov 11 2026. No macro, syntax, notation, axiom, sorry.
-/
import Derived.Test.YtfmpecnkkbpdlaaGreatDoorRows
import GoSem.ClaimSeven
namespace Go.Proofs.YtfmpecnkkbpdlaaGreatDoor
namespace Rows

/-- THE TIED CARD OF 'cartouchelaw13.SensesOf'. -/
def sensesOfCard : Claim7 := { stood := { row := sensesOfRow, standIns := [], harness := (true, "9c6bd33a1efa4547bf82b70f42f0b063f1e838f97cc089b77f8f071ea6cf6638"), looks := false }, kinds := [], alts := [], laidByText := true, laidKinds := [.data, .data, .data], laidTests := true, laidLooks := .later }
def SensesOfCardSaid : Prop := Claim7.holds Tryz.pinned (.plain (OpenSpec.ofChange sensesOfSpec)) sensesOfCard

/-- THE SECOND FORM's CARD OF 'cartouchelaw13.SensesOf'. -/
def sensesOfUptoCard : Claim7 := { stood := { row := sensesOfUptoRow, standIns := [], harness := (true, "9c6bd33a1efa4547bf82b70f42f0b063f1e838f97cc089b77f8f071ea6cf6638"), looks := false }, kinds := [], alts := [], laidByText := true, laidKinds := [.data, .data, .data], laidTests := true, laidLooks := .later }
def SensesOfUptoCardSaid : Prop := Claim7.holds Tryz.pinned (.plain (OpenSpec.upto sensesOfSpec)) sensesOfUptoCard
end Rows
end Go.Proofs.YtfmpecnkkbpdlaaGreatDoor
