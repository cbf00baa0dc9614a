/-
  DERIVED. GIVEN WITH THE SEED: THE CARDS: each row of YtabfbelbcdbkaaaGreatDoorRows.lean that lists a variable, with what it lists TIED to the program's text (the seventh form; the later family's looks); each row that meets fmt, with fmt's text TOLD by the authors' own Lean function (tested against real Go, not proved from fmt's source: count such statements apart). THE CARD IS WHAT COUNTS. Prove the row's statement (the work); the ties are given (YtabfbelbcdbkaaaGreatDoorTie.lean); close each card by the builder's one call (the guide's Derived/Test/ToyasCard.lean, 'card_holds'). Laid BY PROGRAM, IN A SANDBOX (cutbox-door.mjs). By AI agents, Wed Nov 11 2026. No macro, syntax, notation, axiom, sorry.
-/
import Derived.Test.YtabfbelbcdbkaaaGreatDoorRows
import GoSem.ClaimSeven
namespace Go.Proofs.YtabfbelbcdbkaaaGreatDoor
namespace Rows

/-- THE TIED CARD OF 'cartouchelaw08.SpotsOf'. -/
def spotsOfCard : Claim7 := { stood := { row := spotsOfRow, standIns := [], harness := (true, "8826d568d42c50c186c9765010d07a615faa97d0e2e5939f2731088bc926772b"), looks := false }, kinds := [], alts := [], laidByText := true, laidKinds := [.data, .data, .data], laidTests := true, laidLooks := .later }
def SpotsOfCardSaid : Prop := Claim7.holds Tryz.pinned (.plain (OpenSpec.ofChange spotsOfSpec)) spotsOfCard

/-- THE TIED CARD OF 'cartouchelaw08.SpotsPut'. -/
def spotsPutCard : Claim7 := { stood := { row := spotsPutRow, standIns := [], harness := (true, "8826d568d42c50c186c9765010d07a615faa97d0e2e5939f2731088bc926772b"), looks := false }, kinds := [], alts := [], laidByText := true, laidKinds := [.data, .data, .data], laidTests := true, laidLooks := .later }
def SpotsPutCardSaid : Prop := Claim7.holds Tryz.pinned (.plain (OpenSpec.ofChange spotsPutSpec)) spotsPutCard

/-- THE SECOND FORM's CARD OF 'cartouchelaw08.SpotsOf'. -/
def spotsOfUptoCard : Claim7 := { stood := { row := spotsOfUptoRow, standIns := [], harness := (true, "8826d568d42c50c186c9765010d07a615faa97d0e2e5939f2731088bc926772b"), looks := false }, kinds := [], alts := [], laidByText := true, laidKinds := [.data, .data, .data], laidTests := true, laidLooks := .later }
def SpotsOfUptoCardSaid : Prop := Claim7.holds Tryz.pinned (.plain (OpenSpec.upto spotsOfSpec)) spotsOfUptoCard

/-- THE SECOND FORM's CARD OF 'cartouchelaw08.SpotsPut'. -/
def spotsPutUptoCard : Claim7 := { stood := { row := spotsPutUptoRow, standIns := [], harness := (true, "8826d568d42c50c186c9765010d07a615faa97d0e2e5939f2731088bc926772b"), looks := false }, kinds := [], alts := [], laidByText := true, laidKinds := [.data, .data, .data], laidTests := true, laidLooks := .later }
def SpotsPutUptoCardSaid : Prop := Claim7.holds Tryz.pinned (.plain (OpenSpec.upto spotsPutSpec)) spotsPutUptoCard
end Rows
end Go.Proofs.YtabfbelbcdbkaaaGreatDoor
