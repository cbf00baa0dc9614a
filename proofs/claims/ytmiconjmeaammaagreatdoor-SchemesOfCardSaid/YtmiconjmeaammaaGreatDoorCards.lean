/-
  DERIVED. GIVEN WITH THE SEED: THE CARDS: each row of YtmiconjmeaammaaGreatDoorRows.lean that lists a variable, with what it lists TIED to the program's text (the seventh form; the later family's looks); each row that meets fmt, with fmt's text TOLD by the authors' own Lean function (tested against real Go, not proved from fmt's source: count such statements apart). THE CARD IS WHAT COUNTS. Prove the row's statement (the work); the ties are given (YtmiconjmeaammaaGreatDoorTie.lean); close each card by the builder's one call (the guide's Derived/Test/ToyasCard.lean, 'card_holds'). Laid BY PROGRAM, IN A SANDBOX (cutbox-door.mjs). By AI agents, Wed Nov 11 2026. No macro, syntax, notation, axiom, sorry.
-/
import Derived.Test.YtmiconjmeaammaaGreatDoorRows
import GoSem.ClaimSeven
namespace Go.Proofs.YtmiconjmeaammaaGreatDoor
namespace Rows

/-- THE TIED CARD OF 'cartouchelaw12.SchemesOf'. -/
def schemesOfCard : Claim7 := { stood := { row := schemesOfRow, standIns := [], harness := (true, "79cff7cb4619f3b3f5f7ca09468c61b2fa9ce46c080a4e68ab60390e96b97ab6"), looks := false }, kinds := [], alts := [], laidByText := true, laidKinds := [.data, .data, .data], laidTests := true, laidLooks := .later }
def SchemesOfCardSaid : Prop := Claim7.holds Tryz.pinned (.plain (OpenSpec.ofChange schemesOfSpec)) schemesOfCard

/-- THE SECOND FORM's CARD OF 'cartouchelaw12.SchemesOf'. -/
def schemesOfUptoCard : Claim7 := { stood := { row := schemesOfUptoRow, standIns := [], harness := (true, "79cff7cb4619f3b3f5f7ca09468c61b2fa9ce46c080a4e68ab60390e96b97ab6"), looks := false }, kinds := [], alts := [], laidByText := true, laidKinds := [.data, .data, .data], laidTests := true, laidLooks := .later }
def SchemesOfUptoCardSaid : Prop := Claim7.holds Tryz.pinned (.plain (OpenSpec.upto schemesOfSpec)) schemesOfUptoCard
end Rows
end Go.Proofs.YtmiconjmeaammaaGreatDoor
