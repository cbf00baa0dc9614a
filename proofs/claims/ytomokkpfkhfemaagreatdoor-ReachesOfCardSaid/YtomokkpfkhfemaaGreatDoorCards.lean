/-
  DERIVED. GIVEN WITH THE SEED: THE CARDS: each row of YtomokkpfkhfemaaGreatDoorRows.lean that lists a variable, with what it lists TIED to the program's text (the seventh form; the later family's looks); each row that meets fmt, with fmt's text TOLD by the authors' own Lean function (tested against real Go, not proved from fmt's source: count such statements apart). THE CARD IS WHAT COUNTS. Prove the row's statement (the work); the ties are given (YtomokkpfkhfemaaGreatDoorTie.lean); close each card by the builder's one call (the guide's Derived/Test/ToyasCard.lean, 'card_holds'). Laid BY PROGRAM, IN A SANDBOX (cutbox-door.mjs). By AI agents, Wed Nov 11 2026. No macro, syntax, notation, axiom, sorry.
-/
import Derived.Test.YtomokkpfkhfemaaGreatDoorRows
import GoSem.ClaimSeven
namespace Go.Proofs.YtomokkpfkhfemaaGreatDoor
namespace Rows

/-- THE TIED CARD OF 'cartouchelaw11.ReachesOf'. -/
def reachesOfCard : Claim7 := { stood := { row := reachesOfRow, standIns := [], harness := (true, "fd2829245ff7ee7aeb250b7ea365b9fa304e88891914cb6961e31213c1e70146"), looks := false }, kinds := [], alts := [], laidByText := true, laidKinds := [.data, .data, .data], laidTests := true, laidLooks := .later }
def ReachesOfCardSaid : Prop := Claim7.holds Tryz.pinned (.plain (OpenSpec.ofChange reachesOfSpec)) reachesOfCard

/-- THE SECOND FORM's CARD OF 'cartouchelaw11.ReachesOf'. -/
def reachesOfUptoCard : Claim7 := { stood := { row := reachesOfUptoRow, standIns := [], harness := (true, "fd2829245ff7ee7aeb250b7ea365b9fa304e88891914cb6961e31213c1e70146"), looks := false }, kinds := [], alts := [], laidByText := true, laidKinds := [.data, .data, .data], laidTests := true, laidLooks := .later }
def ReachesOfUptoCardSaid : Prop := Claim7.holds Tryz.pinned (.plain (OpenSpec.upto reachesOfSpec)) reachesOfUptoCard
end Rows
end Go.Proofs.YtomokkpfkhfemaaGreatDoor
