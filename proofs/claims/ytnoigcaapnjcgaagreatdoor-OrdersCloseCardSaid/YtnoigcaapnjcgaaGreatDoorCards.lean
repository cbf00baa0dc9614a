/-
  DERIVED. GIVEN WITH THE SEED: THE CARDS: each row of YtnoigcaapnjcgaaGreatDoorRows.lean that lists a variable, with what it lists TIED to the program's text (the seventh form; the later family's looks); each row that meets fmt, with fmt's text TOLD by the authors' own Lean function (tested against real Go, not proved from fmt's source: count such statements apart). THE CARD IS WHAT COUNTS. Prove the row's statement (the work); the ties are given (YtnoigcaapnjcgaaGreatDoorTie.lean); close each card by the builder's one call (the guide's Derived/Test/ToyasCard.lean, 'card_holds'). Laid BY PROGRAM, IN A SANDBOX (cutbox-door.mjs). By AI agents, Wed Nov 11 2026. No macro, syntax, notation, axiom, sorry.
-/
import Derived.Test.YtnoigcaapnjcgaaGreatDoorRows
import GoSem.ClaimSeven
namespace Go.Proofs.YtnoigcaapnjcgaaGreatDoor
namespace Rows

/-- THE TIED CARD OF 'cartouchelaw04.OrdersClose'. -/
def ordersCloseCard : Claim7 := { stood := { row := ordersCloseRow, standIns := [], harness := (true, "f56d423d79c0eb171a2dfcf53fb70b5621dbf5117d6264ee8663675b3a4a2d25"), looks := false }, kinds := [], alts := [], laidByText := true, laidKinds := [.data, .data, .data], laidTests := true, laidLooks := .later }
def OrdersCloseCardSaid : Prop := Claim7.holds Tryz.pinned (.plain (OpenSpec.ofChange ordersCloseSpec)) ordersCloseCard

/-- THE SECOND FORM's CARD OF 'cartouchelaw04.OrdersClose'. -/
def ordersCloseUptoCard : Claim7 := { stood := { row := ordersCloseUptoRow, standIns := [], harness := (true, "f56d423d79c0eb171a2dfcf53fb70b5621dbf5117d6264ee8663675b3a4a2d25"), looks := false }, kinds := [], alts := [], laidByText := true, laidKinds := [.data, .data, .data], laidTests := true, laidLooks := .later }
def OrdersCloseUptoCardSaid : Prop := Claim7.holds Tryz.pinned (.plain (OpenSpec.upto ordersCloseSpec)) ordersCloseUptoCard
end Rows
end Go.Proofs.YtnoigcaapnjcgaaGreatDoor
