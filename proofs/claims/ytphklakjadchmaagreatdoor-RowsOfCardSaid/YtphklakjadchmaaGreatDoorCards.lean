/-
  DERIVED. GIVEN WITH THE SEED: THE CARDS: each row of YtphklakjadchmaaGreatDoorRows.lean that lists a variable, with what it lists TIED to the program's text (the seventh form; the later family's looks); each row that meets fmt, with fmt's text TOLD by the authors' own Lean function (tested against real Go, not proved from fmt's source: count such statements apart). THE CARD IS WHAT COUNTS. Prove the row's statement (the work); the ties are given (YtphklakjadchmaaGreatDoorTie.lean); close each card by the builder's one call (the guide's Derived/Test/ToyasCard.lean, 'card_holds'). Laid BY PROGRAM, IN A SANDBOX (cutbox-door.mjs). By AI agents, Wed Nov 11 2026. No macro, syntax, notation, axiom, sorry.
-/
import Derived.Test.YtphklakjadchmaaGreatDoorRows
import GoSem.ClaimSeven
namespace Go.Proofs.YtphklakjadchmaaGreatDoor
namespace Rows

/-- THE TIED CARD OF 'cartouchelaw14.RowsOf'. -/
def rowsOfCard : Claim7 := { stood := { row := rowsOfRow, standIns := [], harness := (true, "87fbf46bec3c3229404fa5dd6548de9a8f5f8a5e66c0d30daae67b9d8536be25"), looks := false }, kinds := [], alts := [], laidByText := true, laidKinds := [.data, .data, .data], laidTests := true, laidLooks := .later }
def RowsOfCardSaid : Prop := Claim7.holds Tryz.pinned (.plain (OpenSpec.ofChange rowsOfSpec)) rowsOfCard

/-- THE SECOND FORM's CARD OF 'cartouchelaw14.RowsOf'. -/
def rowsOfUptoCard : Claim7 := { stood := { row := rowsOfUptoRow, standIns := [], harness := (true, "87fbf46bec3c3229404fa5dd6548de9a8f5f8a5e66c0d30daae67b9d8536be25"), looks := false }, kinds := [], alts := [], laidByText := true, laidKinds := [.data, .data, .data], laidTests := true, laidLooks := .later }
def RowsOfUptoCardSaid : Prop := Claim7.holds Tryz.pinned (.plain (OpenSpec.upto rowsOfSpec)) rowsOfUptoCard
end Rows
end Go.Proofs.YtphklakjadchmaaGreatDoor
