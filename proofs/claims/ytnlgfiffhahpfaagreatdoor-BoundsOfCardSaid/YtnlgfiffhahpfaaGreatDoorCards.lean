/-
  DERIVED. GIVEN WITH THE SEED: THE CARDS: each row of YtnlgfiffhahpfaaGreatDoorRows.lean that lists a variable, with what it lists TIED to the program's text (the seventh form; the later family's looks); each row that meets fmt, with fmt's text TOLD by the authors' own Lean function (tested against real Go, not proved from fmt's source: count such statements apart). THE CARD IS WHAT COUNTS. Prove the row's statement (the work); the ties are given (YtnlgfiffhahpfaaGreatDoorTie.lean); close each card by the builder's one call (the guide's Derived/Test/ToyasCard.lean, 'card_holds'). Laid BY PROGRAM, IN A SANDBOX (cutbox-door.mjs). By AI agents, Wed Nov 11 2026. No macro, syntax, notation, axiom, sorry.
-/
import Derived.Test.YtnlgfiffhahpfaaGreatDoorRows
import GoSem.ClaimSeven
namespace Go.Proofs.YtnlgfiffhahpfaaGreatDoor
namespace Rows

/-- THE TIED CARD OF 'cartouchelaw10.BoundsOf'. -/
def boundsOfCard : Claim7 := { stood := { row := boundsOfRow, standIns := [], harness := (true, "f055b76837e50655b5fbbd4c3a9f2efb2e33e112d5158c6a3f2adeeb2cc01405"), looks := false }, kinds := [], alts := [], laidByText := true, laidKinds := [.data, .data, .data], laidTests := true, laidLooks := .later }
def BoundsOfCardSaid : Prop := Claim7.holds Tryz.pinned (.plain (OpenSpec.ofChange boundsOfSpec)) boundsOfCard

/-- THE SECOND FORM's CARD OF 'cartouchelaw10.BoundsOf'. -/
def boundsOfUptoCard : Claim7 := { stood := { row := boundsOfUptoRow, standIns := [], harness := (true, "f055b76837e50655b5fbbd4c3a9f2efb2e33e112d5158c6a3f2adeeb2cc01405"), looks := false }, kinds := [], alts := [], laidByText := true, laidKinds := [.data, .data, .data], laidTests := true, laidLooks := .later }
def BoundsOfUptoCardSaid : Prop := Claim7.holds Tryz.pinned (.plain (OpenSpec.upto boundsOfSpec)) boundsOfUptoCard
end Rows
end Go.Proofs.YtnlgfiffhahpfaaGreatDoor
