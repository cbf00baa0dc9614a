/-
  No cell of these rows narrows 'for every input' (looked for: loops, veiled, ifaces, maps, wideKeys, modest, calm, conditions, laid).
  DERIVED. THE GIVEN ROWS OF THIS SEAT. 5 by the template 'for every input the law returns true; each argument reads behind the call as it read before'; 0 by the template 'total and deterministic' (their statements: YtemhoapnjcggjaaTotals.lean).
  GIVEN WITH THE SEED: the statements are not yours to turn. If you find one false, say at which input.
  Laid BY PROGRAM, IN A SANDBOX (cutbox-rows.mjs): the forced cells as the released guide's own fill.sh prints them over the translation 108144267f0b232a… (all of the seat's roots in one cut). By AI agents, Wed Nov 11 2026. No macro, syntax, notation, axiom, sorry.
-/
import Derived.Test.YtemhoapnjcggjaaChecked
import GoSem.Claim
import GoSem.ClaimJoined
import GoSem.ClaimMapViews
import Derived.JoinedTies
import Derived.KernelRfl
namespace Go.Proofs.Ytemhoapnjcggjaa
/- THE CELL 'sum', in the pinned program and in every row, IS THE sha256 OF THE DUMP (.gsa) THAT YtemhoapnjcggjaaProg.lean LOADS. Nothing in Lean hashes anything: it is a label: what it is worth is what the hold of that sum in a sandbox is worth. -/
noncomputable def Try.pinned : Pinned := { name := "ytemhoapnjcggjaa", sum := "108144267f0b232a0f8b352613465eda4893ee66590153673463a9ada4674f7f", checked := Try.checked }
namespace Rows
def none {H : Type} : Left H := { results := [], args := [] }

/-- 'cartouchelaw05.LatticesOf': WHATEVER THE INPUT: true; the input reads as it did. -/
def latticesOfSpec : ChangeSpec := { name := "latticesOf", fn := fun _ => fun
  | [d1, d2, d3] => { results := [.lit (.bool true)], args := [d1, d2, d3] }
  | _ => none }
def latticesOfRow : OpenClaim := { program := "ytemhoapnjcggjaa", sum := "108144267f0b232a0f8b352613465eda4893ee66590153673463a9ada4674f7f", func := "cartouche/cartouchelaw05.LatticesOf", spec := "latticesOf", unfollowed := true, recurses := true, apart := false }
def LatticesOfSaid : Prop := latticesOfRow.holds Try.pinned (OpenSpec.ofChange latticesOfSpec)

/-- ITS FALSE NEIGHBOUR: 'it returns false'. Refute it at one input. -/
def latticesOfWrong : ChangeSpec := { name := "latticesOf", fn := fun _ => fun
  | [d1, d2, d3] => { results := [.lit (.bool false)], args := [d1, d2, d3] }
  | _ => none }
def LatticesOfWrongFalsely : Prop := latticesOfRow.holds Try.pinned (OpenSpec.ofChange latticesOfWrong)

/-- 'cartouchelaw05.LatticesNone': WHATEVER THE INPUT: true; the input reads as it did. -/
def latticesNoneSpec : ChangeSpec := { name := "latticesNone", fn := fun _ => fun
  | [d1, d2] => { results := [.lit (.bool true)], args := [d1, d2] }
  | _ => none }
def latticesNoneRow : OpenClaim := { program := "ytemhoapnjcggjaa", sum := "108144267f0b232a0f8b352613465eda4893ee66590153673463a9ada4674f7f", func := "cartouche/cartouchelaw05.LatticesNone", spec := "latticesNone", unfollowed := true, recurses := true, apart := false }
def LatticesNoneSaid : Prop := latticesNoneRow.holds Try.pinned (OpenSpec.ofChange latticesNoneSpec)

/-- ITS FALSE NEIGHBOUR: 'it returns false'. Refute it at one input. -/
def latticesNoneWrong : ChangeSpec := { name := "latticesNone", fn := fun _ => fun
  | [d1, d2] => { results := [.lit (.bool false)], args := [d1, d2] }
  | _ => none }
def LatticesNoneWrongFalsely : Prop := latticesNoneRow.holds Try.pinned (OpenSpec.ofChange latticesNoneWrong)

/-- 'cartouchelaw05.LatticesTurns': WHATEVER THE INPUT: true; the input reads as it did. -/
def latticesTurnsSpec : ChangeSpec := { name := "latticesTurns", fn := fun _ => fun
  | [d1, d2] => { results := [.lit (.bool true)], args := [d1, d2] }
  | _ => none }
def latticesTurnsRow : OpenClaim := { program := "ytemhoapnjcggjaa", sum := "108144267f0b232a0f8b352613465eda4893ee66590153673463a9ada4674f7f", func := "cartouche/cartouchelaw05.LatticesTurns", spec := "latticesTurns", unfollowed := true, recurses := true, apart := false }
def LatticesTurnsSaid : Prop := latticesTurnsRow.holds Try.pinned (OpenSpec.ofChange latticesTurnsSpec)

/-- ITS FALSE NEIGHBOUR: 'it returns false'. Refute it at one input. -/
def latticesTurnsWrong : ChangeSpec := { name := "latticesTurns", fn := fun _ => fun
  | [d1, d2] => { results := [.lit (.bool false)], args := [d1, d2] }
  | _ => none }
def LatticesTurnsWrongFalsely : Prop := latticesTurnsRow.holds Try.pinned (OpenSpec.ofChange latticesTurnsWrong)

/-- 'cartouchelaw05.LatticesBelow': WHATEVER THE INPUT: true; the input reads as it did. -/
def latticesBelowSpec : ChangeSpec := { name := "latticesBelow", fn := fun _ => fun
  | [d1, d2] => { results := [.lit (.bool true)], args := [d1, d2] }
  | _ => none }
def latticesBelowRow : OpenClaim := { program := "ytemhoapnjcggjaa", sum := "108144267f0b232a0f8b352613465eda4893ee66590153673463a9ada4674f7f", func := "cartouche/cartouchelaw05.LatticesBelow", spec := "latticesBelow", unfollowed := true, recurses := true, apart := false }
def LatticesBelowSaid : Prop := latticesBelowRow.holds Try.pinned (OpenSpec.ofChange latticesBelowSpec)

/-- ITS FALSE NEIGHBOUR: 'it returns false'. Refute it at one input. -/
def latticesBelowWrong : ChangeSpec := { name := "latticesBelow", fn := fun _ => fun
  | [d1, d2] => { results := [.lit (.bool false)], args := [d1, d2] }
  | _ => none }
def LatticesBelowWrongFalsely : Prop := latticesBelowRow.holds Try.pinned (OpenSpec.ofChange latticesBelowWrong)

/-- 'cartouchelaw05.LatticesBounds': WHATEVER THE INPUT: true; the input reads as it did. -/
def latticesBoundsSpec : ChangeSpec := { name := "latticesBounds", fn := fun _ => fun
  | [d1, d2] => { results := [.lit (.bool true)], args := [d1, d2] }
  | _ => none }
def latticesBoundsRow : OpenClaim := { program := "ytemhoapnjcggjaa", sum := "108144267f0b232a0f8b352613465eda4893ee66590153673463a9ada4674f7f", func := "cartouche/cartouchelaw05.LatticesBounds", spec := "latticesBounds", unfollowed := true, recurses := true, apart := false }
def LatticesBoundsSaid : Prop := latticesBoundsRow.holds Try.pinned (OpenSpec.ofChange latticesBoundsSpec)

/-- ITS FALSE NEIGHBOUR: 'it returns false'. Refute it at one input. -/
def latticesBoundsWrong : ChangeSpec := { name := "latticesBounds", fn := fun _ => fun
  | [d1, d2] => { results := [.lit (.bool false)], args := [d1, d2] }
  | _ => none }
def LatticesBoundsWrongFalsely : Prop := latticesBoundsRow.holds Try.pinned (OpenSpec.ofChange latticesBoundsWrong)

/- THE SECOND FORM. 'bulk': how many values and letters a reading holds, each counted each time it is reached (what is shared counts as often as it is met; a slice's spare places count too). A statement '..UptoSaid' is the law's where the arguments, and the package variables that the reading takes, are together of bulk at most 1048576: NARROWER than '..Said'. Prove '..Said' where nothing that the law and all that it calls make is longer than what came in: it says more and counts as full. Else prove '..UptoSaid'. A law counts once. -/
mutual
def uptoBulk {H : Type} : DataW H → Nat
  | .lit (.string bytes) => bytes.length + 1
  | .lit _ => 1
  | .nil => 1
  | .ptr d => uptoBulk d + 1
  | .slice elems spare => uptoBulkAll elems + uptoBulkAll spare + 1
  | .agg parts => uptoBulkAll parts + 1
  | .iface _ d => uptoBulk d + 1
  | .map entries => uptoBulkEntries entries + 1
  | .held _ => 1
def uptoBulkAll {H : Type} : List (DataW H) → Nat
  | [] => 0
  | d :: r => uptoBulk d + uptoBulkAll r
def uptoBulkEntries {H : Type} : List (Lit × DataW H) → Nat
  | [] => 0
  | x :: r => uptoBulkEntry x + uptoBulkEntries r
def uptoBulkEntry {H : Type} : Lit × DataW H → Nat
  | (.string bytes, d) => bytes.length + uptoBulk d + 1
  | (_, d) => uptoBulk d + 1
 end
def uptoSmall : (H : Type) → List (DataW H) → Bool := fun _ ds => decide (uptoBulkAll ds ≤ 1048576)
def OpenSpec.upto (s : _root_.Go.ChangeSpec) : _root_.Go.OpenSpec := { _root_.Go.OpenSpec.ofChange s with cond := some uptoSmall }

/-- 'cartouchelaw05.LatticesOf', WHERE WHAT IT READS IS OF BULK AT MOST 1048576: true; the input reads as it did. -/
def latticesOfUptoRow : OpenClaim := { program := "ytemhoapnjcggjaa", sum := "108144267f0b232a0f8b352613465eda4893ee66590153673463a9ada4674f7f", func := "cartouche/cartouchelaw05.LatticesOf", spec := "latticesOf", unfollowed := true, recurses := true, apart := false, narrowed := true }
def LatticesOfUptoSaid : Prop := latticesOfUptoRow.holds Try.pinned (OpenSpec.upto latticesOfSpec)

/-- 'cartouchelaw05.LatticesNone', WHERE WHAT IT READS IS OF BULK AT MOST 1048576: true; the input reads as it did. -/
def latticesNoneUptoRow : OpenClaim := { program := "ytemhoapnjcggjaa", sum := "108144267f0b232a0f8b352613465eda4893ee66590153673463a9ada4674f7f", func := "cartouche/cartouchelaw05.LatticesNone", spec := "latticesNone", unfollowed := true, recurses := true, apart := false, narrowed := true }
def LatticesNoneUptoSaid : Prop := latticesNoneUptoRow.holds Try.pinned (OpenSpec.upto latticesNoneSpec)

/-- 'cartouchelaw05.LatticesTurns', WHERE WHAT IT READS IS OF BULK AT MOST 1048576: true; the input reads as it did. -/
def latticesTurnsUptoRow : OpenClaim := { program := "ytemhoapnjcggjaa", sum := "108144267f0b232a0f8b352613465eda4893ee66590153673463a9ada4674f7f", func := "cartouche/cartouchelaw05.LatticesTurns", spec := "latticesTurns", unfollowed := true, recurses := true, apart := false, narrowed := true }
def LatticesTurnsUptoSaid : Prop := latticesTurnsUptoRow.holds Try.pinned (OpenSpec.upto latticesTurnsSpec)

/-- 'cartouchelaw05.LatticesBelow', WHERE WHAT IT READS IS OF BULK AT MOST 1048576: true; the input reads as it did. -/
def latticesBelowUptoRow : OpenClaim := { program := "ytemhoapnjcggjaa", sum := "108144267f0b232a0f8b352613465eda4893ee66590153673463a9ada4674f7f", func := "cartouche/cartouchelaw05.LatticesBelow", spec := "latticesBelow", unfollowed := true, recurses := true, apart := false, narrowed := true }
def LatticesBelowUptoSaid : Prop := latticesBelowUptoRow.holds Try.pinned (OpenSpec.upto latticesBelowSpec)

/-- 'cartouchelaw05.LatticesBounds', WHERE WHAT IT READS IS OF BULK AT MOST 1048576: true; the input reads as it did. -/
def latticesBoundsUptoRow : OpenClaim := { program := "ytemhoapnjcggjaa", sum := "108144267f0b232a0f8b352613465eda4893ee66590153673463a9ada4674f7f", func := "cartouche/cartouchelaw05.LatticesBounds", spec := "latticesBounds", unfollowed := true, recurses := true, apart := false, narrowed := true }
def LatticesBoundsUptoSaid : Prop := latticesBoundsUptoRow.holds Try.pinned (OpenSpec.upto latticesBoundsSpec)

end Rows
end Go.Proofs.Ytemhoapnjcggjaa
