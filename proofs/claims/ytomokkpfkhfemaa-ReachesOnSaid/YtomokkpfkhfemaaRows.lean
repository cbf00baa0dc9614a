/-
  No cell of these rows narrows 'for every input' (looked for: loops, veiled, ifaces, maps, wideKeys, modest, calm, conditions, laid).
  DERIVED. THE GIVEN ROWS OF THIS SEAT. 4 by the template 'for every input the law returns true; each argument reads behind the call as it read before'; 0 by the template 'total and deterministic' (their statements: YtomokkpfkhfemaaTotals.lean).
  GIVEN WITH THE SEED: the statements are not yours to turn. If you find one false, say at which input.
  Laid BY PROGRAM, IN A SANDBOX (cutbox-rows.mjs): the forced cells as the released guide's own fill.sh prints them over the translation 91204f57cf63ce6c… (all of the seat's roots in one cut). By AI agents, Wed Nov 11 2026. No macro, syntax, notation, axiom, sorry.
-/
import Derived.Test.YtomokkpfkhfemaaChecked
import GoSem.Claim
import GoSem.ClaimJoined
import GoSem.ClaimMapViews
import Derived.JoinedTies
import Derived.KernelRfl
namespace Go.Proofs.Ytomokkpfkhfemaa
/- THE CELL 'sum', in the pinned program and in every row, IS THE sha256 OF THE DUMP (.gsa) THAT YtomokkpfkhfemaaProg.lean LOADS. Nothing in Lean hashes anything: it is a label: what it is worth is what the hold of that sum in a sandbox is worth. -/
noncomputable def Try.pinned : Pinned := { name := "ytomokkpfkhfemaa", sum := "91204f57cf63ce6cfe263bf95b26ecb41ca9e6d8441b6e13b29f75a0de304cbf", checked := Try.checked }
namespace Rows
def none {H : Type} : Left H := { results := [], args := [] }

/-- 'cartouchelaw11.ReachesOn': WHATEVER THE INPUT: true; the input reads as it did. -/
def reachesOnSpec : ChangeSpec := { name := "reachesOn", fn := fun _ => fun
  | [d1, d2] => { results := [.lit (.bool true)], args := [d1, d2] }
  | _ => none }
def reachesOnRow : OpenClaim := { program := "ytomokkpfkhfemaa", sum := "91204f57cf63ce6cfe263bf95b26ecb41ca9e6d8441b6e13b29f75a0de304cbf", func := "cartouche/cartouchelaw11.ReachesOn", spec := "reachesOn", apart := false }
def ReachesOnSaid : Prop := reachesOnRow.holds Try.pinned (OpenSpec.ofChange reachesOnSpec)

/-- ITS FALSE NEIGHBOUR: 'it returns false'. Refute it at one input. -/
def reachesOnWrong : ChangeSpec := { name := "reachesOn", fn := fun _ => fun
  | [d1, d2] => { results := [.lit (.bool false)], args := [d1, d2] }
  | _ => none }
def ReachesOnWrongFalsely : Prop := reachesOnRow.holds Try.pinned (OpenSpec.ofChange reachesOnWrong)

/-- 'cartouchelaw11.ReachesBelow': WHATEVER THE INPUT: true; the input reads as it did. -/
def reachesBelowSpec : ChangeSpec := { name := "reachesBelow", fn := fun _ => fun
  | [d] => { results := [.lit (.bool true)], args := [d] }
  | _ => none }
def reachesBelowRow : OpenClaim := { program := "ytomokkpfkhfemaa", sum := "91204f57cf63ce6cfe263bf95b26ecb41ca9e6d8441b6e13b29f75a0de304cbf", func := "cartouche/cartouchelaw11.ReachesBelow", spec := "reachesBelow", unfollowed := true, recurses := true, apart := false }
def ReachesBelowSaid : Prop := reachesBelowRow.holds Try.pinned (OpenSpec.ofChange reachesBelowSpec)

/-- ITS FALSE NEIGHBOUR: 'it returns false'. Refute it at one input. -/
def reachesBelowWrong : ChangeSpec := { name := "reachesBelow", fn := fun _ => fun
  | [d] => { results := [.lit (.bool false)], args := [d] }
  | _ => none }
def ReachesBelowWrongFalsely : Prop := reachesBelowRow.holds Try.pinned (OpenSpec.ofChange reachesBelowWrong)

/-- 'cartouchelaw11.ReachesConstants': WHATEVER THE INPUT: true; the input reads as it did. -/
def reachesConstantsSpec : ChangeSpec := { name := "reachesConstants", fn := fun _ => fun
  | [d1, d2, d3] => { results := [.lit (.bool true)], args := [d1, d2, d3] }
  | _ => none }
def reachesConstantsRow : OpenClaim := { program := "ytomokkpfkhfemaa", sum := "91204f57cf63ce6cfe263bf95b26ecb41ca9e6d8441b6e13b29f75a0de304cbf", func := "cartouche/cartouchelaw11.ReachesConstants", spec := "reachesConstants", apart := false }
def ReachesConstantsSaid : Prop := reachesConstantsRow.holds Try.pinned (OpenSpec.ofChange reachesConstantsSpec)

/-- ITS FALSE NEIGHBOUR: 'it returns false'. Refute it at one input. -/
def reachesConstantsWrong : ChangeSpec := { name := "reachesConstants", fn := fun _ => fun
  | [d1, d2, d3] => { results := [.lit (.bool false)], args := [d1, d2, d3] }
  | _ => none }
def ReachesConstantsWrongFalsely : Prop := reachesConstantsRow.holds Try.pinned (OpenSpec.ofChange reachesConstantsWrong)

/-- 'cartouchelaw11.ReachesLess': WHATEVER THE INPUT: true; the input reads as it did. -/
def reachesLessSpec : ChangeSpec := { name := "reachesLess", fn := fun _ => fun
  | [d1, d2, d3] => { results := [.lit (.bool true)], args := [d1, d2, d3] }
  | _ => none }
def reachesLessRow : OpenClaim := { program := "ytomokkpfkhfemaa", sum := "91204f57cf63ce6cfe263bf95b26ecb41ca9e6d8441b6e13b29f75a0de304cbf", func := "cartouche/cartouchelaw11.ReachesLess", spec := "reachesLess", apart := false }
def ReachesLessSaid : Prop := reachesLessRow.holds Try.pinned (OpenSpec.ofChange reachesLessSpec)

/-- ITS FALSE NEIGHBOUR: 'it returns false'. Refute it at one input. -/
def reachesLessWrong : ChangeSpec := { name := "reachesLess", fn := fun _ => fun
  | [d1, d2, d3] => { results := [.lit (.bool false)], args := [d1, d2, d3] }
  | _ => none }
def ReachesLessWrongFalsely : Prop := reachesLessRow.holds Try.pinned (OpenSpec.ofChange reachesLessWrong)

/- THE SECOND FORM. 'bulk': how many values and letters a reading holds, each counted each time it is reached (what is shared counts as often as it is met; a slice's spare places count too). A statement '..UptoSaid' is the law's where the arguments, and the package variables that the reading takes, are together of bulk at most 1048576: NARROWER than '..Said'. Prove '..Said' where nothing that the law and all that it calls make is longer than what came in: it says more and counts as full. Else prove '..UptoSaid'. A law counts once. -/
mutual
def uptoBulk {H : Type} : DataW H → Nat
  | .lit (.string bytes) => bytes.length + 1
  | .lit _ => 1
  | .nil => 1
  | .ptr d => uptoBulk d + 1
  | .slice elems spare => uptoBulkAll elems + uptoBulkAll spare + 1
  | .agg parts => uptoBulkAll parts + 1
  | .iface _ d => uptoBulk d + 1
  | .map entries => uptoBulkEntries entries + 1
  | .held _ => 1
def uptoBulkAll {H : Type} : List (DataW H) → Nat
  | [] => 0
  | d :: r => uptoBulk d + uptoBulkAll r
def uptoBulkEntries {H : Type} : List (Lit × DataW H) → Nat
  | [] => 0
  | x :: r => uptoBulkEntry x + uptoBulkEntries r
def uptoBulkEntry {H : Type} : Lit × DataW H → Nat
  | (.string bytes, d) => bytes.length + uptoBulk d + 1
  | (_, d) => uptoBulk d + 1
 end
def uptoSmall : (H : Type) → List (DataW H) → Bool := fun _ ds => decide (uptoBulkAll ds ≤ 1048576)
def OpenSpec.upto (s : _root_.Go.ChangeSpec) : _root_.Go.OpenSpec := { _root_.Go.OpenSpec.ofChange s with cond := some uptoSmall }

/-- 'cartouchelaw11.ReachesOn', WHERE WHAT IT READS IS OF BULK AT MOST 1048576: true; the input reads as it did. -/
def reachesOnUptoRow : OpenClaim := { program := "ytomokkpfkhfemaa", sum := "91204f57cf63ce6cfe263bf95b26ecb41ca9e6d8441b6e13b29f75a0de304cbf", func := "cartouche/cartouchelaw11.ReachesOn", spec := "reachesOn", apart := false, narrowed := true }
def ReachesOnUptoSaid : Prop := reachesOnUptoRow.holds Try.pinned (OpenSpec.upto reachesOnSpec)

/-- 'cartouchelaw11.ReachesBelow', WHERE WHAT IT READS IS OF BULK AT MOST 1048576: true; the input reads as it did. -/
def reachesBelowUptoRow : OpenClaim := { program := "ytomokkpfkhfemaa", sum := "91204f57cf63ce6cfe263bf95b26ecb41ca9e6d8441b6e13b29f75a0de304cbf", func := "cartouche/cartouchelaw11.ReachesBelow", spec := "reachesBelow", unfollowed := true, recurses := true, apart := false, narrowed := true }
def ReachesBelowUptoSaid : Prop := reachesBelowUptoRow.holds Try.pinned (OpenSpec.upto reachesBelowSpec)

/-- 'cartouchelaw11.ReachesConstants', WHERE WHAT IT READS IS OF BULK AT MOST 1048576: true; the input reads as it did. -/
def reachesConstantsUptoRow : OpenClaim := { program := "ytomokkpfkhfemaa", sum := "91204f57cf63ce6cfe263bf95b26ecb41ca9e6d8441b6e13b29f75a0de304cbf", func := "cartouche/cartouchelaw11.ReachesConstants", spec := "reachesConstants", apart := false, narrowed := true }
def ReachesConstantsUptoSaid : Prop := reachesConstantsUptoRow.holds Try.pinned (OpenSpec.upto reachesConstantsSpec)

/-- 'cartouchelaw11.ReachesLess', WHERE WHAT IT READS IS OF BULK AT MOST 1048576: true; the input reads as it did. -/
def reachesLessUptoRow : OpenClaim := { program := "ytomokkpfkhfemaa", sum := "91204f57cf63ce6cfe263bf95b26ecb41ca9e6d8441b6e13b29f75a0de304cbf", func := "cartouche/cartouchelaw11.ReachesLess", spec := "reachesLess", apart := false, narrowed := true }
def ReachesLessUptoSaid : Prop := reachesLessUptoRow.holds Try.pinned (OpenSpec.upto reachesLessSpec)

end Rows
end Go.Proofs.Ytomokkpfkhfemaa
