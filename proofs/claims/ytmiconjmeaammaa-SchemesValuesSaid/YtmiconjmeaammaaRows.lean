/-
  No cell of these rows narrows 'for every input' (looked for: loops, veiled, ifaces, maps, wideKeys, modest, calm, conditions, laid).
  DERIVED. THE GIVEN ROWS OF THIS SEAT. 5 by the template 'for every input the law returns true; each argument reads behind the call as it read before'; 0 by the template 'total and deterministic' (their statements: YtmiconjmeaammaaTotals.lean).
  GIVEN WITH THE SEED: the statements are not yours to turn. If you find one false, say at which input.
  Laid BY PROGRAM, IN A SANDBOX (cutbox-rows.mjs): the forced cells as the released guide's own fill.sh prints them over the translation 2bb8c11da22bf210… (all of the seat's roots in one cut). By AI agents, Wed Nov 11 2026. No macro, syntax, notation, axiom, sorry.
-/
import Derived.Test.YtmiconjmeaammaaChecked
import GoSem.Claim
import GoSem.ClaimJoined
import GoSem.ClaimMapViews
import Derived.JoinedTies
import Derived.KernelRfl
namespace Go.Proofs.Ytmiconjmeaammaa
/- THE CELL 'sum', in the pinned program and in every row, IS THE sha256 OF THE DUMP (.gsa) THAT YtmiconjmeaammaaProg.lean LOADS. Nothing in Lean hashes anything: it is a label: what it is worth is what the hold of that sum in a sandbox is worth. -/
noncomputable def Try.pinned : Pinned := { name := "ytmiconjmeaammaa", sum := "2bb8c11da22bf2107f8ae885647c4c774f1252fd45523e6439fbbdc687edce68", checked := Try.checked }
namespace Rows
def none {H : Type} : Left H := { results := [], args := [] }

/-- 'cartouchelaw12.SchemesGround': WHATEVER THE INPUT: true; the input reads as it did. -/
def schemesGroundSpec : ChangeSpec := { name := "schemesGround", fn := fun _ => fun
  | [d1, d2] => { results := [.lit (.bool true)], args := [d1, d2] }
  | _ => none }
def schemesGroundRow : OpenClaim := { program := "ytmiconjmeaammaa", sum := "2bb8c11da22bf2107f8ae885647c4c774f1252fd45523e6439fbbdc687edce68", func := "cartouche/cartouchelaw12.SchemesGround", spec := "schemesGround", unfollowed := true, recurses := true, apart := false }
def SchemesGroundSaid : Prop := schemesGroundRow.holds Try.pinned (OpenSpec.ofChange schemesGroundSpec)

/-- ITS FALSE NEIGHBOUR: 'it returns false'. Refute it at one input. -/
def schemesGroundWrong : ChangeSpec := { name := "schemesGround", fn := fun _ => fun
  | [d1, d2] => { results := [.lit (.bool false)], args := [d1, d2] }
  | _ => none }
def SchemesGroundWrongFalsely : Prop := schemesGroundRow.holds Try.pinned (OpenSpec.ofChange schemesGroundWrong)

/-- 'cartouchelaw12.SchemesValues': WHATEVER THE INPUT: true; the input reads as it did. -/
def schemesValuesSpec : ChangeSpec := { name := "schemesValues", fn := fun _ => fun
  | [d1, d2, d3] => { results := [.lit (.bool true)], args := [d1, d2, d3] }
  | _ => none }
def schemesValuesRow : OpenClaim := { program := "ytmiconjmeaammaa", sum := "2bb8c11da22bf2107f8ae885647c4c774f1252fd45523e6439fbbdc687edce68", func := "cartouche/cartouchelaw12.SchemesValues", spec := "schemesValues", unfollowed := true, recurses := true, apart := false }
def SchemesValuesSaid : Prop := schemesValuesRow.holds Try.pinned (OpenSpec.ofChange schemesValuesSpec)

/-- ITS FALSE NEIGHBOUR: 'it returns false'. Refute it at one input. -/
def schemesValuesWrong : ChangeSpec := { name := "schemesValues", fn := fun _ => fun
  | [d1, d2, d3] => { results := [.lit (.bool false)], args := [d1, d2, d3] }
  | _ => none }
def SchemesValuesWrongFalsely : Prop := schemesValuesRow.holds Try.pinned (OpenSpec.ofChange schemesValuesWrong)

/-- 'cartouchelaw12.SchemesParts': WHATEVER THE INPUT: true; the input reads as it did. -/
def schemesPartsSpec : ChangeSpec := { name := "schemesParts", fn := fun _ => fun
  | [d1, d2] => { results := [.lit (.bool true)], args := [d1, d2] }
  | _ => none }
def schemesPartsRow : OpenClaim := { program := "ytmiconjmeaammaa", sum := "2bb8c11da22bf2107f8ae885647c4c774f1252fd45523e6439fbbdc687edce68", func := "cartouche/cartouchelaw12.SchemesParts", spec := "schemesParts", unfollowed := true, recurses := true, apart := false }
def SchemesPartsSaid : Prop := schemesPartsRow.holds Try.pinned (OpenSpec.ofChange schemesPartsSpec)

/-- ITS FALSE NEIGHBOUR: 'it returns false'. Refute it at one input. -/
def schemesPartsWrong : ChangeSpec := { name := "schemesParts", fn := fun _ => fun
  | [d1, d2] => { results := [.lit (.bool false)], args := [d1, d2] }
  | _ => none }
def SchemesPartsWrongFalsely : Prop := schemesPartsRow.holds Try.pinned (OpenSpec.ofChange schemesPartsWrong)

/-- 'cartouchelaw12.SchemesMore': WHATEVER THE INPUT: true; the input reads as it did. -/
def schemesMoreSpec : ChangeSpec := { name := "schemesMore", fn := fun _ => fun
  | [d1, d2] => { results := [.lit (.bool true)], args := [d1, d2] }
  | _ => none }
def schemesMoreRow : OpenClaim := { program := "ytmiconjmeaammaa", sum := "2bb8c11da22bf2107f8ae885647c4c774f1252fd45523e6439fbbdc687edce68", func := "cartouche/cartouchelaw12.SchemesMore", spec := "schemesMore", unfollowed := true, recurses := true, apart := false }
def SchemesMoreSaid : Prop := schemesMoreRow.holds Try.pinned (OpenSpec.ofChange schemesMoreSpec)

/-- ITS FALSE NEIGHBOUR: 'it returns false'. Refute it at one input. -/
def schemesMoreWrong : ChangeSpec := { name := "schemesMore", fn := fun _ => fun
  | [d1, d2] => { results := [.lit (.bool false)], args := [d1, d2] }
  | _ => none }
def SchemesMoreWrongFalsely : Prop := schemesMoreRow.holds Try.pinned (OpenSpec.ofChange schemesMoreWrong)

/-- 'cartouchelaw12.SchemesHold': WHATEVER THE INPUT: true; the input reads as it did. -/
def schemesHoldSpec : ChangeSpec := { name := "schemesHold", fn := fun _ => fun
  | [d1, d2, d3] => { results := [.lit (.bool true)], args := [d1, d2, d3] }
  | _ => none }
def schemesHoldRow : OpenClaim := { program := "ytmiconjmeaammaa", sum := "2bb8c11da22bf2107f8ae885647c4c774f1252fd45523e6439fbbdc687edce68", func := "cartouche/cartouchelaw12.SchemesHold", spec := "schemesHold", unfollowed := true, recurses := true, apart := false }
def SchemesHoldSaid : Prop := schemesHoldRow.holds Try.pinned (OpenSpec.ofChange schemesHoldSpec)

/-- ITS FALSE NEIGHBOUR: 'it returns false'. Refute it at one input. -/
def schemesHoldWrong : ChangeSpec := { name := "schemesHold", fn := fun _ => fun
  | [d1, d2, d3] => { results := [.lit (.bool false)], args := [d1, d2, d3] }
  | _ => none }
def SchemesHoldWrongFalsely : Prop := schemesHoldRow.holds Try.pinned (OpenSpec.ofChange schemesHoldWrong)

/- THE SECOND FORM. 'bulk': how many values and letters a reading holds, each counted each time it is reached (what is shared counts as often as it is met; a slice's spare places count too). A statement '..UptoSaid' is the law's where the arguments, and the package variables that the reading takes, are together of bulk at most 1048576: NARROWER than '..Said'. Prove '..Said' where nothing that the law and all that it calls make is longer than what came in: it says more and counts as full. Else prove '..UptoSaid'. A law counts once. -/
mutual
def uptoBulk {H : Type} : DataW H → Nat
  | .lit (.string bytes) => bytes.length + 1
  | .lit _ => 1
  | .nil => 1
  | .ptr d => uptoBulk d + 1
  | .slice elems spare => uptoBulkAll elems + uptoBulkAll spare + 1
  | .agg parts => uptoBulkAll parts + 1
  | .iface _ d => uptoBulk d + 1
  | .map entries => uptoBulkEntries entries + 1
  | .held _ => 1
def uptoBulkAll {H : Type} : List (DataW H) → Nat
  | [] => 0
  | d :: r => uptoBulk d + uptoBulkAll r
def uptoBulkEntries {H : Type} : List (Lit × DataW H) → Nat
  | [] => 0
  | x :: r => uptoBulkEntry x + uptoBulkEntries r
def uptoBulkEntry {H : Type} : Lit × DataW H → Nat
  | (.string bytes, d) => bytes.length + uptoBulk d + 1
  | (_, d) => uptoBulk d + 1
 end
def uptoSmall : (H : Type) → List (DataW H) → Bool := fun _ ds => decide (uptoBulkAll ds ≤ 1048576)
def OpenSpec.upto (s : _root_.Go.ChangeSpec) : _root_.Go.OpenSpec := { _root_.Go.OpenSpec.ofChange s with cond := some uptoSmall }

/-- 'cartouchelaw12.SchemesGround', WHERE WHAT IT READS IS OF BULK AT MOST 1048576: true; the input reads as it did. -/
def schemesGroundUptoRow : OpenClaim := { program := "ytmiconjmeaammaa", sum := "2bb8c11da22bf2107f8ae885647c4c774f1252fd45523e6439fbbdc687edce68", func := "cartouche/cartouchelaw12.SchemesGround", spec := "schemesGround", unfollowed := true, recurses := true, apart := false, narrowed := true }
def SchemesGroundUptoSaid : Prop := schemesGroundUptoRow.holds Try.pinned (OpenSpec.upto schemesGroundSpec)

/-- 'cartouchelaw12.SchemesValues', WHERE WHAT IT READS IS OF BULK AT MOST 1048576: true; the input reads as it did. -/
def schemesValuesUptoRow : OpenClaim := { program := "ytmiconjmeaammaa", sum := "2bb8c11da22bf2107f8ae885647c4c774f1252fd45523e6439fbbdc687edce68", func := "cartouche/cartouchelaw12.SchemesValues", spec := "schemesValues", unfollowed := true, recurses := true, apart := false, narrowed := true }
def SchemesValuesUptoSaid : Prop := schemesValuesUptoRow.holds Try.pinned (OpenSpec.upto schemesValuesSpec)

/-- 'cartouchelaw12.SchemesParts', WHERE WHAT IT READS IS OF BULK AT MOST 1048576: true; the input reads as it did. -/
def schemesPartsUptoRow : OpenClaim := { program := "ytmiconjmeaammaa", sum := "2bb8c11da22bf2107f8ae885647c4c774f1252fd45523e6439fbbdc687edce68", func := "cartouche/cartouchelaw12.SchemesParts", spec := "schemesParts", unfollowed := true, recurses := true, apart := false, narrowed := true }
def SchemesPartsUptoSaid : Prop := schemesPartsUptoRow.holds Try.pinned (OpenSpec.upto schemesPartsSpec)

/-- 'cartouchelaw12.SchemesMore', WHERE WHAT IT READS IS OF BULK AT MOST 1048576: true; the input reads as it did. -/
def schemesMoreUptoRow : OpenClaim := { program := "ytmiconjmeaammaa", sum := "2bb8c11da22bf2107f8ae885647c4c774f1252fd45523e6439fbbdc687edce68", func := "cartouche/cartouchelaw12.SchemesMore", spec := "schemesMore", unfollowed := true, recurses := true, apart := false, narrowed := true }
def SchemesMoreUptoSaid : Prop := schemesMoreUptoRow.holds Try.pinned (OpenSpec.upto schemesMoreSpec)

/-- 'cartouchelaw12.SchemesHold', WHERE WHAT IT READS IS OF BULK AT MOST 1048576: true; the input reads as it did. -/
def schemesHoldUptoRow : OpenClaim := { program := "ytmiconjmeaammaa", sum := "2bb8c11da22bf2107f8ae885647c4c774f1252fd45523e6439fbbdc687edce68", func := "cartouche/cartouchelaw12.SchemesHold", spec := "schemesHold", unfollowed := true, recurses := true, apart := false, narrowed := true }
def SchemesHoldUptoSaid : Prop := schemesHoldUptoRow.holds Try.pinned (OpenSpec.upto schemesHoldSpec)

end Rows
end Go.Proofs.Ytmiconjmeaammaa
