/-
  No cell of these rows narrows 'for every input' (looked for: loops, veiled, ifaces, maps, wideKeys, modest, calm, conditions, laid).
  DERIVED. THE GIVEN ROWS OF THIS SEAT. 4 by the template 'for every input the law returns true; each argument reads behind the call as it read before'; 0 by the template 'total and deterministic' (their statements: YtabfbelbcdbkaaaTotals.lean).
  GIVEN WITH THE SEED: the statements are not yours to turn. If you find one false, say at which input.
  Laid BY PROGRAM, IN A SANDBOX (cutbox-rows.mjs): the forced cells as the released guide's own fill.sh prints them over the translation 8bba10b7af4c684e… (all of the seat's roots in one cut). By AI agents, Wed Nov 11 2026. No macro, syntax, notation, axiom, sorry.
-/
import Derived.Test.YtabfbelbcdbkaaaChecked
import GoSem.Claim
import GoSem.ClaimJoined
import GoSem.ClaimMapViews
import Derived.JoinedTies
import Derived.KernelRfl
namespace Go.Proofs.Ytabfbelbcdbkaaa
/- THE CELL 'sum', in the pinned program and in every row, IS THE sha256 OF THE DUMP (.gsa) THAT YtabfbelbcdbkaaaProg.lean LOADS. Nothing in Lean hashes anything: it is a label: what it is worth is what the hold of that sum in a sandbox is worth. -/
noncomputable def Try.pinned : Pinned := { name := "ytabfbelbcdbkaaa", sum := "8bba10b7af4c684ee6a8da9a3e1aca668141a40dab43474bbf1380e619d9e75b", checked := Try.checked }
namespace Rows
def none {H : Type} : Left H := { results := [], args := [] }

/-- 'cartouchelaw08.SpotsBack': WHATEVER THE INPUT: true; the input reads as it did. -/
def spotsBackSpec : ChangeSpec := { name := "spotsBack", fn := fun _ => fun
  | [d1, d2] => { results := [.lit (.bool true)], args := [d1, d2] }
  | _ => none }
def spotsBackRow : OpenClaim := { program := "ytabfbelbcdbkaaa", sum := "8bba10b7af4c684ee6a8da9a3e1aca668141a40dab43474bbf1380e619d9e75b", func := "cartouche/cartouchelaw08.SpotsBack", spec := "spotsBack", unfollowed := true, recurses := true, apart := false }
def SpotsBackSaid : Prop := spotsBackRow.holds Try.pinned (OpenSpec.ofChange spotsBackSpec)

/-- ITS FALSE NEIGHBOUR: 'it returns false'. Refute it at one input. -/
def spotsBackWrong : ChangeSpec := { name := "spotsBack", fn := fun _ => fun
  | [d1, d2] => { results := [.lit (.bool false)], args := [d1, d2] }
  | _ => none }
def SpotsBackWrongFalsely : Prop := spotsBackRow.holds Try.pinned (OpenSpec.ofChange spotsBackWrong)

/-- 'cartouchelaw08.SpotsMany': WHATEVER THE INPUT: true; the input reads as it did. -/
def spotsManySpec : ChangeSpec := { name := "spotsMany", fn := fun _ => fun
  | [d] => { results := [.lit (.bool true)], args := [d] }
  | _ => none }
def spotsManyRow : OpenClaim := { program := "ytabfbelbcdbkaaa", sum := "8bba10b7af4c684ee6a8da9a3e1aca668141a40dab43474bbf1380e619d9e75b", func := "cartouche/cartouchelaw08.SpotsMany", spec := "spotsMany", unfollowed := true, recurses := true, apart := false }
def SpotsManySaid : Prop := spotsManyRow.holds Try.pinned (OpenSpec.ofChange spotsManySpec)

/-- ITS FALSE NEIGHBOUR: 'it returns false'. Refute it at one input. -/
def spotsManyWrong : ChangeSpec := { name := "spotsMany", fn := fun _ => fun
  | [d] => { results := [.lit (.bool false)], args := [d] }
  | _ => none }
def SpotsManyWrongFalsely : Prop := spotsManyRow.holds Try.pinned (OpenSpec.ofChange spotsManyWrong)

/-- 'cartouchelaw08.SpotsBelow': WHATEVER THE INPUT: true; the input reads as it did. -/
def spotsBelowSpec : ChangeSpec := { name := "spotsBelow", fn := fun _ => fun
  | [d1, d2] => { results := [.lit (.bool true)], args := [d1, d2] }
  | _ => none }
def spotsBelowRow : OpenClaim := { program := "ytabfbelbcdbkaaa", sum := "8bba10b7af4c684ee6a8da9a3e1aca668141a40dab43474bbf1380e619d9e75b", func := "cartouche/cartouchelaw08.SpotsBelow", spec := "spotsBelow", unfollowed := true, recurses := true, apart := false }
def SpotsBelowSaid : Prop := spotsBelowRow.holds Try.pinned (OpenSpec.ofChange spotsBelowSpec)

/-- ITS FALSE NEIGHBOUR: 'it returns false'. Refute it at one input. -/
def spotsBelowWrong : ChangeSpec := { name := "spotsBelow", fn := fun _ => fun
  | [d1, d2] => { results := [.lit (.bool false)], args := [d1, d2] }
  | _ => none }
def SpotsBelowWrongFalsely : Prop := spotsBelowRow.holds Try.pinned (OpenSpec.ofChange spotsBelowWrong)

/-- 'cartouchelaw08.SpotsRefuse': WHATEVER THE INPUT: true; the input reads as it did. -/
def spotsRefuseSpec : ChangeSpec := { name := "spotsRefuse", fn := fun _ => fun
  | [d1, d2, d3] => { results := [.lit (.bool true)], args := [d1, d2, d3] }
  | _ => none }
def spotsRefuseRow : OpenClaim := { program := "ytabfbelbcdbkaaa", sum := "8bba10b7af4c684ee6a8da9a3e1aca668141a40dab43474bbf1380e619d9e75b", func := "cartouche/cartouchelaw08.SpotsRefuse", spec := "spotsRefuse", unfollowed := true, recurses := true, apart := false }
def SpotsRefuseSaid : Prop := spotsRefuseRow.holds Try.pinned (OpenSpec.ofChange spotsRefuseSpec)

/-- ITS FALSE NEIGHBOUR: 'it returns false'. Refute it at one input. -/
def spotsRefuseWrong : ChangeSpec := { name := "spotsRefuse", fn := fun _ => fun
  | [d1, d2, d3] => { results := [.lit (.bool false)], args := [d1, d2, d3] }
  | _ => none }
def SpotsRefuseWrongFalsely : Prop := spotsRefuseRow.holds Try.pinned (OpenSpec.ofChange spotsRefuseWrong)

/- THE SECOND FORM. 'bulk': how many values and letters a reading holds, each counted each time it is reached (what is shared counts as often as it is met; a slice's spare places count too). A statement '..UptoSaid' is the law's where the arguments, and the package variables that the reading takes, are together of bulk at most 1048576: NARROWER than '..Said'. Prove '..Said' where nothing that the law and all that it calls make is longer than what came in: it says more and counts as full. Else prove '..UptoSaid'. A law counts once. -/
mutual
def uptoBulk {H : Type} : DataW H → Nat
  | .lit (.string bytes) => bytes.length + 1
  | .lit _ => 1
  | .nil => 1
  | .ptr d => uptoBulk d + 1
  | .slice elems spare => uptoBulkAll elems + uptoBulkAll spare + 1
  | .agg parts => uptoBulkAll parts + 1
  | .iface _ d => uptoBulk d + 1
  | .map entries => uptoBulkEntries entries + 1
  | .held _ => 1
def uptoBulkAll {H : Type} : List (DataW H) → Nat
  | [] => 0
  | d :: r => uptoBulk d + uptoBulkAll r
def uptoBulkEntries {H : Type} : List (Lit × DataW H) → Nat
  | [] => 0
  | x :: r => uptoBulkEntry x + uptoBulkEntries r
def uptoBulkEntry {H : Type} : Lit × DataW H → Nat
  | (.string bytes, d) => bytes.length + uptoBulk d + 1
  | (_, d) => uptoBulk d + 1
 end
def uptoSmall : (H : Type) → List (DataW H) → Bool := fun _ ds => decide (uptoBulkAll ds ≤ 1048576)
def OpenSpec.upto (s : _root_.Go.ChangeSpec) : _root_.Go.OpenSpec := { _root_.Go.OpenSpec.ofChange s with cond := some uptoSmall }

/-- 'cartouchelaw08.SpotsBack', WHERE WHAT IT READS IS OF BULK AT MOST 1048576: true; the input reads as it did. -/
def spotsBackUptoRow : OpenClaim := { program := "ytabfbelbcdbkaaa", sum := "8bba10b7af4c684ee6a8da9a3e1aca668141a40dab43474bbf1380e619d9e75b", func := "cartouche/cartouchelaw08.SpotsBack", spec := "spotsBack", unfollowed := true, recurses := true, apart := false, narrowed := true }
def SpotsBackUptoSaid : Prop := spotsBackUptoRow.holds Try.pinned (OpenSpec.upto spotsBackSpec)

/-- 'cartouchelaw08.SpotsMany', WHERE WHAT IT READS IS OF BULK AT MOST 1048576: true; the input reads as it did. -/
def spotsManyUptoRow : OpenClaim := { program := "ytabfbelbcdbkaaa", sum := "8bba10b7af4c684ee6a8da9a3e1aca668141a40dab43474bbf1380e619d9e75b", func := "cartouche/cartouchelaw08.SpotsMany", spec := "spotsMany", unfollowed := true, recurses := true, apart := false, narrowed := true }
def SpotsManyUptoSaid : Prop := spotsManyUptoRow.holds Try.pinned (OpenSpec.upto spotsManySpec)

/-- 'cartouchelaw08.SpotsBelow', WHERE WHAT IT READS IS OF BULK AT MOST 1048576: true; the input reads as it did. -/
def spotsBelowUptoRow : OpenClaim := { program := "ytabfbelbcdbkaaa", sum := "8bba10b7af4c684ee6a8da9a3e1aca668141a40dab43474bbf1380e619d9e75b", func := "cartouche/cartouchelaw08.SpotsBelow", spec := "spotsBelow", unfollowed := true, recurses := true, apart := false, narrowed := true }
def SpotsBelowUptoSaid : Prop := spotsBelowUptoRow.holds Try.pinned (OpenSpec.upto spotsBelowSpec)

/-- 'cartouchelaw08.SpotsRefuse', WHERE WHAT IT READS IS OF BULK AT MOST 1048576: true; the input reads as it did. -/
def spotsRefuseUptoRow : OpenClaim := { program := "ytabfbelbcdbkaaa", sum := "8bba10b7af4c684ee6a8da9a3e1aca668141a40dab43474bbf1380e619d9e75b", func := "cartouche/cartouchelaw08.SpotsRefuse", spec := "spotsRefuse", unfollowed := true, recurses := true, apart := false, narrowed := true }
def SpotsRefuseUptoSaid : Prop := spotsRefuseUptoRow.holds Try.pinned (OpenSpec.upto spotsRefuseSpec)

end Rows
end Go.Proofs.Ytabfbelbcdbkaaa
