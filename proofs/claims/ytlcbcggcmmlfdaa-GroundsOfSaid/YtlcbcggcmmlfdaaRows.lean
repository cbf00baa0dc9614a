/-
  No cell of these rows narrows 'for every input' (looked for: loops, veiled, ifaces, maps, wideKeys, modest, calm, conditions, laid).
  DERIVED. THE GIVEN ROWS OF THIS SEAT. 5 by the template 'for every input the law returns true; each argument reads behind the call as it read before'; 0 by the template 'total and deterministic' (their statements: YtlcbcggcmmlfdaaTotals.lean).
  GIVEN WITH THE SEED: the statements are not yours to turn. If you find one false, say at which input.
  Laid BY PROGRAM, IN A SANDBOX (cutbox-rows.mjs): the forced cells as the released guide's own fill.sh prints them over the translation 5b462f1455cc2fdc… (all of the seat's roots in one cut). By AI agents, Wed Nov 11 2026. No macro, syntax, notation, axiom, sorry.
-/
import Derived.Test.YtlcbcggcmmlfdaaChecked
import GoSem.Claim
import GoSem.ClaimJoined
import GoSem.ClaimMapViews
import Derived.JoinedTies
import Derived.KernelRfl
namespace Go.Proofs.Ytlcbcggcmmlfdaa
/- THE CELL 'sum', in the pinned program and in every row, IS THE sha256 OF THE DUMP (.gsa) THAT YtlcbcggcmmlfdaaProg.lean LOADS. Nothing in Lean hashes anything: it is a label: what it is worth is what the hold of that sum in a sandbox is worth. -/
noncomputable def Try.pinned : Pinned := { name := "ytlcbcggcmmlfdaa", sum := "5b462f1455cc2fdc0c560948df771c915e13f9e5816873506e2876833554f609", checked := Try.checked }
namespace Rows
def none {H : Type} : Left H := { results := [], args := [] }

/-- 'cartouchelaw09.GroundsOf': WHATEVER THE INPUT: true; the input reads as it did. -/
def groundsOfSpec : ChangeSpec := { name := "groundsOf", fn := fun _ => fun
  | [d1, d2, d3] => { results := [.lit (.bool true)], args := [d1, d2, d3] }
  | _ => none }
def groundsOfRow : OpenClaim := { program := "ytlcbcggcmmlfdaa", sum := "5b462f1455cc2fdc0c560948df771c915e13f9e5816873506e2876833554f609", func := "cartouche/cartouchelaw09.GroundsOf", spec := "groundsOf", unfollowed := true, recurses := true, apart := false }
def GroundsOfSaid : Prop := groundsOfRow.holds Try.pinned (OpenSpec.ofChange groundsOfSpec)

/-- ITS FALSE NEIGHBOUR: 'it returns false'. Refute it at one input. -/
def groundsOfWrong : ChangeSpec := { name := "groundsOf", fn := fun _ => fun
  | [d1, d2, d3] => { results := [.lit (.bool false)], args := [d1, d2, d3] }
  | _ => none }
def GroundsOfWrongFalsely : Prop := groundsOfRow.holds Try.pinned (OpenSpec.ofChange groundsOfWrong)

/-- 'cartouchelaw09.GroundsSelf': WHATEVER THE INPUT: true; the input reads as it did. -/
def groundsSelfSpec : ChangeSpec := { name := "groundsSelf", fn := fun _ => fun
  | [d1, d2, d3] => { results := [.lit (.bool true)], args := [d1, d2, d3] }
  | _ => none }
def groundsSelfRow : OpenClaim := { program := "ytlcbcggcmmlfdaa", sum := "5b462f1455cc2fdc0c560948df771c915e13f9e5816873506e2876833554f609", func := "cartouche/cartouchelaw09.GroundsSelf", spec := "groundsSelf", unfollowed := true, recurses := true, apart := false }
def GroundsSelfSaid : Prop := groundsSelfRow.holds Try.pinned (OpenSpec.ofChange groundsSelfSpec)

/-- ITS FALSE NEIGHBOUR: 'it returns false'. Refute it at one input. -/
def groundsSelfWrong : ChangeSpec := { name := "groundsSelf", fn := fun _ => fun
  | [d1, d2, d3] => { results := [.lit (.bool false)], args := [d1, d2, d3] }
  | _ => none }
def GroundsSelfWrongFalsely : Prop := groundsSelfRow.holds Try.pinned (OpenSpec.ofChange groundsSelfWrong)

/-- 'cartouchelaw09.GroundsChain': WHATEVER THE INPUT: true; the input reads as it did. -/
def groundsChainSpec : ChangeSpec := { name := "groundsChain", fn := fun _ => fun
  | [d1, d2] => { results := [.lit (.bool true)], args := [d1, d2] }
  | _ => none }
def groundsChainRow : OpenClaim := { program := "ytlcbcggcmmlfdaa", sum := "5b462f1455cc2fdc0c560948df771c915e13f9e5816873506e2876833554f609", func := "cartouche/cartouchelaw09.GroundsChain", spec := "groundsChain", unfollowed := true, recurses := true, apart := false }
def GroundsChainSaid : Prop := groundsChainRow.holds Try.pinned (OpenSpec.ofChange groundsChainSpec)

/-- ITS FALSE NEIGHBOUR: 'it returns false'. Refute it at one input. -/
def groundsChainWrong : ChangeSpec := { name := "groundsChain", fn := fun _ => fun
  | [d1, d2] => { results := [.lit (.bool false)], args := [d1, d2] }
  | _ => none }
def GroundsChainWrongFalsely : Prop := groundsChainRow.holds Try.pinned (OpenSpec.ofChange groundsChainWrong)

/-- 'cartouchelaw09.GroundsParts': WHATEVER THE INPUT: true; the input reads as it did. -/
def groundsPartsSpec : ChangeSpec := { name := "groundsParts", fn := fun _ => fun
  | [d1, d2, d3] => { results := [.lit (.bool true)], args := [d1, d2, d3] }
  | _ => none }
def groundsPartsRow : OpenClaim := { program := "ytlcbcggcmmlfdaa", sum := "5b462f1455cc2fdc0c560948df771c915e13f9e5816873506e2876833554f609", func := "cartouche/cartouchelaw09.GroundsParts", spec := "groundsParts", unfollowed := true, recurses := true, apart := false }
def GroundsPartsSaid : Prop := groundsPartsRow.holds Try.pinned (OpenSpec.ofChange groundsPartsSpec)

/-- ITS FALSE NEIGHBOUR: 'it returns false'. Refute it at one input. -/
def groundsPartsWrong : ChangeSpec := { name := "groundsParts", fn := fun _ => fun
  | [d1, d2, d3] => { results := [.lit (.bool false)], args := [d1, d2, d3] }
  | _ => none }
def GroundsPartsWrongFalsely : Prop := groundsPartsRow.holds Try.pinned (OpenSpec.ofChange groundsPartsWrong)

/-- 'cartouchelaw09.GroundsMove': WHATEVER THE INPUT: true; the input reads as it did. -/
def groundsMoveSpec : ChangeSpec := { name := "groundsMove", fn := fun _ => fun
  | [d1, d2] => { results := [.lit (.bool true)], args := [d1, d2] }
  | _ => none }
def groundsMoveRow : OpenClaim := { program := "ytlcbcggcmmlfdaa", sum := "5b462f1455cc2fdc0c560948df771c915e13f9e5816873506e2876833554f609", func := "cartouche/cartouchelaw09.GroundsMove", spec := "groundsMove", unfollowed := true, recurses := true, apart := false }
def GroundsMoveSaid : Prop := groundsMoveRow.holds Try.pinned (OpenSpec.ofChange groundsMoveSpec)

/-- ITS FALSE NEIGHBOUR: 'it returns false'. Refute it at one input. -/
def groundsMoveWrong : ChangeSpec := { name := "groundsMove", fn := fun _ => fun
  | [d1, d2] => { results := [.lit (.bool false)], args := [d1, d2] }
  | _ => none }
def GroundsMoveWrongFalsely : Prop := groundsMoveRow.holds Try.pinned (OpenSpec.ofChange groundsMoveWrong)

/- THE SECOND FORM. 'bulk': how many values and letters a reading holds, each counted each time it is reached (what is shared counts as often as it is met; a slice's spare places count too). A statement '..UptoSaid' is the law's where the arguments, and the package variables that the reading takes, are together of bulk at most 1048576: NARROWER than '..Said'. Prove '..Said' where nothing that the law and all that it calls make is longer than what came in: it says more and counts as full. Else prove '..UptoSaid'. A law counts once. -/
mutual
def uptoBulk {H : Type} : DataW H → Nat
  | .lit (.string bytes) => bytes.length + 1
  | .lit _ => 1
  | .nil => 1
  | .ptr d => uptoBulk d + 1
  | .slice elems spare => uptoBulkAll elems + uptoBulkAll spare + 1
  | .agg parts => uptoBulkAll parts + 1
  | .iface _ d => uptoBulk d + 1
  | .map entries => uptoBulkEntries entries + 1
  | .held _ => 1
def uptoBulkAll {H : Type} : List (DataW H) → Nat
  | [] => 0
  | d :: r => uptoBulk d + uptoBulkAll r
def uptoBulkEntries {H : Type} : List (Lit × DataW H) → Nat
  | [] => 0
  | x :: r => uptoBulkEntry x + uptoBulkEntries r
def uptoBulkEntry {H : Type} : Lit × DataW H → Nat
  | (.string bytes, d) => bytes.length + uptoBulk d + 1
  | (_, d) => uptoBulk d + 1
 end
def uptoSmall : (H : Type) → List (DataW H) → Bool := fun _ ds => decide (uptoBulkAll ds ≤ 1048576)
def OpenSpec.upto (s : _root_.Go.ChangeSpec) : _root_.Go.OpenSpec := { _root_.Go.OpenSpec.ofChange s with cond := some uptoSmall }

/-- 'cartouchelaw09.GroundsOf', WHERE WHAT IT READS IS OF BULK AT MOST 1048576: true; the input reads as it did. -/
def groundsOfUptoRow : OpenClaim := { program := "ytlcbcggcmmlfdaa", sum := "5b462f1455cc2fdc0c560948df771c915e13f9e5816873506e2876833554f609", func := "cartouche/cartouchelaw09.GroundsOf", spec := "groundsOf", unfollowed := true, recurses := true, apart := false, narrowed := true }
def GroundsOfUptoSaid : Prop := groundsOfUptoRow.holds Try.pinned (OpenSpec.upto groundsOfSpec)

/-- 'cartouchelaw09.GroundsSelf', WHERE WHAT IT READS IS OF BULK AT MOST 1048576: true; the input reads as it did. -/
def groundsSelfUptoRow : OpenClaim := { program := "ytlcbcggcmmlfdaa", sum := "5b462f1455cc2fdc0c560948df771c915e13f9e5816873506e2876833554f609", func := "cartouche/cartouchelaw09.GroundsSelf", spec := "groundsSelf", unfollowed := true, recurses := true, apart := false, narrowed := true }
def GroundsSelfUptoSaid : Prop := groundsSelfUptoRow.holds Try.pinned (OpenSpec.upto groundsSelfSpec)

/-- 'cartouchelaw09.GroundsChain', WHERE WHAT IT READS IS OF BULK AT MOST 1048576: true; the input reads as it did. -/
def groundsChainUptoRow : OpenClaim := { program := "ytlcbcggcmmlfdaa", sum := "5b462f1455cc2fdc0c560948df771c915e13f9e5816873506e2876833554f609", func := "cartouche/cartouchelaw09.GroundsChain", spec := "groundsChain", unfollowed := true, recurses := true, apart := false, narrowed := true }
def GroundsChainUptoSaid : Prop := groundsChainUptoRow.holds Try.pinned (OpenSpec.upto groundsChainSpec)

/-- 'cartouchelaw09.GroundsParts', WHERE WHAT IT READS IS OF BULK AT MOST 1048576: true; the input reads as it did. -/
def groundsPartsUptoRow : OpenClaim := { program := "ytlcbcggcmmlfdaa", sum := "5b462f1455cc2fdc0c560948df771c915e13f9e5816873506e2876833554f609", func := "cartouche/cartouchelaw09.GroundsParts", spec := "groundsParts", unfollowed := true, recurses := true, apart := false, narrowed := true }
def GroundsPartsUptoSaid : Prop := groundsPartsUptoRow.holds Try.pinned (OpenSpec.upto groundsPartsSpec)

/-- 'cartouchelaw09.GroundsMove', WHERE WHAT IT READS IS OF BULK AT MOST 1048576: true; the input reads as it did. -/
def groundsMoveUptoRow : OpenClaim := { program := "ytlcbcggcmmlfdaa", sum := "5b462f1455cc2fdc0c560948df771c915e13f9e5816873506e2876833554f609", func := "cartouche/cartouchelaw09.GroundsMove", spec := "groundsMove", unfollowed := true, recurses := true, apart := false, narrowed := true }
def GroundsMoveUptoSaid : Prop := groundsMoveUptoRow.holds Try.pinned (OpenSpec.upto groundsMoveSpec)

end Rows
end Go.Proofs.Ytlcbcggcmmlfdaa
