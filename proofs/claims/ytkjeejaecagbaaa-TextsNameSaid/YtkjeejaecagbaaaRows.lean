/-
  No cell of these rows narrows 'for every input' (looked for: loops, veiled, ifaces, maps, wideKeys, modest, calm, conditions, laid).
  DERIVED. THE GIVEN ROWS OF THIS SEAT. 3 by the template 'for every input the law returns true; each argument reads behind the call as it read before'; 0 by the template 'total and deterministic' (their statements: YtkjeejaecagbaaaTotals.lean).
  GIVEN WITH THE SEED: the statements are not yours to turn. If you find one false, say at which input.
  Laid BY PROGRAM, IN A SANDBOX (cutbox-rows.mjs): the forced cells as the released guide's own fill.sh prints them over the translation 8627574344d252b5… (all of the seat's roots in one cut). By AI agents, Wed Nov 11 2026. No macro, syntax, notation, axiom, sorry.
-/
import Derived.Test.YtkjeejaecagbaaaChecked
import GoSem.Claim
import GoSem.ClaimJoined
import GoSem.ClaimMapViews
import Derived.JoinedTies
import Derived.KernelRfl
namespace Go.Proofs.Ytkjeejaecagbaaa
/- THE CELL 'sum', in the pinned program and in every row, IS THE sha256 OF THE DUMP (.gsa) THAT YtkjeejaecagbaaaProg.lean LOADS. Nothing in Lean hashes anything: it is a label: what it is worth is what the hold of that sum in a sandbox is worth. -/
noncomputable def Try.pinned : Pinned := { name := "ytkjeejaecagbaaa", sum := "8627574344d252b50755c855ced620912fa9dc4fa643bf429155b77ca4d99838", checked := Try.checked }
namespace Rows
def none {H : Type} : Left H := { results := [], args := [] }

/-- 'cartouchelaw03.TextsSort': WHATEVER THE INPUT: true; the input reads as it did. -/
def textsSortSpec : ChangeSpec := { name := "textsSort", fn := fun _ => fun
  | [d1, d2] => { results := [.lit (.bool true)], args := [d1, d2] }
  | _ => none }
def textsSortRow : OpenClaim := { program := "ytkjeejaecagbaaa", sum := "8627574344d252b50755c855ced620912fa9dc4fa643bf429155b77ca4d99838", func := "cartouche/cartouchelaw03.TextsSort", spec := "textsSort", unfollowed := true, recurses := true, apart := false }
def TextsSortSaid : Prop := textsSortRow.holds Try.pinned (OpenSpec.ofChange textsSortSpec)

/-- ITS FALSE NEIGHBOUR: 'it returns false'. Refute it at one input. -/
def textsSortWrong : ChangeSpec := { name := "textsSort", fn := fun _ => fun
  | [d1, d2] => { results := [.lit (.bool false)], args := [d1, d2] }
  | _ => none }
def TextsSortWrongFalsely : Prop := textsSortRow.holds Try.pinned (OpenSpec.ofChange textsSortWrong)

/-- 'cartouchelaw03.TextsFind': WHATEVER THE INPUT: true; the input reads as it did. -/
def textsFindSpec : ChangeSpec := { name := "textsFind", fn := fun _ => fun
  | [d1, d2] => { results := [.lit (.bool true)], args := [d1, d2] }
  | _ => none }
def textsFindRow : OpenClaim := { program := "ytkjeejaecagbaaa", sum := "8627574344d252b50755c855ced620912fa9dc4fa643bf429155b77ca4d99838", func := "cartouche/cartouchelaw03.TextsFind", spec := "textsFind", unfollowed := true, recurses := true, apart := false }
def TextsFindSaid : Prop := textsFindRow.holds Try.pinned (OpenSpec.ofChange textsFindSpec)

/-- ITS FALSE NEIGHBOUR: 'it returns false'. Refute it at one input. -/
def textsFindWrong : ChangeSpec := { name := "textsFind", fn := fun _ => fun
  | [d1, d2] => { results := [.lit (.bool false)], args := [d1, d2] }
  | _ => none }
def TextsFindWrongFalsely : Prop := textsFindRow.holds Try.pinned (OpenSpec.ofChange textsFindWrong)

/-- 'cartouchelaw03.TextsName': WHATEVER THE INPUT: true; the input reads as it did. -/
def textsNameSpec : ChangeSpec := { name := "textsName", fn := fun _ => fun
  | [d1, d2, d3] => { results := [.lit (.bool true)], args := [d1, d2, d3] }
  | _ => none }
def textsNameRow : OpenClaim := { program := "ytkjeejaecagbaaa", sum := "8627574344d252b50755c855ced620912fa9dc4fa643bf429155b77ca4d99838", func := "cartouche/cartouchelaw03.TextsName", spec := "textsName", unfollowed := true, recurses := true, apart := false }
def TextsNameSaid : Prop := textsNameRow.holds Try.pinned (OpenSpec.ofChange textsNameSpec)

/-- ITS FALSE NEIGHBOUR: 'it returns false'. Refute it at one input. -/
def textsNameWrong : ChangeSpec := { name := "textsName", fn := fun _ => fun
  | [d1, d2, d3] => { results := [.lit (.bool false)], args := [d1, d2, d3] }
  | _ => none }
def TextsNameWrongFalsely : Prop := textsNameRow.holds Try.pinned (OpenSpec.ofChange textsNameWrong)

/- THE SECOND FORM. 'bulk': how many values and letters a reading holds, each counted each time it is reached (what is shared counts as often as it is met; a slice's spare places count too). A statement '..UptoSaid' is the law's where the arguments, and the package variables that the reading takes, are together of bulk at most 1048576: NARROWER than '..Said'. Prove '..Said' where nothing that the law and all that it calls make is longer than what came in: it says more and counts as full. Else prove '..UptoSaid'. A law counts once. -/
mutual
def uptoBulk {H : Type} : DataW H → Nat
  | .lit (.string bytes) => bytes.length + 1
  | .lit _ => 1
  | .nil => 1
  | .ptr d => uptoBulk d + 1
  | .slice elems spare => uptoBulkAll elems + uptoBulkAll spare + 1
  | .agg parts => uptoBulkAll parts + 1
  | .iface _ d => uptoBulk d + 1
  | .map entries => uptoBulkEntries entries + 1
  | .held _ => 1
def uptoBulkAll {H : Type} : List (DataW H) → Nat
  | [] => 0
  | d :: r => uptoBulk d + uptoBulkAll r
def uptoBulkEntries {H : Type} : List (Lit × DataW H) → Nat
  | [] => 0
  | x :: r => uptoBulkEntry x + uptoBulkEntries r
def uptoBulkEntry {H : Type} : Lit × DataW H → Nat
  | (.string bytes, d) => bytes.length + uptoBulk d + 1
  | (_, d) => uptoBulk d + 1
 end
def uptoSmall : (H : Type) → List (DataW H) → Bool := fun _ ds => decide (uptoBulkAll ds ≤ 1048576)
def OpenSpec.upto (s : _root_.Go.ChangeSpec) : _root_.Go.OpenSpec := { _root_.Go.OpenSpec.ofChange s with cond := some uptoSmall }

/-- 'cartouchelaw03.TextsSort', WHERE WHAT IT READS IS OF BULK AT MOST 1048576: true; the input reads as it did. -/
def textsSortUptoRow : OpenClaim := { program := "ytkjeejaecagbaaa", sum := "8627574344d252b50755c855ced620912fa9dc4fa643bf429155b77ca4d99838", func := "cartouche/cartouchelaw03.TextsSort", spec := "textsSort", unfollowed := true, recurses := true, apart := false, narrowed := true }
def TextsSortUptoSaid : Prop := textsSortUptoRow.holds Try.pinned (OpenSpec.upto textsSortSpec)

/-- 'cartouchelaw03.TextsFind', WHERE WHAT IT READS IS OF BULK AT MOST 1048576: true; the input reads as it did. -/
def textsFindUptoRow : OpenClaim := { program := "ytkjeejaecagbaaa", sum := "8627574344d252b50755c855ced620912fa9dc4fa643bf429155b77ca4d99838", func := "cartouche/cartouchelaw03.TextsFind", spec := "textsFind", unfollowed := true, recurses := true, apart := false, narrowed := true }
def TextsFindUptoSaid : Prop := textsFindUptoRow.holds Try.pinned (OpenSpec.upto textsFindSpec)

/-- 'cartouchelaw03.TextsName', WHERE WHAT IT READS IS OF BULK AT MOST 1048576: true; the input reads as it did. -/
def textsNameUptoRow : OpenClaim := { program := "ytkjeejaecagbaaa", sum := "8627574344d252b50755c855ced620912fa9dc4fa643bf429155b77ca4d99838", func := "cartouche/cartouchelaw03.TextsName", spec := "textsName", unfollowed := true, recurses := true, apart := false, narrowed := true }
def TextsNameUptoSaid : Prop := textsNameUptoRow.holds Try.pinned (OpenSpec.upto textsNameSpec)

end Rows
end Go.Proofs.Ytkjeejaecagbaaa
