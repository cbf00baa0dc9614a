/-
  No cell of these rows narrows 'for every input' (looked for: loops, veiled, ifaces, maps, wideKeys, modest, calm, conditions, laid).
  DERIVED. THE GIVEN ROWS OF THIS SEAT. 4 by the template 'for every input the law returns true; each argument reads behind the call as it read before'; 0 by the template 'total and deterministic' (their statements: YthbonabadelfdaaGreatTotals.lean).
  GIVEN WITH THE SEED: the statements are not yours to turn. If you find one false, say at which input.
  Laid BY PROGRAM, IN A SANDBOX (cutbox-rows.mjs): the forced cells as the released guide's own fill.sh prints them over the translation 8dca8fee9a24a688… (all of the seat's roots in one cut). By AI agents, Wed Nov 11 2026. No macro, syntax, notation, axiom, sorry.
-/
import Derived.Test.YthbonabadelfdaaGreatChecked
import GoSem.Claim
import GoSem.ClaimJoined
import GoSem.ClaimMapViews
import Derived.JoinedTies
import Derived.KernelRfl
namespace Go.Proofs.YthbonabadelfdaaGreat
/- THE CELL 'sum', in the pinned program and in every row, IS THE sha256 OF THE DUMP (.gsa) THAT YthbonabadelfdaaGreatProg.lean LOADS. Nothing in Lean hashes anything: it is a label: what it is worth is what the hold of that sum in a sandbox is worth. -/
noncomputable def Tryz.pinned : Pinned := { name := "ythbonabadelfdaagreat", sum := "8dca8fee9a24a6884cfc7e919d826390b20cab23e7229f488fbcb2bb4af3e14f", checked := Tryz.checked }
namespace Rows
def none {H : Type} : Left H := { results := [], args := [] }

/-- 'cartouchelaw14.RowsClasses': WHATEVER THE INPUT: true; the input reads as it did. -/
def rowsClassesSpec : ChangeSpec := { name := "rowsClasses", fn := fun _ => fun
  | [d1, d2] => { results := [.lit (.bool true)], args := [d1, d2] }
  | _ => none }
def rowsClassesRow : OpenClaim := { program := "ythbonabadelfdaagreat", sum := "8dca8fee9a24a6884cfc7e919d826390b20cab23e7229f488fbcb2bb4af3e14f", func := "cartouche/cartouchelaw14.RowsClasses", spec := "rowsClasses", unfollowed := true, recurses := true, plainKeys := false, apart := false }
def RowsClassesSaid : Prop := rowsClassesRow.holds Tryz.pinned (OpenSpec.ofChange rowsClassesSpec)

/-- ITS FALSE NEIGHBOUR: 'it returns false'. Refute it at one input. -/
def rowsClassesWrong : ChangeSpec := { name := "rowsClasses", fn := fun _ => fun
  | [d1, d2] => { results := [.lit (.bool false)], args := [d1, d2] }
  | _ => none }
def RowsClassesWrongFalsely : Prop := rowsClassesRow.holds Tryz.pinned (OpenSpec.ofChange rowsClassesWrong)

/-- 'cartouchelaw14.RowsKeep': WHATEVER THE INPUT: true; the input reads as it did. -/
def rowsKeepSpec : ChangeSpec := { name := "rowsKeep", fn := fun _ => fun
  | [d1, d2] => { results := [.lit (.bool true)], args := [d1, d2] }
  | _ => none }
def rowsKeepRow : OpenClaim := { program := "ythbonabadelfdaagreat", sum := "8dca8fee9a24a6884cfc7e919d826390b20cab23e7229f488fbcb2bb4af3e14f", func := "cartouche/cartouchelaw14.RowsKeep", spec := "rowsKeep", unfollowed := true, recurses := true, plainKeys := false, apart := false }
def RowsKeepSaid : Prop := rowsKeepRow.holds Tryz.pinned (OpenSpec.ofChange rowsKeepSpec)

/-- ITS FALSE NEIGHBOUR: 'it returns false'. Refute it at one input. -/
def rowsKeepWrong : ChangeSpec := { name := "rowsKeep", fn := fun _ => fun
  | [d1, d2] => { results := [.lit (.bool false)], args := [d1, d2] }
  | _ => none }
def RowsKeepWrongFalsely : Prop := rowsKeepRow.holds Tryz.pinned (OpenSpec.ofChange rowsKeepWrong)

/-- 'cartouchelaw14.RowsOwn': WHATEVER THE INPUT: true; the input reads as it did. -/
def rowsOwnSpec : ChangeSpec := { name := "rowsOwn", fn := fun _ => fun
  | [d1, d2, d3] => { results := [.lit (.bool true)], args := [d1, d2, d3] }
  | _ => none }
def rowsOwnRow : OpenClaim := { program := "ythbonabadelfdaagreat", sum := "8dca8fee9a24a6884cfc7e919d826390b20cab23e7229f488fbcb2bb4af3e14f", func := "cartouche/cartouchelaw14.RowsOwn", spec := "rowsOwn", unfollowed := true, recurses := true, plainKeys := false, apart := false }
def RowsOwnSaid : Prop := rowsOwnRow.holds Tryz.pinned (OpenSpec.ofChange rowsOwnSpec)

/-- ITS FALSE NEIGHBOUR: 'it returns false'. Refute it at one input. -/
def rowsOwnWrong : ChangeSpec := { name := "rowsOwn", fn := fun _ => fun
  | [d1, d2, d3] => { results := [.lit (.bool false)], args := [d1, d2, d3] }
  | _ => none }
def RowsOwnWrongFalsely : Prop := rowsOwnRow.holds Tryz.pinned (OpenSpec.ofChange rowsOwnWrong)

/-- 'cartouchelaw14.RowsConstant': WHATEVER THE INPUT: true; the input reads as it did. -/
def rowsConstantSpec : ChangeSpec := { name := "rowsConstant", fn := fun _ => fun
  | [d1, d2] => { results := [.lit (.bool true)], args := [d1, d2] }
  | _ => none }
def rowsConstantRow : OpenClaim := { program := "ythbonabadelfdaagreat", sum := "8dca8fee9a24a6884cfc7e919d826390b20cab23e7229f488fbcb2bb4af3e14f", func := "cartouche/cartouchelaw14.RowsConstant", spec := "rowsConstant", unfollowed := true, recurses := true, plainKeys := false, apart := false }
def RowsConstantSaid : Prop := rowsConstantRow.holds Tryz.pinned (OpenSpec.ofChange rowsConstantSpec)

/-- ITS FALSE NEIGHBOUR: 'it returns false'. Refute it at one input. -/
def rowsConstantWrong : ChangeSpec := { name := "rowsConstant", fn := fun _ => fun
  | [d1, d2] => { results := [.lit (.bool false)], args := [d1, d2] }
  | _ => none }
def RowsConstantWrongFalsely : Prop := rowsConstantRow.holds Tryz.pinned (OpenSpec.ofChange rowsConstantWrong)

/- THE SECOND FORM. 'bulk': how many values and letters a reading holds, each counted each time it is reached (what is shared counts as often as it is met; a slice's spare places count too). A statement '..UptoSaid' is the law's where the arguments, and the package variables that the reading takes, are together of bulk at most 1048576: NARROWER than '..Said'. Prove '..Said' where nothing that the law and all that it calls make is longer than what came in: it says more and counts as full. Else prove '..UptoSaid'. A law counts once. -/
mutual
def uptoBulk {H : Type} : DataW H → Nat
  | .lit (.string bytes) => bytes.length + 1
  | .lit _ => 1
  | .nil => 1
  | .ptr d => uptoBulk d + 1
  | .slice elems spare => uptoBulkAll elems + uptoBulkAll spare + 1
  | .agg parts => uptoBulkAll parts + 1
  | .iface _ d => uptoBulk d + 1
  | .map entries => uptoBulkEntries entries + 1
  | .held _ => 1
def uptoBulkAll {H : Type} : List (DataW H) → Nat
  | [] => 0
  | d :: r => uptoBulk d + uptoBulkAll r
def uptoBulkEntries {H : Type} : List (Lit × DataW H) → Nat
  | [] => 0
  | x :: r => uptoBulkEntry x + uptoBulkEntries r
def uptoBulkEntry {H : Type} : Lit × DataW H → Nat
  | (.string bytes, d) => bytes.length + uptoBulk d + 1
  | (_, d) => uptoBulk d + 1
 end
def uptoSmall : (H : Type) → List (DataW H) → Bool := fun _ ds => decide (uptoBulkAll ds ≤ 1048576)
def OpenSpec.upto (s : _root_.Go.ChangeSpec) : _root_.Go.OpenSpec := { _root_.Go.OpenSpec.ofChange s with cond := some uptoSmall }

/-- 'cartouchelaw14.RowsClasses', WHERE WHAT IT READS IS OF BULK AT MOST 1048576: true; the input reads as it did. -/
def rowsClassesUptoRow : OpenClaim := { program := "ythbonabadelfdaagreat", sum := "8dca8fee9a24a6884cfc7e919d826390b20cab23e7229f488fbcb2bb4af3e14f", func := "cartouche/cartouchelaw14.RowsClasses", spec := "rowsClasses", unfollowed := true, recurses := true, plainKeys := false, apart := false, narrowed := true }
def RowsClassesUptoSaid : Prop := rowsClassesUptoRow.holds Tryz.pinned (OpenSpec.upto rowsClassesSpec)

/-- 'cartouchelaw14.RowsKeep', WHERE WHAT IT READS IS OF BULK AT MOST 1048576: true; the input reads as it did. -/
def rowsKeepUptoRow : OpenClaim := { program := "ythbonabadelfdaagreat", sum := "8dca8fee9a24a6884cfc7e919d826390b20cab23e7229f488fbcb2bb4af3e14f", func := "cartouche/cartouchelaw14.RowsKeep", spec := "rowsKeep", unfollowed := true, recurses := true, plainKeys := false, apart := false, narrowed := true }
def RowsKeepUptoSaid : Prop := rowsKeepUptoRow.holds Tryz.pinned (OpenSpec.upto rowsKeepSpec)

/-- 'cartouchelaw14.RowsOwn', WHERE WHAT IT READS IS OF BULK AT MOST 1048576: true; the input reads as it did. -/
def rowsOwnUptoRow : OpenClaim := { program := "ythbonabadelfdaagreat", sum := "8dca8fee9a24a6884cfc7e919d826390b20cab23e7229f488fbcb2bb4af3e14f", func := "cartouche/cartouchelaw14.RowsOwn", spec := "rowsOwn", unfollowed := true, recurses := true, plainKeys := false, apart := false, narrowed := true }
def RowsOwnUptoSaid : Prop := rowsOwnUptoRow.holds Tryz.pinned (OpenSpec.upto rowsOwnSpec)

/-- 'cartouchelaw14.RowsConstant', WHERE WHAT IT READS IS OF BULK AT MOST 1048576: true; the input reads as it did. -/
def rowsConstantUptoRow : OpenClaim := { program := "ythbonabadelfdaagreat", sum := "8dca8fee9a24a6884cfc7e919d826390b20cab23e7229f488fbcb2bb4af3e14f", func := "cartouche/cartouchelaw14.RowsConstant", spec := "rowsConstant", unfollowed := true, recurses := true, plainKeys := false, apart := false, narrowed := true }
def RowsConstantUptoSaid : Prop := rowsConstantUptoRow.holds Tryz.pinned (OpenSpec.upto rowsConstantSpec)

end Rows
end Go.Proofs.YthbonabadelfdaaGreat
