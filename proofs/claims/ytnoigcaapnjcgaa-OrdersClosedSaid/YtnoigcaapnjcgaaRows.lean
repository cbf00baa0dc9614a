/-
  No cell of these rows narrows 'for every input' (looked for: loops, veiled, ifaces, maps, wideKeys, modest, calm, conditions, laid).
  DERIVED. THE GIVEN ROWS OF THIS SEAT. 4 by the template 'for every input the law returns true; each argument reads behind the call as it read before'; 0 by the template 'total and deterministic' (their statements: YtnoigcaapnjcgaaTotals.lean).
  GIVEN WITH THE SEED: the statements are not yours to turn. If you find one false, say at which input.
  Laid BY PROGRAM, IN A SANDBOX (cutbox-rows.mjs): the forced cells as the released guide's own fill.sh prints them over the translation 7dd0a8e33d46c625… (all of the seat's roots in one cut). By AI agents, Wed Nov 11 2026. No macro, syntax, notation, axiom, sorry.
-/
import Derived.Test.YtnoigcaapnjcgaaChecked
import GoSem.Claim
import GoSem.ClaimJoined
import GoSem.ClaimMapViews
import Derived.JoinedTies
import Derived.KernelRfl
namespace Go.Proofs.Ytnoigcaapnjcgaa
/- THE CELL 'sum', in the pinned program and in every row, IS THE sha256 OF THE DUMP (.gsa) THAT YtnoigcaapnjcgaaProg.lean LOADS. Nothing in Lean hashes anything: it is a label: what it is worth is what the hold of that sum in a sandbox is worth. -/
noncomputable def Try.pinned : Pinned := { name := "ytnoigcaapnjcgaa", sum := "7dd0a8e33d46c62532b7f8e14b712b49cb927da4f1fb75717bc5f76ca9c21df5", checked := Try.checked }
namespace Rows
def none {H : Type} : Left H := { results := [], args := [] }

/-- 'cartouchelaw04.OrdersOf': WHATEVER THE INPUT: true; the input reads as it did. -/
def ordersOfSpec : ChangeSpec := { name := "ordersOf", fn := fun _ => fun
  | [d1, d2, d3] => { results := [.lit (.bool true)], args := [d1, d2, d3] }
  | _ => none }
def ordersOfRow : OpenClaim := { program := "ytnoigcaapnjcgaa", sum := "7dd0a8e33d46c62532b7f8e14b712b49cb927da4f1fb75717bc5f76ca9c21df5", func := "cartouche/cartouchelaw04.OrdersOf", spec := "ordersOf", apart := false }
def OrdersOfSaid : Prop := ordersOfRow.holds Try.pinned (OpenSpec.ofChange ordersOfSpec)

/-- ITS FALSE NEIGHBOUR: 'it returns false'. Refute it at one input. -/
def ordersOfWrong : ChangeSpec := { name := "ordersOf", fn := fun _ => fun
  | [d1, d2, d3] => { results := [.lit (.bool false)], args := [d1, d2, d3] }
  | _ => none }
def OrdersOfWrongFalsely : Prop := ordersOfRow.holds Try.pinned (OpenSpec.ofChange ordersOfWrong)

/-- 'cartouchelaw04.OrdersLeast': WHATEVER THE INPUT: true; the input reads as it did. -/
def ordersLeastSpec : ChangeSpec := { name := "ordersLeast", fn := fun _ => fun
  | [d] => { results := [.lit (.bool true)], args := [d] }
  | _ => none }
def ordersLeastRow : OpenClaim := { program := "ytnoigcaapnjcgaa", sum := "7dd0a8e33d46c62532b7f8e14b712b49cb927da4f1fb75717bc5f76ca9c21df5", func := "cartouche/cartouchelaw04.OrdersLeast", spec := "ordersLeast", apart := false }
def OrdersLeastSaid : Prop := ordersLeastRow.holds Try.pinned (OpenSpec.ofChange ordersLeastSpec)

/-- ITS FALSE NEIGHBOUR: 'it returns false'. Refute it at one input. -/
def ordersLeastWrong : ChangeSpec := { name := "ordersLeast", fn := fun _ => fun
  | [d] => { results := [.lit (.bool false)], args := [d] }
  | _ => none }
def OrdersLeastWrongFalsely : Prop := ordersLeastRow.holds Try.pinned (OpenSpec.ofChange ordersLeastWrong)

/-- 'cartouchelaw04.OrdersClosed': WHATEVER THE INPUT: true; the input reads as it did. -/
def ordersClosedSpec : ChangeSpec := { name := "ordersClosed", fn := fun _ => fun
  | [d1, d2, d3] => { results := [.lit (.bool true)], args := [d1, d2, d3] }
  | _ => none }
def ordersClosedRow : OpenClaim := { program := "ytnoigcaapnjcgaa", sum := "7dd0a8e33d46c62532b7f8e14b712b49cb927da4f1fb75717bc5f76ca9c21df5", func := "cartouche/cartouchelaw04.OrdersClosed", spec := "ordersClosed", apart := false }
def OrdersClosedSaid : Prop := ordersClosedRow.holds Try.pinned (OpenSpec.ofChange ordersClosedSpec)

/-- ITS FALSE NEIGHBOUR: 'it returns false'. Refute it at one input. -/
def ordersClosedWrong : ChangeSpec := { name := "ordersClosed", fn := fun _ => fun
  | [d1, d2, d3] => { results := [.lit (.bool false)], args := [d1, d2, d3] }
  | _ => none }
def OrdersClosedWrongFalsely : Prop := ordersClosedRow.holds Try.pinned (OpenSpec.ofChange ordersClosedWrong)

/-- 'cartouchelaw04.OrdersTurned': WHATEVER THE INPUT: true; the input reads as it did. -/
def ordersTurnedSpec : ChangeSpec := { name := "ordersTurned", fn := fun _ => fun
  | [d1, d2] => { results := [.lit (.bool true)], args := [d1, d2] }
  | _ => none }
def ordersTurnedRow : OpenClaim := { program := "ytnoigcaapnjcgaa", sum := "7dd0a8e33d46c62532b7f8e14b712b49cb927da4f1fb75717bc5f76ca9c21df5", func := "cartouche/cartouchelaw04.OrdersTurned", spec := "ordersTurned", apart := false }
def OrdersTurnedSaid : Prop := ordersTurnedRow.holds Try.pinned (OpenSpec.ofChange ordersTurnedSpec)

/-- ITS FALSE NEIGHBOUR: 'it returns false'. Refute it at one input. -/
def ordersTurnedWrong : ChangeSpec := { name := "ordersTurned", fn := fun _ => fun
  | [d1, d2] => { results := [.lit (.bool false)], args := [d1, d2] }
  | _ => none }
def OrdersTurnedWrongFalsely : Prop := ordersTurnedRow.holds Try.pinned (OpenSpec.ofChange ordersTurnedWrong)

/- THE SECOND FORM. 'bulk': how many values and letters a reading holds, each counted each time it is reached (what is shared counts as often as it is met; a slice's spare places count too). A statement '..UptoSaid' is the law's where the arguments, and the package variables that the reading takes, are together of bulk at most 1048576: NARROWER than '..Said'. Prove '..Said' where nothing that the law and all that it calls make is longer than what came in: it says more and counts as full. Else prove '..UptoSaid'. A law counts once. -/
mutual
def uptoBulk {H : Type} : DataW H → Nat
  | .lit (.string bytes) => bytes.length + 1
  | .lit _ => 1
  | .nil => 1
  | .ptr d => uptoBulk d + 1
  | .slice elems spare => uptoBulkAll elems + uptoBulkAll spare + 1
  | .agg parts => uptoBulkAll parts + 1
  | .iface _ d => uptoBulk d + 1
  | .map entries => uptoBulkEntries entries + 1
  | .held _ => 1
def uptoBulkAll {H : Type} : List (DataW H) → Nat
  | [] => 0
  | d :: r => uptoBulk d + uptoBulkAll r
def uptoBulkEntries {H : Type} : List (Lit × DataW H) → Nat
  | [] => 0
  | x :: r => uptoBulkEntry x + uptoBulkEntries r
def uptoBulkEntry {H : Type} : Lit × DataW H → Nat
  | (.string bytes, d) => bytes.length + uptoBulk d + 1
  | (_, d) => uptoBulk d + 1
 end
def uptoSmall : (H : Type) → List (DataW H) → Bool := fun _ ds => decide (uptoBulkAll ds ≤ 1048576)
def OpenSpec.upto (s : _root_.Go.ChangeSpec) : _root_.Go.OpenSpec := { _root_.Go.OpenSpec.ofChange s with cond := some uptoSmall }

/-- 'cartouchelaw04.OrdersOf', WHERE WHAT IT READS IS OF BULK AT MOST 1048576: true; the input reads as it did. -/
def ordersOfUptoRow : OpenClaim := { program := "ytnoigcaapnjcgaa", sum := "7dd0a8e33d46c62532b7f8e14b712b49cb927da4f1fb75717bc5f76ca9c21df5", func := "cartouche/cartouchelaw04.OrdersOf", spec := "ordersOf", apart := false, narrowed := true }
def OrdersOfUptoSaid : Prop := ordersOfUptoRow.holds Try.pinned (OpenSpec.upto ordersOfSpec)

/-- 'cartouchelaw04.OrdersLeast', WHERE WHAT IT READS IS OF BULK AT MOST 1048576: true; the input reads as it did. -/
def ordersLeastUptoRow : OpenClaim := { program := "ytnoigcaapnjcgaa", sum := "7dd0a8e33d46c62532b7f8e14b712b49cb927da4f1fb75717bc5f76ca9c21df5", func := "cartouche/cartouchelaw04.OrdersLeast", spec := "ordersLeast", apart := false, narrowed := true }
def OrdersLeastUptoSaid : Prop := ordersLeastUptoRow.holds Try.pinned (OpenSpec.upto ordersLeastSpec)

/-- 'cartouchelaw04.OrdersClosed', WHERE WHAT IT READS IS OF BULK AT MOST 1048576: true; the input reads as it did. -/
def ordersClosedUptoRow : OpenClaim := { program := "ytnoigcaapnjcgaa", sum := "7dd0a8e33d46c62532b7f8e14b712b49cb927da4f1fb75717bc5f76ca9c21df5", func := "cartouche/cartouchelaw04.OrdersClosed", spec := "ordersClosed", apart := false, narrowed := true }
def OrdersClosedUptoSaid : Prop := ordersClosedUptoRow.holds Try.pinned (OpenSpec.upto ordersClosedSpec)

/-- 'cartouchelaw04.OrdersTurned', WHERE WHAT IT READS IS OF BULK AT MOST 1048576: true; the input reads as it did. -/
def ordersTurnedUptoRow : OpenClaim := { program := "ytnoigcaapnjcgaa", sum := "7dd0a8e33d46c62532b7f8e14b712b49cb927da4f1fb75717bc5f76ca9c21df5", func := "cartouche/cartouchelaw04.OrdersTurned", spec := "ordersTurned", apart := false, narrowed := true }
def OrdersTurnedUptoSaid : Prop := ordersTurnedUptoRow.holds Try.pinned (OpenSpec.upto ordersTurnedSpec)

end Rows
end Go.Proofs.Ytnoigcaapnjcgaa
