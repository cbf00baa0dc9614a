/-
  No cell of these rows narrows 'for every input' (looked for: loops, veiled, ifaces, maps, wideKeys, modest, calm, conditions, laid).
  DERIVED. THE GIVEN ROWS OF THIS SEAT. 5 by the template 'for every input the law returns true; each argument reads behind the call as it read before'; 0 by the template 'total and deterministic' (their statements: YthimojebincheaaTotals.lean).
  GIVEN WITH THE SEED: the statements are not yours to turn. If you find one false, say at which input.
  Laid BY PROGRAM, IN A SANDBOX (cutbox-rows.mjs): the forced cells as the released guide's own fill.sh prints them over the translation 4f289d31750021e6… (all of the seat's roots in one cut). By AI agents, Wed Nov 11 2026. No macro, syntax, notation, axiom, sorry.
-/
import Derived.Test.YthimojebincheaaChecked
import GoSem.Claim
import GoSem.ClaimJoined
import GoSem.ClaimMapViews
import Derived.JoinedTies
import Derived.KernelRfl
namespace Go.Proofs.Ythimojebincheaa
/- THE CELL 'sum', in the pinned program and in every row, IS THE sha256 OF THE DUMP (.gsa) THAT YthimojebincheaaProg.lean LOADS. Nothing in Lean hashes anything: it is a label: what it is worth is what the hold of that sum in a sandbox is worth. -/
noncomputable def Try.pinned : Pinned := { name := "ythimojebincheaa", sum := "4f289d31750021e6a1a38fd838845d43287369541531e097f991c21804c6f887", checked := Try.checked }
namespace Rows
def none {H : Type} : Left H := { results := [], args := [] }

/-- 'cartouchelaw02.SumsDivided': WHATEVER THE INPUT: true; the input reads as it did. -/
def sumsDividedSpec : ChangeSpec := { name := "sumsDivided", fn := fun _ => fun
  | [d1, d2] => { results := [.lit (.bool true)], args := [d1, d2] }
  | _ => none }
def sumsDividedRow : OpenClaim := { program := "ythimojebincheaa", sum := "4f289d31750021e6a1a38fd838845d43287369541531e097f991c21804c6f887", func := "cartouche/cartouchelaw02.SumsDivided", spec := "sumsDivided", unfollowed := true, recurses := true, apart := false }
def SumsDividedSaid : Prop := sumsDividedRow.holds Try.pinned (OpenSpec.ofChange sumsDividedSpec)

/-- ITS FALSE NEIGHBOUR: 'it returns false'. Refute it at one input. -/
def sumsDividedWrong : ChangeSpec := { name := "sumsDivided", fn := fun _ => fun
  | [d1, d2] => { results := [.lit (.bool false)], args := [d1, d2] }
  | _ => none }
def SumsDividedWrongFalsely : Prop := sumsDividedRow.holds Try.pinned (OpenSpec.ofChange sumsDividedWrong)

/-- 'cartouchelaw02.SumsApart': WHATEVER THE INPUT: true; the input reads as it did. -/
def sumsApartSpec : ChangeSpec := { name := "sumsApart", fn := fun _ => fun
  | [d1, d2, d3] => { results := [.lit (.bool true)], args := [d1, d2, d3] }
  | _ => none }
def sumsApartRow : OpenClaim := { program := "ythimojebincheaa", sum := "4f289d31750021e6a1a38fd838845d43287369541531e097f991c21804c6f887", func := "cartouche/cartouchelaw02.SumsApart", spec := "sumsApart", unfollowed := true, recurses := true, apart := false }
def SumsApartSaid : Prop := sumsApartRow.holds Try.pinned (OpenSpec.ofChange sumsApartSpec)

/-- ITS FALSE NEIGHBOUR: 'it returns false'. Refute it at one input. -/
def sumsApartWrong : ChangeSpec := { name := "sumsApart", fn := fun _ => fun
  | [d1, d2, d3] => { results := [.lit (.bool false)], args := [d1, d2, d3] }
  | _ => none }
def SumsApartWrongFalsely : Prop := sumsApartRow.holds Try.pinned (OpenSpec.ofChange sumsApartWrong)

/-- 'cartouchelaw02.SumsHit': WHATEVER THE INPUT: true; the input reads as it did. -/
def sumsHitSpec : ChangeSpec := { name := "sumsHit", fn := fun _ => fun
  | [d1, d2, d3] => { results := [.lit (.bool true)], args := [d1, d2, d3] }
  | _ => none }
def sumsHitRow : OpenClaim := { program := "ythimojebincheaa", sum := "4f289d31750021e6a1a38fd838845d43287369541531e097f991c21804c6f887", func := "cartouche/cartouchelaw02.SumsHit", spec := "sumsHit", unfollowed := true, recurses := true, apart := false }
def SumsHitSaid : Prop := sumsHitRow.holds Try.pinned (OpenSpec.ofChange sumsHitSpec)

/-- ITS FALSE NEIGHBOUR: 'it returns false'. Refute it at one input. -/
def sumsHitWrong : ChangeSpec := { name := "sumsHit", fn := fun _ => fun
  | [d1, d2, d3] => { results := [.lit (.bool false)], args := [d1, d2, d3] }
  | _ => none }
def SumsHitWrongFalsely : Prop := sumsHitRow.holds Try.pinned (OpenSpec.ofChange sumsHitWrong)

/-- 'cartouchelaw02.SumsPlaces': WHATEVER THE INPUT: true; the input reads as it did. -/
def sumsPlacesSpec : ChangeSpec := { name := "sumsPlaces", fn := fun _ => fun
  | [d1, d2] => { results := [.lit (.bool true)], args := [d1, d2] }
  | _ => none }
def sumsPlacesRow : OpenClaim := { program := "ythimojebincheaa", sum := "4f289d31750021e6a1a38fd838845d43287369541531e097f991c21804c6f887", func := "cartouche/cartouchelaw02.SumsPlaces", spec := "sumsPlaces", unfollowed := true, recurses := true, apart := false }
def SumsPlacesSaid : Prop := sumsPlacesRow.holds Try.pinned (OpenSpec.ofChange sumsPlacesSpec)

/-- ITS FALSE NEIGHBOUR: 'it returns false'. Refute it at one input. -/
def sumsPlacesWrong : ChangeSpec := { name := "sumsPlaces", fn := fun _ => fun
  | [d1, d2] => { results := [.lit (.bool false)], args := [d1, d2] }
  | _ => none }
def SumsPlacesWrongFalsely : Prop := sumsPlacesRow.holds Try.pinned (OpenSpec.ofChange sumsPlacesWrong)

/-- 'cartouchelaw02.SumsLost': WHATEVER THE INPUT: true; the input reads as it did. -/
def sumsLostSpec : ChangeSpec := { name := "sumsLost", fn := fun _ => fun
  | [d1, d2] => { results := [.lit (.bool true)], args := [d1, d2] }
  | _ => none }
def sumsLostRow : OpenClaim := { program := "ythimojebincheaa", sum := "4f289d31750021e6a1a38fd838845d43287369541531e097f991c21804c6f887", func := "cartouche/cartouchelaw02.SumsLost", spec := "sumsLost", unfollowed := true, recurses := true, apart := false }
def SumsLostSaid : Prop := sumsLostRow.holds Try.pinned (OpenSpec.ofChange sumsLostSpec)

/-- ITS FALSE NEIGHBOUR: 'it returns false'. Refute it at one input. -/
def sumsLostWrong : ChangeSpec := { name := "sumsLost", fn := fun _ => fun
  | [d1, d2] => { results := [.lit (.bool false)], args := [d1, d2] }
  | _ => none }
def SumsLostWrongFalsely : Prop := sumsLostRow.holds Try.pinned (OpenSpec.ofChange sumsLostWrong)

/- THE SECOND FORM. 'bulk': how many values and letters a reading holds, each counted each time it is reached (what is shared counts as often as it is met; a slice's spare places count too). A statement '..UptoSaid' is the law's where the arguments, and the package variables that the reading takes, are together of bulk at most 1048576: NARROWER than '..Said'. Prove '..Said' where nothing that the law and all that it calls make is longer than what came in: it says more and counts as full. Else prove '..UptoSaid'. A law counts once. -/
mutual
def uptoBulk {H : Type} : DataW H → Nat
  | .lit (.string bytes) => bytes.length + 1
  | .lit _ => 1
  | .nil => 1
  | .ptr d => uptoBulk d + 1
  | .slice elems spare => uptoBulkAll elems + uptoBulkAll spare + 1
  | .agg parts => uptoBulkAll parts + 1
  | .iface _ d => uptoBulk d + 1
  | .map entries => uptoBulkEntries entries + 1
  | .held _ => 1
def uptoBulkAll {H : Type} : List (DataW H) → Nat
  | [] => 0
  | d :: r => uptoBulk d + uptoBulkAll r
def uptoBulkEntries {H : Type} : List (Lit × DataW H) → Nat
  | [] => 0
  | x :: r => uptoBulkEntry x + uptoBulkEntries r
def uptoBulkEntry {H : Type} : Lit × DataW H → Nat
  | (.string bytes, d) => bytes.length + uptoBulk d + 1
  | (_, d) => uptoBulk d + 1
 end
def uptoSmall : (H : Type) → List (DataW H) → Bool := fun _ ds => decide (uptoBulkAll ds ≤ 1048576)
def OpenSpec.upto (s : _root_.Go.ChangeSpec) : _root_.Go.OpenSpec := { _root_.Go.OpenSpec.ofChange s with cond := some uptoSmall }

/-- 'cartouchelaw02.SumsDivided', WHERE WHAT IT READS IS OF BULK AT MOST 1048576: true; the input reads as it did. -/
def sumsDividedUptoRow : OpenClaim := { program := "ythimojebincheaa", sum := "4f289d31750021e6a1a38fd838845d43287369541531e097f991c21804c6f887", func := "cartouche/cartouchelaw02.SumsDivided", spec := "sumsDivided", unfollowed := true, recurses := true, apart := false, narrowed := true }
def SumsDividedUptoSaid : Prop := sumsDividedUptoRow.holds Try.pinned (OpenSpec.upto sumsDividedSpec)

/-- 'cartouchelaw02.SumsApart', WHERE WHAT IT READS IS OF BULK AT MOST 1048576: true; the input reads as it did. -/
def sumsApartUptoRow : OpenClaim := { program := "ythimojebincheaa", sum := "4f289d31750021e6a1a38fd838845d43287369541531e097f991c21804c6f887", func := "cartouche/cartouchelaw02.SumsApart", spec := "sumsApart", unfollowed := true, recurses := true, apart := false, narrowed := true }
def SumsApartUptoSaid : Prop := sumsApartUptoRow.holds Try.pinned (OpenSpec.upto sumsApartSpec)

/-- 'cartouchelaw02.SumsHit', WHERE WHAT IT READS IS OF BULK AT MOST 1048576: true; the input reads as it did. -/
def sumsHitUptoRow : OpenClaim := { program := "ythimojebincheaa", sum := "4f289d31750021e6a1a38fd838845d43287369541531e097f991c21804c6f887", func := "cartouche/cartouchelaw02.SumsHit", spec := "sumsHit", unfollowed := true, recurses := true, apart := false, narrowed := true }
def SumsHitUptoSaid : Prop := sumsHitUptoRow.holds Try.pinned (OpenSpec.upto sumsHitSpec)

/-- 'cartouchelaw02.SumsPlaces', WHERE WHAT IT READS IS OF BULK AT MOST 1048576: true; the input reads as it did. -/
def sumsPlacesUptoRow : OpenClaim := { program := "ythimojebincheaa", sum := "4f289d31750021e6a1a38fd838845d43287369541531e097f991c21804c6f887", func := "cartouche/cartouchelaw02.SumsPlaces", spec := "sumsPlaces", unfollowed := true, recurses := true, apart := false, narrowed := true }
def SumsPlacesUptoSaid : Prop := sumsPlacesUptoRow.holds Try.pinned (OpenSpec.upto sumsPlacesSpec)

/-- 'cartouchelaw02.SumsLost', WHERE WHAT IT READS IS OF BULK AT MOST 1048576: true; the input reads as it did. -/
def sumsLostUptoRow : OpenClaim := { program := "ythimojebincheaa", sum := "4f289d31750021e6a1a38fd838845d43287369541531e097f991c21804c6f887", func := "cartouche/cartouchelaw02.SumsLost", spec := "sumsLost", unfollowed := true, recurses := true, apart := false, narrowed := true }
def SumsLostUptoSaid : Prop := sumsLostUptoRow.holds Try.pinned (OpenSpec.upto sumsLostSpec)

end Rows
end Go.Proofs.Ythimojebincheaa
