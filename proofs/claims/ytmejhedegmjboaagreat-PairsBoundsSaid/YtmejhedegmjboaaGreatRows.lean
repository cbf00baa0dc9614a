/-
  No cell of these rows narrows 'for every input' (looked for: loops, veiled, ifaces, maps, wideKeys, modest, calm, conditions, laid).
  DERIVED. THE GIVEN ROWS OF THIS SEAT. 5 by the template 'for every input the law returns true; each argument reads behind the call as it read before'; 0 by the template 'total and deterministic' (their statements: YtmejhedegmjboaaGreatTotals.lean).
  GIVEN WITH THE SEED: the statements are not yours to turn. If you find one false, say at which input.
  Laid BY PROGRAM, IN A SANDBOX (cutbox-rows.mjs): the forced cells as the released guide's own fill.sh prints them over the translation 5ea0f30467101903… (all of the seat's roots in one cut). By AI agents, Wed Nov 11 2026. No macro, syntax, notation, axiom, sorry.
-/
import Derived.Test.YtmejhedegmjboaaGreatChecked
import GoSem.Claim
import GoSem.ClaimJoined
import GoSem.ClaimMapViews
import Derived.JoinedTies
import Derived.KernelRfl
namespace Go.Proofs.YtmejhedegmjboaaGreat
/- THE CELL 'sum', in the pinned program and in every row, IS THE sha256 OF THE DUMP (.gsa) THAT YtmejhedegmjboaaGreatProg.lean LOADS. Nothing in Lean hashes anything: it is a label: what it is worth is what the hold of that sum in a sandbox is worth. -/
noncomputable def Tryz.pinned : Pinned := { name := "ytmejhedegmjboaagreat", sum := "5ea0f30467101903085d2437734792cd484d15cd4199bddca52bed9a7dd7e0a6", checked := Tryz.checked }
namespace Rows
def none {H : Type} : Left H := { results := [], args := [] }

/-- 'cartouchelaw15.PairsBounds': WHATEVER THE INPUT: true; the input reads as it did. -/
def pairsBoundsSpec : ChangeSpec := { name := "pairsBounds", fn := fun _ => fun
  | [d1, d2, d3] => { results := [.lit (.bool true)], args := [d1, d2, d3] }
  | _ => none }
def pairsBoundsRow : OpenClaim := { program := "ytmejhedegmjboaagreat", sum := "5ea0f30467101903085d2437734792cd484d15cd4199bddca52bed9a7dd7e0a6", func := "cartouche/cartouchelaw15.PairsBounds", spec := "pairsBounds", unfollowed := true, recurses := true, plainKeys := false, apart := false }
def PairsBoundsSaid : Prop := pairsBoundsRow.holds Tryz.pinned (OpenSpec.ofChange pairsBoundsSpec)

/-- ITS FALSE NEIGHBOUR: 'it returns false'. Refute it at one input. -/
def pairsBoundsWrong : ChangeSpec := { name := "pairsBounds", fn := fun _ => fun
  | [d1, d2, d3] => { results := [.lit (.bool false)], args := [d1, d2, d3] }
  | _ => none }
def PairsBoundsWrongFalsely : Prop := pairsBoundsRow.holds Tryz.pinned (OpenSpec.ofChange pairsBoundsWrong)

/-- 'cartouchelaw15.PairsSense': WHATEVER THE INPUT: true; the input reads as it did. -/
def pairsSenseSpec : ChangeSpec := { name := "pairsSense", fn := fun _ => fun
  | [d1, d2] => { results := [.lit (.bool true)], args := [d1, d2] }
  | _ => none }
def pairsSenseRow : OpenClaim := { program := "ytmejhedegmjboaagreat", sum := "5ea0f30467101903085d2437734792cd484d15cd4199bddca52bed9a7dd7e0a6", func := "cartouche/cartouchelaw15.PairsSense", spec := "pairsSense", unfollowed := true, recurses := true, plainKeys := false, apart := false }
def PairsSenseSaid : Prop := pairsSenseRow.holds Tryz.pinned (OpenSpec.ofChange pairsSenseSpec)

/-- ITS FALSE NEIGHBOUR: 'it returns false'. Refute it at one input. -/
def pairsSenseWrong : ChangeSpec := { name := "pairsSense", fn := fun _ => fun
  | [d1, d2] => { results := [.lit (.bool false)], args := [d1, d2] }
  | _ => none }
def PairsSenseWrongFalsely : Prop := pairsSenseRow.holds Tryz.pinned (OpenSpec.ofChange pairsSenseWrong)

/-- 'cartouchelaw15.PairsNumbers': WHATEVER THE INPUT: true; the input reads as it did. -/
def pairsNumbersSpec : ChangeSpec := { name := "pairsNumbers", fn := fun _ => fun
  | [d1, d2] => { results := [.lit (.bool true)], args := [d1, d2] }
  | _ => none }
def pairsNumbersRow : OpenClaim := { program := "ytmejhedegmjboaagreat", sum := "5ea0f30467101903085d2437734792cd484d15cd4199bddca52bed9a7dd7e0a6", func := "cartouche/cartouchelaw15.PairsNumbers", spec := "pairsNumbers", unfollowed := true, recurses := true, plainKeys := false, apart := false }
def PairsNumbersSaid : Prop := pairsNumbersRow.holds Tryz.pinned (OpenSpec.ofChange pairsNumbersSpec)

/-- ITS FALSE NEIGHBOUR: 'it returns false'. Refute it at one input. -/
def pairsNumbersWrong : ChangeSpec := { name := "pairsNumbers", fn := fun _ => fun
  | [d1, d2] => { results := [.lit (.bool false)], args := [d1, d2] }
  | _ => none }
def PairsNumbersWrongFalsely : Prop := pairsNumbersRow.holds Tryz.pinned (OpenSpec.ofChange pairsNumbersWrong)

/-- 'cartouchelaw15.PairsOwn': WHATEVER THE INPUT: true; the input reads as it did. -/
def pairsOwnSpec : ChangeSpec := { name := "pairsOwn", fn := fun _ => fun
  | [d1, d2, d3] => { results := [.lit (.bool true)], args := [d1, d2, d3] }
  | _ => none }
def pairsOwnRow : OpenClaim := { program := "ytmejhedegmjboaagreat", sum := "5ea0f30467101903085d2437734792cd484d15cd4199bddca52bed9a7dd7e0a6", func := "cartouche/cartouchelaw15.PairsOwn", spec := "pairsOwn", unfollowed := true, recurses := true, plainKeys := false, apart := false }
def PairsOwnSaid : Prop := pairsOwnRow.holds Tryz.pinned (OpenSpec.ofChange pairsOwnSpec)

/-- ITS FALSE NEIGHBOUR: 'it returns false'. Refute it at one input. -/
def pairsOwnWrong : ChangeSpec := { name := "pairsOwn", fn := fun _ => fun
  | [d1, d2, d3] => { results := [.lit (.bool false)], args := [d1, d2, d3] }
  | _ => none }
def PairsOwnWrongFalsely : Prop := pairsOwnRow.holds Tryz.pinned (OpenSpec.ofChange pairsOwnWrong)

/-- 'cartouchelaw15.PairsPlain': WHATEVER THE INPUT: true; the input reads as it did. -/
def pairsPlainSpec : ChangeSpec := { name := "pairsPlain", fn := fun _ => fun
  | [d1, d2] => { results := [.lit (.bool true)], args := [d1, d2] }
  | _ => none }
def pairsPlainRow : OpenClaim := { program := "ytmejhedegmjboaagreat", sum := "5ea0f30467101903085d2437734792cd484d15cd4199bddca52bed9a7dd7e0a6", func := "cartouche/cartouchelaw15.PairsPlain", spec := "pairsPlain", unfollowed := true, recurses := true, plainKeys := false, apart := false }
def PairsPlainSaid : Prop := pairsPlainRow.holds Tryz.pinned (OpenSpec.ofChange pairsPlainSpec)

/-- ITS FALSE NEIGHBOUR: 'it returns false'. Refute it at one input. -/
def pairsPlainWrong : ChangeSpec := { name := "pairsPlain", fn := fun _ => fun
  | [d1, d2] => { results := [.lit (.bool false)], args := [d1, d2] }
  | _ => none }
def PairsPlainWrongFalsely : Prop := pairsPlainRow.holds Tryz.pinned (OpenSpec.ofChange pairsPlainWrong)

/- THE SECOND FORM. 'bulk': how many values and letters a reading holds, each counted each time it is reached (what is shared counts as often as it is met; a slice's spare places count too). A statement '..UptoSaid' is the law's where the arguments, and the package variables that the reading takes, are together of bulk at most 1048576: NARROWER than '..Said'. Prove '..Said' where nothing that the law and all that it calls make is longer than what came in: it says more and counts as full. Else prove '..UptoSaid'. A law counts once. -/
mutual
def uptoBulk {H : Type} : DataW H → Nat
  | .lit (.string bytes) => bytes.length + 1
  | .lit _ => 1
  | .nil => 1
  | .ptr d => uptoBulk d + 1
  | .slice elems spare => uptoBulkAll elems + uptoBulkAll spare + 1
  | .agg parts => uptoBulkAll parts + 1
  | .iface _ d => uptoBulk d + 1
  | .map entries => uptoBulkEntries entries + 1
  | .held _ => 1
def uptoBulkAll {H : Type} : List (DataW H) → Nat
  | [] => 0
  | d :: r => uptoBulk d + uptoBulkAll r
def uptoBulkEntries {H : Type} : List (Lit × DataW H) → Nat
  | [] => 0
  | x :: r => uptoBulkEntry x + uptoBulkEntries r
def uptoBulkEntry {H : Type} : Lit × DataW H → Nat
  | (.string bytes, d) => bytes.length + uptoBulk d + 1
  | (_, d) => uptoBulk d + 1
 end
def uptoSmall : (H : Type) → List (DataW H) → Bool := fun _ ds => decide (uptoBulkAll ds ≤ 1048576)
def OpenSpec.upto (s : _root_.Go.ChangeSpec) : _root_.Go.OpenSpec := { _root_.Go.OpenSpec.ofChange s with cond := some uptoSmall }

/-- 'cartouchelaw15.PairsBounds', WHERE WHAT IT READS IS OF BULK AT MOST 1048576: true; the input reads as it did. -/
def pairsBoundsUptoRow : OpenClaim := { program := "ytmejhedegmjboaagreat", sum := "5ea0f30467101903085d2437734792cd484d15cd4199bddca52bed9a7dd7e0a6", func := "cartouche/cartouchelaw15.PairsBounds", spec := "pairsBounds", unfollowed := true, recurses := true, plainKeys := false, apart := false, narrowed := true }
def PairsBoundsUptoSaid : Prop := pairsBoundsUptoRow.holds Tryz.pinned (OpenSpec.upto pairsBoundsSpec)

/-- 'cartouchelaw15.PairsSense', WHERE WHAT IT READS IS OF BULK AT MOST 1048576: true; the input reads as it did. -/
def pairsSenseUptoRow : OpenClaim := { program := "ytmejhedegmjboaagreat", sum := "5ea0f30467101903085d2437734792cd484d15cd4199bddca52bed9a7dd7e0a6", func := "cartouche/cartouchelaw15.PairsSense", spec := "pairsSense", unfollowed := true, recurses := true, plainKeys := false, apart := false, narrowed := true }
def PairsSenseUptoSaid : Prop := pairsSenseUptoRow.holds Tryz.pinned (OpenSpec.upto pairsSenseSpec)

/-- 'cartouchelaw15.PairsNumbers', WHERE WHAT IT READS IS OF BULK AT MOST 1048576: true; the input reads as it did. -/
def pairsNumbersUptoRow : OpenClaim := { program := "ytmejhedegmjboaagreat", sum := "5ea0f30467101903085d2437734792cd484d15cd4199bddca52bed9a7dd7e0a6", func := "cartouche/cartouchelaw15.PairsNumbers", spec := "pairsNumbers", unfollowed := true, recurses := true, plainKeys := false, apart := false, narrowed := true }
def PairsNumbersUptoSaid : Prop := pairsNumbersUptoRow.holds Tryz.pinned (OpenSpec.upto pairsNumbersSpec)

/-- 'cartouchelaw15.PairsOwn', WHERE WHAT IT READS IS OF BULK AT MOST 1048576: true; the input reads as it did. -/
def pairsOwnUptoRow : OpenClaim := { program := "ytmejhedegmjboaagreat", sum := "5ea0f30467101903085d2437734792cd484d15cd4199bddca52bed9a7dd7e0a6", func := "cartouche/cartouchelaw15.PairsOwn", spec := "pairsOwn", unfollowed := true, recurses := true, plainKeys := false, apart := false, narrowed := true }
def PairsOwnUptoSaid : Prop := pairsOwnUptoRow.holds Tryz.pinned (OpenSpec.upto pairsOwnSpec)

/-- 'cartouchelaw15.PairsPlain', WHERE WHAT IT READS IS OF BULK AT MOST 1048576: true; the input reads as it did. -/
def pairsPlainUptoRow : OpenClaim := { program := "ytmejhedegmjboaagreat", sum := "5ea0f30467101903085d2437734792cd484d15cd4199bddca52bed9a7dd7e0a6", func := "cartouche/cartouchelaw15.PairsPlain", spec := "pairsPlain", unfollowed := true, recurses := true, plainKeys := false, apart := false, narrowed := true }
def PairsPlainUptoSaid : Prop := pairsPlainUptoRow.holds Tryz.pinned (OpenSpec.upto pairsPlainSpec)

end Rows
end Go.Proofs.YtmejhedegmjboaaGreat
