/-
  No cell of these rows narrows 'for every input' (looked for: loops, veiled, ifaces, maps, wideKeys, modest, calm, conditions, laid).
  DERIVED. THE GIVEN ROWS OF THIS SEAT. 6 by the template 'for every input the law returns true; each argument reads behind the call as it read before'; 0 by the template 'total and deterministic' (their statements: YtnlgfiffhahpfaaTotals.lean).
  GIVEN WITH THE SEED: the statements are not yours to turn. If you find one false, say at which input.
  Laid BY PROGRAM, IN A SANDBOX (cutbox-rows.mjs): the forced cells as the released guide's own fill.sh prints them over the translation 190cb882b6fce731… (all of the seat's roots in one cut). By AI agents, Wed Nov 11 2026. No macro, syntax, notation, axiom, sorry.
-/
import Derived.Test.YtnlgfiffhahpfaaChecked
import GoSem.Claim
import GoSem.ClaimJoined
import GoSem.ClaimMapViews
import Derived.JoinedTies
import Derived.KernelRfl
namespace Go.Proofs.Ytnlgfiffhahpfaa
/- THE CELL 'sum', in the pinned program and in every row, IS THE sha256 OF THE DUMP (.gsa) THAT YtnlgfiffhahpfaaProg.lean LOADS. Nothing in Lean hashes anything: it is a label: what it is worth is what the hold of that sum in a sandbox is worth. -/
noncomputable def Try.pinned : Pinned := { name := "ytnlgfiffhahpfaa", sum := "190cb882b6fce7313d076162dd2db64f31a2776c0216c53f1887cb9f61d58044", checked := Try.checked }
namespace Rows
def none {H : Type} : Left H := { results := [], args := [] }

/-- 'cartouchelaw10.BoundsNone': WHATEVER THE INPUT: true; the input reads as it did. -/
def boundsNoneSpec : ChangeSpec := { name := "boundsNone", fn := fun _ => fun
  | [d] => { results := [.lit (.bool true)], args := [d] }
  | _ => none }
def boundsNoneRow : OpenClaim := { program := "ytnlgfiffhahpfaa", sum := "190cb882b6fce7313d076162dd2db64f31a2776c0216c53f1887cb9f61d58044", func := "cartouche/cartouchelaw10.BoundsNone", spec := "boundsNone", unfollowed := true, recurses := true, apart := false }
def BoundsNoneSaid : Prop := boundsNoneRow.holds Try.pinned (OpenSpec.ofChange boundsNoneSpec)

/-- ITS FALSE NEIGHBOUR: 'it returns false'. Refute it at one input. -/
def boundsNoneWrong : ChangeSpec := { name := "boundsNone", fn := fun _ => fun
  | [d] => { results := [.lit (.bool false)], args := [d] }
  | _ => none }
def BoundsNoneWrongFalsely : Prop := boundsNoneRow.holds Try.pinned (OpenSpec.ofChange boundsNoneWrong)

/-- 'cartouchelaw10.BoundsBetween': WHATEVER THE INPUT: true; the input reads as it did. -/
def boundsBetweenSpec : ChangeSpec := { name := "boundsBetween", fn := fun _ => fun
  | [d] => { results := [.lit (.bool true)], args := [d] }
  | _ => none }
def boundsBetweenRow : OpenClaim := { program := "ytnlgfiffhahpfaa", sum := "190cb882b6fce7313d076162dd2db64f31a2776c0216c53f1887cb9f61d58044", func := "cartouche/cartouchelaw10.BoundsBetween", spec := "boundsBetween", unfollowed := true, recurses := true, apart := false }
def BoundsBetweenSaid : Prop := boundsBetweenRow.holds Try.pinned (OpenSpec.ofChange boundsBetweenSpec)

/-- ITS FALSE NEIGHBOUR: 'it returns false'. Refute it at one input. -/
def boundsBetweenWrong : ChangeSpec := { name := "boundsBetween", fn := fun _ => fun
  | [d] => { results := [.lit (.bool false)], args := [d] }
  | _ => none }
def BoundsBetweenWrongFalsely : Prop := boundsBetweenRow.holds Try.pinned (OpenSpec.ofChange boundsBetweenWrong)

/-- 'cartouchelaw10.BoundsMore': WHATEVER THE INPUT: true; the input reads as it did. -/
def boundsMoreSpec : ChangeSpec := { name := "boundsMore", fn := fun _ => fun
  | [d1, d2] => { results := [.lit (.bool true)], args := [d1, d2] }
  | _ => none }
def boundsMoreRow : OpenClaim := { program := "ytnlgfiffhahpfaa", sum := "190cb882b6fce7313d076162dd2db64f31a2776c0216c53f1887cb9f61d58044", func := "cartouche/cartouchelaw10.BoundsMore", spec := "boundsMore", unfollowed := true, recurses := true, apart := false }
def BoundsMoreSaid : Prop := boundsMoreRow.holds Try.pinned (OpenSpec.ofChange boundsMoreSpec)

/-- ITS FALSE NEIGHBOUR: 'it returns false'. Refute it at one input. -/
def boundsMoreWrong : ChangeSpec := { name := "boundsMore", fn := fun _ => fun
  | [d1, d2] => { results := [.lit (.bool false)], args := [d1, d2] }
  | _ => none }
def BoundsMoreWrongFalsely : Prop := boundsMoreRow.holds Try.pinned (OpenSpec.ofChange boundsMoreWrong)

/-- 'cartouchelaw10.BoundsOrder': WHATEVER THE INPUT: true; the input reads as it did. -/
def boundsOrderSpec : ChangeSpec := { name := "boundsOrder", fn := fun _ => fun
  | [d1, d2] => { results := [.lit (.bool true)], args := [d1, d2] }
  | _ => none }
def boundsOrderRow : OpenClaim := { program := "ytnlgfiffhahpfaa", sum := "190cb882b6fce7313d076162dd2db64f31a2776c0216c53f1887cb9f61d58044", func := "cartouche/cartouchelaw10.BoundsOrder", spec := "boundsOrder", unfollowed := true, recurses := true, apart := false }
def BoundsOrderSaid : Prop := boundsOrderRow.holds Try.pinned (OpenSpec.ofChange boundsOrderSpec)

/-- ITS FALSE NEIGHBOUR: 'it returns false'. Refute it at one input. -/
def boundsOrderWrong : ChangeSpec := { name := "boundsOrder", fn := fun _ => fun
  | [d1, d2] => { results := [.lit (.bool false)], args := [d1, d2] }
  | _ => none }
def BoundsOrderWrongFalsely : Prop := boundsOrderRow.holds Try.pinned (OpenSpec.ofChange boundsOrderWrong)

/-- 'cartouchelaw10.BoundsGiven': WHATEVER THE INPUT: true; the input reads as it did. -/
def boundsGivenSpec : ChangeSpec := { name := "boundsGiven", fn := fun _ => fun
  | [d] => { results := [.lit (.bool true)], args := [d] }
  | _ => none }
def boundsGivenRow : OpenClaim := { program := "ytnlgfiffhahpfaa", sum := "190cb882b6fce7313d076162dd2db64f31a2776c0216c53f1887cb9f61d58044", func := "cartouche/cartouchelaw10.BoundsGiven", spec := "boundsGiven", unfollowed := true, recurses := true, apart := false }
def BoundsGivenSaid : Prop := boundsGivenRow.holds Try.pinned (OpenSpec.ofChange boundsGivenSpec)

/-- ITS FALSE NEIGHBOUR: 'it returns false'. Refute it at one input. -/
def boundsGivenWrong : ChangeSpec := { name := "boundsGiven", fn := fun _ => fun
  | [d] => { results := [.lit (.bool false)], args := [d] }
  | _ => none }
def BoundsGivenWrongFalsely : Prop := boundsGivenRow.holds Try.pinned (OpenSpec.ofChange boundsGivenWrong)

/-- 'cartouchelaw10.BoundsTwo': WHATEVER THE INPUT: true; the input reads as it did. -/
def boundsTwoSpec : ChangeSpec := { name := "boundsTwo", fn := fun _ => fun
  | [d] => { results := [.lit (.bool true)], args := [d] }
  | _ => none }
def boundsTwoRow : OpenClaim := { program := "ytnlgfiffhahpfaa", sum := "190cb882b6fce7313d076162dd2db64f31a2776c0216c53f1887cb9f61d58044", func := "cartouche/cartouchelaw10.BoundsTwo", spec := "boundsTwo", unfollowed := true, recurses := true, apart := false }
def BoundsTwoSaid : Prop := boundsTwoRow.holds Try.pinned (OpenSpec.ofChange boundsTwoSpec)

/-- ITS FALSE NEIGHBOUR: 'it returns false'. Refute it at one input. -/
def boundsTwoWrong : ChangeSpec := { name := "boundsTwo", fn := fun _ => fun
  | [d] => { results := [.lit (.bool false)], args := [d] }
  | _ => none }
def BoundsTwoWrongFalsely : Prop := boundsTwoRow.holds Try.pinned (OpenSpec.ofChange boundsTwoWrong)

/- THE SECOND FORM. 'bulk': how many values and letters a reading holds, each counted each time it is reached (what is shared counts as often as it is met; a slice's spare places count too). A statement '..UptoSaid' is the law's where the arguments, and the package variables that the reading takes, are together of bulk at most 1048576: NARROWER than '..Said'. Prove '..Said' where nothing that the law and all that it calls make is longer than what came in: it says more and counts as full. Else prove '..UptoSaid'. A law counts once. -/
mutual
def uptoBulk {H : Type} : DataW H → Nat
  | .lit (.string bytes) => bytes.length + 1
  | .lit _ => 1
  | .nil => 1
  | .ptr d => uptoBulk d + 1
  | .slice elems spare => uptoBulkAll elems + uptoBulkAll spare + 1
  | .agg parts => uptoBulkAll parts + 1
  | .iface _ d => uptoBulk d + 1
  | .map entries => uptoBulkEntries entries + 1
  | .held _ => 1
def uptoBulkAll {H : Type} : List (DataW H) → Nat
  | [] => 0
  | d :: r => uptoBulk d + uptoBulkAll r
def uptoBulkEntries {H : Type} : List (Lit × DataW H) → Nat
  | [] => 0
  | x :: r => uptoBulkEntry x + uptoBulkEntries r
def uptoBulkEntry {H : Type} : Lit × DataW H → Nat
  | (.string bytes, d) => bytes.length + uptoBulk d + 1
  | (_, d) => uptoBulk d + 1
 end
def uptoSmall : (H : Type) → List (DataW H) → Bool := fun _ ds => decide (uptoBulkAll ds ≤ 1048576)
def OpenSpec.upto (s : _root_.Go.ChangeSpec) : _root_.Go.OpenSpec := { _root_.Go.OpenSpec.ofChange s with cond := some uptoSmall }

/-- 'cartouchelaw10.BoundsNone', WHERE WHAT IT READS IS OF BULK AT MOST 1048576: true; the input reads as it did. -/
def boundsNoneUptoRow : OpenClaim := { program := "ytnlgfiffhahpfaa", sum := "190cb882b6fce7313d076162dd2db64f31a2776c0216c53f1887cb9f61d58044", func := "cartouche/cartouchelaw10.BoundsNone", spec := "boundsNone", unfollowed := true, recurses := true, apart := false, narrowed := true }
def BoundsNoneUptoSaid : Prop := boundsNoneUptoRow.holds Try.pinned (OpenSpec.upto boundsNoneSpec)

/-- 'cartouchelaw10.BoundsBetween', WHERE WHAT IT READS IS OF BULK AT MOST 1048576: true; the input reads as it did. -/
def boundsBetweenUptoRow : OpenClaim := { program := "ytnlgfiffhahpfaa", sum := "190cb882b6fce7313d076162dd2db64f31a2776c0216c53f1887cb9f61d58044", func := "cartouche/cartouchelaw10.BoundsBetween", spec := "boundsBetween", unfollowed := true, recurses := true, apart := false, narrowed := true }
def BoundsBetweenUptoSaid : Prop := boundsBetweenUptoRow.holds Try.pinned (OpenSpec.upto boundsBetweenSpec)

/-- 'cartouchelaw10.BoundsMore', WHERE WHAT IT READS IS OF BULK AT MOST 1048576: true; the input reads as it did. -/
def boundsMoreUptoRow : OpenClaim := { program := "ytnlgfiffhahpfaa", sum := "190cb882b6fce7313d076162dd2db64f31a2776c0216c53f1887cb9f61d58044", func := "cartouche/cartouchelaw10.BoundsMore", spec := "boundsMore", unfollowed := true, recurses := true, apart := false, narrowed := true }
def BoundsMoreUptoSaid : Prop := boundsMoreUptoRow.holds Try.pinned (OpenSpec.upto boundsMoreSpec)

/-- 'cartouchelaw10.BoundsOrder', WHERE WHAT IT READS IS OF BULK AT MOST 1048576: true; the input reads as it did. -/
def boundsOrderUptoRow : OpenClaim := { program := "ytnlgfiffhahpfaa", sum := "190cb882b6fce7313d076162dd2db64f31a2776c0216c53f1887cb9f61d58044", func := "cartouche/cartouchelaw10.BoundsOrder", spec := "boundsOrder", unfollowed := true, recurses := true, apart := false, narrowed := true }
def BoundsOrderUptoSaid : Prop := boundsOrderUptoRow.holds Try.pinned (OpenSpec.upto boundsOrderSpec)

/-- 'cartouchelaw10.BoundsGiven', WHERE WHAT IT READS IS OF BULK AT MOST 1048576: true; the input reads as it did. -/
def boundsGivenUptoRow : OpenClaim := { program := "ytnlgfiffhahpfaa", sum := "190cb882b6fce7313d076162dd2db64f31a2776c0216c53f1887cb9f61d58044", func := "cartouche/cartouchelaw10.BoundsGiven", spec := "boundsGiven", unfollowed := true, recurses := true, apart := false, narrowed := true }
def BoundsGivenUptoSaid : Prop := boundsGivenUptoRow.holds Try.pinned (OpenSpec.upto boundsGivenSpec)

/-- 'cartouchelaw10.BoundsTwo', WHERE WHAT IT READS IS OF BULK AT MOST 1048576: true; the input reads as it did. -/
def boundsTwoUptoRow : OpenClaim := { program := "ytnlgfiffhahpfaa", sum := "190cb882b6fce7313d076162dd2db64f31a2776c0216c53f1887cb9f61d58044", func := "cartouche/cartouchelaw10.BoundsTwo", spec := "boundsTwo", unfollowed := true, recurses := true, apart := false, narrowed := true }
def BoundsTwoUptoSaid : Prop := boundsTwoUptoRow.holds Try.pinned (OpenSpec.upto boundsTwoSpec)

end Rows
end Go.Proofs.Ytnlgfiffhahpfaa
