/-
  No cell of these rows narrows 'for every input' (looked for: loops, veiled, ifaces, maps, wideKeys, modest, calm, conditions, laid).
  DERIVED. THE GIVEN ROWS OF THIS SEAT. 4 by the template 'for every input the law returns true; each argument reads behind the call as it read before'; 0 by the template 'total and deterministic' (their statements: YtaohabdmbjaemaaTotals.lean).
  GIVEN WITH THE SEED: the statements are not yours to turn. If you find one false, say at which input.
  Laid BY PROGRAM, IN A SANDBOX (cutbox-rows.mjs): the forced cells as the released guide's own fill.sh prints them over the translation 0a598f1c2f275607… (all of the seat's roots in one cut). By AI agents, Wed Nov 11 2026. No macro, syntax, notation, axiom, sorry.
-/
import Derived.Test.YtaohabdmbjaemaaChecked
import GoSem.Claim
import GoSem.ClaimJoined
import GoSem.ClaimMapViews
import Derived.JoinedTies
import Derived.KernelRfl
namespace Go.Proofs.Ytaohabdmbjaemaa
/- THE CELL 'sum', in the pinned program and in every row, IS THE sha256 OF THE DUMP (.gsa) THAT YtaohabdmbjaemaaProg.lean LOADS. Nothing in Lean hashes anything: it is a label: what it is worth is what the hold of that sum in a sandbox is worth. -/
noncomputable def Try.pinned : Pinned := { name := "ytaohabdmbjaemaa", sum := "0a598f1c2f275607f38136b0ec92e453246f209cffedc761e45416dd4d229a4e", checked := Try.checked }
namespace Rows
def none {H : Type} : Left H := { results := [], args := [] }

/-- 'cartouchelaw06.EffectsOf': WHATEVER THE INPUT: true; the input reads as it did. -/
def effectsOfSpec : ChangeSpec := { name := "effectsOf", fn := fun _ => fun
  | [d1, d2, d3] => { results := [.lit (.bool true)], args := [d1, d2, d3] }
  | _ => none }
def effectsOfRow : OpenClaim := { program := "ytaohabdmbjaemaa", sum := "0a598f1c2f275607f38136b0ec92e453246f209cffedc761e45416dd4d229a4e", func := "cartouche/cartouchelaw06.EffectsOf", spec := "effectsOf", unfollowed := true, recurses := true, apart := false }
def EffectsOfSaid : Prop := effectsOfRow.holds Try.pinned (OpenSpec.ofChange effectsOfSpec)

/-- ITS FALSE NEIGHBOUR: 'it returns false'. Refute it at one input. -/
def effectsOfWrong : ChangeSpec := { name := "effectsOf", fn := fun _ => fun
  | [d1, d2, d3] => { results := [.lit (.bool false)], args := [d1, d2, d3] }
  | _ => none }
def EffectsOfWrongFalsely : Prop := effectsOfRow.holds Try.pinned (OpenSpec.ofChange effectsOfWrong)

/-- 'cartouchelaw06.EffectsNone': WHATEVER THE INPUT: true; the input reads as it did. -/
def effectsNoneSpec : ChangeSpec := { name := "effectsNone", fn := fun _ => fun
  | [d1, d2] => { results := [.lit (.bool true)], args := [d1, d2] }
  | _ => none }
def effectsNoneRow : OpenClaim := { program := "ytaohabdmbjaemaa", sum := "0a598f1c2f275607f38136b0ec92e453246f209cffedc761e45416dd4d229a4e", func := "cartouche/cartouchelaw06.EffectsNone", spec := "effectsNone", unfollowed := true, recurses := true, apart := false }
def EffectsNoneSaid : Prop := effectsNoneRow.holds Try.pinned (OpenSpec.ofChange effectsNoneSpec)

/-- ITS FALSE NEIGHBOUR: 'it returns false'. Refute it at one input. -/
def effectsNoneWrong : ChangeSpec := { name := "effectsNone", fn := fun _ => fun
  | [d1, d2] => { results := [.lit (.bool false)], args := [d1, d2] }
  | _ => none }
def EffectsNoneWrongFalsely : Prop := effectsNoneRow.holds Try.pinned (OpenSpec.ofChange effectsNoneWrong)

/-- 'cartouchelaw06.EffectsBelow': WHATEVER THE INPUT: true; the input reads as it did. -/
def effectsBelowSpec : ChangeSpec := { name := "effectsBelow", fn := fun _ => fun
  | [d1, d2, d3] => { results := [.lit (.bool true)], args := [d1, d2, d3] }
  | _ => none }
def effectsBelowRow : OpenClaim := { program := "ytaohabdmbjaemaa", sum := "0a598f1c2f275607f38136b0ec92e453246f209cffedc761e45416dd4d229a4e", func := "cartouche/cartouchelaw06.EffectsBelow", spec := "effectsBelow", unfollowed := true, recurses := true, apart := false }
def EffectsBelowSaid : Prop := effectsBelowRow.holds Try.pinned (OpenSpec.ofChange effectsBelowSpec)

/-- ITS FALSE NEIGHBOUR: 'it returns false'. Refute it at one input. -/
def effectsBelowWrong : ChangeSpec := { name := "effectsBelow", fn := fun _ => fun
  | [d1, d2, d3] => { results := [.lit (.bool false)], args := [d1, d2, d3] }
  | _ => none }
def EffectsBelowWrongFalsely : Prop := effectsBelowRow.holds Try.pinned (OpenSpec.ofChange effectsBelowWrong)

/-- 'cartouchelaw06.EffectsBounds': WHATEVER THE INPUT: true; the input reads as it did. -/
def effectsBoundsSpec : ChangeSpec := { name := "effectsBounds", fn := fun _ => fun
  | [d1, d2] => { results := [.lit (.bool true)], args := [d1, d2] }
  | _ => none }
def effectsBoundsRow : OpenClaim := { program := "ytaohabdmbjaemaa", sum := "0a598f1c2f275607f38136b0ec92e453246f209cffedc761e45416dd4d229a4e", func := "cartouche/cartouchelaw06.EffectsBounds", spec := "effectsBounds", unfollowed := true, recurses := true, apart := false }
def EffectsBoundsSaid : Prop := effectsBoundsRow.holds Try.pinned (OpenSpec.ofChange effectsBoundsSpec)

/-- ITS FALSE NEIGHBOUR: 'it returns false'. Refute it at one input. -/
def effectsBoundsWrong : ChangeSpec := { name := "effectsBounds", fn := fun _ => fun
  | [d1, d2] => { results := [.lit (.bool false)], args := [d1, d2] }
  | _ => none }
def EffectsBoundsWrongFalsely : Prop := effectsBoundsRow.holds Try.pinned (OpenSpec.ofChange effectsBoundsWrong)

/- THE SECOND FORM. 'bulk': how many values and letters a reading holds, each counted each time it is reached (what is shared counts as often as it is met; a slice's spare places count too). A statement '..UptoSaid' is the law's where the arguments, and the package variables that the reading takes, are together of bulk at most 1048576: NARROWER than '..Said'. Prove '..Said' where nothing that the law and all that it calls make is longer than what came in: it says more and counts as full. Else prove '..UptoSaid'. A law counts once. -/
mutual
def uptoBulk {H : Type} : DataW H → Nat
  | .lit (.string bytes) => bytes.length + 1
  | .lit _ => 1
  | .nil => 1
  | .ptr d => uptoBulk d + 1
  | .slice elems spare => uptoBulkAll elems + uptoBulkAll spare + 1
  | .agg parts => uptoBulkAll parts + 1
  | .iface _ d => uptoBulk d + 1
  | .map entries => uptoBulkEntries entries + 1
  | .held _ => 1
def uptoBulkAll {H : Type} : List (DataW H) → Nat
  | [] => 0
  | d :: r => uptoBulk d + uptoBulkAll r
def uptoBulkEntries {H : Type} : List (Lit × DataW H) → Nat
  | [] => 0
  | x :: r => uptoBulkEntry x + uptoBulkEntries r
def uptoBulkEntry {H : Type} : Lit × DataW H → Nat
  | (.string bytes, d) => bytes.length + uptoBulk d + 1
  | (_, d) => uptoBulk d + 1
 end
def uptoSmall : (H : Type) → List (DataW H) → Bool := fun _ ds => decide (uptoBulkAll ds ≤ 1048576)
def OpenSpec.upto (s : _root_.Go.ChangeSpec) : _root_.Go.OpenSpec := { _root_.Go.OpenSpec.ofChange s with cond := some uptoSmall }

/-- 'cartouchelaw06.EffectsOf', WHERE WHAT IT READS IS OF BULK AT MOST 1048576: true; the input reads as it did. -/
def effectsOfUptoRow : OpenClaim := { program := "ytaohabdmbjaemaa", sum := "0a598f1c2f275607f38136b0ec92e453246f209cffedc761e45416dd4d229a4e", func := "cartouche/cartouchelaw06.EffectsOf", spec := "effectsOf", unfollowed := true, recurses := true, apart := false, narrowed := true }
def EffectsOfUptoSaid : Prop := effectsOfUptoRow.holds Try.pinned (OpenSpec.upto effectsOfSpec)

/-- 'cartouchelaw06.EffectsNone', WHERE WHAT IT READS IS OF BULK AT MOST 1048576: true; the input reads as it did. -/
def effectsNoneUptoRow : OpenClaim := { program := "ytaohabdmbjaemaa", sum := "0a598f1c2f275607f38136b0ec92e453246f209cffedc761e45416dd4d229a4e", func := "cartouche/cartouchelaw06.EffectsNone", spec := "effectsNone", unfollowed := true, recurses := true, apart := false, narrowed := true }
def EffectsNoneUptoSaid : Prop := effectsNoneUptoRow.holds Try.pinned (OpenSpec.upto effectsNoneSpec)

/-- 'cartouchelaw06.EffectsBelow', WHERE WHAT IT READS IS OF BULK AT MOST 1048576: true; the input reads as it did. -/
def effectsBelowUptoRow : OpenClaim := { program := "ytaohabdmbjaemaa", sum := "0a598f1c2f275607f38136b0ec92e453246f209cffedc761e45416dd4d229a4e", func := "cartouche/cartouchelaw06.EffectsBelow", spec := "effectsBelow", unfollowed := true, recurses := true, apart := false, narrowed := true }
def EffectsBelowUptoSaid : Prop := effectsBelowUptoRow.holds Try.pinned (OpenSpec.upto effectsBelowSpec)

/-- 'cartouchelaw06.EffectsBounds', WHERE WHAT IT READS IS OF BULK AT MOST 1048576: true; the input reads as it did. -/
def effectsBoundsUptoRow : OpenClaim := { program := "ytaohabdmbjaemaa", sum := "0a598f1c2f275607f38136b0ec92e453246f209cffedc761e45416dd4d229a4e", func := "cartouche/cartouchelaw06.EffectsBounds", spec := "effectsBounds", unfollowed := true, recurses := true, apart := false, narrowed := true }
def EffectsBoundsUptoSaid : Prop := effectsBoundsUptoRow.holds Try.pinned (OpenSpec.upto effectsBoundsSpec)

end Rows
end Go.Proofs.Ytaohabdmbjaemaa
