/-
  No cell of these rows narrows 'for every input' (looked for: loops, veiled, ifaces, maps, wideKeys, modest, calm, conditions, laid).
  DERIVED. THE GIVEN ROWS OF THIS SEAT. 6 by the template 'for every input the law returns true; each argument reads behind the call as it read before'; 0 by the template 'total and deterministic' (their statements: YtfcjnbfbnffcjaaTotals.lean).
  GIVEN WITH THE SEED: the statements are not yours to turn. If you find one false, say at which input.
  Laid BY PROGRAM, IN A SANDBOX (cutbox-rows.mjs): the forced cells as the released guide's own fill.sh prints them over the translation 3d4e03d305741b20… (all of the seat's roots in one cut). By AI agents, Wed Nov 11 2026. No macro, syntax, notation, axiom, sorry.
-/
import Derived.Test.YtfcjnbfbnffcjaaChecked
import GoSem.Claim
import GoSem.ClaimJoined
import GoSem.ClaimMapViews
import Derived.JoinedTies
import Derived.KernelRfl
namespace Go.Proofs.Ytfcjnbfbnffcjaa
/- THE CELL 'sum', in the pinned program and in every row, IS THE sha256 OF THE DUMP (.gsa) THAT YtfcjnbfbnffcjaaProg.lean LOADS. Nothing in Lean hashes anything: it is a label: what it is worth is what the hold of that sum in a sandbox is worth. -/
noncomputable def Try.pinned : Pinned := { name := "ytfcjnbfbnffcjaa", sum := "3d4e03d305741b2095ac580b47fe48c69cab687dd8d2d80d26bab4e9b1717d0f", checked := Try.checked }
namespace Rows
def none {H : Type} : Left H := { results := [], args := [] }

/-- 'cartouchelaw07.TypesOf': WHATEVER THE INPUT: true; the input reads as it did. -/
def typesOfSpec : ChangeSpec := { name := "typesOf", fn := fun _ => fun
  | [d1, d2, d3] => { results := [.lit (.bool true)], args := [d1, d2, d3] }
  | _ => none }
def typesOfRow : OpenClaim := { program := "ytfcjnbfbnffcjaa", sum := "3d4e03d305741b2095ac580b47fe48c69cab687dd8d2d80d26bab4e9b1717d0f", func := "cartouche/cartouchelaw07.TypesOf", spec := "typesOf", unfollowed := true, recurses := true, apart := false }
def TypesOfSaid : Prop := typesOfRow.holds Try.pinned (OpenSpec.ofChange typesOfSpec)

/-- ITS FALSE NEIGHBOUR: 'it returns false'. Refute it at one input. -/
def typesOfWrong : ChangeSpec := { name := "typesOf", fn := fun _ => fun
  | [d1, d2, d3] => { results := [.lit (.bool false)], args := [d1, d2, d3] }
  | _ => none }
def TypesOfWrongFalsely : Prop := typesOfRow.holds Try.pinned (OpenSpec.ofChange typesOfWrong)

/-- 'cartouchelaw07.TypesParts': WHATEVER THE INPUT: true; the input reads as it did. -/
def typesPartsSpec : ChangeSpec := { name := "typesParts", fn := fun _ => fun
  | [d1, d2] => { results := [.lit (.bool true)], args := [d1, d2] }
  | _ => none }
def typesPartsRow : OpenClaim := { program := "ytfcjnbfbnffcjaa", sum := "3d4e03d305741b2095ac580b47fe48c69cab687dd8d2d80d26bab4e9b1717d0f", func := "cartouche/cartouchelaw07.TypesParts", spec := "typesParts", unfollowed := true, recurses := true, apart := false }
def TypesPartsSaid : Prop := typesPartsRow.holds Try.pinned (OpenSpec.ofChange typesPartsSpec)

/-- ITS FALSE NEIGHBOUR: 'it returns false'. Refute it at one input. -/
def typesPartsWrong : ChangeSpec := { name := "typesParts", fn := fun _ => fun
  | [d1, d2] => { results := [.lit (.bool false)], args := [d1, d2] }
  | _ => none }
def TypesPartsWrongFalsely : Prop := typesPartsRow.holds Try.pinned (OpenSpec.ofChange typesPartsWrong)

/-- 'cartouchelaw07.TypesSame': WHATEVER THE INPUT: true; the input reads as it did. -/
def typesSameSpec : ChangeSpec := { name := "typesSame", fn := fun _ => fun
  | [d1, d2, d3] => { results := [.lit (.bool true)], args := [d1, d2, d3] }
  | _ => none }
def typesSameRow : OpenClaim := { program := "ytfcjnbfbnffcjaa", sum := "3d4e03d305741b2095ac580b47fe48c69cab687dd8d2d80d26bab4e9b1717d0f", func := "cartouche/cartouchelaw07.TypesSame", spec := "typesSame", unfollowed := true, recurses := true, apart := false }
def TypesSameSaid : Prop := typesSameRow.holds Try.pinned (OpenSpec.ofChange typesSameSpec)

/-- ITS FALSE NEIGHBOUR: 'it returns false'. Refute it at one input. -/
def typesSameWrong : ChangeSpec := { name := "typesSame", fn := fun _ => fun
  | [d1, d2, d3] => { results := [.lit (.bool false)], args := [d1, d2, d3] }
  | _ => none }
def TypesSameWrongFalsely : Prop := typesSameRow.holds Try.pinned (OpenSpec.ofChange typesSameWrong)

/-- 'cartouchelaw07.TypesCut': WHATEVER THE INPUT: true; the input reads as it did. -/
def typesCutSpec : ChangeSpec := { name := "typesCut", fn := fun _ => fun
  | [d1, d2] => { results := [.lit (.bool true)], args := [d1, d2] }
  | _ => none }
def typesCutRow : OpenClaim := { program := "ytfcjnbfbnffcjaa", sum := "3d4e03d305741b2095ac580b47fe48c69cab687dd8d2d80d26bab4e9b1717d0f", func := "cartouche/cartouchelaw07.TypesCut", spec := "typesCut", unfollowed := true, recurses := true, apart := false }
def TypesCutSaid : Prop := typesCutRow.holds Try.pinned (OpenSpec.ofChange typesCutSpec)

/-- ITS FALSE NEIGHBOUR: 'it returns false'. Refute it at one input. -/
def typesCutWrong : ChangeSpec := { name := "typesCut", fn := fun _ => fun
  | [d1, d2] => { results := [.lit (.bool false)], args := [d1, d2] }
  | _ => none }
def TypesCutWrongFalsely : Prop := typesCutRow.holds Try.pinned (OpenSpec.ofChange typesCutWrong)

/-- 'cartouchelaw07.TypesPut': WHATEVER THE INPUT: true; the input reads as it did. -/
def typesPutSpec : ChangeSpec := { name := "typesPut", fn := fun _ => fun
  | [d1, d2] => { results := [.lit (.bool true)], args := [d1, d2] }
  | _ => none }
def typesPutRow : OpenClaim := { program := "ytfcjnbfbnffcjaa", sum := "3d4e03d305741b2095ac580b47fe48c69cab687dd8d2d80d26bab4e9b1717d0f", func := "cartouche/cartouchelaw07.TypesPut", spec := "typesPut", unfollowed := true, recurses := true, apart := false }
def TypesPutSaid : Prop := typesPutRow.holds Try.pinned (OpenSpec.ofChange typesPutSpec)

/-- ITS FALSE NEIGHBOUR: 'it returns false'. Refute it at one input. -/
def typesPutWrong : ChangeSpec := { name := "typesPut", fn := fun _ => fun
  | [d1, d2] => { results := [.lit (.bool false)], args := [d1, d2] }
  | _ => none }
def TypesPutWrongFalsely : Prop := typesPutRow.holds Try.pinned (OpenSpec.ofChange typesPutWrong)

/-- 'cartouchelaw07.TypesNames': WHATEVER THE INPUT: true; the input reads as it did. -/
def typesNamesSpec : ChangeSpec := { name := "typesNames", fn := fun _ => fun
  | [d1, d2] => { results := [.lit (.bool true)], args := [d1, d2] }
  | _ => none }
def typesNamesRow : OpenClaim := { program := "ytfcjnbfbnffcjaa", sum := "3d4e03d305741b2095ac580b47fe48c69cab687dd8d2d80d26bab4e9b1717d0f", func := "cartouche/cartouchelaw07.TypesNames", spec := "typesNames", unfollowed := true, recurses := true, apart := false }
def TypesNamesSaid : Prop := typesNamesRow.holds Try.pinned (OpenSpec.ofChange typesNamesSpec)

/-- ITS FALSE NEIGHBOUR: 'it returns false'. Refute it at one input. -/
def typesNamesWrong : ChangeSpec := { name := "typesNames", fn := fun _ => fun
  | [d1, d2] => { results := [.lit (.bool false)], args := [d1, d2] }
  | _ => none }
def TypesNamesWrongFalsely : Prop := typesNamesRow.holds Try.pinned (OpenSpec.ofChange typesNamesWrong)

/- THE SECOND FORM. 'bulk': how many values and letters a reading holds, each counted each time it is reached (what is shared counts as often as it is met; a slice's spare places count too). A statement '..UptoSaid' is the law's where the arguments, and the package variables that the reading takes, are together of bulk at most 1048576: NARROWER than '..Said'. Prove '..Said' where nothing that the law and all that it calls make is longer than what came in: it says more and counts as full. Else prove '..UptoSaid'. A law counts once. -/
mutual
def uptoBulk {H : Type} : DataW H → Nat
  | .lit (.string bytes) => bytes.length + 1
  | .lit _ => 1
  | .nil => 1
  | .ptr d => uptoBulk d + 1
  | .slice elems spare => uptoBulkAll elems + uptoBulkAll spare + 1
  | .agg parts => uptoBulkAll parts + 1
  | .iface _ d => uptoBulk d + 1
  | .map entries => uptoBulkEntries entries + 1
  | .held _ => 1
def uptoBulkAll {H : Type} : List (DataW H) → Nat
  | [] => 0
  | d :: r => uptoBulk d + uptoBulkAll r
def uptoBulkEntries {H : Type} : List (Lit × DataW H) → Nat
  | [] => 0
  | x :: r => uptoBulkEntry x + uptoBulkEntries r
def uptoBulkEntry {H : Type} : Lit × DataW H → Nat
  | (.string bytes, d) => bytes.length + uptoBulk d + 1
  | (_, d) => uptoBulk d + 1
 end
def uptoSmall : (H : Type) → List (DataW H) → Bool := fun _ ds => decide (uptoBulkAll ds ≤ 1048576)
def OpenSpec.upto (s : _root_.Go.ChangeSpec) : _root_.Go.OpenSpec := { _root_.Go.OpenSpec.ofChange s with cond := some uptoSmall }

/-- 'cartouchelaw07.TypesOf', WHERE WHAT IT READS IS OF BULK AT MOST 1048576: true; the input reads as it did. -/
def typesOfUptoRow : OpenClaim := { program := "ytfcjnbfbnffcjaa", sum := "3d4e03d305741b2095ac580b47fe48c69cab687dd8d2d80d26bab4e9b1717d0f", func := "cartouche/cartouchelaw07.TypesOf", spec := "typesOf", unfollowed := true, recurses := true, apart := false, narrowed := true }
def TypesOfUptoSaid : Prop := typesOfUptoRow.holds Try.pinned (OpenSpec.upto typesOfSpec)

/-- 'cartouchelaw07.TypesParts', WHERE WHAT IT READS IS OF BULK AT MOST 1048576: true; the input reads as it did. -/
def typesPartsUptoRow : OpenClaim := { program := "ytfcjnbfbnffcjaa", sum := "3d4e03d305741b2095ac580b47fe48c69cab687dd8d2d80d26bab4e9b1717d0f", func := "cartouche/cartouchelaw07.TypesParts", spec := "typesParts", unfollowed := true, recurses := true, apart := false, narrowed := true }
def TypesPartsUptoSaid : Prop := typesPartsUptoRow.holds Try.pinned (OpenSpec.upto typesPartsSpec)

/-- 'cartouchelaw07.TypesSame', WHERE WHAT IT READS IS OF BULK AT MOST 1048576: true; the input reads as it did. -/
def typesSameUptoRow : OpenClaim := { program := "ytfcjnbfbnffcjaa", sum := "3d4e03d305741b2095ac580b47fe48c69cab687dd8d2d80d26bab4e9b1717d0f", func := "cartouche/cartouchelaw07.TypesSame", spec := "typesSame", unfollowed := true, recurses := true, apart := false, narrowed := true }
def TypesSameUptoSaid : Prop := typesSameUptoRow.holds Try.pinned (OpenSpec.upto typesSameSpec)

/-- 'cartouchelaw07.TypesCut', WHERE WHAT IT READS IS OF BULK AT MOST 1048576: true; the input reads as it did. -/
def typesCutUptoRow : OpenClaim := { program := "ytfcjnbfbnffcjaa", sum := "3d4e03d305741b2095ac580b47fe48c69cab687dd8d2d80d26bab4e9b1717d0f", func := "cartouche/cartouchelaw07.TypesCut", spec := "typesCut", unfollowed := true, recurses := true, apart := false, narrowed := true }
def TypesCutUptoSaid : Prop := typesCutUptoRow.holds Try.pinned (OpenSpec.upto typesCutSpec)

/-- 'cartouchelaw07.TypesPut', WHERE WHAT IT READS IS OF BULK AT MOST 1048576: true; the input reads as it did. -/
def typesPutUptoRow : OpenClaim := { program := "ytfcjnbfbnffcjaa", sum := "3d4e03d305741b2095ac580b47fe48c69cab687dd8d2d80d26bab4e9b1717d0f", func := "cartouche/cartouchelaw07.TypesPut", spec := "typesPut", unfollowed := true, recurses := true, apart := false, narrowed := true }
def TypesPutUptoSaid : Prop := typesPutUptoRow.holds Try.pinned (OpenSpec.upto typesPutSpec)

/-- 'cartouchelaw07.TypesNames', WHERE WHAT IT READS IS OF BULK AT MOST 1048576: true; the input reads as it did. -/
def typesNamesUptoRow : OpenClaim := { program := "ytfcjnbfbnffcjaa", sum := "3d4e03d305741b2095ac580b47fe48c69cab687dd8d2d80d26bab4e9b1717d0f", func := "cartouche/cartouchelaw07.TypesNames", spec := "typesNames", unfollowed := true, recurses := true, apart := false, narrowed := true }
def TypesNamesUptoSaid : Prop := typesNamesUptoRow.holds Try.pinned (OpenSpec.upto typesNamesSpec)

end Rows
end Go.Proofs.Ytfcjnbfbnffcjaa
