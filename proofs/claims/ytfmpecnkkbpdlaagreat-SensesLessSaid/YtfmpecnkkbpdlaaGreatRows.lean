/-
  No cell of these rows narrows 'for every input' (looked for: loops, veiled, ifaces, maps, wideKeys, modest, calm, conditions, laid).
  DERIVED. THE GIVEN ROWS OF THIS SEAT. 7 by the template 'for every input the law returns true; each argument reads behind the call as it read before'; 0 by the template 'total and deterministic' (their statements: YtfmpecnkkbpdlaaGreatTotals.lean).
  GIVEN WITH THE SEED: the statements are not yours to turn. If you find one false, say at which input.
  Laid BY PROGRAM, IN A SANDBOX (cutbox-rows.mjs): the forced cells as the released guide's own fill.sh prints them over the translation 057d2391b470cba6… (all of the seat's roots in one cut). By AI agents, Wed Nov 11 2026. No macro, syntax, notation, axiom, sorry.
-/
import Derived.Test.YtfmpecnkkbpdlaaGreatChecked
import GoSem.Claim
import GoSem.ClaimJoined
import GoSem.ClaimMapViews
import Derived.JoinedTies
import Derived.KernelRfl
namespace Go.Proofs.YtfmpecnkkbpdlaaGreat
/- THE CELL 'sum', in the pinned program and in every row, IS THE sha256 OF THE DUMP (.gsa) THAT YtfmpecnkkbpdlaaGreatProg.lean LOADS. Nothing in Lean hashes anything: it is a label: what it is worth is what the hold of that sum in a sandbox is worth. -/
noncomputable def Tryz.pinned : Pinned := { name := "ytfmpecnkkbpdlaagreat", sum := "057d2391b470cba6dba915bb530a1fd89b56e73044c51ed5912e387fda2620b9", checked := Tryz.checked }
namespace Rows
def none {H : Type} : Left H := { results := [], args := [] }

/-- 'cartouchelaw13.SensesLess': WHATEVER THE INPUT: true; the input reads as it did. -/
def sensesLessSpec : ChangeSpec := { name := "sensesLess", fn := fun _ => fun
  | [d1, d2, d3] => { results := [.lit (.bool true)], args := [d1, d2, d3] }
  | _ => none }
def sensesLessRow : OpenClaim := { program := "ytfmpecnkkbpdlaagreat", sum := "057d2391b470cba6dba915bb530a1fd89b56e73044c51ed5912e387fda2620b9", func := "cartouche/cartouchelaw13.SensesLess", spec := "sensesLess", unfollowed := true, recurses := true, apart := false }
def SensesLessSaid : Prop := sensesLessRow.holds Tryz.pinned (OpenSpec.ofChange sensesLessSpec)

/-- ITS FALSE NEIGHBOUR: 'it returns false'. Refute it at one input. -/
def sensesLessWrong : ChangeSpec := { name := "sensesLess", fn := fun _ => fun
  | [d1, d2, d3] => { results := [.lit (.bool false)], args := [d1, d2, d3] }
  | _ => none }
def SensesLessWrongFalsely : Prop := sensesLessRow.holds Tryz.pinned (OpenSpec.ofChange sensesLessWrong)

/-- 'cartouchelaw13.SensesExact': WHATEVER THE INPUT: true; the input reads as it did. -/
def sensesExactSpec : ChangeSpec := { name := "sensesExact", fn := fun _ => fun
  | [d1, d2, d3] => { results := [.lit (.bool true)], args := [d1, d2, d3] }
  | _ => none }
def sensesExactRow : OpenClaim := { program := "ytfmpecnkkbpdlaagreat", sum := "057d2391b470cba6dba915bb530a1fd89b56e73044c51ed5912e387fda2620b9", func := "cartouche/cartouchelaw13.SensesExact", spec := "sensesExact", unfollowed := true, recurses := true, apart := false }
def SensesExactSaid : Prop := sensesExactRow.holds Tryz.pinned (OpenSpec.ofChange sensesExactSpec)

/-- ITS FALSE NEIGHBOUR: 'it returns false'. Refute it at one input. -/
def sensesExactWrong : ChangeSpec := { name := "sensesExact", fn := fun _ => fun
  | [d1, d2, d3] => { results := [.lit (.bool false)], args := [d1, d2, d3] }
  | _ => none }
def SensesExactWrongFalsely : Prop := sensesExactRow.holds Tryz.pinned (OpenSpec.ofChange sensesExactWrong)

/-- 'cartouchelaw13.SensesEnds': WHATEVER THE INPUT: true; the input reads as it did. -/
def sensesEndsSpec : ChangeSpec := { name := "sensesEnds", fn := fun _ => fun
  | [d1, d2] => { results := [.lit (.bool true)], args := [d1, d2] }
  | _ => none }
def sensesEndsRow : OpenClaim := { program := "ytfmpecnkkbpdlaagreat", sum := "057d2391b470cba6dba915bb530a1fd89b56e73044c51ed5912e387fda2620b9", func := "cartouche/cartouchelaw13.SensesEnds", spec := "sensesEnds", unfollowed := true, recurses := true, apart := false }
def SensesEndsSaid : Prop := sensesEndsRow.holds Tryz.pinned (OpenSpec.ofChange sensesEndsSpec)

/-- ITS FALSE NEIGHBOUR: 'it returns false'. Refute it at one input. -/
def sensesEndsWrong : ChangeSpec := { name := "sensesEnds", fn := fun _ => fun
  | [d1, d2] => { results := [.lit (.bool false)], args := [d1, d2] }
  | _ => none }
def SensesEndsWrongFalsely : Prop := sensesEndsRow.holds Tryz.pinned (OpenSpec.ofChange sensesEndsWrong)

/-- 'cartouchelaw13.SensesLessOrder': WHATEVER THE INPUT: true; the input reads as it did. -/
def sensesLessOrderSpec : ChangeSpec := { name := "sensesLessOrder", fn := fun _ => fun
  | [d] => { results := [.lit (.bool true)], args := [d] }
  | _ => none }
def sensesLessOrderRow : OpenClaim := { program := "ytfmpecnkkbpdlaagreat", sum := "057d2391b470cba6dba915bb530a1fd89b56e73044c51ed5912e387fda2620b9", func := "cartouche/cartouchelaw13.SensesLessOrder", spec := "sensesLessOrder", unfollowed := true, recurses := true, apart := false }
def SensesLessOrderSaid : Prop := sensesLessOrderRow.holds Tryz.pinned (OpenSpec.ofChange sensesLessOrderSpec)

/-- ITS FALSE NEIGHBOUR: 'it returns false'. Refute it at one input. -/
def sensesLessOrderWrong : ChangeSpec := { name := "sensesLessOrder", fn := fun _ => fun
  | [d] => { results := [.lit (.bool false)], args := [d] }
  | _ => none }
def SensesLessOrderWrongFalsely : Prop := sensesLessOrderRow.holds Tryz.pinned (OpenSpec.ofChange sensesLessOrderWrong)

/-- 'cartouchelaw13.SensesBound': WHATEVER THE INPUT: true; the input reads as it did. -/
def sensesBoundSpec : ChangeSpec := { name := "sensesBound", fn := fun _ => fun
  | [d] => { results := [.lit (.bool true)], args := [d] }
  | _ => none }
def sensesBoundRow : OpenClaim := { program := "ytfmpecnkkbpdlaagreat", sum := "057d2391b470cba6dba915bb530a1fd89b56e73044c51ed5912e387fda2620b9", func := "cartouche/cartouchelaw13.SensesBound", spec := "sensesBound", unfollowed := true, recurses := true, apart := false }
def SensesBoundSaid : Prop := sensesBoundRow.holds Tryz.pinned (OpenSpec.ofChange sensesBoundSpec)

/-- ITS FALSE NEIGHBOUR: 'it returns false'. Refute it at one input. -/
def sensesBoundWrong : ChangeSpec := { name := "sensesBound", fn := fun _ => fun
  | [d] => { results := [.lit (.bool false)], args := [d] }
  | _ => none }
def SensesBoundWrongFalsely : Prop := sensesBoundRow.holds Tryz.pinned (OpenSpec.ofChange sensesBoundWrong)

/-- 'cartouchelaw13.SensesSpots': WHATEVER THE INPUT: true; the input reads as it did. -/
def sensesSpotsSpec : ChangeSpec := { name := "sensesSpots", fn := fun _ => fun
  | [d1, d2] => { results := [.lit (.bool true)], args := [d1, d2] }
  | _ => none }
def sensesSpotsRow : OpenClaim := { program := "ytfmpecnkkbpdlaagreat", sum := "057d2391b470cba6dba915bb530a1fd89b56e73044c51ed5912e387fda2620b9", func := "cartouche/cartouchelaw13.SensesSpots", spec := "sensesSpots", unfollowed := true, recurses := true, apart := false }
def SensesSpotsSaid : Prop := sensesSpotsRow.holds Tryz.pinned (OpenSpec.ofChange sensesSpotsSpec)

/-- ITS FALSE NEIGHBOUR: 'it returns false'. Refute it at one input. -/
def sensesSpotsWrong : ChangeSpec := { name := "sensesSpots", fn := fun _ => fun
  | [d1, d2] => { results := [.lit (.bool false)], args := [d1, d2] }
  | _ => none }
def SensesSpotsWrongFalsely : Prop := sensesSpotsRow.holds Tryz.pinned (OpenSpec.ofChange sensesSpotsWrong)

/-- 'cartouchelaw13.SensesOn': WHATEVER THE INPUT: true; the input reads as it did. -/
def sensesOnSpec : ChangeSpec := { name := "sensesOn", fn := fun _ => fun
  | [d1, d2] => { results := [.lit (.bool true)], args := [d1, d2] }
  | _ => none }
def sensesOnRow : OpenClaim := { program := "ytfmpecnkkbpdlaagreat", sum := "057d2391b470cba6dba915bb530a1fd89b56e73044c51ed5912e387fda2620b9", func := "cartouche/cartouchelaw13.SensesOn", spec := "sensesOn", unfollowed := true, recurses := true, apart := false }
def SensesOnSaid : Prop := sensesOnRow.holds Tryz.pinned (OpenSpec.ofChange sensesOnSpec)

/-- ITS FALSE NEIGHBOUR: 'it returns false'. Refute it at one input. -/
def sensesOnWrong : ChangeSpec := { name := "sensesOn", fn := fun _ => fun
  | [d1, d2] => { results := [.lit (.bool false)], args := [d1, d2] }
  | _ => none }
def SensesOnWrongFalsely : Prop := sensesOnRow.holds Tryz.pinned (OpenSpec.ofChange sensesOnWrong)

/- THE SECOND FORM. 'bulk': how many values and letters a reading holds, each counted each time it is reached (what is shared counts as often as it is met; a slice's spare places count too). A statement '..UptoSaid' is the law's where the arguments, and the package variables that the reading takes, are together of bulk at most 1048576: NARROWER than '..Said'. Prove '..Said' where nothing that the law and all that it calls make is longer than what came in: it says more and counts as full. Else prove '..UptoSaid'. A law counts once. -/
mutual
def uptoBulk {H : Type} : DataW H → Nat
  | .lit (.string bytes) => bytes.length + 1
  | .lit _ => 1
  | .nil => 1
  | .ptr d => uptoBulk d + 1
  | .slice elems spare => uptoBulkAll elems + uptoBulkAll spare + 1
  | .agg parts => uptoBulkAll parts + 1
  | .iface _ d => uptoBulk d + 1
  | .map entries => uptoBulkEntries entries + 1
  | .held _ => 1
def uptoBulkAll {H : Type} : List (DataW H) → Nat
  | [] => 0
  | d :: r => uptoBulk d + uptoBulkAll r
def uptoBulkEntries {H : Type} : List (Lit × DataW H) → Nat
  | [] => 0
  | x :: r => uptoBulkEntry x + uptoBulkEntries r
def uptoBulkEntry {H : Type} : Lit × DataW H → Nat
  | (.string bytes, d) => bytes.length + uptoBulk d + 1
  | (_, d) => uptoBulk d + 1
 end
def uptoSmall : (H : Type) → List (DataW H) → Bool := fun _ ds => decide (uptoBulkAll ds ≤ 1048576)
def OpenSpec.upto (s : _root_.Go.ChangeSpec) : _root_.Go.OpenSpec := { _root_.Go.OpenSpec.ofChange s with cond := some uptoSmall }

/-- 'cartouchelaw13.SensesLess', WHERE WHAT IT READS IS OF BULK AT MOST 1048576: true; the input reads as it did. -/
def sensesLessUptoRow : OpenClaim := { program := "ytfmpecnkkbpdlaagreat", sum := "057d2391b470cba6dba915bb530a1fd89b56e73044c51ed5912e387fda2620b9", func := "cartouche/cartouchelaw13.SensesLess", spec := "sensesLess", unfollowed := true, recurses := true, apart := false, narrowed := true }
def SensesLessUptoSaid : Prop := sensesLessUptoRow.holds Tryz.pinned (OpenSpec.upto sensesLessSpec)

/-- 'cartouchelaw13.SensesExact', WHERE WHAT IT READS IS OF BULK AT MOST 1048576: true; the input reads as it did. -/
def sensesExactUptoRow : OpenClaim := { program := "ytfmpecnkkbpdlaagreat", sum := "057d2391b470cba6dba915bb530a1fd89b56e73044c51ed5912e387fda2620b9", func := "cartouche/cartouchelaw13.SensesExact", spec := "sensesExact", unfollowed := true, recurses := true, apart := false, narrowed := true }
def SensesExactUptoSaid : Prop := sensesExactUptoRow.holds Tryz.pinned (OpenSpec.upto sensesExactSpec)

/-- 'cartouchelaw13.SensesEnds', WHERE WHAT IT READS IS OF BULK AT MOST 1048576: true; the input reads as it did. -/
def sensesEndsUptoRow : OpenClaim := { program := "ytfmpecnkkbpdlaagreat", sum := "057d2391b470cba6dba915bb530a1fd89b56e73044c51ed5912e387fda2620b9", func := "cartouche/cartouchelaw13.SensesEnds", spec := "sensesEnds", unfollowed := true, recurses := true, apart := false, narrowed := true }
def SensesEndsUptoSaid : Prop := sensesEndsUptoRow.holds Tryz.pinned (OpenSpec.upto sensesEndsSpec)

/-- 'cartouchelaw13.SensesLessOrder', WHERE WHAT IT READS IS OF BULK AT MOST 1048576: true; the input reads as it did. -/
def sensesLessOrderUptoRow : OpenClaim := { program := "ytfmpecnkkbpdlaagreat", sum := "057d2391b470cba6dba915bb530a1fd89b56e73044c51ed5912e387fda2620b9", func := "cartouche/cartouchelaw13.SensesLessOrder", spec := "sensesLessOrder", unfollowed := true, recurses := true, apart := false, narrowed := true }
def SensesLessOrderUptoSaid : Prop := sensesLessOrderUptoRow.holds Tryz.pinned (OpenSpec.upto sensesLessOrderSpec)

/-- 'cartouchelaw13.SensesBound', WHERE WHAT IT READS IS OF BULK AT MOST 1048576: true; the input reads as it did. -/
def sensesBoundUptoRow : OpenClaim := { program := "ytfmpecnkkbpdlaagreat", sum := "057d2391b470cba6dba915bb530a1fd89b56e73044c51ed5912e387fda2620b9", func := "cartouche/cartouchelaw13.SensesBound", spec := "sensesBound", unfollowed := true, recurses := true, apart := false, narrowed := true }
def SensesBoundUptoSaid : Prop := sensesBoundUptoRow.holds Tryz.pinned (OpenSpec.upto sensesBoundSpec)

/-- 'cartouchelaw13.SensesSpots', WHERE WHAT IT READS IS OF BULK AT MOST 1048576: true; the input reads as it did. -/
def sensesSpotsUptoRow : OpenClaim := { program := "ytfmpecnkkbpdlaagreat", sum := "057d2391b470cba6dba915bb530a1fd89b56e73044c51ed5912e387fda2620b9", func := "cartouche/cartouchelaw13.SensesSpots", spec := "sensesSpots", unfollowed := true, recurses := true, apart := false, narrowed := true }
def SensesSpotsUptoSaid : Prop := sensesSpotsUptoRow.holds Tryz.pinned (OpenSpec.upto sensesSpotsSpec)

/-- 'cartouchelaw13.SensesOn', WHERE WHAT IT READS IS OF BULK AT MOST 1048576: true; the input reads as it did. -/
def sensesOnUptoRow : OpenClaim := { program := "ytfmpecnkkbpdlaagreat", sum := "057d2391b470cba6dba915bb530a1fd89b56e73044c51ed5912e387fda2620b9", func := "cartouche/cartouchelaw13.SensesOn", spec := "sensesOn", unfollowed := true, recurses := true, apart := false, narrowed := true }
def SensesOnUptoSaid : Prop := sensesOnUptoRow.holds Tryz.pinned (OpenSpec.upto sensesOnSpec)

end Rows
end Go.Proofs.YtfmpecnkkbpdlaaGreat
