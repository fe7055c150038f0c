/-
  No cell of these rows narrows 'for every input' (looked for: loops, veiled, ifaces, maps, wideKeys, modest, calm, conditions, laid).
  DERIVED. THE GIVEN ROWS OF THIS SEAT. 6 by the template 'for every input the law returns true; each argument reads behind the call as it read before'; 0 by the template 'total and deterministic' (their statements: YtmddhhmgfhljiacTotals.lean).
  GIVEN WITH THE SEED: the statements are not yours to turn. If you find one false, say at which input.
  Laid BY PROGRAM, IN A SANDBOX (cutbox-rows.mjs): the forced cells as the released guide's own fill.sh prints them over the translation 28916a25ed110b99… (all of the seat's roots in one cut). By AI agents, Wed Nov 11 2026. No macro, syntax, notation, axiom, sorry.
-/
import Derived.Test.YtmddhhmgfhljiacChecked
import GoSem.Claim
import GoSem.ClaimJoined
import GoSem.ClaimMapViews
import Derived.JoinedTies
import Derived.KernelRfl
namespace Go.Proofs.Ytmddhhmgfhljiac
/- THE CELL 'sum', in the pinned program and in every row, IS THE sha256 OF THE DUMP (.gsa) THAT YtmddhhmgfhljiacProg.lean LOADS. Nothing in Lean hashes anything: it is a label: what it is worth is what the hold of that sum in a sandbox is worth. -/
noncomputable def Try.pinned : Pinned := { name := "ytmddhhmgfhljiac", sum := "28916a25ed110b998884d72199b7b40f7d2d6cdeb685aa14c16cbe3ceb8f79e9", checked := Try.checked }
namespace Rows
def none {H : Type} : Left H := { results := [], args := [] }

/-- 'laws.FnExactThirdsSolve': WHATEVER THE INPUT: true; the input reads as it did. -/
def fnExactThirdsSolveSpec : ChangeSpec := { name := "fnExactThirdsSolve", fn := fun _ => fun
  | [d1, d2] => { results := [.lit (.bool true)], args := [d1, d2] }
  | _ => none }
def fnExactThirdsSolveRow : OpenClaim := { program := "ytmddhhmgfhljiac", sum := "28916a25ed110b998884d72199b7b40f7d2d6cdeb685aa14c16cbe3ceb8f79e9", func := "loop.example/g01327/laws.FnExactThirdsSolve", spec := "fnExactThirdsSolve", inPlace := ["math.Float64bits", "math.Float64frombits"], unfollowed := true, recurses := true, apart := false }
def FnExactThirdsSolveSaid : Prop := fnExactThirdsSolveRow.holds Try.pinned (OpenSpec.ofChange fnExactThirdsSolveSpec)

/-- ITS FALSE NEIGHBOUR: 'it returns false'. Refute it at one input. -/
def fnExactThirdsSolveWrong : ChangeSpec := { name := "fnExactThirdsSolve", fn := fun _ => fun
  | [d1, d2] => { results := [.lit (.bool false)], args := [d1, d2] }
  | _ => none }
def FnExactThirdsSolveWrongFalsely : Prop := fnExactThirdsSolveRow.holds Try.pinned (OpenSpec.ofChange fnExactThirdsSolveWrong)

/-- 'laws.FnExactThirdsRing': WHATEVER THE INPUT: true; the input reads as it did. -/
def fnExactThirdsRingSpec : ChangeSpec := { name := "fnExactThirdsRing", fn := fun _ => fun
  | [d1, d2, d3, d4] => { results := [.lit (.bool true)], args := [d1, d2, d3, d4] }
  | _ => none }
def fnExactThirdsRingRow : OpenClaim := { program := "ytmddhhmgfhljiac", sum := "28916a25ed110b998884d72199b7b40f7d2d6cdeb685aa14c16cbe3ceb8f79e9", func := "loop.example/g01327/laws.FnExactThirdsRing", spec := "fnExactThirdsRing", inPlace := ["math.Float64bits", "math.Float64frombits"], unfollowed := true, recurses := true, apart := false }
def FnExactThirdsRingSaid : Prop := fnExactThirdsRingRow.holds Try.pinned (OpenSpec.ofChange fnExactThirdsRingSpec)

/-- ITS FALSE NEIGHBOUR: 'it returns false'. Refute it at one input. -/
def fnExactThirdsRingWrong : ChangeSpec := { name := "fnExactThirdsRing", fn := fun _ => fun
  | [d1, d2, d3, d4] => { results := [.lit (.bool false)], args := [d1, d2, d3, d4] }
  | _ => none }
def FnExactThirdsRingWrongFalsely : Prop := fnExactThirdsRingRow.holds Try.pinned (OpenSpec.ofChange fnExactThirdsRingWrong)

/-- 'laws.FnExactReflectionsOf': WHATEVER THE INPUT: true; the input reads as it did. -/
def fnExactReflectionsOfSpec : ChangeSpec := { name := "fnExactReflectionsOf", fn := fun _ => fun
  | [d] => { results := [.lit (.bool true)], args := [d] }
  | _ => none }
def fnExactReflectionsOfRow : OpenClaim := { program := "ytmddhhmgfhljiac", sum := "28916a25ed110b998884d72199b7b40f7d2d6cdeb685aa14c16cbe3ceb8f79e9", func := "loop.example/g01327/laws.FnExactReflectionsOf", spec := "fnExactReflectionsOf", inPlace := ["math.Float64bits", "math.Float64frombits"], apart := false }
def FnExactReflectionsOfSaid : Prop := fnExactReflectionsOfRow.holds Try.pinned (OpenSpec.ofChange fnExactReflectionsOfSpec)

/-- ITS FALSE NEIGHBOUR: 'it returns false'. Refute it at one input. -/
def fnExactReflectionsOfWrong : ChangeSpec := { name := "fnExactReflectionsOf", fn := fun _ => fun
  | [d] => { results := [.lit (.bool false)], args := [d] }
  | _ => none }
def FnExactReflectionsOfWrongFalsely : Prop := fnExactReflectionsOfRow.holds Try.pinned (OpenSpec.ofChange fnExactReflectionsOfWrong)

/-- 'laws.FnExactShiftSolve': WHATEVER THE INPUT: true; the input reads as it did. -/
def fnExactShiftSolveSpec : ChangeSpec := { name := "fnExactShiftSolve", fn := fun _ => fun
  | [d1, d2] => { results := [.lit (.bool true)], args := [d1, d2] }
  | _ => none }
def fnExactShiftSolveRow : OpenClaim := { program := "ytmddhhmgfhljiac", sum := "28916a25ed110b998884d72199b7b40f7d2d6cdeb685aa14c16cbe3ceb8f79e9", func := "loop.example/g01327/laws.FnExactShiftSolve", spec := "fnExactShiftSolve", inPlace := ["math.Float64bits", "math.Float64frombits"], apart := false }
def FnExactShiftSolveSaid : Prop := fnExactShiftSolveRow.holds Try.pinned (OpenSpec.ofChange fnExactShiftSolveSpec)

/-- ITS FALSE NEIGHBOUR: 'it returns false'. Refute it at one input. -/
def fnExactShiftSolveWrong : ChangeSpec := { name := "fnExactShiftSolve", fn := fun _ => fun
  | [d1, d2] => { results := [.lit (.bool false)], args := [d1, d2] }
  | _ => none }
def FnExactShiftSolveWrongFalsely : Prop := fnExactShiftSolveRow.holds Try.pinned (OpenSpec.ofChange fnExactShiftSolveWrong)

/-- 'laws.FnExactUnitVector': WHATEVER THE INPUT: true; the input reads as it did. -/
def fnExactUnitVectorSpec : ChangeSpec := { name := "fnExactUnitVector", fn := fun _ => fun
  | [d] => { results := [.lit (.bool true)], args := [d] }
  | _ => none }
def fnExactUnitVectorRow : OpenClaim := { program := "ytmddhhmgfhljiac", sum := "28916a25ed110b998884d72199b7b40f7d2d6cdeb685aa14c16cbe3ceb8f79e9", func := "loop.example/g01327/laws.FnExactUnitVector", spec := "fnExactUnitVector", inPlace := ["math.sqrt", "math.Float64bits", "math.Float64frombits"], apart := false }
def FnExactUnitVectorSaid : Prop := fnExactUnitVectorRow.holds Try.pinned (OpenSpec.ofChange fnExactUnitVectorSpec)

/-- ITS FALSE NEIGHBOUR: 'it returns false'. Refute it at one input. -/
def fnExactUnitVectorWrong : ChangeSpec := { name := "fnExactUnitVector", fn := fun _ => fun
  | [d] => { results := [.lit (.bool false)], args := [d] }
  | _ => none }
def FnExactUnitVectorWrongFalsely : Prop := fnExactUnitVectorRow.holds Try.pinned (OpenSpec.ofChange fnExactUnitVectorWrong)

/-- 'laws.FnExactCosineOf': WHATEVER THE INPUT: true; the input reads as it did. -/
def fnExactCosineOfSpec : ChangeSpec := { name := "fnExactCosineOf", fn := fun _ => fun
  | [d1, d2] => { results := [.lit (.bool true)], args := [d1, d2] }
  | _ => none }
def fnExactCosineOfRow : OpenClaim := { program := "ytmddhhmgfhljiac", sum := "28916a25ed110b998884d72199b7b40f7d2d6cdeb685aa14c16cbe3ceb8f79e9", func := "loop.example/g01327/laws.FnExactCosineOf", spec := "fnExactCosineOf", inPlace := ["math.sqrt", "math.Float64bits", "math.Float64frombits"], apart := false }
def FnExactCosineOfSaid : Prop := fnExactCosineOfRow.holds Try.pinned (OpenSpec.ofChange fnExactCosineOfSpec)

/-- ITS FALSE NEIGHBOUR: 'it returns false'. Refute it at one input. -/
def fnExactCosineOfWrong : ChangeSpec := { name := "fnExactCosineOf", fn := fun _ => fun
  | [d1, d2] => { results := [.lit (.bool false)], args := [d1, d2] }
  | _ => none }
def FnExactCosineOfWrongFalsely : Prop := fnExactCosineOfRow.holds Try.pinned (OpenSpec.ofChange fnExactCosineOfWrong)

/- THE SECOND FORM. 'bulk': how many values and letters a reading holds, each counted each time it is reached (what is shared counts as often as it is met; a slice's spare places count too). A statement '..UptoSaid' is the law's where the arguments, and the package variables that the reading takes, are together of bulk at most 1048576: NARROWER than '..Said'. Prove '..Said' where nothing that the law and all that it calls make is longer than what came in: it says more and counts as full. Else prove '..UptoSaid'. A law counts once. -/
mutual
def uptoBulk {H : Type} : DataW H → Nat
  | .lit (.string bytes) => bytes.length + 1
  | .lit _ => 1
  | .nil => 1
  | .ptr d => uptoBulk d + 1
  | .slice elems spare => uptoBulkAll elems + uptoBulkAll spare + 1
  | .agg parts => uptoBulkAll parts + 1
  | .iface _ d => uptoBulk d + 1
  | .map entries => uptoBulkEntries entries + 1
  | .held _ => 1
def uptoBulkAll {H : Type} : List (DataW H) → Nat
  | [] => 0
  | d :: r => uptoBulk d + uptoBulkAll r
def uptoBulkEntries {H : Type} : List (Lit × DataW H) → Nat
  | [] => 0
  | x :: r => uptoBulkEntry x + uptoBulkEntries r
def uptoBulkEntry {H : Type} : Lit × DataW H → Nat
  | (.string bytes, d) => bytes.length + uptoBulk d + 1
  | (_, d) => uptoBulk d + 1
 end
def uptoSmall : (H : Type) → List (DataW H) → Bool := fun _ ds => decide (uptoBulkAll ds ≤ 1048576)
def OpenSpec.upto (s : _root_.Go.ChangeSpec) : _root_.Go.OpenSpec := { _root_.Go.OpenSpec.ofChange s with cond := some uptoSmall }

/-- 'laws.FnExactThirdsSolve', WHERE WHAT IT READS IS OF BULK AT MOST 1048576: true; the input reads as it did. -/
def fnExactThirdsSolveUptoRow : OpenClaim := { program := "ytmddhhmgfhljiac", sum := "28916a25ed110b998884d72199b7b40f7d2d6cdeb685aa14c16cbe3ceb8f79e9", func := "loop.example/g01327/laws.FnExactThirdsSolve", spec := "fnExactThirdsSolve", inPlace := ["math.Float64bits", "math.Float64frombits"], unfollowed := true, recurses := true, apart := false, narrowed := true }
def FnExactThirdsSolveUptoSaid : Prop := fnExactThirdsSolveUptoRow.holds Try.pinned (OpenSpec.upto fnExactThirdsSolveSpec)

/-- 'laws.FnExactThirdsRing', WHERE WHAT IT READS IS OF BULK AT MOST 1048576: true; the input reads as it did. -/
def fnExactThirdsRingUptoRow : OpenClaim := { program := "ytmddhhmgfhljiac", sum := "28916a25ed110b998884d72199b7b40f7d2d6cdeb685aa14c16cbe3ceb8f79e9", func := "loop.example/g01327/laws.FnExactThirdsRing", spec := "fnExactThirdsRing", inPlace := ["math.Float64bits", "math.Float64frombits"], unfollowed := true, recurses := true, apart := false, narrowed := true }
def FnExactThirdsRingUptoSaid : Prop := fnExactThirdsRingUptoRow.holds Try.pinned (OpenSpec.upto fnExactThirdsRingSpec)

/-- 'laws.FnExactReflectionsOf', WHERE WHAT IT READS IS OF BULK AT MOST 1048576: true; the input reads as it did. -/
def fnExactReflectionsOfUptoRow : OpenClaim := { program := "ytmddhhmgfhljiac", sum := "28916a25ed110b998884d72199b7b40f7d2d6cdeb685aa14c16cbe3ceb8f79e9", func := "loop.example/g01327/laws.FnExactReflectionsOf", spec := "fnExactReflectionsOf", inPlace := ["math.Float64bits", "math.Float64frombits"], apart := false, narrowed := true }
def FnExactReflectionsOfUptoSaid : Prop := fnExactReflectionsOfUptoRow.holds Try.pinned (OpenSpec.upto fnExactReflectionsOfSpec)

/-- 'laws.FnExactShiftSolve', WHERE WHAT IT READS IS OF BULK AT MOST 1048576: true; the input reads as it did. -/
def fnExactShiftSolveUptoRow : OpenClaim := { program := "ytmddhhmgfhljiac", sum := "28916a25ed110b998884d72199b7b40f7d2d6cdeb685aa14c16cbe3ceb8f79e9", func := "loop.example/g01327/laws.FnExactShiftSolve", spec := "fnExactShiftSolve", inPlace := ["math.Float64bits", "math.Float64frombits"], apart := false, narrowed := true }
def FnExactShiftSolveUptoSaid : Prop := fnExactShiftSolveUptoRow.holds Try.pinned (OpenSpec.upto fnExactShiftSolveSpec)

/-- 'laws.FnExactUnitVector', WHERE WHAT IT READS IS OF BULK AT MOST 1048576: true; the input reads as it did. -/
def fnExactUnitVectorUptoRow : OpenClaim := { program := "ytmddhhmgfhljiac", sum := "28916a25ed110b998884d72199b7b40f7d2d6cdeb685aa14c16cbe3ceb8f79e9", func := "loop.example/g01327/laws.FnExactUnitVector", spec := "fnExactUnitVector", inPlace := ["math.sqrt", "math.Float64bits", "math.Float64frombits"], apart := false, narrowed := true }
def FnExactUnitVectorUptoSaid : Prop := fnExactUnitVectorUptoRow.holds Try.pinned (OpenSpec.upto fnExactUnitVectorSpec)

/-- 'laws.FnExactCosineOf', WHERE WHAT IT READS IS OF BULK AT MOST 1048576: true; the input reads as it did. -/
def fnExactCosineOfUptoRow : OpenClaim := { program := "ytmddhhmgfhljiac", sum := "28916a25ed110b998884d72199b7b40f7d2d6cdeb685aa14c16cbe3ceb8f79e9", func := "loop.example/g01327/laws.FnExactCosineOf", spec := "fnExactCosineOf", inPlace := ["math.sqrt", "math.Float64bits", "math.Float64frombits"], apart := false, narrowed := true }
def FnExactCosineOfUptoSaid : Prop := fnExactCosineOfUptoRow.holds Try.pinned (OpenSpec.upto fnExactCosineOfSpec)

end Rows
end Go.Proofs.Ytmddhhmgfhljiac
