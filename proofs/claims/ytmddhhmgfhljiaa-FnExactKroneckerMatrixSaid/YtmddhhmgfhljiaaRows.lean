/-
  No cell of these rows narrows 'for every input' (looked for: loops, veiled, ifaces, maps, wideKeys, modest, calm, conditions, laid).
  DERIVED. THE GIVEN ROWS OF THIS SEAT. 6 by the template 'for every input the law returns true; each argument reads behind the call as it read before'; 0 by the template 'total and deterministic' (their statements: YtmddhhmgfhljiaaTotals.lean).
  GIVEN WITH THE SEED: the statements are not yours to turn. If you find one false, say at which input.
  Laid BY PROGRAM, IN A SANDBOX (cutbox-rows.mjs): the forced cells as the released guide's own fill.sh prints them over the translation ebe2af2e3fb0d337… (all of the seat's roots in one cut). By AI agents, Wed Nov 11 2026. No macro, syntax, notation, axiom, sorry.
-/
import Derived.Test.YtmddhhmgfhljiaaChecked
import GoSem.Claim
import GoSem.ClaimJoined
import GoSem.ClaimMapViews
import Derived.JoinedTies
import Derived.KernelRfl
namespace Go.Proofs.Ytmddhhmgfhljiaa
/- THE CELL 'sum', in the pinned program and in every row, IS THE sha256 OF THE DUMP (.gsa) THAT YtmddhhmgfhljiaaProg.lean LOADS. Nothing in Lean hashes anything: it is a label: what it is worth is what the hold of that sum in a sandbox is worth. -/
noncomputable def Try.pinned : Pinned := { name := "ytmddhhmgfhljiaa", sum := "ebe2af2e3fb0d3373ea0004d07ccdab5b9e3d0e9ce132269d573c901b4eb0803", checked := Try.checked }
namespace Rows
def none {H : Type} : Left H := { results := [], args := [] }

/-- 'laws.FnExactFactorSolveFlipped': WHATEVER THE INPUT: true; the input reads as it did. -/
def fnExactFactorSolveFlippedSpec : ChangeSpec := { name := "fnExactFactorSolveFlipped", fn := fun _ => fun
  | [d1, d2] => { results := [.lit (.bool true)], args := [d1, d2] }
  | _ => none }
def fnExactFactorSolveFlippedRow : OpenClaim := { program := "ytmddhhmgfhljiaa", sum := "ebe2af2e3fb0d3373ea0004d07ccdab5b9e3d0e9ce132269d573c901b4eb0803", func := "loop.example/g01327/laws.FnExactFactorSolveFlipped", spec := "fnExactFactorSolveFlipped", inPlace := ["math.Float64bits", "math.Float64frombits"], apart := false }
def FnExactFactorSolveFlippedSaid : Prop := fnExactFactorSolveFlippedRow.holds Try.pinned (OpenSpec.ofChange fnExactFactorSolveFlippedSpec)

/-- ITS FALSE NEIGHBOUR: 'it returns false'. Refute it at one input. -/
def fnExactFactorSolveFlippedWrong : ChangeSpec := { name := "fnExactFactorSolveFlipped", fn := fun _ => fun
  | [d1, d2] => { results := [.lit (.bool false)], args := [d1, d2] }
  | _ => none }
def FnExactFactorSolveFlippedWrongFalsely : Prop := fnExactFactorSolveFlippedRow.holds Try.pinned (OpenSpec.ofChange fnExactFactorSolveFlippedWrong)

/-- 'laws.FnExactUpdatedSolve': WHATEVER THE INPUT: true; the input reads as it did. -/
def fnExactUpdatedSolveSpec : ChangeSpec := { name := "fnExactUpdatedSolve", fn := fun _ => fun
  | [d1, d2, d3, d4] => { results := [.lit (.bool true)], args := [d1, d2, d3, d4] }
  | _ => none }
def fnExactUpdatedSolveRow : OpenClaim := { program := "ytmddhhmgfhljiaa", sum := "ebe2af2e3fb0d3373ea0004d07ccdab5b9e3d0e9ce132269d573c901b4eb0803", func := "loop.example/g01327/laws.FnExactUpdatedSolve", spec := "fnExactUpdatedSolve", inPlace := ["math.Float64bits", "math.Float64frombits"], apart := false }
def FnExactUpdatedSolveSaid : Prop := fnExactUpdatedSolveRow.holds Try.pinned (OpenSpec.ofChange fnExactUpdatedSolveSpec)

/-- ITS FALSE NEIGHBOUR: 'it returns false'. Refute it at one input. -/
def fnExactUpdatedSolveWrong : ChangeSpec := { name := "fnExactUpdatedSolve", fn := fun _ => fun
  | [d1, d2, d3, d4] => { results := [.lit (.bool false)], args := [d1, d2, d3, d4] }
  | _ => none }
def FnExactUpdatedSolveWrongFalsely : Prop := fnExactUpdatedSolveRow.holds Try.pinned (OpenSpec.ofChange fnExactUpdatedSolveWrong)

/-- 'laws.FnExactFactorGrowth': WHATEVER THE INPUT: true; the input reads as it did. -/
def fnExactFactorGrowthSpec : ChangeSpec := { name := "fnExactFactorGrowth", fn := fun _ => fun
  | [d1, d2] => { results := [.lit (.bool true)], args := [d1, d2] }
  | _ => none }
def fnExactFactorGrowthRow : OpenClaim := { program := "ytmddhhmgfhljiaa", sum := "ebe2af2e3fb0d3373ea0004d07ccdab5b9e3d0e9ce132269d573c901b4eb0803", func := "loop.example/g01327/laws.FnExactFactorGrowth", spec := "fnExactFactorGrowth", inPlace := ["math.Float64bits", "math.Float64frombits"], unfollowed := true, recurses := true, apart := false }
def FnExactFactorGrowthSaid : Prop := fnExactFactorGrowthRow.holds Try.pinned (OpenSpec.ofChange fnExactFactorGrowthSpec)

/-- ITS FALSE NEIGHBOUR: 'it returns false'. Refute it at one input. -/
def fnExactFactorGrowthWrong : ChangeSpec := { name := "fnExactFactorGrowth", fn := fun _ => fun
  | [d1, d2] => { results := [.lit (.bool false)], args := [d1, d2] }
  | _ => none }
def FnExactFactorGrowthWrongFalsely : Prop := fnExactFactorGrowthRow.holds Try.pinned (OpenSpec.ofChange fnExactFactorGrowthWrong)

/-- 'laws.FnExactFactorInverse': WHATEVER THE INPUT: true; the input reads as it did. -/
def fnExactFactorInverseSpec : ChangeSpec := { name := "fnExactFactorInverse", fn := fun _ => fun
  | [d] => { results := [.lit (.bool true)], args := [d] }
  | _ => none }
def fnExactFactorInverseRow : OpenClaim := { program := "ytmddhhmgfhljiaa", sum := "ebe2af2e3fb0d3373ea0004d07ccdab5b9e3d0e9ce132269d573c901b4eb0803", func := "loop.example/g01327/laws.FnExactFactorInverse", spec := "fnExactFactorInverse", inPlace := ["math.Float64bits", "math.Float64frombits"], apart := false }
def FnExactFactorInverseSaid : Prop := fnExactFactorInverseRow.holds Try.pinned (OpenSpec.ofChange fnExactFactorInverseSpec)

/-- ITS FALSE NEIGHBOUR: 'it returns false'. Refute it at one input. -/
def fnExactFactorInverseWrong : ChangeSpec := { name := "fnExactFactorInverse", fn := fun _ => fun
  | [d] => { results := [.lit (.bool false)], args := [d] }
  | _ => none }
def FnExactFactorInverseWrongFalsely : Prop := fnExactFactorInverseRow.holds Try.pinned (OpenSpec.ofChange fnExactFactorInverseWrong)

/-- 'laws.FnExactOffNorm': WHATEVER THE INPUT: true; the input reads as it did. -/
def fnExactOffNormSpec : ChangeSpec := { name := "fnExactOffNorm", fn := fun _ => fun
  | [d] => { results := [.lit (.bool true)], args := [d] }
  | _ => none }
def fnExactOffNormRow : OpenClaim := { program := "ytmddhhmgfhljiaa", sum := "ebe2af2e3fb0d3373ea0004d07ccdab5b9e3d0e9ce132269d573c901b4eb0803", func := "loop.example/g01327/laws.FnExactOffNorm", spec := "fnExactOffNorm", inPlace := ["math.sqrt", "math.Float64bits", "math.Float64frombits"], unfollowed := true, recurses := true, apart := false }
def FnExactOffNormSaid : Prop := fnExactOffNormRow.holds Try.pinned (OpenSpec.ofChange fnExactOffNormSpec)

/-- ITS FALSE NEIGHBOUR: 'it returns false'. Refute it at one input. -/
def fnExactOffNormWrong : ChangeSpec := { name := "fnExactOffNorm", fn := fun _ => fun
  | [d] => { results := [.lit (.bool false)], args := [d] }
  | _ => none }
def FnExactOffNormWrongFalsely : Prop := fnExactOffNormRow.holds Try.pinned (OpenSpec.ofChange fnExactOffNormWrong)

/-- 'laws.FnExactKroneckerMatrix': WHATEVER THE INPUT: true; the input reads as it did. -/
def fnExactKroneckerMatrixSpec : ChangeSpec := { name := "fnExactKroneckerMatrix", fn := fun _ => fun
  | [d1, d2] => { results := [.lit (.bool true)], args := [d1, d2] }
  | _ => none }
def fnExactKroneckerMatrixRow : OpenClaim := { program := "ytmddhhmgfhljiaa", sum := "ebe2af2e3fb0d3373ea0004d07ccdab5b9e3d0e9ce132269d573c901b4eb0803", func := "loop.example/g01327/laws.FnExactKroneckerMatrix", spec := "fnExactKroneckerMatrix", inPlace := ["math.Float64bits", "math.Float64frombits"], apart := false }
def FnExactKroneckerMatrixSaid : Prop := fnExactKroneckerMatrixRow.holds Try.pinned (OpenSpec.ofChange fnExactKroneckerMatrixSpec)

/-- ITS FALSE NEIGHBOUR: 'it returns false'. Refute it at one input. -/
def fnExactKroneckerMatrixWrong : ChangeSpec := { name := "fnExactKroneckerMatrix", fn := fun _ => fun
  | [d1, d2] => { results := [.lit (.bool false)], args := [d1, d2] }
  | _ => none }
def FnExactKroneckerMatrixWrongFalsely : Prop := fnExactKroneckerMatrixRow.holds Try.pinned (OpenSpec.ofChange fnExactKroneckerMatrixWrong)

/- THE SECOND FORM. 'bulk': how many values and letters a reading holds, each counted each time it is reached (what is shared counts as often as it is met; a slice's spare places count too). A statement '..UptoSaid' is the law's where the arguments, and the package variables that the reading takes, are together of bulk at most 1048576: NARROWER than '..Said'. Prove '..Said' where nothing that the law and all that it calls make is longer than what came in: it says more and counts as full. Else prove '..UptoSaid'. A law counts once. -/
mutual
def uptoBulk {H : Type} : DataW H → Nat
  | .lit (.string bytes) => bytes.length + 1
  | .lit _ => 1
  | .nil => 1
  | .ptr d => uptoBulk d + 1
  | .slice elems spare => uptoBulkAll elems + uptoBulkAll spare + 1
  | .agg parts => uptoBulkAll parts + 1
  | .iface _ d => uptoBulk d + 1
  | .map entries => uptoBulkEntries entries + 1
  | .held _ => 1
def uptoBulkAll {H : Type} : List (DataW H) → Nat
  | [] => 0
  | d :: r => uptoBulk d + uptoBulkAll r
def uptoBulkEntries {H : Type} : List (Lit × DataW H) → Nat
  | [] => 0
  | x :: r => uptoBulkEntry x + uptoBulkEntries r
def uptoBulkEntry {H : Type} : Lit × DataW H → Nat
  | (.string bytes, d) => bytes.length + uptoBulk d + 1
  | (_, d) => uptoBulk d + 1
 end
def uptoSmall : (H : Type) → List (DataW H) → Bool := fun _ ds => decide (uptoBulkAll ds ≤ 1048576)
def OpenSpec.upto (s : _root_.Go.ChangeSpec) : _root_.Go.OpenSpec := { _root_.Go.OpenSpec.ofChange s with cond := some uptoSmall }

/-- 'laws.FnExactFactorSolveFlipped', WHERE WHAT IT READS IS OF BULK AT MOST 1048576: true; the input reads as it did. -/
def fnExactFactorSolveFlippedUptoRow : OpenClaim := { program := "ytmddhhmgfhljiaa", sum := "ebe2af2e3fb0d3373ea0004d07ccdab5b9e3d0e9ce132269d573c901b4eb0803", func := "loop.example/g01327/laws.FnExactFactorSolveFlipped", spec := "fnExactFactorSolveFlipped", inPlace := ["math.Float64bits", "math.Float64frombits"], apart := false, narrowed := true }
def FnExactFactorSolveFlippedUptoSaid : Prop := fnExactFactorSolveFlippedUptoRow.holds Try.pinned (OpenSpec.upto fnExactFactorSolveFlippedSpec)

/-- 'laws.FnExactUpdatedSolve', WHERE WHAT IT READS IS OF BULK AT MOST 1048576: true; the input reads as it did. -/
def fnExactUpdatedSolveUptoRow : OpenClaim := { program := "ytmddhhmgfhljiaa", sum := "ebe2af2e3fb0d3373ea0004d07ccdab5b9e3d0e9ce132269d573c901b4eb0803", func := "loop.example/g01327/laws.FnExactUpdatedSolve", spec := "fnExactUpdatedSolve", inPlace := ["math.Float64bits", "math.Float64frombits"], apart := false, narrowed := true }
def FnExactUpdatedSolveUptoSaid : Prop := fnExactUpdatedSolveUptoRow.holds Try.pinned (OpenSpec.upto fnExactUpdatedSolveSpec)

/-- 'laws.FnExactFactorGrowth', WHERE WHAT IT READS IS OF BULK AT MOST 1048576: true; the input reads as it did. -/
def fnExactFactorGrowthUptoRow : OpenClaim := { program := "ytmddhhmgfhljiaa", sum := "ebe2af2e3fb0d3373ea0004d07ccdab5b9e3d0e9ce132269d573c901b4eb0803", func := "loop.example/g01327/laws.FnExactFactorGrowth", spec := "fnExactFactorGrowth", inPlace := ["math.Float64bits", "math.Float64frombits"], unfollowed := true, recurses := true, apart := false, narrowed := true }
def FnExactFactorGrowthUptoSaid : Prop := fnExactFactorGrowthUptoRow.holds Try.pinned (OpenSpec.upto fnExactFactorGrowthSpec)

/-- 'laws.FnExactFactorInverse', WHERE WHAT IT READS IS OF BULK AT MOST 1048576: true; the input reads as it did. -/
def fnExactFactorInverseUptoRow : OpenClaim := { program := "ytmddhhmgfhljiaa", sum := "ebe2af2e3fb0d3373ea0004d07ccdab5b9e3d0e9ce132269d573c901b4eb0803", func := "loop.example/g01327/laws.FnExactFactorInverse", spec := "fnExactFactorInverse", inPlace := ["math.Float64bits", "math.Float64frombits"], apart := false, narrowed := true }
def FnExactFactorInverseUptoSaid : Prop := fnExactFactorInverseUptoRow.holds Try.pinned (OpenSpec.upto fnExactFactorInverseSpec)

/-- 'laws.FnExactOffNorm', WHERE WHAT IT READS IS OF BULK AT MOST 1048576: true; the input reads as it did. -/
def fnExactOffNormUptoRow : OpenClaim := { program := "ytmddhhmgfhljiaa", sum := "ebe2af2e3fb0d3373ea0004d07ccdab5b9e3d0e9ce132269d573c901b4eb0803", func := "loop.example/g01327/laws.FnExactOffNorm", spec := "fnExactOffNorm", inPlace := ["math.sqrt", "math.Float64bits", "math.Float64frombits"], unfollowed := true, recurses := true, apart := false, narrowed := true }
def FnExactOffNormUptoSaid : Prop := fnExactOffNormUptoRow.holds Try.pinned (OpenSpec.upto fnExactOffNormSpec)

/-- 'laws.FnExactKroneckerMatrix', WHERE WHAT IT READS IS OF BULK AT MOST 1048576: true; the input reads as it did. -/
def fnExactKroneckerMatrixUptoRow : OpenClaim := { program := "ytmddhhmgfhljiaa", sum := "ebe2af2e3fb0d3373ea0004d07ccdab5b9e3d0e9ce132269d573c901b4eb0803", func := "loop.example/g01327/laws.FnExactKroneckerMatrix", spec := "fnExactKroneckerMatrix", inPlace := ["math.Float64bits", "math.Float64frombits"], apart := false, narrowed := true }
def FnExactKroneckerMatrixUptoSaid : Prop := fnExactKroneckerMatrixUptoRow.holds Try.pinned (OpenSpec.upto fnExactKroneckerMatrixSpec)

end Rows
end Go.Proofs.Ytmddhhmgfhljiaa
