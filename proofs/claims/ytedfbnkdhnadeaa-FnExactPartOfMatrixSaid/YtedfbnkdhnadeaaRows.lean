/-
  No cell of these rows narrows 'for every input' (looked for: loops, veiled, ifaces, maps, wideKeys, modest, calm, conditions, laid).
  DERIVED. THE GIVEN ROWS OF THIS SEAT. 12 by the template 'for every input the law returns true; each argument reads behind the call as it read before'; 0 by the template 'total and deterministic' (their statements: YtedfbnkdhnadeaaTotals.lean).
  GIVEN WITH THE SEED: the statements are not yours to turn. If you find one false, say at which input.
  Laid BY PROGRAM, IN A SANDBOX (cutbox-rows.mjs): the forced cells as the released guide's own fill.sh prints them over the translation a7c89adc9c8df5dd… (all of the seat's roots in one cut). By AI agents, Wed Nov 11 2026. No macro, syntax, notation, axiom, sorry.
-/
import Derived.Test.YtedfbnkdhnadeaaChecked
import GoSem.Claim
import GoSem.ClaimJoined
import GoSem.ClaimMapViews
import Derived.JoinedTies
import Derived.KernelRfl
namespace Go.Proofs.Ytedfbnkdhnadeaa
/- THE CELL 'sum', in the pinned program and in every row, IS THE sha256 OF THE DUMP (.gsa) THAT YtedfbnkdhnadeaaProg.lean LOADS. Nothing in Lean hashes anything: it is a label: what it is worth is what the hold of that sum in a sandbox is worth. -/
noncomputable def Try.pinned : Pinned := { name := "ytedfbnkdhnadeaa", sum := "a7c89adc9c8df5dd04e4286d280f13fbc3ecb2db29fd8acb3b2cde076632183e", checked := Try.checked }
namespace Rows
def none {H : Type} : Left H := { results := [], args := [] }

/-- 'laws.FnExactUpperSolve': WHATEVER THE INPUT: true; the input reads as it did. -/
def fnExactUpperSolveSpec : ChangeSpec := { name := "fnExactUpperSolve", fn := fun _ => fun
  | [d1, d2] => { results := [.lit (.bool true)], args := [d1, d2] }
  | _ => none }
def fnExactUpperSolveRow : OpenClaim := { program := "ytedfbnkdhnadeaa", sum := "a7c89adc9c8df5dd04e4286d280f13fbc3ecb2db29fd8acb3b2cde076632183e", func := "loop.example/g01327/laws.FnExactUpperSolve", spec := "fnExactUpperSolve", inPlace := ["math.Float64bits", "math.Float64frombits"], apart := false }
def FnExactUpperSolveSaid : Prop := fnExactUpperSolveRow.holds Try.pinned (OpenSpec.ofChange fnExactUpperSolveSpec)

/-- ITS FALSE NEIGHBOUR: 'it returns false'. Refute it at one input. -/
def fnExactUpperSolveWrong : ChangeSpec := { name := "fnExactUpperSolve", fn := fun _ => fun
  | [d1, d2] => { results := [.lit (.bool false)], args := [d1, d2] }
  | _ => none }
def FnExactUpperSolveWrongFalsely : Prop := fnExactUpperSolveRow.holds Try.pinned (OpenSpec.ofChange fnExactUpperSolveWrong)

/-- 'laws.FnExactRootSolve': WHATEVER THE INPUT: true; the input reads as it did. -/
def fnExactRootSolveSpec : ChangeSpec := { name := "fnExactRootSolve", fn := fun _ => fun
  | [d1, d2] => { results := [.lit (.bool true)], args := [d1, d2] }
  | _ => none }
def fnExactRootSolveRow : OpenClaim := { program := "ytedfbnkdhnadeaa", sum := "a7c89adc9c8df5dd04e4286d280f13fbc3ecb2db29fd8acb3b2cde076632183e", func := "loop.example/g01327/laws.FnExactRootSolve", spec := "fnExactRootSolve", inPlace := ["math.Float64bits", "math.Float64frombits"], apart := false }
def FnExactRootSolveSaid : Prop := fnExactRootSolveRow.holds Try.pinned (OpenSpec.ofChange fnExactRootSolveSpec)

/-- ITS FALSE NEIGHBOUR: 'it returns false'. Refute it at one input. -/
def fnExactRootSolveWrong : ChangeSpec := { name := "fnExactRootSolve", fn := fun _ => fun
  | [d1, d2] => { results := [.lit (.bool false)], args := [d1, d2] }
  | _ => none }
def FnExactRootSolveWrongFalsely : Prop := fnExactRootSolveRow.holds Try.pinned (OpenSpec.ofChange fnExactRootSolveWrong)

/-- 'laws.FnExactAddRow': WHATEVER THE INPUT: true; the input reads as it did. -/
def fnExactAddRowSpec : ChangeSpec := { name := "fnExactAddRow", fn := fun _ => fun
  | [d1, d2] => { results := [.lit (.bool true)], args := [d1, d2] }
  | _ => none }
def fnExactAddRowRow : OpenClaim := { program := "ytedfbnkdhnadeaa", sum := "a7c89adc9c8df5dd04e4286d280f13fbc3ecb2db29fd8acb3b2cde076632183e", func := "loop.example/g01327/laws.FnExactAddRow", spec := "fnExactAddRow", inPlace := ["math.sqrt", "math.Float64bits", "math.Float64frombits"], unfollowed := true, recurses := true, apart := false }
def FnExactAddRowSaid : Prop := fnExactAddRowRow.holds Try.pinned (OpenSpec.ofChange fnExactAddRowSpec)

/-- ITS FALSE NEIGHBOUR: 'it returns false'. Refute it at one input. -/
def fnExactAddRowWrong : ChangeSpec := { name := "fnExactAddRow", fn := fun _ => fun
  | [d1, d2] => { results := [.lit (.bool false)], args := [d1, d2] }
  | _ => none }
def FnExactAddRowWrongFalsely : Prop := fnExactAddRowRow.holds Try.pinned (OpenSpec.ofChange fnExactAddRowWrong)

/-- 'laws.FnExactRootOfSquare': WHATEVER THE INPUT: true; the input reads as it did. -/
def fnExactRootOfSquareSpec : ChangeSpec := { name := "fnExactRootOfSquare", fn := fun _ => fun
  | [d] => { results := [.lit (.bool true)], args := [d] }
  | _ => none }
def fnExactRootOfSquareRow : OpenClaim := { program := "ytedfbnkdhnadeaa", sum := "a7c89adc9c8df5dd04e4286d280f13fbc3ecb2db29fd8acb3b2cde076632183e", func := "loop.example/g01327/laws.FnExactRootOfSquare", spec := "fnExactRootOfSquare", inPlace := ["math.sqrt", "math.Float64bits", "math.Float64frombits"], apart := false }
def FnExactRootOfSquareSaid : Prop := fnExactRootOfSquareRow.holds Try.pinned (OpenSpec.ofChange fnExactRootOfSquareSpec)

/-- ITS FALSE NEIGHBOUR: 'it returns false'. Refute it at one input. -/
def fnExactRootOfSquareWrong : ChangeSpec := { name := "fnExactRootOfSquare", fn := fun _ => fun
  | [d] => { results := [.lit (.bool false)], args := [d] }
  | _ => none }
def FnExactRootOfSquareWrongFalsely : Prop := fnExactRootOfSquareRow.holds Try.pinned (OpenSpec.ofChange fnExactRootOfSquareWrong)

/-- 'laws.FnExactRootShifted': WHATEVER THE INPUT: true; the input reads as it did. -/
def fnExactRootShiftedSpec : ChangeSpec := { name := "fnExactRootShifted", fn := fun _ => fun
  | [d1, d2] => { results := [.lit (.bool true)], args := [d1, d2] }
  | _ => none }
def fnExactRootShiftedRow : OpenClaim := { program := "ytedfbnkdhnadeaa", sum := "a7c89adc9c8df5dd04e4286d280f13fbc3ecb2db29fd8acb3b2cde076632183e", func := "loop.example/g01327/laws.FnExactRootShifted", spec := "fnExactRootShifted", inPlace := ["math.sqrt", "math.Float64bits", "math.Float64frombits"], apart := false }
def FnExactRootShiftedSaid : Prop := fnExactRootShiftedRow.holds Try.pinned (OpenSpec.ofChange fnExactRootShiftedSpec)

/-- ITS FALSE NEIGHBOUR: 'it returns false'. Refute it at one input. -/
def fnExactRootShiftedWrong : ChangeSpec := { name := "fnExactRootShifted", fn := fun _ => fun
  | [d1, d2] => { results := [.lit (.bool false)], args := [d1, d2] }
  | _ => none }
def FnExactRootShiftedWrongFalsely : Prop := fnExactRootShiftedRow.holds Try.pinned (OpenSpec.ofChange fnExactRootShiftedWrong)

/-- 'laws.FnExactMiddleFactor': WHATEVER THE INPUT: true; the input reads as it did. -/
def fnExactMiddleFactorSpec : ChangeSpec := { name := "fnExactMiddleFactor", fn := fun _ => fun
  | [d] => { results := [.lit (.bool true)], args := [d] }
  | _ => none }
def fnExactMiddleFactorRow : OpenClaim := { program := "ytedfbnkdhnadeaa", sum := "a7c89adc9c8df5dd04e4286d280f13fbc3ecb2db29fd8acb3b2cde076632183e", func := "loop.example/g01327/laws.FnExactMiddleFactor", spec := "fnExactMiddleFactor", inPlace := ["math.Float64bits", "math.Float64frombits"], apart := false }
def FnExactMiddleFactorSaid : Prop := fnExactMiddleFactorRow.holds Try.pinned (OpenSpec.ofChange fnExactMiddleFactorSpec)

/-- ITS FALSE NEIGHBOUR: 'it returns false'. Refute it at one input. -/
def fnExactMiddleFactorWrong : ChangeSpec := { name := "fnExactMiddleFactor", fn := fun _ => fun
  | [d] => { results := [.lit (.bool false)], args := [d] }
  | _ => none }
def FnExactMiddleFactorWrongFalsely : Prop := fnExactMiddleFactorRow.holds Try.pinned (OpenSpec.ofChange fnExactMiddleFactorWrong)

/-- 'laws.FnExactMirrorFactor': WHATEVER THE INPUT: true; the input reads as it did. -/
def fnExactMirrorFactorSpec : ChangeSpec := { name := "fnExactMirrorFactor", fn := fun _ => fun
  | [d] => { results := [.lit (.bool true)], args := [d] }
  | _ => none }
def fnExactMirrorFactorRow : OpenClaim := { program := "ytedfbnkdhnadeaa", sum := "a7c89adc9c8df5dd04e4286d280f13fbc3ecb2db29fd8acb3b2cde076632183e", func := "loop.example/g01327/laws.FnExactMirrorFactor", spec := "fnExactMirrorFactor", inPlace := ["math.sqrt", "math.Float64bits", "math.Float64frombits"], apart := false }
def FnExactMirrorFactorSaid : Prop := fnExactMirrorFactorRow.holds Try.pinned (OpenSpec.ofChange fnExactMirrorFactorSpec)

/-- ITS FALSE NEIGHBOUR: 'it returns false'. Refute it at one input. -/
def fnExactMirrorFactorWrong : ChangeSpec := { name := "fnExactMirrorFactor", fn := fun _ => fun
  | [d] => { results := [.lit (.bool false)], args := [d] }
  | _ => none }
def FnExactMirrorFactorWrongFalsely : Prop := fnExactMirrorFactorRow.holds Try.pinned (OpenSpec.ofChange fnExactMirrorFactorWrong)

/-- 'laws.FnExactMirrorRank': WHATEVER THE INPUT: true; the input reads as it did. -/
def fnExactMirrorRankSpec : ChangeSpec := { name := "fnExactMirrorRank", fn := fun _ => fun
  | [d1, d2] => { results := [.lit (.bool true)], args := [d1, d2] }
  | _ => none }
def fnExactMirrorRankRow : OpenClaim := { program := "ytedfbnkdhnadeaa", sum := "a7c89adc9c8df5dd04e4286d280f13fbc3ecb2db29fd8acb3b2cde076632183e", func := "loop.example/g01327/laws.FnExactMirrorRank", spec := "fnExactMirrorRank", inPlace := ["math.sqrt", "math.Float64bits", "math.Float64frombits"], apart := false }
def FnExactMirrorRankSaid : Prop := fnExactMirrorRankRow.holds Try.pinned (OpenSpec.ofChange fnExactMirrorRankSpec)

/-- ITS FALSE NEIGHBOUR: 'it returns false'. Refute it at one input. -/
def fnExactMirrorRankWrong : ChangeSpec := { name := "fnExactMirrorRank", fn := fun _ => fun
  | [d1, d2] => { results := [.lit (.bool false)], args := [d1, d2] }
  | _ => none }
def FnExactMirrorRankWrongFalsely : Prop := fnExactMirrorRankRow.holds Try.pinned (OpenSpec.ofChange fnExactMirrorRankWrong)

/-- 'laws.FnExactLeastSquares': WHATEVER THE INPUT: true; the input reads as it did. -/
def fnExactLeastSquaresSpec : ChangeSpec := { name := "fnExactLeastSquares", fn := fun _ => fun
  | [d1, d2] => { results := [.lit (.bool true)], args := [d1, d2] }
  | _ => none }
def fnExactLeastSquaresRow : OpenClaim := { program := "ytedfbnkdhnadeaa", sum := "a7c89adc9c8df5dd04e4286d280f13fbc3ecb2db29fd8acb3b2cde076632183e", func := "loop.example/g01327/laws.FnExactLeastSquares", spec := "fnExactLeastSquares", inPlace := ["math.sqrt", "math.Float64bits", "math.Float64frombits"], apart := false }
def FnExactLeastSquaresSaid : Prop := fnExactLeastSquaresRow.holds Try.pinned (OpenSpec.ofChange fnExactLeastSquaresSpec)

/-- ITS FALSE NEIGHBOUR: 'it returns false'. Refute it at one input. -/
def fnExactLeastSquaresWrong : ChangeSpec := { name := "fnExactLeastSquares", fn := fun _ => fun
  | [d1, d2] => { results := [.lit (.bool false)], args := [d1, d2] }
  | _ => none }
def FnExactLeastSquaresWrongFalsely : Prop := fnExactLeastSquaresRow.holds Try.pinned (OpenSpec.ofChange fnExactLeastSquaresWrong)

/-- 'laws.FnExactWeighedSquares': WHATEVER THE INPUT: true; the input reads as it did. -/
def fnExactWeighedSquaresSpec : ChangeSpec := { name := "fnExactWeighedSquares", fn := fun _ => fun
  | [d1, d2, d3] => { results := [.lit (.bool true)], args := [d1, d2, d3] }
  | _ => none }
def fnExactWeighedSquaresRow : OpenClaim := { program := "ytedfbnkdhnadeaa", sum := "a7c89adc9c8df5dd04e4286d280f13fbc3ecb2db29fd8acb3b2cde076632183e", func := "loop.example/g01327/laws.FnExactWeighedSquares", spec := "fnExactWeighedSquares", inPlace := ["math.sqrt", "math.Float64bits", "math.Float64frombits"], apart := false }
def FnExactWeighedSquaresSaid : Prop := fnExactWeighedSquaresRow.holds Try.pinned (OpenSpec.ofChange fnExactWeighedSquaresSpec)

/-- ITS FALSE NEIGHBOUR: 'it returns false'. Refute it at one input. -/
def fnExactWeighedSquaresWrong : ChangeSpec := { name := "fnExactWeighedSquares", fn := fun _ => fun
  | [d1, d2, d3] => { results := [.lit (.bool false)], args := [d1, d2, d3] }
  | _ => none }
def FnExactWeighedSquaresWrongFalsely : Prop := fnExactWeighedSquaresRow.holds Try.pinned (OpenSpec.ofChange fnExactWeighedSquaresWrong)

/-- 'laws.FnExactOrderRows': WHATEVER THE INPUT: true; the input reads as it did. -/
def fnExactOrderRowsSpec : ChangeSpec := { name := "fnExactOrderRows", fn := fun _ => fun
  | [d1, d2] => { results := [.lit (.bool true)], args := [d1, d2] }
  | _ => none }
def fnExactOrderRowsRow : OpenClaim := { program := "ytedfbnkdhnadeaa", sum := "a7c89adc9c8df5dd04e4286d280f13fbc3ecb2db29fd8acb3b2cde076632183e", func := "loop.example/g01327/laws.FnExactOrderRows", spec := "fnExactOrderRows", inPlace := ["math.Float64bits", "math.Float64frombits"], apart := false }
def FnExactOrderRowsSaid : Prop := fnExactOrderRowsRow.holds Try.pinned (OpenSpec.ofChange fnExactOrderRowsSpec)

/-- ITS FALSE NEIGHBOUR: 'it returns false'. Refute it at one input. -/
def fnExactOrderRowsWrong : ChangeSpec := { name := "fnExactOrderRows", fn := fun _ => fun
  | [d1, d2] => { results := [.lit (.bool false)], args := [d1, d2] }
  | _ => none }
def FnExactOrderRowsWrongFalsely : Prop := fnExactOrderRowsRow.holds Try.pinned (OpenSpec.ofChange fnExactOrderRowsWrong)

/-- 'laws.FnExactPartOfMatrix': WHATEVER THE INPUT: true; the input reads as it did. -/
def fnExactPartOfMatrixSpec : ChangeSpec := { name := "fnExactPartOfMatrix", fn := fun _ => fun
  | [d1, d2, d3, d4, d5] => { results := [.lit (.bool true)], args := [d1, d2, d3, d4, d5] }
  | _ => none }
def fnExactPartOfMatrixRow : OpenClaim := { program := "ytedfbnkdhnadeaa", sum := "a7c89adc9c8df5dd04e4286d280f13fbc3ecb2db29fd8acb3b2cde076632183e", func := "loop.example/g01327/laws.FnExactPartOfMatrix", spec := "fnExactPartOfMatrix", inPlace := ["math.Float64bits", "math.Float64frombits"], apart := false }
def FnExactPartOfMatrixSaid : Prop := fnExactPartOfMatrixRow.holds Try.pinned (OpenSpec.ofChange fnExactPartOfMatrixSpec)

/-- ITS FALSE NEIGHBOUR: 'it returns false'. Refute it at one input. -/
def fnExactPartOfMatrixWrong : ChangeSpec := { name := "fnExactPartOfMatrix", fn := fun _ => fun
  | [d1, d2, d3, d4, d5] => { results := [.lit (.bool false)], args := [d1, d2, d3, d4, d5] }
  | _ => none }
def FnExactPartOfMatrixWrongFalsely : Prop := fnExactPartOfMatrixRow.holds Try.pinned (OpenSpec.ofChange fnExactPartOfMatrixWrong)

/- THE SECOND FORM. 'bulk': how many values and letters a reading holds, each counted each time it is reached (what is shared counts as often as it is met; a slice's spare places count too). A statement '..UptoSaid' is the law's where the arguments, and the package variables that the reading takes, are together of bulk at most 1048576: NARROWER than '..Said'. Prove '..Said' where nothing that the law and all that it calls make is longer than what came in: it says more and counts as full. Else prove '..UptoSaid'. A law counts once. -/
mutual
def uptoBulk {H : Type} : DataW H → Nat
  | .lit (.string bytes) => bytes.length + 1
  | .lit _ => 1
  | .nil => 1
  | .ptr d => uptoBulk d + 1
  | .slice elems spare => uptoBulkAll elems + uptoBulkAll spare + 1
  | .agg parts => uptoBulkAll parts + 1
  | .iface _ d => uptoBulk d + 1
  | .map entries => uptoBulkEntries entries + 1
  | .held _ => 1
def uptoBulkAll {H : Type} : List (DataW H) → Nat
  | [] => 0
  | d :: r => uptoBulk d + uptoBulkAll r
def uptoBulkEntries {H : Type} : List (Lit × DataW H) → Nat
  | [] => 0
  | x :: r => uptoBulkEntry x + uptoBulkEntries r
def uptoBulkEntry {H : Type} : Lit × DataW H → Nat
  | (.string bytes, d) => bytes.length + uptoBulk d + 1
  | (_, d) => uptoBulk d + 1
 end
def uptoSmall : (H : Type) → List (DataW H) → Bool := fun _ ds => decide (uptoBulkAll ds ≤ 1048576)
def OpenSpec.upto (s : _root_.Go.ChangeSpec) : _root_.Go.OpenSpec := { _root_.Go.OpenSpec.ofChange s with cond := some uptoSmall }

/-- 'laws.FnExactUpperSolve', WHERE WHAT IT READS IS OF BULK AT MOST 1048576: true; the input reads as it did. -/
def fnExactUpperSolveUptoRow : OpenClaim := { program := "ytedfbnkdhnadeaa", sum := "a7c89adc9c8df5dd04e4286d280f13fbc3ecb2db29fd8acb3b2cde076632183e", func := "loop.example/g01327/laws.FnExactUpperSolve", spec := "fnExactUpperSolve", inPlace := ["math.Float64bits", "math.Float64frombits"], apart := false, narrowed := true }
def FnExactUpperSolveUptoSaid : Prop := fnExactUpperSolveUptoRow.holds Try.pinned (OpenSpec.upto fnExactUpperSolveSpec)

/-- 'laws.FnExactRootSolve', WHERE WHAT IT READS IS OF BULK AT MOST 1048576: true; the input reads as it did. -/
def fnExactRootSolveUptoRow : OpenClaim := { program := "ytedfbnkdhnadeaa", sum := "a7c89adc9c8df5dd04e4286d280f13fbc3ecb2db29fd8acb3b2cde076632183e", func := "loop.example/g01327/laws.FnExactRootSolve", spec := "fnExactRootSolve", inPlace := ["math.Float64bits", "math.Float64frombits"], apart := false, narrowed := true }
def FnExactRootSolveUptoSaid : Prop := fnExactRootSolveUptoRow.holds Try.pinned (OpenSpec.upto fnExactRootSolveSpec)

/-- 'laws.FnExactAddRow', WHERE WHAT IT READS IS OF BULK AT MOST 1048576: true; the input reads as it did. -/
def fnExactAddRowUptoRow : OpenClaim := { program := "ytedfbnkdhnadeaa", sum := "a7c89adc9c8df5dd04e4286d280f13fbc3ecb2db29fd8acb3b2cde076632183e", func := "loop.example/g01327/laws.FnExactAddRow", spec := "fnExactAddRow", inPlace := ["math.sqrt", "math.Float64bits", "math.Float64frombits"], unfollowed := true, recurses := true, apart := false, narrowed := true }
def FnExactAddRowUptoSaid : Prop := fnExactAddRowUptoRow.holds Try.pinned (OpenSpec.upto fnExactAddRowSpec)

/-- 'laws.FnExactRootOfSquare', WHERE WHAT IT READS IS OF BULK AT MOST 1048576: true; the input reads as it did. -/
def fnExactRootOfSquareUptoRow : OpenClaim := { program := "ytedfbnkdhnadeaa", sum := "a7c89adc9c8df5dd04e4286d280f13fbc3ecb2db29fd8acb3b2cde076632183e", func := "loop.example/g01327/laws.FnExactRootOfSquare", spec := "fnExactRootOfSquare", inPlace := ["math.sqrt", "math.Float64bits", "math.Float64frombits"], apart := false, narrowed := true }
def FnExactRootOfSquareUptoSaid : Prop := fnExactRootOfSquareUptoRow.holds Try.pinned (OpenSpec.upto fnExactRootOfSquareSpec)

/-- 'laws.FnExactRootShifted', WHERE WHAT IT READS IS OF BULK AT MOST 1048576: true; the input reads as it did. -/
def fnExactRootShiftedUptoRow : OpenClaim := { program := "ytedfbnkdhnadeaa", sum := "a7c89adc9c8df5dd04e4286d280f13fbc3ecb2db29fd8acb3b2cde076632183e", func := "loop.example/g01327/laws.FnExactRootShifted", spec := "fnExactRootShifted", inPlace := ["math.sqrt", "math.Float64bits", "math.Float64frombits"], apart := false, narrowed := true }
def FnExactRootShiftedUptoSaid : Prop := fnExactRootShiftedUptoRow.holds Try.pinned (OpenSpec.upto fnExactRootShiftedSpec)

/-- 'laws.FnExactMiddleFactor', WHERE WHAT IT READS IS OF BULK AT MOST 1048576: true; the input reads as it did. -/
def fnExactMiddleFactorUptoRow : OpenClaim := { program := "ytedfbnkdhnadeaa", sum := "a7c89adc9c8df5dd04e4286d280f13fbc3ecb2db29fd8acb3b2cde076632183e", func := "loop.example/g01327/laws.FnExactMiddleFactor", spec := "fnExactMiddleFactor", inPlace := ["math.Float64bits", "math.Float64frombits"], apart := false, narrowed := true }
def FnExactMiddleFactorUptoSaid : Prop := fnExactMiddleFactorUptoRow.holds Try.pinned (OpenSpec.upto fnExactMiddleFactorSpec)

/-- 'laws.FnExactMirrorFactor', WHERE WHAT IT READS IS OF BULK AT MOST 1048576: true; the input reads as it did. -/
def fnExactMirrorFactorUptoRow : OpenClaim := { program := "ytedfbnkdhnadeaa", sum := "a7c89adc9c8df5dd04e4286d280f13fbc3ecb2db29fd8acb3b2cde076632183e", func := "loop.example/g01327/laws.FnExactMirrorFactor", spec := "fnExactMirrorFactor", inPlace := ["math.sqrt", "math.Float64bits", "math.Float64frombits"], apart := false, narrowed := true }
def FnExactMirrorFactorUptoSaid : Prop := fnExactMirrorFactorUptoRow.holds Try.pinned (OpenSpec.upto fnExactMirrorFactorSpec)

/-- 'laws.FnExactMirrorRank', WHERE WHAT IT READS IS OF BULK AT MOST 1048576: true; the input reads as it did. -/
def fnExactMirrorRankUptoRow : OpenClaim := { program := "ytedfbnkdhnadeaa", sum := "a7c89adc9c8df5dd04e4286d280f13fbc3ecb2db29fd8acb3b2cde076632183e", func := "loop.example/g01327/laws.FnExactMirrorRank", spec := "fnExactMirrorRank", inPlace := ["math.sqrt", "math.Float64bits", "math.Float64frombits"], apart := false, narrowed := true }
def FnExactMirrorRankUptoSaid : Prop := fnExactMirrorRankUptoRow.holds Try.pinned (OpenSpec.upto fnExactMirrorRankSpec)

/-- 'laws.FnExactLeastSquares', WHERE WHAT IT READS IS OF BULK AT MOST 1048576: true; the input reads as it did. -/
def fnExactLeastSquaresUptoRow : OpenClaim := { program := "ytedfbnkdhnadeaa", sum := "a7c89adc9c8df5dd04e4286d280f13fbc3ecb2db29fd8acb3b2cde076632183e", func := "loop.example/g01327/laws.FnExactLeastSquares", spec := "fnExactLeastSquares", inPlace := ["math.sqrt", "math.Float64bits", "math.Float64frombits"], apart := false, narrowed := true }
def FnExactLeastSquaresUptoSaid : Prop := fnExactLeastSquaresUptoRow.holds Try.pinned (OpenSpec.upto fnExactLeastSquaresSpec)

/-- 'laws.FnExactWeighedSquares', WHERE WHAT IT READS IS OF BULK AT MOST 1048576: true; the input reads as it did. -/
def fnExactWeighedSquaresUptoRow : OpenClaim := { program := "ytedfbnkdhnadeaa", sum := "a7c89adc9c8df5dd04e4286d280f13fbc3ecb2db29fd8acb3b2cde076632183e", func := "loop.example/g01327/laws.FnExactWeighedSquares", spec := "fnExactWeighedSquares", inPlace := ["math.sqrt", "math.Float64bits", "math.Float64frombits"], apart := false, narrowed := true }
def FnExactWeighedSquaresUptoSaid : Prop := fnExactWeighedSquaresUptoRow.holds Try.pinned (OpenSpec.upto fnExactWeighedSquaresSpec)

/-- 'laws.FnExactOrderRows', WHERE WHAT IT READS IS OF BULK AT MOST 1048576: true; the input reads as it did. -/
def fnExactOrderRowsUptoRow : OpenClaim := { program := "ytedfbnkdhnadeaa", sum := "a7c89adc9c8df5dd04e4286d280f13fbc3ecb2db29fd8acb3b2cde076632183e", func := "loop.example/g01327/laws.FnExactOrderRows", spec := "fnExactOrderRows", inPlace := ["math.Float64bits", "math.Float64frombits"], apart := false, narrowed := true }
def FnExactOrderRowsUptoSaid : Prop := fnExactOrderRowsUptoRow.holds Try.pinned (OpenSpec.upto fnExactOrderRowsSpec)

/-- 'laws.FnExactPartOfMatrix', WHERE WHAT IT READS IS OF BULK AT MOST 1048576: true; the input reads as it did. -/
def fnExactPartOfMatrixUptoRow : OpenClaim := { program := "ytedfbnkdhnadeaa", sum := "a7c89adc9c8df5dd04e4286d280f13fbc3ecb2db29fd8acb3b2cde076632183e", func := "loop.example/g01327/laws.FnExactPartOfMatrix", spec := "fnExactPartOfMatrix", inPlace := ["math.Float64bits", "math.Float64frombits"], apart := false, narrowed := true }
def FnExactPartOfMatrixUptoSaid : Prop := fnExactPartOfMatrixUptoRow.holds Try.pinned (OpenSpec.upto fnExactPartOfMatrixSpec)

end Rows
end Go.Proofs.Ytedfbnkdhnadeaa
