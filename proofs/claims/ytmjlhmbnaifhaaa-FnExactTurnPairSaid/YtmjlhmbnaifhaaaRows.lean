/-
  No cell of these rows narrows 'for every input' (looked for: loops, veiled, ifaces, maps, wideKeys, modest, calm, conditions, laid).
  DERIVED. THE GIVEN ROWS OF THIS SEAT. 6 by the template 'for every input the law returns true; each argument reads behind the call as it read before'; 0 by the template 'total and deterministic' (their statements: YtmjlhmbnaifhaaaTotals.lean).
  GIVEN WITH THE SEED: the statements are not yours to turn. If you find one false, say at which input.
  Laid BY PROGRAM, IN A SANDBOX (cutbox-rows.mjs): the forced cells as the released guide's own fill.sh prints them over the translation 8f5edb45cb3754af… (all of the seat's roots in one cut). By AI agents, Wed Nov 11 2026. No macro, syntax, notation, axiom, sorry.
-/
import Derived.Test.YtmjlhmbnaifhaaaChecked
import GoSem.Claim
import GoSem.ClaimJoined
import GoSem.ClaimMapViews
import Derived.JoinedTies
import Derived.KernelRfl
namespace Go.Proofs.Ytmjlhmbnaifhaaa
/- THE CELL 'sum', in the pinned program and in every row, IS THE sha256 OF THE DUMP (.gsa) THAT YtmjlhmbnaifhaaaProg.lean LOADS. Nothing in Lean hashes anything: it is a label: what it is worth is what the hold of that sum in a sandbox is worth. -/
noncomputable def Try.pinned : Pinned := { name := "ytmjlhmbnaifhaaa", sum := "8f5edb45cb3754af3aa84b7e5c6c1a5928894f9909a7bc97f90112bfae539198", checked := Try.checked }
namespace Rows
def none {H : Type} : Left H := { results := [], args := [] }

/-- 'laws.FnExactRootOfSquare': WHATEVER THE INPUT: true; the input reads as it did. -/
def fnExactRootOfSquareSpec : ChangeSpec := { name := "fnExactRootOfSquare", fn := fun _ => fun
  | [d] => { results := [.lit (.bool true)], args := [d] }
  | _ => none }
def fnExactRootOfSquareRow : OpenClaim := { program := "ytmjlhmbnaifhaaa", sum := "8f5edb45cb3754af3aa84b7e5c6c1a5928894f9909a7bc97f90112bfae539198", func := "loop.example/g01327/laws.FnExactRootOfSquare", spec := "fnExactRootOfSquare", inPlace := ["math.sqrt", "math.Float64bits", "math.Float64frombits"], apart := false }
def FnExactRootOfSquareSaid : Prop := fnExactRootOfSquareRow.holds Try.pinned (OpenSpec.ofChange fnExactRootOfSquareSpec)

/-- ITS FALSE NEIGHBOUR: 'it returns false'. Refute it at one input. -/
def fnExactRootOfSquareWrong : ChangeSpec := { name := "fnExactRootOfSquare", fn := fun _ => fun
  | [d] => { results := [.lit (.bool false)], args := [d] }
  | _ => none }
def FnExactRootOfSquareWrongFalsely : Prop := fnExactRootOfSquareRow.holds Try.pinned (OpenSpec.ofChange fnExactRootOfSquareWrong)

/-- 'laws.FnExactRootShifted': WHATEVER THE INPUT: true; the input reads as it did. -/
def fnExactRootShiftedSpec : ChangeSpec := { name := "fnExactRootShifted", fn := fun _ => fun
  | [d1, d2] => { results := [.lit (.bool true)], args := [d1, d2] }
  | _ => none }
def fnExactRootShiftedRow : OpenClaim := { program := "ytmjlhmbnaifhaaa", sum := "8f5edb45cb3754af3aa84b7e5c6c1a5928894f9909a7bc97f90112bfae539198", func := "loop.example/g01327/laws.FnExactRootShifted", spec := "fnExactRootShifted", inPlace := ["math.sqrt", "math.Float64bits", "math.Float64frombits"], apart := false }
def FnExactRootShiftedSaid : Prop := fnExactRootShiftedRow.holds Try.pinned (OpenSpec.ofChange fnExactRootShiftedSpec)

/-- ITS FALSE NEIGHBOUR: 'it returns false'. Refute it at one input. -/
def fnExactRootShiftedWrong : ChangeSpec := { name := "fnExactRootShifted", fn := fun _ => fun
  | [d1, d2] => { results := [.lit (.bool false)], args := [d1, d2] }
  | _ => none }
def FnExactRootShiftedWrongFalsely : Prop := fnExactRootShiftedRow.holds Try.pinned (OpenSpec.ofChange fnExactRootShiftedWrong)

/-- 'laws.FnExactAddRow': WHATEVER THE INPUT: true; the input reads as it did. -/
def fnExactAddRowSpec : ChangeSpec := { name := "fnExactAddRow", fn := fun _ => fun
  | [d1, d2] => { results := [.lit (.bool true)], args := [d1, d2] }
  | _ => none }
def fnExactAddRowRow : OpenClaim := { program := "ytmjlhmbnaifhaaa", sum := "8f5edb45cb3754af3aa84b7e5c6c1a5928894f9909a7bc97f90112bfae539198", func := "loop.example/g01327/laws.FnExactAddRow", spec := "fnExactAddRow", inPlace := ["math.sqrt", "math.Float64bits", "math.Float64frombits"], unfollowed := true, recurses := true, apart := false }
def FnExactAddRowSaid : Prop := fnExactAddRowRow.holds Try.pinned (OpenSpec.ofChange fnExactAddRowSpec)

/-- ITS FALSE NEIGHBOUR: 'it returns false'. Refute it at one input. -/
def fnExactAddRowWrong : ChangeSpec := { name := "fnExactAddRow", fn := fun _ => fun
  | [d1, d2] => { results := [.lit (.bool false)], args := [d1, d2] }
  | _ => none }
def FnExactAddRowWrongFalsely : Prop := fnExactAddRowRow.holds Try.pinned (OpenSpec.ofChange fnExactAddRowWrong)

/-- 'laws.FnExactTurnPair': WHATEVER THE INPUT: true; the input reads as it did. -/
def fnExactTurnPairSpec : ChangeSpec := { name := "fnExactTurnPair", fn := fun _ => fun
  | [d1, d2, d3] => { results := [.lit (.bool true)], args := [d1, d2, d3] }
  | _ => none }
def fnExactTurnPairRow : OpenClaim := { program := "ytmjlhmbnaifhaaa", sum := "8f5edb45cb3754af3aa84b7e5c6c1a5928894f9909a7bc97f90112bfae539198", func := "loop.example/g01327/laws.FnExactTurnPair", spec := "fnExactTurnPair", inPlace := ["math.sqrt", "math.Float64bits", "math.Float64frombits"], unfollowed := true, recurses := true, apart := false }
def FnExactTurnPairSaid : Prop := fnExactTurnPairRow.holds Try.pinned (OpenSpec.ofChange fnExactTurnPairSpec)

/-- ITS FALSE NEIGHBOUR: 'it returns false'. Refute it at one input. -/
def fnExactTurnPairWrong : ChangeSpec := { name := "fnExactTurnPair", fn := fun _ => fun
  | [d1, d2, d3] => { results := [.lit (.bool false)], args := [d1, d2, d3] }
  | _ => none }
def FnExactTurnPairWrongFalsely : Prop := fnExactTurnPairRow.holds Try.pinned (OpenSpec.ofChange fnExactTurnPairWrong)

/-- 'laws.FnExactLeastSquares': WHATEVER THE INPUT: true; the input reads as it did. -/
def fnExactLeastSquaresSpec : ChangeSpec := { name := "fnExactLeastSquares", fn := fun _ => fun
  | [d1, d2] => { results := [.lit (.bool true)], args := [d1, d2] }
  | _ => none }
def fnExactLeastSquaresRow : OpenClaim := { program := "ytmjlhmbnaifhaaa", sum := "8f5edb45cb3754af3aa84b7e5c6c1a5928894f9909a7bc97f90112bfae539198", func := "loop.example/g01327/laws.FnExactLeastSquares", spec := "fnExactLeastSquares", inPlace := ["math.sqrt", "math.Float64bits", "math.Float64frombits"], apart := false }
def FnExactLeastSquaresSaid : Prop := fnExactLeastSquaresRow.holds Try.pinned (OpenSpec.ofChange fnExactLeastSquaresSpec)

/-- ITS FALSE NEIGHBOUR: 'it returns false'. Refute it at one input. -/
def fnExactLeastSquaresWrong : ChangeSpec := { name := "fnExactLeastSquares", fn := fun _ => fun
  | [d1, d2] => { results := [.lit (.bool false)], args := [d1, d2] }
  | _ => none }
def FnExactLeastSquaresWrongFalsely : Prop := fnExactLeastSquaresRow.holds Try.pinned (OpenSpec.ofChange fnExactLeastSquaresWrong)

/-- 'laws.FnExactWeighedSquares': WHATEVER THE INPUT: true; the input reads as it did. -/
def fnExactWeighedSquaresSpec : ChangeSpec := { name := "fnExactWeighedSquares", fn := fun _ => fun
  | [d1, d2, d3] => { results := [.lit (.bool true)], args := [d1, d2, d3] }
  | _ => none }
def fnExactWeighedSquaresRow : OpenClaim := { program := "ytmjlhmbnaifhaaa", sum := "8f5edb45cb3754af3aa84b7e5c6c1a5928894f9909a7bc97f90112bfae539198", func := "loop.example/g01327/laws.FnExactWeighedSquares", spec := "fnExactWeighedSquares", inPlace := ["math.sqrt", "math.Float64bits", "math.Float64frombits"], apart := false }
def FnExactWeighedSquaresSaid : Prop := fnExactWeighedSquaresRow.holds Try.pinned (OpenSpec.ofChange fnExactWeighedSquaresSpec)

/-- ITS FALSE NEIGHBOUR: 'it returns false'. Refute it at one input. -/
def fnExactWeighedSquaresWrong : ChangeSpec := { name := "fnExactWeighedSquares", fn := fun _ => fun
  | [d1, d2, d3] => { results := [.lit (.bool false)], args := [d1, d2, d3] }
  | _ => none }
def FnExactWeighedSquaresWrongFalsely : Prop := fnExactWeighedSquaresRow.holds Try.pinned (OpenSpec.ofChange fnExactWeighedSquaresWrong)

/- THE SECOND FORM. 'bulk': how many values and letters a reading holds, each counted each time it is reached (what is shared counts as often as it is met; a slice's spare places count too). A statement '..UptoSaid' is the law's where the arguments, and the package variables that the reading takes, are together of bulk at most 1048576: NARROWER than '..Said'. Prove '..Said' where nothing that the law and all that it calls make is longer than what came in: it says more and counts as full. Else prove '..UptoSaid'. A law counts once. -/
mutual
def uptoBulk {H : Type} : DataW H → Nat
  | .lit (.string bytes) => bytes.length + 1
  | .lit _ => 1
  | .nil => 1
  | .ptr d => uptoBulk d + 1
  | .slice elems spare => uptoBulkAll elems + uptoBulkAll spare + 1
  | .agg parts => uptoBulkAll parts + 1
  | .iface _ d => uptoBulk d + 1
  | .map entries => uptoBulkEntries entries + 1
  | .held _ => 1
def uptoBulkAll {H : Type} : List (DataW H) → Nat
  | [] => 0
  | d :: r => uptoBulk d + uptoBulkAll r
def uptoBulkEntries {H : Type} : List (Lit × DataW H) → Nat
  | [] => 0
  | x :: r => uptoBulkEntry x + uptoBulkEntries r
def uptoBulkEntry {H : Type} : Lit × DataW H → Nat
  | (.string bytes, d) => bytes.length + uptoBulk d + 1
  | (_, d) => uptoBulk d + 1
 end
def uptoSmall : (H : Type) → List (DataW H) → Bool := fun _ ds => decide (uptoBulkAll ds ≤ 1048576)
def OpenSpec.upto (s : _root_.Go.ChangeSpec) : _root_.Go.OpenSpec := { _root_.Go.OpenSpec.ofChange s with cond := some uptoSmall }

/-- 'laws.FnExactRootOfSquare', WHERE WHAT IT READS IS OF BULK AT MOST 1048576: true; the input reads as it did. -/
def fnExactRootOfSquareUptoRow : OpenClaim := { program := "ytmjlhmbnaifhaaa", sum := "8f5edb45cb3754af3aa84b7e5c6c1a5928894f9909a7bc97f90112bfae539198", func := "loop.example/g01327/laws.FnExactRootOfSquare", spec := "fnExactRootOfSquare", inPlace := ["math.sqrt", "math.Float64bits", "math.Float64frombits"], apart := false, narrowed := true }
def FnExactRootOfSquareUptoSaid : Prop := fnExactRootOfSquareUptoRow.holds Try.pinned (OpenSpec.upto fnExactRootOfSquareSpec)

/-- 'laws.FnExactRootShifted', WHERE WHAT IT READS IS OF BULK AT MOST 1048576: true; the input reads as it did. -/
def fnExactRootShiftedUptoRow : OpenClaim := { program := "ytmjlhmbnaifhaaa", sum := "8f5edb45cb3754af3aa84b7e5c6c1a5928894f9909a7bc97f90112bfae539198", func := "loop.example/g01327/laws.FnExactRootShifted", spec := "fnExactRootShifted", inPlace := ["math.sqrt", "math.Float64bits", "math.Float64frombits"], apart := false, narrowed := true }
def FnExactRootShiftedUptoSaid : Prop := fnExactRootShiftedUptoRow.holds Try.pinned (OpenSpec.upto fnExactRootShiftedSpec)

/-- 'laws.FnExactAddRow', WHERE WHAT IT READS IS OF BULK AT MOST 1048576: true; the input reads as it did. -/
def fnExactAddRowUptoRow : OpenClaim := { program := "ytmjlhmbnaifhaaa", sum := "8f5edb45cb3754af3aa84b7e5c6c1a5928894f9909a7bc97f90112bfae539198", func := "loop.example/g01327/laws.FnExactAddRow", spec := "fnExactAddRow", inPlace := ["math.sqrt", "math.Float64bits", "math.Float64frombits"], unfollowed := true, recurses := true, apart := false, narrowed := true }
def FnExactAddRowUptoSaid : Prop := fnExactAddRowUptoRow.holds Try.pinned (OpenSpec.upto fnExactAddRowSpec)

/-- 'laws.FnExactTurnPair', WHERE WHAT IT READS IS OF BULK AT MOST 1048576: true; the input reads as it did. -/
def fnExactTurnPairUptoRow : OpenClaim := { program := "ytmjlhmbnaifhaaa", sum := "8f5edb45cb3754af3aa84b7e5c6c1a5928894f9909a7bc97f90112bfae539198", func := "loop.example/g01327/laws.FnExactTurnPair", spec := "fnExactTurnPair", inPlace := ["math.sqrt", "math.Float64bits", "math.Float64frombits"], unfollowed := true, recurses := true, apart := false, narrowed := true }
def FnExactTurnPairUptoSaid : Prop := fnExactTurnPairUptoRow.holds Try.pinned (OpenSpec.upto fnExactTurnPairSpec)

/-- 'laws.FnExactLeastSquares', WHERE WHAT IT READS IS OF BULK AT MOST 1048576: true; the input reads as it did. -/
def fnExactLeastSquaresUptoRow : OpenClaim := { program := "ytmjlhmbnaifhaaa", sum := "8f5edb45cb3754af3aa84b7e5c6c1a5928894f9909a7bc97f90112bfae539198", func := "loop.example/g01327/laws.FnExactLeastSquares", spec := "fnExactLeastSquares", inPlace := ["math.sqrt", "math.Float64bits", "math.Float64frombits"], apart := false, narrowed := true }
def FnExactLeastSquaresUptoSaid : Prop := fnExactLeastSquaresUptoRow.holds Try.pinned (OpenSpec.upto fnExactLeastSquaresSpec)

/-- 'laws.FnExactWeighedSquares', WHERE WHAT IT READS IS OF BULK AT MOST 1048576: true; the input reads as it did. -/
def fnExactWeighedSquaresUptoRow : OpenClaim := { program := "ytmjlhmbnaifhaaa", sum := "8f5edb45cb3754af3aa84b7e5c6c1a5928894f9909a7bc97f90112bfae539198", func := "loop.example/g01327/laws.FnExactWeighedSquares", spec := "fnExactWeighedSquares", inPlace := ["math.sqrt", "math.Float64bits", "math.Float64frombits"], apart := false, narrowed := true }
def FnExactWeighedSquaresUptoSaid : Prop := fnExactWeighedSquaresUptoRow.holds Try.pinned (OpenSpec.upto fnExactWeighedSquaresSpec)

end Rows
end Go.Proofs.Ytmjlhmbnaifhaaa
