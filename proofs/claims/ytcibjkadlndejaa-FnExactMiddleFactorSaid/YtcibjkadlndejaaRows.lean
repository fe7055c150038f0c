/-
  No cell of these rows narrows 'for every input' (looked for: loops, veiled, ifaces, maps, wideKeys, modest, calm, conditions, laid).
  DERIVED. THE GIVEN ROWS OF THIS SEAT. 6 by the template 'for every input the law returns true; each argument reads behind the call as it read before'; 0 by the template 'total and deterministic' (their statements: YtcibjkadlndejaaTotals.lean).
  GIVEN WITH THE SEED: the statements are not yours to turn. If you find one false, say at which input.
  Laid BY PROGRAM, IN A SANDBOX (cutbox-rows.mjs): the forced cells as the released guide's own fill.sh prints them over the translation ec95c3108de9737a… (all of the seat's roots in one cut). By AI agents, Wed Nov 11 2026. No macro, syntax, notation, axiom, sorry.
-/
import Derived.Test.YtcibjkadlndejaaChecked
import GoSem.Claim
import GoSem.ClaimJoined
import GoSem.ClaimMapViews
import Derived.JoinedTies
import Derived.KernelRfl
namespace Go.Proofs.Ytcibjkadlndejaa
/- THE CELL 'sum', in the pinned program and in every row, IS THE sha256 OF THE DUMP (.gsa) THAT YtcibjkadlndejaaProg.lean LOADS. Nothing in Lean hashes anything: it is a label: what it is worth is what the hold of that sum in a sandbox is worth. -/
noncomputable def Try.pinned : Pinned := { name := "ytcibjkadlndejaa", sum := "ec95c3108de9737ab8e15262abd307e8798fb334e8bfa7aed056dc8b176302ae", checked := Try.checked }
namespace Rows
def none {H : Type} : Left H := { results := [], args := [] }

/-- 'laws.FnExactMirrorFactor': WHATEVER THE INPUT: true; the input reads as it did. -/
def fnExactMirrorFactorSpec : ChangeSpec := { name := "fnExactMirrorFactor", fn := fun _ => fun
  | [d] => { results := [.lit (.bool true)], args := [d] }
  | _ => none }
def fnExactMirrorFactorRow : OpenClaim := { program := "ytcibjkadlndejaa", sum := "ec95c3108de9737ab8e15262abd307e8798fb334e8bfa7aed056dc8b176302ae", func := "loop.example/g01327/laws.FnExactMirrorFactor", spec := "fnExactMirrorFactor", inPlace := ["math.sqrt", "math.Float64bits", "math.Float64frombits"], apart := false }
def FnExactMirrorFactorSaid : Prop := fnExactMirrorFactorRow.holds Try.pinned (OpenSpec.ofChange fnExactMirrorFactorSpec)

/-- ITS FALSE NEIGHBOUR: 'it returns false'. Refute it at one input. -/
def fnExactMirrorFactorWrong : ChangeSpec := { name := "fnExactMirrorFactor", fn := fun _ => fun
  | [d] => { results := [.lit (.bool false)], args := [d] }
  | _ => none }
def FnExactMirrorFactorWrongFalsely : Prop := fnExactMirrorFactorRow.holds Try.pinned (OpenSpec.ofChange fnExactMirrorFactorWrong)

/-- 'laws.FnExactLeastSquares': WHATEVER THE INPUT: true; the input reads as it did. -/
def fnExactLeastSquaresSpec : ChangeSpec := { name := "fnExactLeastSquares", fn := fun _ => fun
  | [d1, d2] => { results := [.lit (.bool true)], args := [d1, d2] }
  | _ => none }
def fnExactLeastSquaresRow : OpenClaim := { program := "ytcibjkadlndejaa", sum := "ec95c3108de9737ab8e15262abd307e8798fb334e8bfa7aed056dc8b176302ae", func := "loop.example/g01327/laws.FnExactLeastSquares", spec := "fnExactLeastSquares", inPlace := ["math.sqrt", "math.Float64bits", "math.Float64frombits"], apart := false }
def FnExactLeastSquaresSaid : Prop := fnExactLeastSquaresRow.holds Try.pinned (OpenSpec.ofChange fnExactLeastSquaresSpec)

/-- ITS FALSE NEIGHBOUR: 'it returns false'. Refute it at one input. -/
def fnExactLeastSquaresWrong : ChangeSpec := { name := "fnExactLeastSquares", fn := fun _ => fun
  | [d1, d2] => { results := [.lit (.bool false)], args := [d1, d2] }
  | _ => none }
def FnExactLeastSquaresWrongFalsely : Prop := fnExactLeastSquaresRow.holds Try.pinned (OpenSpec.ofChange fnExactLeastSquaresWrong)

/-- 'laws.FnExactWeighedSquares': WHATEVER THE INPUT: true; the input reads as it did. -/
def fnExactWeighedSquaresSpec : ChangeSpec := { name := "fnExactWeighedSquares", fn := fun _ => fun
  | [d1, d2, d3] => { results := [.lit (.bool true)], args := [d1, d2, d3] }
  | _ => none }
def fnExactWeighedSquaresRow : OpenClaim := { program := "ytcibjkadlndejaa", sum := "ec95c3108de9737ab8e15262abd307e8798fb334e8bfa7aed056dc8b176302ae", func := "loop.example/g01327/laws.FnExactWeighedSquares", spec := "fnExactWeighedSquares", inPlace := ["math.sqrt", "math.Float64bits", "math.Float64frombits"], apart := false }
def FnExactWeighedSquaresSaid : Prop := fnExactWeighedSquaresRow.holds Try.pinned (OpenSpec.ofChange fnExactWeighedSquaresSpec)

/-- ITS FALSE NEIGHBOUR: 'it returns false'. Refute it at one input. -/
def fnExactWeighedSquaresWrong : ChangeSpec := { name := "fnExactWeighedSquares", fn := fun _ => fun
  | [d1, d2, d3] => { results := [.lit (.bool false)], args := [d1, d2, d3] }
  | _ => none }
def FnExactWeighedSquaresWrongFalsely : Prop := fnExactWeighedSquaresRow.holds Try.pinned (OpenSpec.ofChange fnExactWeighedSquaresWrong)

/-- 'laws.FnExactMirrorRank': WHATEVER THE INPUT: true; the input reads as it did. -/
def fnExactMirrorRankSpec : ChangeSpec := { name := "fnExactMirrorRank", fn := fun _ => fun
  | [d1, d2] => { results := [.lit (.bool true)], args := [d1, d2] }
  | _ => none }
def fnExactMirrorRankRow : OpenClaim := { program := "ytcibjkadlndejaa", sum := "ec95c3108de9737ab8e15262abd307e8798fb334e8bfa7aed056dc8b176302ae", func := "loop.example/g01327/laws.FnExactMirrorRank", spec := "fnExactMirrorRank", inPlace := ["math.sqrt", "math.Float64bits", "math.Float64frombits"], apart := false }
def FnExactMirrorRankSaid : Prop := fnExactMirrorRankRow.holds Try.pinned (OpenSpec.ofChange fnExactMirrorRankSpec)

/-- ITS FALSE NEIGHBOUR: 'it returns false'. Refute it at one input. -/
def fnExactMirrorRankWrong : ChangeSpec := { name := "fnExactMirrorRank", fn := fun _ => fun
  | [d1, d2] => { results := [.lit (.bool false)], args := [d1, d2] }
  | _ => none }
def FnExactMirrorRankWrongFalsely : Prop := fnExactMirrorRankRow.holds Try.pinned (OpenSpec.ofChange fnExactMirrorRankWrong)

/-- 'laws.FnExactMiddleFactor': WHATEVER THE INPUT: true; the input reads as it did. -/
def fnExactMiddleFactorSpec : ChangeSpec := { name := "fnExactMiddleFactor", fn := fun _ => fun
  | [d] => { results := [.lit (.bool true)], args := [d] }
  | _ => none }
def fnExactMiddleFactorRow : OpenClaim := { program := "ytcibjkadlndejaa", sum := "ec95c3108de9737ab8e15262abd307e8798fb334e8bfa7aed056dc8b176302ae", func := "loop.example/g01327/laws.FnExactMiddleFactor", spec := "fnExactMiddleFactor", inPlace := ["math.Float64bits", "math.Float64frombits"], apart := false }
def FnExactMiddleFactorSaid : Prop := fnExactMiddleFactorRow.holds Try.pinned (OpenSpec.ofChange fnExactMiddleFactorSpec)

/-- ITS FALSE NEIGHBOUR: 'it returns false'. Refute it at one input. -/
def fnExactMiddleFactorWrong : ChangeSpec := { name := "fnExactMiddleFactor", fn := fun _ => fun
  | [d] => { results := [.lit (.bool false)], args := [d] }
  | _ => none }
def FnExactMiddleFactorWrongFalsely : Prop := fnExactMiddleFactorRow.holds Try.pinned (OpenSpec.ofChange fnExactMiddleFactorWrong)

/-- 'laws.FnExactFactorRows': WHATEVER THE INPUT: true; the input reads as it did. -/
def fnExactFactorRowsSpec : ChangeSpec := { name := "fnExactFactorRows", fn := fun _ => fun
  | [d] => { results := [.lit (.bool true)], args := [d] }
  | _ => none }
def fnExactFactorRowsRow : OpenClaim := { program := "ytcibjkadlndejaa", sum := "ec95c3108de9737ab8e15262abd307e8798fb334e8bfa7aed056dc8b176302ae", func := "loop.example/g01327/laws.FnExactFactorRows", spec := "fnExactFactorRows", inPlace := ["math.Float64bits", "math.Float64frombits"], apart := false }
def FnExactFactorRowsSaid : Prop := fnExactFactorRowsRow.holds Try.pinned (OpenSpec.ofChange fnExactFactorRowsSpec)

/-- ITS FALSE NEIGHBOUR: 'it returns false'. Refute it at one input. -/
def fnExactFactorRowsWrong : ChangeSpec := { name := "fnExactFactorRows", fn := fun _ => fun
  | [d] => { results := [.lit (.bool false)], args := [d] }
  | _ => none }
def FnExactFactorRowsWrongFalsely : Prop := fnExactFactorRowsRow.holds Try.pinned (OpenSpec.ofChange fnExactFactorRowsWrong)

/- THE SECOND FORM. 'bulk': how many values and letters a reading holds, each counted each time it is reached (what is shared counts as often as it is met; a slice's spare places count too). A statement '..UptoSaid' is the law's where the arguments, and the package variables that the reading takes, are together of bulk at most 1048576: NARROWER than '..Said'. Prove '..Said' where nothing that the law and all that it calls make is longer than what came in: it says more and counts as full. Else prove '..UptoSaid'. A law counts once. -/
mutual
def uptoBulk {H : Type} : DataW H → Nat
  | .lit (.string bytes) => bytes.length + 1
  | .lit _ => 1
  | .nil => 1
  | .ptr d => uptoBulk d + 1
  | .slice elems spare => uptoBulkAll elems + uptoBulkAll spare + 1
  | .agg parts => uptoBulkAll parts + 1
  | .iface _ d => uptoBulk d + 1
  | .map entries => uptoBulkEntries entries + 1
  | .held _ => 1
def uptoBulkAll {H : Type} : List (DataW H) → Nat
  | [] => 0
  | d :: r => uptoBulk d + uptoBulkAll r
def uptoBulkEntries {H : Type} : List (Lit × DataW H) → Nat
  | [] => 0
  | x :: r => uptoBulkEntry x + uptoBulkEntries r
def uptoBulkEntry {H : Type} : Lit × DataW H → Nat
  | (.string bytes, d) => bytes.length + uptoBulk d + 1
  | (_, d) => uptoBulk d + 1
 end
def uptoSmall : (H : Type) → List (DataW H) → Bool := fun _ ds => decide (uptoBulkAll ds ≤ 1048576)
def OpenSpec.upto (s : _root_.Go.ChangeSpec) : _root_.Go.OpenSpec := { _root_.Go.OpenSpec.ofChange s with cond := some uptoSmall }

/-- 'laws.FnExactMirrorFactor', WHERE WHAT IT READS IS OF BULK AT MOST 1048576: true; the input reads as it did. -/
def fnExactMirrorFactorUptoRow : OpenClaim := { program := "ytcibjkadlndejaa", sum := "ec95c3108de9737ab8e15262abd307e8798fb334e8bfa7aed056dc8b176302ae", func := "loop.example/g01327/laws.FnExactMirrorFactor", spec := "fnExactMirrorFactor", inPlace := ["math.sqrt", "math.Float64bits", "math.Float64frombits"], apart := false, narrowed := true }
def FnExactMirrorFactorUptoSaid : Prop := fnExactMirrorFactorUptoRow.holds Try.pinned (OpenSpec.upto fnExactMirrorFactorSpec)

/-- 'laws.FnExactLeastSquares', WHERE WHAT IT READS IS OF BULK AT MOST 1048576: true; the input reads as it did. -/
def fnExactLeastSquaresUptoRow : OpenClaim := { program := "ytcibjkadlndejaa", sum := "ec95c3108de9737ab8e15262abd307e8798fb334e8bfa7aed056dc8b176302ae", func := "loop.example/g01327/laws.FnExactLeastSquares", spec := "fnExactLeastSquares", inPlace := ["math.sqrt", "math.Float64bits", "math.Float64frombits"], apart := false, narrowed := true }
def FnExactLeastSquaresUptoSaid : Prop := fnExactLeastSquaresUptoRow.holds Try.pinned (OpenSpec.upto fnExactLeastSquaresSpec)

/-- 'laws.FnExactWeighedSquares', WHERE WHAT IT READS IS OF BULK AT MOST 1048576: true; the input reads as it did. -/
def fnExactWeighedSquaresUptoRow : OpenClaim := { program := "ytcibjkadlndejaa", sum := "ec95c3108de9737ab8e15262abd307e8798fb334e8bfa7aed056dc8b176302ae", func := "loop.example/g01327/laws.FnExactWeighedSquares", spec := "fnExactWeighedSquares", inPlace := ["math.sqrt", "math.Float64bits", "math.Float64frombits"], apart := false, narrowed := true }
def FnExactWeighedSquaresUptoSaid : Prop := fnExactWeighedSquaresUptoRow.holds Try.pinned (OpenSpec.upto fnExactWeighedSquaresSpec)

/-- 'laws.FnExactMirrorRank', WHERE WHAT IT READS IS OF BULK AT MOST 1048576: true; the input reads as it did. -/
def fnExactMirrorRankUptoRow : OpenClaim := { program := "ytcibjkadlndejaa", sum := "ec95c3108de9737ab8e15262abd307e8798fb334e8bfa7aed056dc8b176302ae", func := "loop.example/g01327/laws.FnExactMirrorRank", spec := "fnExactMirrorRank", inPlace := ["math.sqrt", "math.Float64bits", "math.Float64frombits"], apart := false, narrowed := true }
def FnExactMirrorRankUptoSaid : Prop := fnExactMirrorRankUptoRow.holds Try.pinned (OpenSpec.upto fnExactMirrorRankSpec)

/-- 'laws.FnExactMiddleFactor', WHERE WHAT IT READS IS OF BULK AT MOST 1048576: true; the input reads as it did. -/
def fnExactMiddleFactorUptoRow : OpenClaim := { program := "ytcibjkadlndejaa", sum := "ec95c3108de9737ab8e15262abd307e8798fb334e8bfa7aed056dc8b176302ae", func := "loop.example/g01327/laws.FnExactMiddleFactor", spec := "fnExactMiddleFactor", inPlace := ["math.Float64bits", "math.Float64frombits"], apart := false, narrowed := true }
def FnExactMiddleFactorUptoSaid : Prop := fnExactMiddleFactorUptoRow.holds Try.pinned (OpenSpec.upto fnExactMiddleFactorSpec)

/-- 'laws.FnExactFactorRows', WHERE WHAT IT READS IS OF BULK AT MOST 1048576: true; the input reads as it did. -/
def fnExactFactorRowsUptoRow : OpenClaim := { program := "ytcibjkadlndejaa", sum := "ec95c3108de9737ab8e15262abd307e8798fb334e8bfa7aed056dc8b176302ae", func := "loop.example/g01327/laws.FnExactFactorRows", spec := "fnExactFactorRows", inPlace := ["math.Float64bits", "math.Float64frombits"], apart := false, narrowed := true }
def FnExactFactorRowsUptoSaid : Prop := fnExactFactorRowsUptoRow.holds Try.pinned (OpenSpec.upto fnExactFactorRowsSpec)

end Rows
end Go.Proofs.Ytcibjkadlndejaa
