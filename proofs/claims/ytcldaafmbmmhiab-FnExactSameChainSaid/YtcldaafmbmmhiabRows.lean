/-
  No cell of these rows narrows 'for every input' (looked for: loops, veiled, ifaces, maps, wideKeys, modest, calm, conditions, laid).
  DERIVED. THE GIVEN ROWS OF THIS SEAT. 12 by the template 'for every input the law returns true; each argument reads behind the call as it read before'; 0 by the template 'total and deterministic' (their statements: YtcldaafmbmmhiabTotals.lean).
  GIVEN WITH THE SEED: the statements are not yours to turn. If you find one false, say at which input.
  Laid BY PROGRAM, IN A SANDBOX (cutbox-rows.mjs): the forced cells as the released guide's own fill.sh prints them over the translation 964360762bc73e16… (all of the seat's roots in one cut). By AI agents, Wed Nov 11 2026. No macro, syntax, notation, axiom, sorry.
-/
import Derived.Test.YtcldaafmbmmhiabChecked
import GoSem.Claim
import GoSem.ClaimJoined
import GoSem.ClaimMapViews
import Derived.JoinedTies
import Derived.KernelRfl
namespace Go.Proofs.Ytcldaafmbmmhiab
/- THE CELL 'sum', in the pinned program and in every row, IS THE sha256 OF THE DUMP (.gsa) THAT YtcldaafmbmmhiabProg.lean LOADS. Nothing in Lean hashes anything: it is a label: what it is worth is what the hold of that sum in a sandbox is worth. -/
noncomputable def Try.pinned : Pinned := { name := "ytcldaafmbmmhiab", sum := "964360762bc73e163af47e46f18043fbf49d1e1fd4475606e33b29896e95d1ec", checked := Try.checked }
namespace Rows
def none {H : Type} : Left H := { results := [], args := [] }

/-- 'laws.FnExactRankOfValues': WHATEVER THE INPUT: true; the input reads as it did. -/
def fnExactRankOfValuesSpec : ChangeSpec := { name := "fnExactRankOfValues", fn := fun _ => fun
  | [d1, d2] => { results := [.lit (.bool true)], args := [d1, d2] }
  | _ => none }
def fnExactRankOfValuesRow : OpenClaim := { program := "ytcldaafmbmmhiab", sum := "964360762bc73e163af47e46f18043fbf49d1e1fd4475606e33b29896e95d1ec", func := "loop.example/g01327/laws.FnExactRankOfValues", spec := "fnExactRankOfValues", inPlace := ["math.Float64bits", "math.Float64frombits"], apart := false }
def FnExactRankOfValuesSaid : Prop := fnExactRankOfValuesRow.holds Try.pinned (OpenSpec.ofChange fnExactRankOfValuesSpec)

/-- ITS FALSE NEIGHBOUR: 'it returns false'. Refute it at one input. -/
def fnExactRankOfValuesWrong : ChangeSpec := { name := "fnExactRankOfValues", fn := fun _ => fun
  | [d1, d2] => { results := [.lit (.bool false)], args := [d1, d2] }
  | _ => none }
def FnExactRankOfValuesWrongFalsely : Prop := fnExactRankOfValuesRow.holds Try.pinned (OpenSpec.ofChange fnExactRankOfValuesWrong)

/-- 'laws.FnExactUnitVector': WHATEVER THE INPUT: true; the input reads as it did. -/
def fnExactUnitVectorSpec : ChangeSpec := { name := "fnExactUnitVector", fn := fun _ => fun
  | [d] => { results := [.lit (.bool true)], args := [d] }
  | _ => none }
def fnExactUnitVectorRow : OpenClaim := { program := "ytcldaafmbmmhiab", sum := "964360762bc73e163af47e46f18043fbf49d1e1fd4475606e33b29896e95d1ec", func := "loop.example/g01327/laws.FnExactUnitVector", spec := "fnExactUnitVector", inPlace := ["math.sqrt", "math.Float64bits", "math.Float64frombits"], apart := false }
def FnExactUnitVectorSaid : Prop := fnExactUnitVectorRow.holds Try.pinned (OpenSpec.ofChange fnExactUnitVectorSpec)

/-- ITS FALSE NEIGHBOUR: 'it returns false'. Refute it at one input. -/
def fnExactUnitVectorWrong : ChangeSpec := { name := "fnExactUnitVector", fn := fun _ => fun
  | [d] => { results := [.lit (.bool false)], args := [d] }
  | _ => none }
def FnExactUnitVectorWrongFalsely : Prop := fnExactUnitVectorRow.holds Try.pinned (OpenSpec.ofChange fnExactUnitVectorWrong)

/-- 'laws.FnExactCosineOf': WHATEVER THE INPUT: true; the input reads as it did. -/
def fnExactCosineOfSpec : ChangeSpec := { name := "fnExactCosineOf", fn := fun _ => fun
  | [d1, d2] => { results := [.lit (.bool true)], args := [d1, d2] }
  | _ => none }
def fnExactCosineOfRow : OpenClaim := { program := "ytcldaafmbmmhiab", sum := "964360762bc73e163af47e46f18043fbf49d1e1fd4475606e33b29896e95d1ec", func := "loop.example/g01327/laws.FnExactCosineOf", spec := "fnExactCosineOf", inPlace := ["math.sqrt", "math.Float64bits", "math.Float64frombits"], apart := false }
def FnExactCosineOfSaid : Prop := fnExactCosineOfRow.holds Try.pinned (OpenSpec.ofChange fnExactCosineOfSpec)

/-- ITS FALSE NEIGHBOUR: 'it returns false'. Refute it at one input. -/
def fnExactCosineOfWrong : ChangeSpec := { name := "fnExactCosineOf", fn := fun _ => fun
  | [d1, d2] => { results := [.lit (.bool false)], args := [d1, d2] }
  | _ => none }
def FnExactCosineOfWrongFalsely : Prop := fnExactCosineOfRow.holds Try.pinned (OpenSpec.ofChange fnExactCosineOfWrong)

/-- 'laws.FnExactRayleighOf': WHATEVER THE INPUT: true; the input reads as it did. -/
def fnExactRayleighOfSpec : ChangeSpec := { name := "fnExactRayleighOf", fn := fun _ => fun
  | [d1, d2] => { results := [.lit (.bool true)], args := [d1, d2] }
  | _ => none }
def fnExactRayleighOfRow : OpenClaim := { program := "ytcldaafmbmmhiab", sum := "964360762bc73e163af47e46f18043fbf49d1e1fd4475606e33b29896e95d1ec", func := "loop.example/g01327/laws.FnExactRayleighOf", spec := "fnExactRayleighOf", inPlace := ["math.Float64bits", "math.Float64frombits"], apart := false }
def FnExactRayleighOfSaid : Prop := fnExactRayleighOfRow.holds Try.pinned (OpenSpec.ofChange fnExactRayleighOfSpec)

/-- ITS FALSE NEIGHBOUR: 'it returns false'. Refute it at one input. -/
def fnExactRayleighOfWrong : ChangeSpec := { name := "fnExactRayleighOf", fn := fun _ => fun
  | [d1, d2] => { results := [.lit (.bool false)], args := [d1, d2] }
  | _ => none }
def FnExactRayleighOfWrongFalsely : Prop := fnExactRayleighOfRow.holds Try.pinned (OpenSpec.ofChange fnExactRayleighOfWrong)

/-- 'laws.FnExactIsSymmetric': WHATEVER THE INPUT: true; the input reads as it did. -/
def fnExactIsSymmetricSpec : ChangeSpec := { name := "fnExactIsSymmetric", fn := fun _ => fun
  | [d] => { results := [.lit (.bool true)], args := [d] }
  | _ => none }
def fnExactIsSymmetricRow : OpenClaim := { program := "ytcldaafmbmmhiab", sum := "964360762bc73e163af47e46f18043fbf49d1e1fd4475606e33b29896e95d1ec", func := "loop.example/g01327/laws.FnExactIsSymmetric", spec := "fnExactIsSymmetric", inPlace := ["math.Float64bits", "math.Float64frombits"], apart := false }
def FnExactIsSymmetricSaid : Prop := fnExactIsSymmetricRow.holds Try.pinned (OpenSpec.ofChange fnExactIsSymmetricSpec)

/-- ITS FALSE NEIGHBOUR: 'it returns false'. Refute it at one input. -/
def fnExactIsSymmetricWrong : ChangeSpec := { name := "fnExactIsSymmetric", fn := fun _ => fun
  | [d] => { results := [.lit (.bool false)], args := [d] }
  | _ => none }
def FnExactIsSymmetricWrongFalsely : Prop := fnExactIsSymmetricRow.holds Try.pinned (OpenSpec.ofChange fnExactIsSymmetricWrong)

/-- 'laws.FnExactOffNorm': WHATEVER THE INPUT: true; the input reads as it did. -/
def fnExactOffNormSpec : ChangeSpec := { name := "fnExactOffNorm", fn := fun _ => fun
  | [d] => { results := [.lit (.bool true)], args := [d] }
  | _ => none }
def fnExactOffNormRow : OpenClaim := { program := "ytcldaafmbmmhiab", sum := "964360762bc73e163af47e46f18043fbf49d1e1fd4475606e33b29896e95d1ec", func := "loop.example/g01327/laws.FnExactOffNorm", spec := "fnExactOffNorm", inPlace := ["math.sqrt", "math.Float64bits", "math.Float64frombits"], unfollowed := true, recurses := true, apart := false }
def FnExactOffNormSaid : Prop := fnExactOffNormRow.holds Try.pinned (OpenSpec.ofChange fnExactOffNormSpec)

/-- ITS FALSE NEIGHBOUR: 'it returns false'. Refute it at one input. -/
def fnExactOffNormWrong : ChangeSpec := { name := "fnExactOffNorm", fn := fun _ => fun
  | [d] => { results := [.lit (.bool false)], args := [d] }
  | _ => none }
def FnExactOffNormWrongFalsely : Prop := fnExactOffNormRow.holds Try.pinned (OpenSpec.ofChange fnExactOffNormWrong)

/-- 'laws.FnExactTurnOf': WHATEVER THE INPUT: true; the input reads as it did. -/
def fnExactTurnOfSpec : ChangeSpec := { name := "fnExactTurnOf", fn := fun _ => fun
  | [d1, d2, d3] => { results := [.lit (.bool true)], args := [d1, d2, d3] }
  | _ => none }
def fnExactTurnOfRow : OpenClaim := { program := "ytcldaafmbmmhiab", sum := "964360762bc73e163af47e46f18043fbf49d1e1fd4475606e33b29896e95d1ec", func := "loop.example/g01327/laws.FnExactTurnOf", spec := "fnExactTurnOf", inPlace := ["math.sqrt", "math.Float64bits", "math.Float64frombits"], apart := false }
def FnExactTurnOfSaid : Prop := fnExactTurnOfRow.holds Try.pinned (OpenSpec.ofChange fnExactTurnOfSpec)

/-- ITS FALSE NEIGHBOUR: 'it returns false'. Refute it at one input. -/
def fnExactTurnOfWrong : ChangeSpec := { name := "fnExactTurnOf", fn := fun _ => fun
  | [d1, d2, d3] => { results := [.lit (.bool false)], args := [d1, d2, d3] }
  | _ => none }
def FnExactTurnOfWrongFalsely : Prop := fnExactTurnOfRow.holds Try.pinned (OpenSpec.ofChange fnExactTurnOfWrong)

/-- 'laws.FnExactPowerRounds': WHATEVER THE INPUT: true; the input reads as it did. -/
def fnExactPowerRoundsSpec : ChangeSpec := { name := "fnExactPowerRounds", fn := fun _ => fun
  | [d1, d2, d3] => { results := [.lit (.bool true)], args := [d1, d2, d3] }
  | _ => none }
def fnExactPowerRoundsRow : OpenClaim := { program := "ytcldaafmbmmhiab", sum := "964360762bc73e163af47e46f18043fbf49d1e1fd4475606e33b29896e95d1ec", func := "loop.example/g01327/laws.FnExactPowerRounds", spec := "fnExactPowerRounds", inPlace := ["math.sqrt", "math.Float64bits", "math.Float64frombits"], apart := false }
def FnExactPowerRoundsSaid : Prop := fnExactPowerRoundsRow.holds Try.pinned (OpenSpec.ofChange fnExactPowerRoundsSpec)

/-- ITS FALSE NEIGHBOUR: 'it returns false'. Refute it at one input. -/
def fnExactPowerRoundsWrong : ChangeSpec := { name := "fnExactPowerRounds", fn := fun _ => fun
  | [d1, d2, d3] => { results := [.lit (.bool false)], args := [d1, d2, d3] }
  | _ => none }
def FnExactPowerRoundsWrongFalsely : Prop := fnExactPowerRoundsRow.holds Try.pinned (OpenSpec.ofChange fnExactPowerRoundsWrong)

/-- 'laws.FnExactValidChain': WHATEVER THE INPUT: true; the input reads as it did. -/
def fnExactValidChainSpec : ChangeSpec := { name := "fnExactValidChain", fn := fun _ => fun
  | [d] => { results := [.lit (.bool true)], args := [d] }
  | _ => none }
def fnExactValidChainRow : OpenClaim := { program := "ytcldaafmbmmhiab", sum := "964360762bc73e163af47e46f18043fbf49d1e1fd4475606e33b29896e95d1ec", func := "loop.example/g01327/laws.FnExactValidChain", spec := "fnExactValidChain", inPlace := ["math.Float64bits", "math.Float64frombits"], apart := false }
def FnExactValidChainSaid : Prop := fnExactValidChainRow.holds Try.pinned (OpenSpec.ofChange fnExactValidChainSpec)

/-- ITS FALSE NEIGHBOUR: 'it returns false'. Refute it at one input. -/
def fnExactValidChainWrong : ChangeSpec := { name := "fnExactValidChain", fn := fun _ => fun
  | [d] => { results := [.lit (.bool false)], args := [d] }
  | _ => none }
def FnExactValidChainWrongFalsely : Prop := fnExactValidChainRow.holds Try.pinned (OpenSpec.ofChange fnExactValidChainWrong)

/-- 'laws.FnExactSameChain': WHATEVER THE INPUT: true; the input reads as it did. -/
def fnExactSameChainSpec : ChangeSpec := { name := "fnExactSameChain", fn := fun _ => fun
  | [d1, d2] => { results := [.lit (.bool true)], args := [d1, d2] }
  | _ => none }
def fnExactSameChainRow : OpenClaim := { program := "ytcldaafmbmmhiab", sum := "964360762bc73e163af47e46f18043fbf49d1e1fd4475606e33b29896e95d1ec", func := "loop.example/g01327/laws.FnExactSameChain", spec := "fnExactSameChain", inPlace := ["math.Float32bits"], unfollowed := true, recurses := true, apart := false }
def FnExactSameChainSaid : Prop := fnExactSameChainRow.holds Try.pinned (OpenSpec.ofChange fnExactSameChainSpec)

/-- ITS FALSE NEIGHBOUR: 'it returns false'. Refute it at one input. -/
def fnExactSameChainWrong : ChangeSpec := { name := "fnExactSameChain", fn := fun _ => fun
  | [d1, d2] => { results := [.lit (.bool false)], args := [d1, d2] }
  | _ => none }
def FnExactSameChainWrongFalsely : Prop := fnExactSameChainRow.holds Try.pinned (OpenSpec.ofChange fnExactSameChainWrong)

/-- 'laws.FnExactCountBelow': WHATEVER THE INPUT: true; the input reads as it did. -/
def fnExactCountBelowSpec : ChangeSpec := { name := "fnExactCountBelow", fn := fun _ => fun
  | [d1, d2] => { results := [.lit (.bool true)], args := [d1, d2] }
  | _ => none }
def fnExactCountBelowRow : OpenClaim := { program := "ytcldaafmbmmhiab", sum := "964360762bc73e163af47e46f18043fbf49d1e1fd4475606e33b29896e95d1ec", func := "loop.example/g01327/laws.FnExactCountBelow", spec := "fnExactCountBelow", inPlace := ["math.Float64bits", "math.Float64frombits"], apart := false }
def FnExactCountBelowSaid : Prop := fnExactCountBelowRow.holds Try.pinned (OpenSpec.ofChange fnExactCountBelowSpec)

/-- ITS FALSE NEIGHBOUR: 'it returns false'. Refute it at one input. -/
def fnExactCountBelowWrong : ChangeSpec := { name := "fnExactCountBelow", fn := fun _ => fun
  | [d1, d2] => { results := [.lit (.bool false)], args := [d1, d2] }
  | _ => none }
def FnExactCountBelowWrongFalsely : Prop := fnExactCountBelowRow.holds Try.pinned (OpenSpec.ofChange fnExactCountBelowWrong)

/-- 'laws.FnExactSpanOfChain': WHATEVER THE INPUT: true; the input reads as it did. -/
def fnExactSpanOfChainSpec : ChangeSpec := { name := "fnExactSpanOfChain", fn := fun _ => fun
  | [d] => { results := [.lit (.bool true)], args := [d] }
  | _ => none }
def fnExactSpanOfChainRow : OpenClaim := { program := "ytcldaafmbmmhiab", sum := "964360762bc73e163af47e46f18043fbf49d1e1fd4475606e33b29896e95d1ec", func := "loop.example/g01327/laws.FnExactSpanOfChain", spec := "fnExactSpanOfChain", inPlace := ["math.Float64bits", "math.Float64frombits"], apart := false }
def FnExactSpanOfChainSaid : Prop := fnExactSpanOfChainRow.holds Try.pinned (OpenSpec.ofChange fnExactSpanOfChainSpec)

/-- ITS FALSE NEIGHBOUR: 'it returns false'. Refute it at one input. -/
def fnExactSpanOfChainWrong : ChangeSpec := { name := "fnExactSpanOfChain", fn := fun _ => fun
  | [d] => { results := [.lit (.bool false)], args := [d] }
  | _ => none }
def FnExactSpanOfChainWrongFalsely : Prop := fnExactSpanOfChainRow.holds Try.pinned (OpenSpec.ofChange fnExactSpanOfChainWrong)

/- THE SECOND FORM. 'bulk': how many values and letters a reading holds, each counted each time it is reached (what is shared counts as often as it is met; a slice's spare places count too). A statement '..UptoSaid' is the law's where the arguments, and the package variables that the reading takes, are together of bulk at most 1048576: NARROWER than '..Said'. Prove '..Said' where nothing that the law and all that it calls make is longer than what came in: it says more and counts as full. Else prove '..UptoSaid'. A law counts once. -/
mutual
def uptoBulk {H : Type} : DataW H → Nat
  | .lit (.string bytes) => bytes.length + 1
  | .lit _ => 1
  | .nil => 1
  | .ptr d => uptoBulk d + 1
  | .slice elems spare => uptoBulkAll elems + uptoBulkAll spare + 1
  | .agg parts => uptoBulkAll parts + 1
  | .iface _ d => uptoBulk d + 1
  | .map entries => uptoBulkEntries entries + 1
  | .held _ => 1
def uptoBulkAll {H : Type} : List (DataW H) → Nat
  | [] => 0
  | d :: r => uptoBulk d + uptoBulkAll r
def uptoBulkEntries {H : Type} : List (Lit × DataW H) → Nat
  | [] => 0
  | x :: r => uptoBulkEntry x + uptoBulkEntries r
def uptoBulkEntry {H : Type} : Lit × DataW H → Nat
  | (.string bytes, d) => bytes.length + uptoBulk d + 1
  | (_, d) => uptoBulk d + 1
 end
def uptoSmall : (H : Type) → List (DataW H) → Bool := fun _ ds => decide (uptoBulkAll ds ≤ 1048576)
def OpenSpec.upto (s : _root_.Go.ChangeSpec) : _root_.Go.OpenSpec := { _root_.Go.OpenSpec.ofChange s with cond := some uptoSmall }

/-- 'laws.FnExactRankOfValues', WHERE WHAT IT READS IS OF BULK AT MOST 1048576: true; the input reads as it did. -/
def fnExactRankOfValuesUptoRow : OpenClaim := { program := "ytcldaafmbmmhiab", sum := "964360762bc73e163af47e46f18043fbf49d1e1fd4475606e33b29896e95d1ec", func := "loop.example/g01327/laws.FnExactRankOfValues", spec := "fnExactRankOfValues", inPlace := ["math.Float64bits", "math.Float64frombits"], apart := false, narrowed := true }
def FnExactRankOfValuesUptoSaid : Prop := fnExactRankOfValuesUptoRow.holds Try.pinned (OpenSpec.upto fnExactRankOfValuesSpec)

/-- 'laws.FnExactUnitVector', WHERE WHAT IT READS IS OF BULK AT MOST 1048576: true; the input reads as it did. -/
def fnExactUnitVectorUptoRow : OpenClaim := { program := "ytcldaafmbmmhiab", sum := "964360762bc73e163af47e46f18043fbf49d1e1fd4475606e33b29896e95d1ec", func := "loop.example/g01327/laws.FnExactUnitVector", spec := "fnExactUnitVector", inPlace := ["math.sqrt", "math.Float64bits", "math.Float64frombits"], apart := false, narrowed := true }
def FnExactUnitVectorUptoSaid : Prop := fnExactUnitVectorUptoRow.holds Try.pinned (OpenSpec.upto fnExactUnitVectorSpec)

/-- 'laws.FnExactCosineOf', WHERE WHAT IT READS IS OF BULK AT MOST 1048576: true; the input reads as it did. -/
def fnExactCosineOfUptoRow : OpenClaim := { program := "ytcldaafmbmmhiab", sum := "964360762bc73e163af47e46f18043fbf49d1e1fd4475606e33b29896e95d1ec", func := "loop.example/g01327/laws.FnExactCosineOf", spec := "fnExactCosineOf", inPlace := ["math.sqrt", "math.Float64bits", "math.Float64frombits"], apart := false, narrowed := true }
def FnExactCosineOfUptoSaid : Prop := fnExactCosineOfUptoRow.holds Try.pinned (OpenSpec.upto fnExactCosineOfSpec)

/-- 'laws.FnExactRayleighOf', WHERE WHAT IT READS IS OF BULK AT MOST 1048576: true; the input reads as it did. -/
def fnExactRayleighOfUptoRow : OpenClaim := { program := "ytcldaafmbmmhiab", sum := "964360762bc73e163af47e46f18043fbf49d1e1fd4475606e33b29896e95d1ec", func := "loop.example/g01327/laws.FnExactRayleighOf", spec := "fnExactRayleighOf", inPlace := ["math.Float64bits", "math.Float64frombits"], apart := false, narrowed := true }
def FnExactRayleighOfUptoSaid : Prop := fnExactRayleighOfUptoRow.holds Try.pinned (OpenSpec.upto fnExactRayleighOfSpec)

/-- 'laws.FnExactIsSymmetric', WHERE WHAT IT READS IS OF BULK AT MOST 1048576: true; the input reads as it did. -/
def fnExactIsSymmetricUptoRow : OpenClaim := { program := "ytcldaafmbmmhiab", sum := "964360762bc73e163af47e46f18043fbf49d1e1fd4475606e33b29896e95d1ec", func := "loop.example/g01327/laws.FnExactIsSymmetric", spec := "fnExactIsSymmetric", inPlace := ["math.Float64bits", "math.Float64frombits"], apart := false, narrowed := true }
def FnExactIsSymmetricUptoSaid : Prop := fnExactIsSymmetricUptoRow.holds Try.pinned (OpenSpec.upto fnExactIsSymmetricSpec)

/-- 'laws.FnExactOffNorm', WHERE WHAT IT READS IS OF BULK AT MOST 1048576: true; the input reads as it did. -/
def fnExactOffNormUptoRow : OpenClaim := { program := "ytcldaafmbmmhiab", sum := "964360762bc73e163af47e46f18043fbf49d1e1fd4475606e33b29896e95d1ec", func := "loop.example/g01327/laws.FnExactOffNorm", spec := "fnExactOffNorm", inPlace := ["math.sqrt", "math.Float64bits", "math.Float64frombits"], unfollowed := true, recurses := true, apart := false, narrowed := true }
def FnExactOffNormUptoSaid : Prop := fnExactOffNormUptoRow.holds Try.pinned (OpenSpec.upto fnExactOffNormSpec)

/-- 'laws.FnExactTurnOf', WHERE WHAT IT READS IS OF BULK AT MOST 1048576: true; the input reads as it did. -/
def fnExactTurnOfUptoRow : OpenClaim := { program := "ytcldaafmbmmhiab", sum := "964360762bc73e163af47e46f18043fbf49d1e1fd4475606e33b29896e95d1ec", func := "loop.example/g01327/laws.FnExactTurnOf", spec := "fnExactTurnOf", inPlace := ["math.sqrt", "math.Float64bits", "math.Float64frombits"], apart := false, narrowed := true }
def FnExactTurnOfUptoSaid : Prop := fnExactTurnOfUptoRow.holds Try.pinned (OpenSpec.upto fnExactTurnOfSpec)

/-- 'laws.FnExactPowerRounds', WHERE WHAT IT READS IS OF BULK AT MOST 1048576: true; the input reads as it did. -/
def fnExactPowerRoundsUptoRow : OpenClaim := { program := "ytcldaafmbmmhiab", sum := "964360762bc73e163af47e46f18043fbf49d1e1fd4475606e33b29896e95d1ec", func := "loop.example/g01327/laws.FnExactPowerRounds", spec := "fnExactPowerRounds", inPlace := ["math.sqrt", "math.Float64bits", "math.Float64frombits"], apart := false, narrowed := true }
def FnExactPowerRoundsUptoSaid : Prop := fnExactPowerRoundsUptoRow.holds Try.pinned (OpenSpec.upto fnExactPowerRoundsSpec)

/-- 'laws.FnExactValidChain', WHERE WHAT IT READS IS OF BULK AT MOST 1048576: true; the input reads as it did. -/
def fnExactValidChainUptoRow : OpenClaim := { program := "ytcldaafmbmmhiab", sum := "964360762bc73e163af47e46f18043fbf49d1e1fd4475606e33b29896e95d1ec", func := "loop.example/g01327/laws.FnExactValidChain", spec := "fnExactValidChain", inPlace := ["math.Float64bits", "math.Float64frombits"], apart := false, narrowed := true }
def FnExactValidChainUptoSaid : Prop := fnExactValidChainUptoRow.holds Try.pinned (OpenSpec.upto fnExactValidChainSpec)

/-- 'laws.FnExactSameChain', WHERE WHAT IT READS IS OF BULK AT MOST 1048576: true; the input reads as it did. -/
def fnExactSameChainUptoRow : OpenClaim := { program := "ytcldaafmbmmhiab", sum := "964360762bc73e163af47e46f18043fbf49d1e1fd4475606e33b29896e95d1ec", func := "loop.example/g01327/laws.FnExactSameChain", spec := "fnExactSameChain", inPlace := ["math.Float32bits"], unfollowed := true, recurses := true, apart := false, narrowed := true }
def FnExactSameChainUptoSaid : Prop := fnExactSameChainUptoRow.holds Try.pinned (OpenSpec.upto fnExactSameChainSpec)

/-- 'laws.FnExactCountBelow', WHERE WHAT IT READS IS OF BULK AT MOST 1048576: true; the input reads as it did. -/
def fnExactCountBelowUptoRow : OpenClaim := { program := "ytcldaafmbmmhiab", sum := "964360762bc73e163af47e46f18043fbf49d1e1fd4475606e33b29896e95d1ec", func := "loop.example/g01327/laws.FnExactCountBelow", spec := "fnExactCountBelow", inPlace := ["math.Float64bits", "math.Float64frombits"], apart := false, narrowed := true }
def FnExactCountBelowUptoSaid : Prop := fnExactCountBelowUptoRow.holds Try.pinned (OpenSpec.upto fnExactCountBelowSpec)

/-- 'laws.FnExactSpanOfChain', WHERE WHAT IT READS IS OF BULK AT MOST 1048576: true; the input reads as it did. -/
def fnExactSpanOfChainUptoRow : OpenClaim := { program := "ytcldaafmbmmhiab", sum := "964360762bc73e163af47e46f18043fbf49d1e1fd4475606e33b29896e95d1ec", func := "loop.example/g01327/laws.FnExactSpanOfChain", spec := "fnExactSpanOfChain", inPlace := ["math.Float64bits", "math.Float64frombits"], apart := false, narrowed := true }
def FnExactSpanOfChainUptoSaid : Prop := fnExactSpanOfChainUptoRow.holds Try.pinned (OpenSpec.upto fnExactSpanOfChainSpec)

end Rows
end Go.Proofs.Ytcldaafmbmmhiab
