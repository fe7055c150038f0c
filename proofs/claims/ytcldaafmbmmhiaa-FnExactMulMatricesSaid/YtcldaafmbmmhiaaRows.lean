/-
  No cell of these rows narrows 'for every input' (looked for: loops, veiled, ifaces, maps, wideKeys, modest, calm, conditions, laid).
  DERIVED. THE GIVEN ROWS OF THIS SEAT. 12 by the template 'for every input the law returns true; each argument reads behind the call as it read before'; 0 by the template 'total and deterministic' (their statements: YtcldaafmbmmhiaaTotals.lean).
  GIVEN WITH THE SEED: the statements are not yours to turn. If you find one false, say at which input.
  Laid BY PROGRAM, IN A SANDBOX (cutbox-rows.mjs): the forced cells as the released guide's own fill.sh prints them over the translation 125295f6aff93395… (all of the seat's roots in one cut). By AI agents, Wed Nov 11 2026. No macro, syntax, notation, axiom, sorry.
-/
import Derived.Test.YtcldaafmbmmhiaaChecked
import GoSem.Claim
import GoSem.ClaimJoined
import GoSem.ClaimMapViews
import Derived.JoinedTies
import Derived.KernelRfl
namespace Go.Proofs.Ytcldaafmbmmhiaa
/- THE CELL 'sum', in the pinned program and in every row, IS THE sha256 OF THE DUMP (.gsa) THAT YtcldaafmbmmhiaaProg.lean LOADS. Nothing in Lean hashes anything: it is a label: what it is worth is what the hold of that sum in a sandbox is worth. -/
noncomputable def Try.pinned : Pinned := { name := "ytcldaafmbmmhiaa", sum := "125295f6aff933951e4196aca849e5910359f2dc97f4669982dabbbf2e299e7a", checked := Try.checked }
namespace Rows
def none {H : Type} : Left H := { results := [], args := [] }

/-- 'laws.FnExactPutMatrix': WHATEVER THE INPUT: true; the input reads as it did. -/
def fnExactPutMatrixSpec : ChangeSpec := { name := "fnExactPutMatrix", fn := fun _ => fun
  | [d1, d2, d3, d4] => { results := [.lit (.bool true)], args := [d1, d2, d3, d4] }
  | _ => none }
def fnExactPutMatrixRow : OpenClaim := { program := "ytcldaafmbmmhiaa", sum := "125295f6aff933951e4196aca849e5910359f2dc97f4669982dabbbf2e299e7a", func := "loop.example/g01327/laws.FnExactPutMatrix", spec := "fnExactPutMatrix", inPlace := ["math.Float64bits", "math.Float64frombits"], apart := false }
def FnExactPutMatrixSaid : Prop := fnExactPutMatrixRow.holds Try.pinned (OpenSpec.ofChange fnExactPutMatrixSpec)

/-- ITS FALSE NEIGHBOUR: 'it returns false'. Refute it at one input. -/
def fnExactPutMatrixWrong : ChangeSpec := { name := "fnExactPutMatrix", fn := fun _ => fun
  | [d1, d2, d3, d4] => { results := [.lit (.bool false)], args := [d1, d2, d3, d4] }
  | _ => none }
def FnExactPutMatrixWrongFalsely : Prop := fnExactPutMatrixRow.holds Try.pinned (OpenSpec.ofChange fnExactPutMatrixWrong)

/-- 'laws.FnExactWeighMatrices': WHATEVER THE INPUT: true; the input reads as it did. -/
def fnExactWeighMatricesSpec : ChangeSpec := { name := "fnExactWeighMatrices", fn := fun _ => fun
  | [d1, d2, d3, d4] => { results := [.lit (.bool true)], args := [d1, d2, d3, d4] }
  | _ => none }
def fnExactWeighMatricesRow : OpenClaim := { program := "ytcldaafmbmmhiaa", sum := "125295f6aff933951e4196aca849e5910359f2dc97f4669982dabbbf2e299e7a", func := "loop.example/g01327/laws.FnExactWeighMatrices", spec := "fnExactWeighMatrices", inPlace := ["math.Float64bits", "math.Float64frombits"], apart := false }
def FnExactWeighMatricesSaid : Prop := fnExactWeighMatricesRow.holds Try.pinned (OpenSpec.ofChange fnExactWeighMatricesSpec)

/-- ITS FALSE NEIGHBOUR: 'it returns false'. Refute it at one input. -/
def fnExactWeighMatricesWrong : ChangeSpec := { name := "fnExactWeighMatrices", fn := fun _ => fun
  | [d1, d2, d3, d4] => { results := [.lit (.bool false)], args := [d1, d2, d3, d4] }
  | _ => none }
def FnExactWeighMatricesWrongFalsely : Prop := fnExactWeighMatricesRow.holds Try.pinned (OpenSpec.ofChange fnExactWeighMatricesWrong)

/-- 'laws.FnExactMulMatrices': WHATEVER THE INPUT: true; the input reads as it did. -/
def fnExactMulMatricesSpec : ChangeSpec := { name := "fnExactMulMatrices", fn := fun _ => fun
  | [d1, d2] => { results := [.lit (.bool true)], args := [d1, d2] }
  | _ => none }
def fnExactMulMatricesRow : OpenClaim := { program := "ytcldaafmbmmhiaa", sum := "125295f6aff933951e4196aca849e5910359f2dc97f4669982dabbbf2e299e7a", func := "loop.example/g01327/laws.FnExactMulMatrices", spec := "fnExactMulMatrices", inPlace := ["math.Float64bits", "math.Float64frombits"], apart := false }
def FnExactMulMatricesSaid : Prop := fnExactMulMatricesRow.holds Try.pinned (OpenSpec.ofChange fnExactMulMatricesSpec)

/-- ITS FALSE NEIGHBOUR: 'it returns false'. Refute it at one input. -/
def fnExactMulMatricesWrong : ChangeSpec := { name := "fnExactMulMatrices", fn := fun _ => fun
  | [d1, d2] => { results := [.lit (.bool false)], args := [d1, d2] }
  | _ => none }
def FnExactMulMatricesWrongFalsely : Prop := fnExactMulMatricesRow.holds Try.pinned (OpenSpec.ofChange fnExactMulMatricesWrong)

/-- 'laws.FnExactKroneckerMatrix': WHATEVER THE INPUT: true; the input reads as it did. -/
def fnExactKroneckerMatrixSpec : ChangeSpec := { name := "fnExactKroneckerMatrix", fn := fun _ => fun
  | [d1, d2] => { results := [.lit (.bool true)], args := [d1, d2] }
  | _ => none }
def fnExactKroneckerMatrixRow : OpenClaim := { program := "ytcldaafmbmmhiaa", sum := "125295f6aff933951e4196aca849e5910359f2dc97f4669982dabbbf2e299e7a", func := "loop.example/g01327/laws.FnExactKroneckerMatrix", spec := "fnExactKroneckerMatrix", inPlace := ["math.Float64bits", "math.Float64frombits"], apart := false }
def FnExactKroneckerMatrixSaid : Prop := fnExactKroneckerMatrixRow.holds Try.pinned (OpenSpec.ofChange fnExactKroneckerMatrixSpec)

/-- ITS FALSE NEIGHBOUR: 'it returns false'. Refute it at one input. -/
def fnExactKroneckerMatrixWrong : ChangeSpec := { name := "fnExactKroneckerMatrix", fn := fun _ => fun
  | [d1, d2] => { results := [.lit (.bool false)], args := [d1, d2] }
  | _ => none }
def FnExactKroneckerMatrixWrongFalsely : Prop := fnExactKroneckerMatrixRow.holds Try.pinned (OpenSpec.ofChange fnExactKroneckerMatrixWrong)

/-- 'laws.FnExactMulBlocks': WHATEVER THE INPUT: true; the input reads as it did. -/
def fnExactMulBlocksSpec : ChangeSpec := { name := "fnExactMulBlocks", fn := fun _ => fun
  | [d1, d2, d3] => { results := [.lit (.bool true)], args := [d1, d2, d3] }
  | _ => none }
def fnExactMulBlocksRow : OpenClaim := { program := "ytcldaafmbmmhiaa", sum := "125295f6aff933951e4196aca849e5910359f2dc97f4669982dabbbf2e299e7a", func := "loop.example/g01327/laws.FnExactMulBlocks", spec := "fnExactMulBlocks", inPlace := ["math.Float64bits", "math.Float64frombits"], apart := false }
def FnExactMulBlocksSaid : Prop := fnExactMulBlocksRow.holds Try.pinned (OpenSpec.ofChange fnExactMulBlocksSpec)

/-- ITS FALSE NEIGHBOUR: 'it returns false'. Refute it at one input. -/
def fnExactMulBlocksWrong : ChangeSpec := { name := "fnExactMulBlocks", fn := fun _ => fun
  | [d1, d2, d3] => { results := [.lit (.bool false)], args := [d1, d2, d3] }
  | _ => none }
def FnExactMulBlocksWrongFalsely : Prop := fnExactMulBlocksRow.holds Try.pinned (OpenSpec.ofChange fnExactMulBlocksWrong)

/-- 'laws.FnExactPowerMatrix': WHATEVER THE INPUT: true; the input reads as it did. -/
def fnExactPowerMatrixSpec : ChangeSpec := { name := "fnExactPowerMatrix", fn := fun _ => fun
  | [d1, d2] => { results := [.lit (.bool true)], args := [d1, d2] }
  | _ => none }
def fnExactPowerMatrixRow : OpenClaim := { program := "ytcldaafmbmmhiaa", sum := "125295f6aff933951e4196aca849e5910359f2dc97f4669982dabbbf2e299e7a", func := "loop.example/g01327/laws.FnExactPowerMatrix", spec := "fnExactPowerMatrix", inPlace := ["math.Float64bits", "math.Float64frombits"], apart := false }
def FnExactPowerMatrixSaid : Prop := fnExactPowerMatrixRow.holds Try.pinned (OpenSpec.ofChange fnExactPowerMatrixSpec)

/-- ITS FALSE NEIGHBOUR: 'it returns false'. Refute it at one input. -/
def fnExactPowerMatrixWrong : ChangeSpec := { name := "fnExactPowerMatrix", fn := fun _ => fun
  | [d1, d2] => { results := [.lit (.bool false)], args := [d1, d2] }
  | _ => none }
def FnExactPowerMatrixWrongFalsely : Prop := fnExactPowerMatrixRow.holds Try.pinned (OpenSpec.ofChange fnExactPowerMatrixWrong)

/-- 'laws.FnExactCompanionMatrix': WHATEVER THE INPUT: true; the input reads as it did. -/
def fnExactCompanionMatrixSpec : ChangeSpec := { name := "fnExactCompanionMatrix", fn := fun _ => fun
  | [d] => { results := [.lit (.bool true)], args := [d] }
  | _ => none }
def fnExactCompanionMatrixRow : OpenClaim := { program := "ytcldaafmbmmhiaa", sum := "125295f6aff933951e4196aca849e5910359f2dc97f4669982dabbbf2e299e7a", func := "loop.example/g01327/laws.FnExactCompanionMatrix", spec := "fnExactCompanionMatrix", inPlace := ["math.Float64bits", "math.Float64frombits"], apart := false }
def FnExactCompanionMatrixSaid : Prop := fnExactCompanionMatrixRow.holds Try.pinned (OpenSpec.ofChange fnExactCompanionMatrixSpec)

/-- ITS FALSE NEIGHBOUR: 'it returns false'. Refute it at one input. -/
def fnExactCompanionMatrixWrong : ChangeSpec := { name := "fnExactCompanionMatrix", fn := fun _ => fun
  | [d] => { results := [.lit (.bool false)], args := [d] }
  | _ => none }
def FnExactCompanionMatrixWrongFalsely : Prop := fnExactCompanionMatrixRow.holds Try.pinned (OpenSpec.ofChange fnExactCompanionMatrixWrong)

/-- 'laws.FnExactSymmetricPart': WHATEVER THE INPUT: true; the input reads as it did. -/
def fnExactSymmetricPartSpec : ChangeSpec := { name := "fnExactSymmetricPart", fn := fun _ => fun
  | [d] => { results := [.lit (.bool true)], args := [d] }
  | _ => none }
def fnExactSymmetricPartRow : OpenClaim := { program := "ytcldaafmbmmhiaa", sum := "125295f6aff933951e4196aca849e5910359f2dc97f4669982dabbbf2e299e7a", func := "loop.example/g01327/laws.FnExactSymmetricPart", spec := "fnExactSymmetricPart", inPlace := ["math.Float64bits", "math.Float64frombits"], apart := false }
def FnExactSymmetricPartSaid : Prop := fnExactSymmetricPartRow.holds Try.pinned (OpenSpec.ofChange fnExactSymmetricPartSpec)

/-- ITS FALSE NEIGHBOUR: 'it returns false'. Refute it at one input. -/
def fnExactSymmetricPartWrong : ChangeSpec := { name := "fnExactSymmetricPart", fn := fun _ => fun
  | [d] => { results := [.lit (.bool false)], args := [d] }
  | _ => none }
def FnExactSymmetricPartWrongFalsely : Prop := fnExactSymmetricPartRow.holds Try.pinned (OpenSpec.ofChange fnExactSymmetricPartWrong)

/-- 'laws.FnExactExpMatrix': WHATEVER THE INPUT: true; the input reads as it did. -/
def fnExactExpMatrixSpec : ChangeSpec := { name := "fnExactExpMatrix", fn := fun _ => fun
  | [d1, d2] => { results := [.lit (.bool true)], args := [d1, d2] }
  | _ => none }
def fnExactExpMatrixRow : OpenClaim := { program := "ytcldaafmbmmhiaa", sum := "125295f6aff933951e4196aca849e5910359f2dc97f4669982dabbbf2e299e7a", func := "loop.example/g01327/laws.FnExactExpMatrix", spec := "fnExactExpMatrix", inPlace := ["math.Float64bits", "math.Float64frombits"], apart := false }
def FnExactExpMatrixSaid : Prop := fnExactExpMatrixRow.holds Try.pinned (OpenSpec.ofChange fnExactExpMatrixSpec)

/-- ITS FALSE NEIGHBOUR: 'it returns false'. Refute it at one input. -/
def fnExactExpMatrixWrong : ChangeSpec := { name := "fnExactExpMatrix", fn := fun _ => fun
  | [d1, d2] => { results := [.lit (.bool false)], args := [d1, d2] }
  | _ => none }
def FnExactExpMatrixWrongFalsely : Prop := fnExactExpMatrixRow.holds Try.pinned (OpenSpec.ofChange fnExactExpMatrixWrong)

/-- 'laws.FnExactSignsOf': WHATEVER THE INPUT: true; the input reads as it did. -/
def fnExactSignsOfSpec : ChangeSpec := { name := "fnExactSignsOf", fn := fun _ => fun
  | [d] => { results := [.lit (.bool true)], args := [d] }
  | _ => none }
def fnExactSignsOfRow : OpenClaim := { program := "ytcldaafmbmmhiaa", sum := "125295f6aff933951e4196aca849e5910359f2dc97f4669982dabbbf2e299e7a", func := "loop.example/g01327/laws.FnExactSignsOf", spec := "fnExactSignsOf", inPlace := ["math.Float64bits", "math.Float64frombits"], apart := false }
def FnExactSignsOfSaid : Prop := fnExactSignsOfRow.holds Try.pinned (OpenSpec.ofChange fnExactSignsOfSpec)

/-- ITS FALSE NEIGHBOUR: 'it returns false'. Refute it at one input. -/
def fnExactSignsOfWrong : ChangeSpec := { name := "fnExactSignsOf", fn := fun _ => fun
  | [d] => { results := [.lit (.bool false)], args := [d] }
  | _ => none }
def FnExactSignsOfWrongFalsely : Prop := fnExactSignsOfRow.holds Try.pinned (OpenSpec.ofChange fnExactSignsOfWrong)

/-- 'laws.FnExactPolarPart': WHATEVER THE INPUT: true; the input reads as it did. -/
def fnExactPolarPartSpec : ChangeSpec := { name := "fnExactPolarPart", fn := fun _ => fun
  | [d1, d2] => { results := [.lit (.bool true)], args := [d1, d2] }
  | _ => none }
def fnExactPolarPartRow : OpenClaim := { program := "ytcldaafmbmmhiaa", sum := "125295f6aff933951e4196aca849e5910359f2dc97f4669982dabbbf2e299e7a", func := "loop.example/g01327/laws.FnExactPolarPart", spec := "fnExactPolarPart", inPlace := ["math.sqrt", "math.Float64bits", "math.Float64frombits"], apart := false }
def FnExactPolarPartSaid : Prop := fnExactPolarPartRow.holds Try.pinned (OpenSpec.ofChange fnExactPolarPartSpec)

/-- ITS FALSE NEIGHBOUR: 'it returns false'. Refute it at one input. -/
def fnExactPolarPartWrong : ChangeSpec := { name := "fnExactPolarPart", fn := fun _ => fun
  | [d1, d2] => { results := [.lit (.bool false)], args := [d1, d2] }
  | _ => none }
def FnExactPolarPartWrongFalsely : Prop := fnExactPolarPartRow.holds Try.pinned (OpenSpec.ofChange fnExactPolarPartWrong)

/-- 'laws.FnExactTurnPair': WHATEVER THE INPUT: true; the input reads as it did. -/
def fnExactTurnPairSpec : ChangeSpec := { name := "fnExactTurnPair", fn := fun _ => fun
  | [d1, d2, d3] => { results := [.lit (.bool true)], args := [d1, d2, d3] }
  | _ => none }
def fnExactTurnPairRow : OpenClaim := { program := "ytcldaafmbmmhiaa", sum := "125295f6aff933951e4196aca849e5910359f2dc97f4669982dabbbf2e299e7a", func := "loop.example/g01327/laws.FnExactTurnPair", spec := "fnExactTurnPair", inPlace := ["math.sqrt", "math.Float64bits", "math.Float64frombits"], unfollowed := true, recurses := true, apart := false }
def FnExactTurnPairSaid : Prop := fnExactTurnPairRow.holds Try.pinned (OpenSpec.ofChange fnExactTurnPairSpec)

/-- ITS FALSE NEIGHBOUR: 'it returns false'. Refute it at one input. -/
def fnExactTurnPairWrong : ChangeSpec := { name := "fnExactTurnPair", fn := fun _ => fun
  | [d1, d2, d3] => { results := [.lit (.bool false)], args := [d1, d2, d3] }
  | _ => none }
def FnExactTurnPairWrongFalsely : Prop := fnExactTurnPairRow.holds Try.pinned (OpenSpec.ofChange fnExactTurnPairWrong)

/- THE SECOND FORM. 'bulk': how many values and letters a reading holds, each counted each time it is reached (what is shared counts as often as it is met; a slice's spare places count too). A statement '..UptoSaid' is the law's where the arguments, and the package variables that the reading takes, are together of bulk at most 1048576: NARROWER than '..Said'. Prove '..Said' where nothing that the law and all that it calls make is longer than what came in: it says more and counts as full. Else prove '..UptoSaid'. A law counts once. -/
mutual
def uptoBulk {H : Type} : DataW H → Nat
  | .lit (.string bytes) => bytes.length + 1
  | .lit _ => 1
  | .nil => 1
  | .ptr d => uptoBulk d + 1
  | .slice elems spare => uptoBulkAll elems + uptoBulkAll spare + 1
  | .agg parts => uptoBulkAll parts + 1
  | .iface _ d => uptoBulk d + 1
  | .map entries => uptoBulkEntries entries + 1
  | .held _ => 1
def uptoBulkAll {H : Type} : List (DataW H) → Nat
  | [] => 0
  | d :: r => uptoBulk d + uptoBulkAll r
def uptoBulkEntries {H : Type} : List (Lit × DataW H) → Nat
  | [] => 0
  | x :: r => uptoBulkEntry x + uptoBulkEntries r
def uptoBulkEntry {H : Type} : Lit × DataW H → Nat
  | (.string bytes, d) => bytes.length + uptoBulk d + 1
  | (_, d) => uptoBulk d + 1
 end
def uptoSmall : (H : Type) → List (DataW H) → Bool := fun _ ds => decide (uptoBulkAll ds ≤ 1048576)
def OpenSpec.upto (s : _root_.Go.ChangeSpec) : _root_.Go.OpenSpec := { _root_.Go.OpenSpec.ofChange s with cond := some uptoSmall }

/-- 'laws.FnExactPutMatrix', WHERE WHAT IT READS IS OF BULK AT MOST 1048576: true; the input reads as it did. -/
def fnExactPutMatrixUptoRow : OpenClaim := { program := "ytcldaafmbmmhiaa", sum := "125295f6aff933951e4196aca849e5910359f2dc97f4669982dabbbf2e299e7a", func := "loop.example/g01327/laws.FnExactPutMatrix", spec := "fnExactPutMatrix", inPlace := ["math.Float64bits", "math.Float64frombits"], apart := false, narrowed := true }
def FnExactPutMatrixUptoSaid : Prop := fnExactPutMatrixUptoRow.holds Try.pinned (OpenSpec.upto fnExactPutMatrixSpec)

/-- 'laws.FnExactWeighMatrices', WHERE WHAT IT READS IS OF BULK AT MOST 1048576: true; the input reads as it did. -/
def fnExactWeighMatricesUptoRow : OpenClaim := { program := "ytcldaafmbmmhiaa", sum := "125295f6aff933951e4196aca849e5910359f2dc97f4669982dabbbf2e299e7a", func := "loop.example/g01327/laws.FnExactWeighMatrices", spec := "fnExactWeighMatrices", inPlace := ["math.Float64bits", "math.Float64frombits"], apart := false, narrowed := true }
def FnExactWeighMatricesUptoSaid : Prop := fnExactWeighMatricesUptoRow.holds Try.pinned (OpenSpec.upto fnExactWeighMatricesSpec)

/-- 'laws.FnExactMulMatrices', WHERE WHAT IT READS IS OF BULK AT MOST 1048576: true; the input reads as it did. -/
def fnExactMulMatricesUptoRow : OpenClaim := { program := "ytcldaafmbmmhiaa", sum := "125295f6aff933951e4196aca849e5910359f2dc97f4669982dabbbf2e299e7a", func := "loop.example/g01327/laws.FnExactMulMatrices", spec := "fnExactMulMatrices", inPlace := ["math.Float64bits", "math.Float64frombits"], apart := false, narrowed := true }
def FnExactMulMatricesUptoSaid : Prop := fnExactMulMatricesUptoRow.holds Try.pinned (OpenSpec.upto fnExactMulMatricesSpec)

/-- 'laws.FnExactKroneckerMatrix', WHERE WHAT IT READS IS OF BULK AT MOST 1048576: true; the input reads as it did. -/
def fnExactKroneckerMatrixUptoRow : OpenClaim := { program := "ytcldaafmbmmhiaa", sum := "125295f6aff933951e4196aca849e5910359f2dc97f4669982dabbbf2e299e7a", func := "loop.example/g01327/laws.FnExactKroneckerMatrix", spec := "fnExactKroneckerMatrix", inPlace := ["math.Float64bits", "math.Float64frombits"], apart := false, narrowed := true }
def FnExactKroneckerMatrixUptoSaid : Prop := fnExactKroneckerMatrixUptoRow.holds Try.pinned (OpenSpec.upto fnExactKroneckerMatrixSpec)

/-- 'laws.FnExactMulBlocks', WHERE WHAT IT READS IS OF BULK AT MOST 1048576: true; the input reads as it did. -/
def fnExactMulBlocksUptoRow : OpenClaim := { program := "ytcldaafmbmmhiaa", sum := "125295f6aff933951e4196aca849e5910359f2dc97f4669982dabbbf2e299e7a", func := "loop.example/g01327/laws.FnExactMulBlocks", spec := "fnExactMulBlocks", inPlace := ["math.Float64bits", "math.Float64frombits"], apart := false, narrowed := true }
def FnExactMulBlocksUptoSaid : Prop := fnExactMulBlocksUptoRow.holds Try.pinned (OpenSpec.upto fnExactMulBlocksSpec)

/-- 'laws.FnExactPowerMatrix', WHERE WHAT IT READS IS OF BULK AT MOST 1048576: true; the input reads as it did. -/
def fnExactPowerMatrixUptoRow : OpenClaim := { program := "ytcldaafmbmmhiaa", sum := "125295f6aff933951e4196aca849e5910359f2dc97f4669982dabbbf2e299e7a", func := "loop.example/g01327/laws.FnExactPowerMatrix", spec := "fnExactPowerMatrix", inPlace := ["math.Float64bits", "math.Float64frombits"], apart := false, narrowed := true }
def FnExactPowerMatrixUptoSaid : Prop := fnExactPowerMatrixUptoRow.holds Try.pinned (OpenSpec.upto fnExactPowerMatrixSpec)

/-- 'laws.FnExactCompanionMatrix', WHERE WHAT IT READS IS OF BULK AT MOST 1048576: true; the input reads as it did. -/
def fnExactCompanionMatrixUptoRow : OpenClaim := { program := "ytcldaafmbmmhiaa", sum := "125295f6aff933951e4196aca849e5910359f2dc97f4669982dabbbf2e299e7a", func := "loop.example/g01327/laws.FnExactCompanionMatrix", spec := "fnExactCompanionMatrix", inPlace := ["math.Float64bits", "math.Float64frombits"], apart := false, narrowed := true }
def FnExactCompanionMatrixUptoSaid : Prop := fnExactCompanionMatrixUptoRow.holds Try.pinned (OpenSpec.upto fnExactCompanionMatrixSpec)

/-- 'laws.FnExactSymmetricPart', WHERE WHAT IT READS IS OF BULK AT MOST 1048576: true; the input reads as it did. -/
def fnExactSymmetricPartUptoRow : OpenClaim := { program := "ytcldaafmbmmhiaa", sum := "125295f6aff933951e4196aca849e5910359f2dc97f4669982dabbbf2e299e7a", func := "loop.example/g01327/laws.FnExactSymmetricPart", spec := "fnExactSymmetricPart", inPlace := ["math.Float64bits", "math.Float64frombits"], apart := false, narrowed := true }
def FnExactSymmetricPartUptoSaid : Prop := fnExactSymmetricPartUptoRow.holds Try.pinned (OpenSpec.upto fnExactSymmetricPartSpec)

/-- 'laws.FnExactExpMatrix', WHERE WHAT IT READS IS OF BULK AT MOST 1048576: true; the input reads as it did. -/
def fnExactExpMatrixUptoRow : OpenClaim := { program := "ytcldaafmbmmhiaa", sum := "125295f6aff933951e4196aca849e5910359f2dc97f4669982dabbbf2e299e7a", func := "loop.example/g01327/laws.FnExactExpMatrix", spec := "fnExactExpMatrix", inPlace := ["math.Float64bits", "math.Float64frombits"], apart := false, narrowed := true }
def FnExactExpMatrixUptoSaid : Prop := fnExactExpMatrixUptoRow.holds Try.pinned (OpenSpec.upto fnExactExpMatrixSpec)

/-- 'laws.FnExactSignsOf', WHERE WHAT IT READS IS OF BULK AT MOST 1048576: true; the input reads as it did. -/
def fnExactSignsOfUptoRow : OpenClaim := { program := "ytcldaafmbmmhiaa", sum := "125295f6aff933951e4196aca849e5910359f2dc97f4669982dabbbf2e299e7a", func := "loop.example/g01327/laws.FnExactSignsOf", spec := "fnExactSignsOf", inPlace := ["math.Float64bits", "math.Float64frombits"], apart := false, narrowed := true }
def FnExactSignsOfUptoSaid : Prop := fnExactSignsOfUptoRow.holds Try.pinned (OpenSpec.upto fnExactSignsOfSpec)

/-- 'laws.FnExactPolarPart', WHERE WHAT IT READS IS OF BULK AT MOST 1048576: true; the input reads as it did. -/
def fnExactPolarPartUptoRow : OpenClaim := { program := "ytcldaafmbmmhiaa", sum := "125295f6aff933951e4196aca849e5910359f2dc97f4669982dabbbf2e299e7a", func := "loop.example/g01327/laws.FnExactPolarPart", spec := "fnExactPolarPart", inPlace := ["math.sqrt", "math.Float64bits", "math.Float64frombits"], apart := false, narrowed := true }
def FnExactPolarPartUptoSaid : Prop := fnExactPolarPartUptoRow.holds Try.pinned (OpenSpec.upto fnExactPolarPartSpec)

/-- 'laws.FnExactTurnPair', WHERE WHAT IT READS IS OF BULK AT MOST 1048576: true; the input reads as it did. -/
def fnExactTurnPairUptoRow : OpenClaim := { program := "ytcldaafmbmmhiaa", sum := "125295f6aff933951e4196aca849e5910359f2dc97f4669982dabbbf2e299e7a", func := "loop.example/g01327/laws.FnExactTurnPair", spec := "fnExactTurnPair", inPlace := ["math.sqrt", "math.Float64bits", "math.Float64frombits"], unfollowed := true, recurses := true, apart := false, narrowed := true }
def FnExactTurnPairUptoSaid : Prop := fnExactTurnPairUptoRow.holds Try.pinned (OpenSpec.upto fnExactTurnPairSpec)

end Rows
end Go.Proofs.Ytcldaafmbmmhiaa
