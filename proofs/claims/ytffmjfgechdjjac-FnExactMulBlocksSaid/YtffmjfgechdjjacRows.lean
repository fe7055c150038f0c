/-
  No cell of these rows narrows 'for every input' (looked for: loops, veiled, ifaces, maps, wideKeys, modest, calm, conditions, laid).
  DERIVED. THE GIVEN ROWS OF THIS SEAT. 6 by the template 'for every input the law returns true; each argument reads behind the call as it read before'; 0 by the template 'total and deterministic' (their statements: YtffmjfgechdjjacTotals.lean).
  GIVEN WITH THE SEED: the statements are not yours to turn. If you find one false, say at which input.
  Laid BY PROGRAM, IN A SANDBOX (cutbox-rows.mjs): the forced cells as the released guide's own fill.sh prints them over the translation d8f2f413990e2baf… (all of the seat's roots in one cut). By AI agents, Wed Nov 11 2026. No macro, syntax, notation, axiom, sorry.
-/
import Derived.Test.YtffmjfgechdjjacChecked
import GoSem.Claim
import GoSem.ClaimJoined
import GoSem.ClaimMapViews
import Derived.JoinedTies
import Derived.KernelRfl
namespace Go.Proofs.Ytffmjfgechdjjac
/- THE CELL 'sum', in the pinned program and in every row, IS THE sha256 OF THE DUMP (.gsa) THAT YtffmjfgechdjjacProg.lean LOADS. Nothing in Lean hashes anything: it is a label: what it is worth is what the hold of that sum in a sandbox is worth. -/
noncomputable def Try.pinned : Pinned := { name := "ytffmjfgechdjjac", sum := "d8f2f413990e2bafdc4c62c93712d0833e8fa160a56f0a422aa0f734f2128eec", checked := Try.checked }
namespace Rows
def none {H : Type} : Left H := { results := [], args := [] }

/-- 'laws.FnExactKroneckerMatrix': WHATEVER THE INPUT: true; the input reads as it did. -/
def fnExactKroneckerMatrixSpec : ChangeSpec := { name := "fnExactKroneckerMatrix", fn := fun _ => fun
  | [d1, d2] => { results := [.lit (.bool true)], args := [d1, d2] }
  | _ => none }
def fnExactKroneckerMatrixRow : OpenClaim := { program := "ytffmjfgechdjjac", sum := "d8f2f413990e2bafdc4c62c93712d0833e8fa160a56f0a422aa0f734f2128eec", func := "loop.example/g01327/laws.FnExactKroneckerMatrix", spec := "fnExactKroneckerMatrix", inPlace := ["math.Float64bits", "math.Float64frombits"], apart := false }
def FnExactKroneckerMatrixSaid : Prop := fnExactKroneckerMatrixRow.holds Try.pinned (OpenSpec.ofChange fnExactKroneckerMatrixSpec)

/-- ITS FALSE NEIGHBOUR: 'it returns false'. Refute it at one input. -/
def fnExactKroneckerMatrixWrong : ChangeSpec := { name := "fnExactKroneckerMatrix", fn := fun _ => fun
  | [d1, d2] => { results := [.lit (.bool false)], args := [d1, d2] }
  | _ => none }
def FnExactKroneckerMatrixWrongFalsely : Prop := fnExactKroneckerMatrixRow.holds Try.pinned (OpenSpec.ofChange fnExactKroneckerMatrixWrong)

/-- 'laws.FnExactMulBlocks': WHATEVER THE INPUT: true; the input reads as it did. -/
def fnExactMulBlocksSpec : ChangeSpec := { name := "fnExactMulBlocks", fn := fun _ => fun
  | [d1, d2, d3] => { results := [.lit (.bool true)], args := [d1, d2, d3] }
  | _ => none }
def fnExactMulBlocksRow : OpenClaim := { program := "ytffmjfgechdjjac", sum := "d8f2f413990e2bafdc4c62c93712d0833e8fa160a56f0a422aa0f734f2128eec", func := "loop.example/g01327/laws.FnExactMulBlocks", spec := "fnExactMulBlocks", inPlace := ["math.Float64bits", "math.Float64frombits"], apart := false }
def FnExactMulBlocksSaid : Prop := fnExactMulBlocksRow.holds Try.pinned (OpenSpec.ofChange fnExactMulBlocksSpec)

/-- ITS FALSE NEIGHBOUR: 'it returns false'. Refute it at one input. -/
def fnExactMulBlocksWrong : ChangeSpec := { name := "fnExactMulBlocks", fn := fun _ => fun
  | [d1, d2, d3] => { results := [.lit (.bool false)], args := [d1, d2, d3] }
  | _ => none }
def FnExactMulBlocksWrongFalsely : Prop := fnExactMulBlocksRow.holds Try.pinned (OpenSpec.ofChange fnExactMulBlocksWrong)

/-- 'laws.FnExactPowerMatrix': WHATEVER THE INPUT: true; the input reads as it did. -/
def fnExactPowerMatrixSpec : ChangeSpec := { name := "fnExactPowerMatrix", fn := fun _ => fun
  | [d1, d2] => { results := [.lit (.bool true)], args := [d1, d2] }
  | _ => none }
def fnExactPowerMatrixRow : OpenClaim := { program := "ytffmjfgechdjjac", sum := "d8f2f413990e2bafdc4c62c93712d0833e8fa160a56f0a422aa0f734f2128eec", func := "loop.example/g01327/laws.FnExactPowerMatrix", spec := "fnExactPowerMatrix", inPlace := ["math.Float64bits", "math.Float64frombits"], apart := false }
def FnExactPowerMatrixSaid : Prop := fnExactPowerMatrixRow.holds Try.pinned (OpenSpec.ofChange fnExactPowerMatrixSpec)

/-- ITS FALSE NEIGHBOUR: 'it returns false'. Refute it at one input. -/
def fnExactPowerMatrixWrong : ChangeSpec := { name := "fnExactPowerMatrix", fn := fun _ => fun
  | [d1, d2] => { results := [.lit (.bool false)], args := [d1, d2] }
  | _ => none }
def FnExactPowerMatrixWrongFalsely : Prop := fnExactPowerMatrixRow.holds Try.pinned (OpenSpec.ofChange fnExactPowerMatrixWrong)

/-- 'laws.FnExactExpMatrix': WHATEVER THE INPUT: true; the input reads as it did. -/
def fnExactExpMatrixSpec : ChangeSpec := { name := "fnExactExpMatrix", fn := fun _ => fun
  | [d1, d2] => { results := [.lit (.bool true)], args := [d1, d2] }
  | _ => none }
def fnExactExpMatrixRow : OpenClaim := { program := "ytffmjfgechdjjac", sum := "d8f2f413990e2bafdc4c62c93712d0833e8fa160a56f0a422aa0f734f2128eec", func := "loop.example/g01327/laws.FnExactExpMatrix", spec := "fnExactExpMatrix", inPlace := ["math.Float64bits", "math.Float64frombits"], apart := false }
def FnExactExpMatrixSaid : Prop := fnExactExpMatrixRow.holds Try.pinned (OpenSpec.ofChange fnExactExpMatrixSpec)

/-- ITS FALSE NEIGHBOUR: 'it returns false'. Refute it at one input. -/
def fnExactExpMatrixWrong : ChangeSpec := { name := "fnExactExpMatrix", fn := fun _ => fun
  | [d1, d2] => { results := [.lit (.bool false)], args := [d1, d2] }
  | _ => none }
def FnExactExpMatrixWrongFalsely : Prop := fnExactExpMatrixRow.holds Try.pinned (OpenSpec.ofChange fnExactExpMatrixWrong)

/-- 'laws.FnExactSignsOf': WHATEVER THE INPUT: true; the input reads as it did. -/
def fnExactSignsOfSpec : ChangeSpec := { name := "fnExactSignsOf", fn := fun _ => fun
  | [d] => { results := [.lit (.bool true)], args := [d] }
  | _ => none }
def fnExactSignsOfRow : OpenClaim := { program := "ytffmjfgechdjjac", sum := "d8f2f413990e2bafdc4c62c93712d0833e8fa160a56f0a422aa0f734f2128eec", func := "loop.example/g01327/laws.FnExactSignsOf", spec := "fnExactSignsOf", inPlace := ["math.Float64bits", "math.Float64frombits"], apart := false }
def FnExactSignsOfSaid : Prop := fnExactSignsOfRow.holds Try.pinned (OpenSpec.ofChange fnExactSignsOfSpec)

/-- ITS FALSE NEIGHBOUR: 'it returns false'. Refute it at one input. -/
def fnExactSignsOfWrong : ChangeSpec := { name := "fnExactSignsOf", fn := fun _ => fun
  | [d] => { results := [.lit (.bool false)], args := [d] }
  | _ => none }
def FnExactSignsOfWrongFalsely : Prop := fnExactSignsOfRow.holds Try.pinned (OpenSpec.ofChange fnExactSignsOfWrong)

/-- 'laws.FnExactTurnPair': WHATEVER THE INPUT: true; the input reads as it did. -/
def fnExactTurnPairSpec : ChangeSpec := { name := "fnExactTurnPair", fn := fun _ => fun
  | [d1, d2, d3] => { results := [.lit (.bool true)], args := [d1, d2, d3] }
  | _ => none }
def fnExactTurnPairRow : OpenClaim := { program := "ytffmjfgechdjjac", sum := "d8f2f413990e2bafdc4c62c93712d0833e8fa160a56f0a422aa0f734f2128eec", func := "loop.example/g01327/laws.FnExactTurnPair", spec := "fnExactTurnPair", inPlace := ["math.sqrt", "math.Float64bits", "math.Float64frombits"], unfollowed := true, recurses := true, apart := false }
def FnExactTurnPairSaid : Prop := fnExactTurnPairRow.holds Try.pinned (OpenSpec.ofChange fnExactTurnPairSpec)

/-- ITS FALSE NEIGHBOUR: 'it returns false'. Refute it at one input. -/
def fnExactTurnPairWrong : ChangeSpec := { name := "fnExactTurnPair", fn := fun _ => fun
  | [d1, d2, d3] => { results := [.lit (.bool false)], args := [d1, d2, d3] }
  | _ => none }
def FnExactTurnPairWrongFalsely : Prop := fnExactTurnPairRow.holds Try.pinned (OpenSpec.ofChange fnExactTurnPairWrong)

/- THE SECOND FORM. 'bulk': how many values and letters a reading holds, each counted each time it is reached (what is shared counts as often as it is met; a slice's spare places count too). A statement '..UptoSaid' is the law's where the arguments, and the package variables that the reading takes, are together of bulk at most 1048576: NARROWER than '..Said'. Prove '..Said' where nothing that the law and all that it calls make is longer than what came in: it says more and counts as full. Else prove '..UptoSaid'. A law counts once. -/
mutual
def uptoBulk {H : Type} : DataW H → Nat
  | .lit (.string bytes) => bytes.length + 1
  | .lit _ => 1
  | .nil => 1
  | .ptr d => uptoBulk d + 1
  | .slice elems spare => uptoBulkAll elems + uptoBulkAll spare + 1
  | .agg parts => uptoBulkAll parts + 1
  | .iface _ d => uptoBulk d + 1
  | .map entries => uptoBulkEntries entries + 1
  | .held _ => 1
def uptoBulkAll {H : Type} : List (DataW H) → Nat
  | [] => 0
  | d :: r => uptoBulk d + uptoBulkAll r
def uptoBulkEntries {H : Type} : List (Lit × DataW H) → Nat
  | [] => 0
  | x :: r => uptoBulkEntry x + uptoBulkEntries r
def uptoBulkEntry {H : Type} : Lit × DataW H → Nat
  | (.string bytes, d) => bytes.length + uptoBulk d + 1
  | (_, d) => uptoBulk d + 1
 end
def uptoSmall : (H : Type) → List (DataW H) → Bool := fun _ ds => decide (uptoBulkAll ds ≤ 1048576)
def OpenSpec.upto (s : _root_.Go.ChangeSpec) : _root_.Go.OpenSpec := { _root_.Go.OpenSpec.ofChange s with cond := some uptoSmall }

/-- 'laws.FnExactKroneckerMatrix', WHERE WHAT IT READS IS OF BULK AT MOST 1048576: true; the input reads as it did. -/
def fnExactKroneckerMatrixUptoRow : OpenClaim := { program := "ytffmjfgechdjjac", sum := "d8f2f413990e2bafdc4c62c93712d0833e8fa160a56f0a422aa0f734f2128eec", func := "loop.example/g01327/laws.FnExactKroneckerMatrix", spec := "fnExactKroneckerMatrix", inPlace := ["math.Float64bits", "math.Float64frombits"], apart := false, narrowed := true }
def FnExactKroneckerMatrixUptoSaid : Prop := fnExactKroneckerMatrixUptoRow.holds Try.pinned (OpenSpec.upto fnExactKroneckerMatrixSpec)

/-- 'laws.FnExactMulBlocks', WHERE WHAT IT READS IS OF BULK AT MOST 1048576: true; the input reads as it did. -/
def fnExactMulBlocksUptoRow : OpenClaim := { program := "ytffmjfgechdjjac", sum := "d8f2f413990e2bafdc4c62c93712d0833e8fa160a56f0a422aa0f734f2128eec", func := "loop.example/g01327/laws.FnExactMulBlocks", spec := "fnExactMulBlocks", inPlace := ["math.Float64bits", "math.Float64frombits"], apart := false, narrowed := true }
def FnExactMulBlocksUptoSaid : Prop := fnExactMulBlocksUptoRow.holds Try.pinned (OpenSpec.upto fnExactMulBlocksSpec)

/-- 'laws.FnExactPowerMatrix', WHERE WHAT IT READS IS OF BULK AT MOST 1048576: true; the input reads as it did. -/
def fnExactPowerMatrixUptoRow : OpenClaim := { program := "ytffmjfgechdjjac", sum := "d8f2f413990e2bafdc4c62c93712d0833e8fa160a56f0a422aa0f734f2128eec", func := "loop.example/g01327/laws.FnExactPowerMatrix", spec := "fnExactPowerMatrix", inPlace := ["math.Float64bits", "math.Float64frombits"], apart := false, narrowed := true }
def FnExactPowerMatrixUptoSaid : Prop := fnExactPowerMatrixUptoRow.holds Try.pinned (OpenSpec.upto fnExactPowerMatrixSpec)

/-- 'laws.FnExactExpMatrix', WHERE WHAT IT READS IS OF BULK AT MOST 1048576: true; the input reads as it did. -/
def fnExactExpMatrixUptoRow : OpenClaim := { program := "ytffmjfgechdjjac", sum := "d8f2f413990e2bafdc4c62c93712d0833e8fa160a56f0a422aa0f734f2128eec", func := "loop.example/g01327/laws.FnExactExpMatrix", spec := "fnExactExpMatrix", inPlace := ["math.Float64bits", "math.Float64frombits"], apart := false, narrowed := true }
def FnExactExpMatrixUptoSaid : Prop := fnExactExpMatrixUptoRow.holds Try.pinned (OpenSpec.upto fnExactExpMatrixSpec)

/-- 'laws.FnExactSignsOf', WHERE WHAT IT READS IS OF BULK AT MOST 1048576: true; the input reads as it did. -/
def fnExactSignsOfUptoRow : OpenClaim := { program := "ytffmjfgechdjjac", sum := "d8f2f413990e2bafdc4c62c93712d0833e8fa160a56f0a422aa0f734f2128eec", func := "loop.example/g01327/laws.FnExactSignsOf", spec := "fnExactSignsOf", inPlace := ["math.Float64bits", "math.Float64frombits"], apart := false, narrowed := true }
def FnExactSignsOfUptoSaid : Prop := fnExactSignsOfUptoRow.holds Try.pinned (OpenSpec.upto fnExactSignsOfSpec)

/-- 'laws.FnExactTurnPair', WHERE WHAT IT READS IS OF BULK AT MOST 1048576: true; the input reads as it did. -/
def fnExactTurnPairUptoRow : OpenClaim := { program := "ytffmjfgechdjjac", sum := "d8f2f413990e2bafdc4c62c93712d0833e8fa160a56f0a422aa0f734f2128eec", func := "loop.example/g01327/laws.FnExactTurnPair", spec := "fnExactTurnPair", inPlace := ["math.sqrt", "math.Float64bits", "math.Float64frombits"], unfollowed := true, recurses := true, apart := false, narrowed := true }
def FnExactTurnPairUptoSaid : Prop := fnExactTurnPairUptoRow.holds Try.pinned (OpenSpec.upto fnExactTurnPairSpec)

end Rows
end Go.Proofs.Ytffmjfgechdjjac
