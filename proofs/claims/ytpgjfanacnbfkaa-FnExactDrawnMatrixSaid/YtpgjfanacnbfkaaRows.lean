/-
  No cell of these rows narrows 'for every input' (looked for: loops, veiled, ifaces, maps, wideKeys, modest, calm, conditions, laid).
  DERIVED. THE GIVEN ROWS OF THIS SEAT. 12 by the template 'for every input the law returns true; each argument reads behind the call as it read before'; 0 by the template 'total and deterministic' (their statements: YtpgjfanacnbfkaaTotals.lean).
  GIVEN WITH THE SEED: the statements are not yours to turn. If you find one false, say at which input.
  Laid BY PROGRAM, IN A SANDBOX (cutbox-rows.mjs): the forced cells as the released guide's own fill.sh prints them over the translation ee8d64e5b9d68798… (all of the seat's roots in one cut). By AI agents, Wed Nov 11 2026. No macro, syntax, notation, axiom, sorry.
-/
import Derived.Test.YtpgjfanacnbfkaaChecked
import GoSem.Claim
import GoSem.ClaimJoined
import GoSem.ClaimMapViews
import Derived.JoinedTies
import Derived.KernelRfl
namespace Go.Proofs.Ytpgjfanacnbfkaa
/- THE CELL 'sum', in the pinned program and in every row, IS THE sha256 OF THE DUMP (.gsa) THAT YtpgjfanacnbfkaaProg.lean LOADS. Nothing in Lean hashes anything: it is a label: what it is worth is what the hold of that sum in a sandbox is worth. -/
noncomputable def Try.pinned : Pinned := { name := "ytpgjfanacnbfkaa", sum := "ee8d64e5b9d68798b6171474baa5808416544bdb0e430dfdc5d096a7d6a85ae7", checked := Try.checked }
namespace Rows
def none {H : Type} : Left H := { results := [], args := [] }

/-- 'laws.FnMatrices': WHATEVER THE INPUT: true; the input reads as it did. -/
def fnMatricesSpec : ChangeSpec := { name := "fnMatrices", fn := fun _ => fun
  | [d1, d2] => { results := [.lit (.bool true)], args := [d1, d2] }
  | _ => none }
def fnMatricesRow : OpenClaim := { program := "ytpgjfanacnbfkaa", sum := "ee8d64e5b9d68798b6171474baa5808416544bdb0e430dfdc5d096a7d6a85ae7", func := "loop.example/g01327/laws.FnMatrices", spec := "fnMatrices", inPlace := ["math.Float64bits", "math.Float64frombits", "(*sync.WaitGroup).Add", "internal/race.ReleaseMerge", "internal/race.Disable", "internal/race.Enable", "internal/synctest.IsInBubble", "internal/synctest.Associate[sync.WaitGroup]", "sync.fatal", "sync/atomic.OrUint64", "sync/atomic.AddUint64", "internal/race.Read", "sync/atomic.LoadUint64", "sync/atomic.StoreUint64", "internal/synctest.Disassociate[sync.WaitGroup]", "sync.runtime_Semrelease", "(*sync.WaitGroup).Done", "(*sync.WaitGroup).Wait", "internal/race.Acquire", "internal/synctest.IsAssociated[sync.WaitGroup]", "sync/atomic.CompareAndSwapUint64", "internal/race.Write", "sync.runtime_SemacquireWaitGroup", "math.Float32bits"], unfollowed := true, recurses := true, leaving := true, apart := false }
def FnMatricesSaid : Prop := fnMatricesRow.holds Try.pinned (OpenSpec.ofChange fnMatricesSpec)

/-- ITS FALSE NEIGHBOUR: 'it returns false'. Refute it at one input. -/
def fnMatricesWrong : ChangeSpec := { name := "fnMatrices", fn := fun _ => fun
  | [d1, d2] => { results := [.lit (.bool false)], args := [d1, d2] }
  | _ => none }
def FnMatricesWrongFalsely : Prop := fnMatricesRow.holds Try.pinned (OpenSpec.ofChange fnMatricesWrong)

/-- 'laws.FnOrders': WHATEVER THE INPUT: true; the input reads as it did. -/
def fnOrdersSpec : ChangeSpec := { name := "fnOrders", fn := fun _ => fun
  | [d1, d2] => { results := [.lit (.bool true)], args := [d1, d2] }
  | _ => none }
def fnOrdersRow : OpenClaim := { program := "ytpgjfanacnbfkaa", sum := "ee8d64e5b9d68798b6171474baa5808416544bdb0e430dfdc5d096a7d6a85ae7", func := "loop.example/g01327/laws.FnOrders", spec := "fnOrders", inPlace := ["math.Float64bits", "math.Float64frombits", "math.Float32bits"], apart := false }
def FnOrdersSaid : Prop := fnOrdersRow.holds Try.pinned (OpenSpec.ofChange fnOrdersSpec)

/-- ITS FALSE NEIGHBOUR: 'it returns false'. Refute it at one input. -/
def fnOrdersWrong : ChangeSpec := { name := "fnOrders", fn := fun _ => fun
  | [d1, d2] => { results := [.lit (.bool false)], args := [d1, d2] }
  | _ => none }
def FnOrdersWrongFalsely : Prop := fnOrdersRow.holds Try.pinned (OpenSpec.ofChange fnOrdersWrong)

/-- 'laws.FnExactValidMatrix': WHATEVER THE INPUT: true; the input reads as it did. -/
def fnExactValidMatrixSpec : ChangeSpec := { name := "fnExactValidMatrix", fn := fun _ => fun
  | [d] => { results := [.lit (.bool true)], args := [d] }
  | _ => none }
def fnExactValidMatrixRow : OpenClaim := { program := "ytpgjfanacnbfkaa", sum := "ee8d64e5b9d68798b6171474baa5808416544bdb0e430dfdc5d096a7d6a85ae7", func := "loop.example/g01327/laws.FnExactValidMatrix", spec := "fnExactValidMatrix", inPlace := ["math.Float64bits", "math.Float64frombits"], apart := false }
def FnExactValidMatrixSaid : Prop := fnExactValidMatrixRow.holds Try.pinned (OpenSpec.ofChange fnExactValidMatrixSpec)

/-- ITS FALSE NEIGHBOUR: 'it returns false'. Refute it at one input. -/
def fnExactValidMatrixWrong : ChangeSpec := { name := "fnExactValidMatrix", fn := fun _ => fun
  | [d] => { results := [.lit (.bool false)], args := [d] }
  | _ => none }
def FnExactValidMatrixWrongFalsely : Prop := fnExactValidMatrixRow.holds Try.pinned (OpenSpec.ofChange fnExactValidMatrixWrong)

/-- 'laws.FnExactSameMatrix': WHATEVER THE INPUT: true; the input reads as it did. -/
def fnExactSameMatrixSpec : ChangeSpec := { name := "fnExactSameMatrix", fn := fun _ => fun
  | [d1, d2] => { results := [.lit (.bool true)], args := [d1, d2] }
  | _ => none }
def fnExactSameMatrixRow : OpenClaim := { program := "ytpgjfanacnbfkaa", sum := "ee8d64e5b9d68798b6171474baa5808416544bdb0e430dfdc5d096a7d6a85ae7", func := "loop.example/g01327/laws.FnExactSameMatrix", spec := "fnExactSameMatrix", inPlace := ["math.Float32bits"], apart := false }
def FnExactSameMatrixSaid : Prop := fnExactSameMatrixRow.holds Try.pinned (OpenSpec.ofChange fnExactSameMatrixSpec)

/-- ITS FALSE NEIGHBOUR: 'it returns false'. Refute it at one input. -/
def fnExactSameMatrixWrong : ChangeSpec := { name := "fnExactSameMatrix", fn := fun _ => fun
  | [d1, d2] => { results := [.lit (.bool false)], args := [d1, d2] }
  | _ => none }
def FnExactSameMatrixWrongFalsely : Prop := fnExactSameMatrixRow.holds Try.pinned (OpenSpec.ofChange fnExactSameMatrixWrong)

/-- 'laws.FnExactIsVector': WHATEVER THE INPUT: true; the input reads as it did. -/
def fnExactIsVectorSpec : ChangeSpec := { name := "fnExactIsVector", fn := fun _ => fun
  | [d] => { results := [.lit (.bool true)], args := [d] }
  | _ => none }
def fnExactIsVectorRow : OpenClaim := { program := "ytpgjfanacnbfkaa", sum := "ee8d64e5b9d68798b6171474baa5808416544bdb0e430dfdc5d096a7d6a85ae7", func := "loop.example/g01327/laws.FnExactIsVector", spec := "fnExactIsVector", inPlace := ["math.Float64bits", "math.Float64frombits"], apart := false }
def FnExactIsVectorSaid : Prop := fnExactIsVectorRow.holds Try.pinned (OpenSpec.ofChange fnExactIsVectorSpec)

/-- ITS FALSE NEIGHBOUR: 'it returns false'. Refute it at one input. -/
def fnExactIsVectorWrong : ChangeSpec := { name := "fnExactIsVector", fn := fun _ => fun
  | [d] => { results := [.lit (.bool false)], args := [d] }
  | _ => none }
def FnExactIsVectorWrongFalsely : Prop := fnExactIsVectorRow.holds Try.pinned (OpenSpec.ofChange fnExactIsVectorWrong)

/-- 'laws.FnExactUnitMatrix': WHATEVER THE INPUT: true; the input reads as it did. -/
def fnExactUnitMatrixSpec : ChangeSpec := { name := "fnExactUnitMatrix", fn := fun _ => fun
  | [d] => { results := [.lit (.bool true)], args := [d] }
  | _ => none }
def fnExactUnitMatrixRow : OpenClaim := { program := "ytpgjfanacnbfkaa", sum := "ee8d64e5b9d68798b6171474baa5808416544bdb0e430dfdc5d096a7d6a85ae7", func := "loop.example/g01327/laws.FnExactUnitMatrix", spec := "fnExactUnitMatrix", apart := false }
def FnExactUnitMatrixSaid : Prop := fnExactUnitMatrixRow.holds Try.pinned (OpenSpec.ofChange fnExactUnitMatrixSpec)

/-- ITS FALSE NEIGHBOUR: 'it returns false'. Refute it at one input. -/
def fnExactUnitMatrixWrong : ChangeSpec := { name := "fnExactUnitMatrix", fn := fun _ => fun
  | [d] => { results := [.lit (.bool false)], args := [d] }
  | _ => none }
def FnExactUnitMatrixWrongFalsely : Prop := fnExactUnitMatrixRow.holds Try.pinned (OpenSpec.ofChange fnExactUnitMatrixWrong)

/-- 'laws.FnExactHilbertMatrix': WHATEVER THE INPUT: true; the input reads as it did. -/
def fnExactHilbertMatrixSpec : ChangeSpec := { name := "fnExactHilbertMatrix", fn := fun _ => fun
  | [d] => { results := [.lit (.bool true)], args := [d] }
  | _ => none }
def fnExactHilbertMatrixRow : OpenClaim := { program := "ytpgjfanacnbfkaa", sum := "ee8d64e5b9d68798b6171474baa5808416544bdb0e430dfdc5d096a7d6a85ae7", func := "loop.example/g01327/laws.FnExactHilbertMatrix", spec := "fnExactHilbertMatrix", apart := false }
def FnExactHilbertMatrixSaid : Prop := fnExactHilbertMatrixRow.holds Try.pinned (OpenSpec.ofChange fnExactHilbertMatrixSpec)

/-- ITS FALSE NEIGHBOUR: 'it returns false'. Refute it at one input. -/
def fnExactHilbertMatrixWrong : ChangeSpec := { name := "fnExactHilbertMatrix", fn := fun _ => fun
  | [d] => { results := [.lit (.bool false)], args := [d] }
  | _ => none }
def FnExactHilbertMatrixWrongFalsely : Prop := fnExactHilbertMatrixRow.holds Try.pinned (OpenSpec.ofChange fnExactHilbertMatrixWrong)

/-- 'laws.FnExactDrawnMatrix': WHATEVER THE INPUT: true; the input reads as it did. -/
def fnExactDrawnMatrixSpec : ChangeSpec := { name := "fnExactDrawnMatrix", fn := fun _ => fun
  | [d1, d2, d3] => { results := [.lit (.bool true)], args := [d1, d2, d3] }
  | _ => none }
def fnExactDrawnMatrixRow : OpenClaim := { program := "ytpgjfanacnbfkaa", sum := "ee8d64e5b9d68798b6171474baa5808416544bdb0e430dfdc5d096a7d6a85ae7", func := "loop.example/g01327/laws.FnExactDrawnMatrix", spec := "fnExactDrawnMatrix", apart := false }
def FnExactDrawnMatrixSaid : Prop := fnExactDrawnMatrixRow.holds Try.pinned (OpenSpec.ofChange fnExactDrawnMatrixSpec)

/-- ITS FALSE NEIGHBOUR: 'it returns false'. Refute it at one input. -/
def fnExactDrawnMatrixWrong : ChangeSpec := { name := "fnExactDrawnMatrix", fn := fun _ => fun
  | [d1, d2, d3] => { results := [.lit (.bool false)], args := [d1, d2, d3] }
  | _ => none }
def FnExactDrawnMatrixWrongFalsely : Prop := fnExactDrawnMatrixRow.holds Try.pinned (OpenSpec.ofChange fnExactDrawnMatrixWrong)

/-- 'laws.FnExactFlipMatrix': WHATEVER THE INPUT: true; the input reads as it did. -/
def fnExactFlipMatrixSpec : ChangeSpec := { name := "fnExactFlipMatrix", fn := fun _ => fun
  | [d] => { results := [.lit (.bool true)], args := [d] }
  | _ => none }
def fnExactFlipMatrixRow : OpenClaim := { program := "ytpgjfanacnbfkaa", sum := "ee8d64e5b9d68798b6171474baa5808416544bdb0e430dfdc5d096a7d6a85ae7", func := "loop.example/g01327/laws.FnExactFlipMatrix", spec := "fnExactFlipMatrix", inPlace := ["math.Float64bits", "math.Float64frombits"], apart := false }
def FnExactFlipMatrixSaid : Prop := fnExactFlipMatrixRow.holds Try.pinned (OpenSpec.ofChange fnExactFlipMatrixSpec)

/-- ITS FALSE NEIGHBOUR: 'it returns false'. Refute it at one input. -/
def fnExactFlipMatrixWrong : ChangeSpec := { name := "fnExactFlipMatrix", fn := fun _ => fun
  | [d] => { results := [.lit (.bool false)], args := [d] }
  | _ => none }
def FnExactFlipMatrixWrongFalsely : Prop := fnExactFlipMatrixRow.holds Try.pinned (OpenSpec.ofChange fnExactFlipMatrixWrong)

/-- 'laws.FnExactWeighMatrices': WHATEVER THE INPUT: true; the input reads as it did. -/
def fnExactWeighMatricesSpec : ChangeSpec := { name := "fnExactWeighMatrices", fn := fun _ => fun
  | [d1, d2, d3, d4] => { results := [.lit (.bool true)], args := [d1, d2, d3, d4] }
  | _ => none }
def fnExactWeighMatricesRow : OpenClaim := { program := "ytpgjfanacnbfkaa", sum := "ee8d64e5b9d68798b6171474baa5808416544bdb0e430dfdc5d096a7d6a85ae7", func := "loop.example/g01327/laws.FnExactWeighMatrices", spec := "fnExactWeighMatrices", inPlace := ["math.Float64bits", "math.Float64frombits"], apart := false }
def FnExactWeighMatricesSaid : Prop := fnExactWeighMatricesRow.holds Try.pinned (OpenSpec.ofChange fnExactWeighMatricesSpec)

/-- ITS FALSE NEIGHBOUR: 'it returns false'. Refute it at one input. -/
def fnExactWeighMatricesWrong : ChangeSpec := { name := "fnExactWeighMatrices", fn := fun _ => fun
  | [d1, d2, d3, d4] => { results := [.lit (.bool false)], args := [d1, d2, d3, d4] }
  | _ => none }
def FnExactWeighMatricesWrongFalsely : Prop := fnExactWeighMatricesRow.holds Try.pinned (OpenSpec.ofChange fnExactWeighMatricesWrong)

/-- 'laws.FnExactMulMatrices': WHATEVER THE INPUT: true; the input reads as it did. -/
def fnExactMulMatricesSpec : ChangeSpec := { name := "fnExactMulMatrices", fn := fun _ => fun
  | [d1, d2] => { results := [.lit (.bool true)], args := [d1, d2] }
  | _ => none }
def fnExactMulMatricesRow : OpenClaim := { program := "ytpgjfanacnbfkaa", sum := "ee8d64e5b9d68798b6171474baa5808416544bdb0e430dfdc5d096a7d6a85ae7", func := "loop.example/g01327/laws.FnExactMulMatrices", spec := "fnExactMulMatrices", inPlace := ["math.Float64bits", "math.Float64frombits"], apart := false }
def FnExactMulMatricesSaid : Prop := fnExactMulMatricesRow.holds Try.pinned (OpenSpec.ofChange fnExactMulMatricesSpec)

/-- ITS FALSE NEIGHBOUR: 'it returns false'. Refute it at one input. -/
def fnExactMulMatricesWrong : ChangeSpec := { name := "fnExactMulMatrices", fn := fun _ => fun
  | [d1, d2] => { results := [.lit (.bool false)], args := [d1, d2] }
  | _ => none }
def FnExactMulMatricesWrongFalsely : Prop := fnExactMulMatricesRow.holds Try.pinned (OpenSpec.ofChange fnExactMulMatricesWrong)

/-- 'laws.FnExactMulBlocks': WHATEVER THE INPUT: true; the input reads as it did. -/
def fnExactMulBlocksSpec : ChangeSpec := { name := "fnExactMulBlocks", fn := fun _ => fun
  | [d1, d2, d3] => { results := [.lit (.bool true)], args := [d1, d2, d3] }
  | _ => none }
def fnExactMulBlocksRow : OpenClaim := { program := "ytpgjfanacnbfkaa", sum := "ee8d64e5b9d68798b6171474baa5808416544bdb0e430dfdc5d096a7d6a85ae7", func := "loop.example/g01327/laws.FnExactMulBlocks", spec := "fnExactMulBlocks", inPlace := ["math.Float64bits", "math.Float64frombits"], apart := false }
def FnExactMulBlocksSaid : Prop := fnExactMulBlocksRow.holds Try.pinned (OpenSpec.ofChange fnExactMulBlocksSpec)

/-- ITS FALSE NEIGHBOUR: 'it returns false'. Refute it at one input. -/
def fnExactMulBlocksWrong : ChangeSpec := { name := "fnExactMulBlocks", fn := fun _ => fun
  | [d1, d2, d3] => { results := [.lit (.bool false)], args := [d1, d2, d3] }
  | _ => none }
def FnExactMulBlocksWrongFalsely : Prop := fnExactMulBlocksRow.holds Try.pinned (OpenSpec.ofChange fnExactMulBlocksWrong)

/- THE SECOND FORM. 'bulk': how many values and letters a reading holds, each counted each time it is reached (what is shared counts as often as it is met; a slice's spare places count too). A statement '..UptoSaid' is the law's where the arguments, and the package variables that the reading takes, are together of bulk at most 1048576: NARROWER than '..Said'. Prove '..Said' where nothing that the law and all that it calls make is longer than what came in: it says more and counts as full. Else prove '..UptoSaid'. A law counts once. -/
mutual
def uptoBulk {H : Type} : DataW H → Nat
  | .lit (.string bytes) => bytes.length + 1
  | .lit _ => 1
  | .nil => 1
  | .ptr d => uptoBulk d + 1
  | .slice elems spare => uptoBulkAll elems + uptoBulkAll spare + 1
  | .agg parts => uptoBulkAll parts + 1
  | .iface _ d => uptoBulk d + 1
  | .map entries => uptoBulkEntries entries + 1
  | .held _ => 1
def uptoBulkAll {H : Type} : List (DataW H) → Nat
  | [] => 0
  | d :: r => uptoBulk d + uptoBulkAll r
def uptoBulkEntries {H : Type} : List (Lit × DataW H) → Nat
  | [] => 0
  | x :: r => uptoBulkEntry x + uptoBulkEntries r
def uptoBulkEntry {H : Type} : Lit × DataW H → Nat
  | (.string bytes, d) => bytes.length + uptoBulk d + 1
  | (_, d) => uptoBulk d + 1
 end
def uptoSmall : (H : Type) → List (DataW H) → Bool := fun _ ds => decide (uptoBulkAll ds ≤ 1048576)
def OpenSpec.upto (s : _root_.Go.ChangeSpec) : _root_.Go.OpenSpec := { _root_.Go.OpenSpec.ofChange s with cond := some uptoSmall }

/-- 'laws.FnMatrices', WHERE WHAT IT READS IS OF BULK AT MOST 1048576: true; the input reads as it did. -/
def fnMatricesUptoRow : OpenClaim := { program := "ytpgjfanacnbfkaa", sum := "ee8d64e5b9d68798b6171474baa5808416544bdb0e430dfdc5d096a7d6a85ae7", func := "loop.example/g01327/laws.FnMatrices", spec := "fnMatrices", inPlace := ["math.Float64bits", "math.Float64frombits", "(*sync.WaitGroup).Add", "internal/race.ReleaseMerge", "internal/race.Disable", "internal/race.Enable", "internal/synctest.IsInBubble", "internal/synctest.Associate[sync.WaitGroup]", "sync.fatal", "sync/atomic.OrUint64", "sync/atomic.AddUint64", "internal/race.Read", "sync/atomic.LoadUint64", "sync/atomic.StoreUint64", "internal/synctest.Disassociate[sync.WaitGroup]", "sync.runtime_Semrelease", "(*sync.WaitGroup).Done", "(*sync.WaitGroup).Wait", "internal/race.Acquire", "internal/synctest.IsAssociated[sync.WaitGroup]", "sync/atomic.CompareAndSwapUint64", "internal/race.Write", "sync.runtime_SemacquireWaitGroup", "math.Float32bits"], unfollowed := true, recurses := true, leaving := true, apart := false, narrowed := true }
def FnMatricesUptoSaid : Prop := fnMatricesUptoRow.holds Try.pinned (OpenSpec.upto fnMatricesSpec)

/-- 'laws.FnOrders', WHERE WHAT IT READS IS OF BULK AT MOST 1048576: true; the input reads as it did. -/
def fnOrdersUptoRow : OpenClaim := { program := "ytpgjfanacnbfkaa", sum := "ee8d64e5b9d68798b6171474baa5808416544bdb0e430dfdc5d096a7d6a85ae7", func := "loop.example/g01327/laws.FnOrders", spec := "fnOrders", inPlace := ["math.Float64bits", "math.Float64frombits", "math.Float32bits"], apart := false, narrowed := true }
def FnOrdersUptoSaid : Prop := fnOrdersUptoRow.holds Try.pinned (OpenSpec.upto fnOrdersSpec)

/-- 'laws.FnExactValidMatrix', WHERE WHAT IT READS IS OF BULK AT MOST 1048576: true; the input reads as it did. -/
def fnExactValidMatrixUptoRow : OpenClaim := { program := "ytpgjfanacnbfkaa", sum := "ee8d64e5b9d68798b6171474baa5808416544bdb0e430dfdc5d096a7d6a85ae7", func := "loop.example/g01327/laws.FnExactValidMatrix", spec := "fnExactValidMatrix", inPlace := ["math.Float64bits", "math.Float64frombits"], apart := false, narrowed := true }
def FnExactValidMatrixUptoSaid : Prop := fnExactValidMatrixUptoRow.holds Try.pinned (OpenSpec.upto fnExactValidMatrixSpec)

/-- 'laws.FnExactSameMatrix', WHERE WHAT IT READS IS OF BULK AT MOST 1048576: true; the input reads as it did. -/
def fnExactSameMatrixUptoRow : OpenClaim := { program := "ytpgjfanacnbfkaa", sum := "ee8d64e5b9d68798b6171474baa5808416544bdb0e430dfdc5d096a7d6a85ae7", func := "loop.example/g01327/laws.FnExactSameMatrix", spec := "fnExactSameMatrix", inPlace := ["math.Float32bits"], apart := false, narrowed := true }
def FnExactSameMatrixUptoSaid : Prop := fnExactSameMatrixUptoRow.holds Try.pinned (OpenSpec.upto fnExactSameMatrixSpec)

/-- 'laws.FnExactIsVector', WHERE WHAT IT READS IS OF BULK AT MOST 1048576: true; the input reads as it did. -/
def fnExactIsVectorUptoRow : OpenClaim := { program := "ytpgjfanacnbfkaa", sum := "ee8d64e5b9d68798b6171474baa5808416544bdb0e430dfdc5d096a7d6a85ae7", func := "loop.example/g01327/laws.FnExactIsVector", spec := "fnExactIsVector", inPlace := ["math.Float64bits", "math.Float64frombits"], apart := false, narrowed := true }
def FnExactIsVectorUptoSaid : Prop := fnExactIsVectorUptoRow.holds Try.pinned (OpenSpec.upto fnExactIsVectorSpec)

/-- 'laws.FnExactUnitMatrix', WHERE WHAT IT READS IS OF BULK AT MOST 1048576: true; the input reads as it did. -/
def fnExactUnitMatrixUptoRow : OpenClaim := { program := "ytpgjfanacnbfkaa", sum := "ee8d64e5b9d68798b6171474baa5808416544bdb0e430dfdc5d096a7d6a85ae7", func := "loop.example/g01327/laws.FnExactUnitMatrix", spec := "fnExactUnitMatrix", apart := false, narrowed := true }
def FnExactUnitMatrixUptoSaid : Prop := fnExactUnitMatrixUptoRow.holds Try.pinned (OpenSpec.upto fnExactUnitMatrixSpec)

/-- 'laws.FnExactHilbertMatrix', WHERE WHAT IT READS IS OF BULK AT MOST 1048576: true; the input reads as it did. -/
def fnExactHilbertMatrixUptoRow : OpenClaim := { program := "ytpgjfanacnbfkaa", sum := "ee8d64e5b9d68798b6171474baa5808416544bdb0e430dfdc5d096a7d6a85ae7", func := "loop.example/g01327/laws.FnExactHilbertMatrix", spec := "fnExactHilbertMatrix", apart := false, narrowed := true }
def FnExactHilbertMatrixUptoSaid : Prop := fnExactHilbertMatrixUptoRow.holds Try.pinned (OpenSpec.upto fnExactHilbertMatrixSpec)

/-- 'laws.FnExactDrawnMatrix', WHERE WHAT IT READS IS OF BULK AT MOST 1048576: true; the input reads as it did. -/
def fnExactDrawnMatrixUptoRow : OpenClaim := { program := "ytpgjfanacnbfkaa", sum := "ee8d64e5b9d68798b6171474baa5808416544bdb0e430dfdc5d096a7d6a85ae7", func := "loop.example/g01327/laws.FnExactDrawnMatrix", spec := "fnExactDrawnMatrix", apart := false, narrowed := true }
def FnExactDrawnMatrixUptoSaid : Prop := fnExactDrawnMatrixUptoRow.holds Try.pinned (OpenSpec.upto fnExactDrawnMatrixSpec)

/-- 'laws.FnExactFlipMatrix', WHERE WHAT IT READS IS OF BULK AT MOST 1048576: true; the input reads as it did. -/
def fnExactFlipMatrixUptoRow : OpenClaim := { program := "ytpgjfanacnbfkaa", sum := "ee8d64e5b9d68798b6171474baa5808416544bdb0e430dfdc5d096a7d6a85ae7", func := "loop.example/g01327/laws.FnExactFlipMatrix", spec := "fnExactFlipMatrix", inPlace := ["math.Float64bits", "math.Float64frombits"], apart := false, narrowed := true }
def FnExactFlipMatrixUptoSaid : Prop := fnExactFlipMatrixUptoRow.holds Try.pinned (OpenSpec.upto fnExactFlipMatrixSpec)

/-- 'laws.FnExactWeighMatrices', WHERE WHAT IT READS IS OF BULK AT MOST 1048576: true; the input reads as it did. -/
def fnExactWeighMatricesUptoRow : OpenClaim := { program := "ytpgjfanacnbfkaa", sum := "ee8d64e5b9d68798b6171474baa5808416544bdb0e430dfdc5d096a7d6a85ae7", func := "loop.example/g01327/laws.FnExactWeighMatrices", spec := "fnExactWeighMatrices", inPlace := ["math.Float64bits", "math.Float64frombits"], apart := false, narrowed := true }
def FnExactWeighMatricesUptoSaid : Prop := fnExactWeighMatricesUptoRow.holds Try.pinned (OpenSpec.upto fnExactWeighMatricesSpec)

/-- 'laws.FnExactMulMatrices', WHERE WHAT IT READS IS OF BULK AT MOST 1048576: true; the input reads as it did. -/
def fnExactMulMatricesUptoRow : OpenClaim := { program := "ytpgjfanacnbfkaa", sum := "ee8d64e5b9d68798b6171474baa5808416544bdb0e430dfdc5d096a7d6a85ae7", func := "loop.example/g01327/laws.FnExactMulMatrices", spec := "fnExactMulMatrices", inPlace := ["math.Float64bits", "math.Float64frombits"], apart := false, narrowed := true }
def FnExactMulMatricesUptoSaid : Prop := fnExactMulMatricesUptoRow.holds Try.pinned (OpenSpec.upto fnExactMulMatricesSpec)

/-- 'laws.FnExactMulBlocks', WHERE WHAT IT READS IS OF BULK AT MOST 1048576: true; the input reads as it did. -/
def fnExactMulBlocksUptoRow : OpenClaim := { program := "ytpgjfanacnbfkaa", sum := "ee8d64e5b9d68798b6171474baa5808416544bdb0e430dfdc5d096a7d6a85ae7", func := "loop.example/g01327/laws.FnExactMulBlocks", spec := "fnExactMulBlocks", inPlace := ["math.Float64bits", "math.Float64frombits"], apart := false, narrowed := true }
def FnExactMulBlocksUptoSaid : Prop := fnExactMulBlocksUptoRow.holds Try.pinned (OpenSpec.upto fnExactMulBlocksSpec)

end Rows
end Go.Proofs.Ytpgjfanacnbfkaa
