/-
  No cell of these rows narrows 'for every input' (looked for: loops, veiled, ifaces, maps, wideKeys, modest, calm, conditions, laid).
  DERIVED. THE GIVEN ROWS OF THIS SEAT. 12 by the template 'for every input the law returns true; each argument reads behind the call as it read before'; 0 by the template 'total and deterministic' (their statements: YtpgjfanacnbfkabTotals.lean).
  GIVEN WITH THE SEED: the statements are not yours to turn. If you find one false, say at which input.
  Laid BY PROGRAM, IN A SANDBOX (cutbox-rows.mjs): the forced cells as the released guide's own fill.sh prints them over the translation d928bdf9fb480156… (all of the seat's roots in one cut). By AI agents, Wed Nov 11 2026. No macro, syntax, notation, axiom, sorry.
-/
import Derived.Test.YtpgjfanacnbfkabChecked
import GoSem.Claim
import GoSem.ClaimJoined
import GoSem.ClaimMapViews
import Derived.JoinedTies
import Derived.KernelRfl
namespace Go.Proofs.Ytpgjfanacnbfkab
/- THE CELL 'sum', in the pinned program and in every row, IS THE sha256 OF THE DUMP (.gsa) THAT YtpgjfanacnbfkabProg.lean LOADS. Nothing in Lean hashes anything: it is a label: what it is worth is what the hold of that sum in a sandbox is worth. -/
noncomputable def Try.pinned : Pinned := { name := "ytpgjfanacnbfkab", sum := "d928bdf9fb480156c864bbcfb5169ba23331a13ae2534103d7ba4a00f124051c", checked := Try.checked }
namespace Rows
def none {H : Type} : Left H := { results := [], args := [] }

/-- 'laws.FnExactMulShared': WHATEVER THE INPUT: true; the input reads as it did. -/
def fnExactMulSharedSpec : ChangeSpec := { name := "fnExactMulShared", fn := fun _ => fun
  | [d1, d2, d3] => { results := [.lit (.bool true)], args := [d1, d2, d3] }
  | _ => none }
def fnExactMulSharedRow : OpenClaim := { program := "ytpgjfanacnbfkab", sum := "d928bdf9fb480156c864bbcfb5169ba23331a13ae2534103d7ba4a00f124051c", func := "loop.example/g01327/laws.FnExactMulShared", spec := "fnExactMulShared", inPlace := ["math.Float64bits", "math.Float64frombits", "(*sync.WaitGroup).Add", "internal/race.ReleaseMerge", "internal/race.Disable", "internal/race.Enable", "internal/synctest.IsInBubble", "internal/synctest.Associate[sync.WaitGroup]", "sync.fatal", "sync/atomic.OrUint64", "sync/atomic.AddUint64", "internal/race.Read", "sync/atomic.LoadUint64", "sync/atomic.StoreUint64", "internal/synctest.Disassociate[sync.WaitGroup]", "sync.runtime_Semrelease", "(*sync.WaitGroup).Done", "(*sync.WaitGroup).Wait", "internal/race.Acquire", "internal/synctest.IsAssociated[sync.WaitGroup]", "sync/atomic.CompareAndSwapUint64", "internal/race.Write", "sync.runtime_SemacquireWaitGroup"], unfollowed := true, recurses := true, leaving := true, apart := false }
def FnExactMulSharedSaid : Prop := fnExactMulSharedRow.holds Try.pinned (OpenSpec.ofChange fnExactMulSharedSpec)

/-- ITS FALSE NEIGHBOUR: 'it returns false'. Refute it at one input. -/
def fnExactMulSharedWrong : ChangeSpec := { name := "fnExactMulShared", fn := fun _ => fun
  | [d1, d2, d3] => { results := [.lit (.bool false)], args := [d1, d2, d3] }
  | _ => none }
def FnExactMulSharedWrongFalsely : Prop := fnExactMulSharedRow.holds Try.pinned (OpenSpec.ofChange fnExactMulSharedWrong)

/-- 'laws.FnExactPowerMatrix': WHATEVER THE INPUT: true; the input reads as it did. -/
def fnExactPowerMatrixSpec : ChangeSpec := { name := "fnExactPowerMatrix", fn := fun _ => fun
  | [d1, d2] => { results := [.lit (.bool true)], args := [d1, d2] }
  | _ => none }
def fnExactPowerMatrixRow : OpenClaim := { program := "ytpgjfanacnbfkab", sum := "d928bdf9fb480156c864bbcfb5169ba23331a13ae2534103d7ba4a00f124051c", func := "loop.example/g01327/laws.FnExactPowerMatrix", spec := "fnExactPowerMatrix", inPlace := ["math.Float64bits", "math.Float64frombits"], apart := false }
def FnExactPowerMatrixSaid : Prop := fnExactPowerMatrixRow.holds Try.pinned (OpenSpec.ofChange fnExactPowerMatrixSpec)

/-- ITS FALSE NEIGHBOUR: 'it returns false'. Refute it at one input. -/
def fnExactPowerMatrixWrong : ChangeSpec := { name := "fnExactPowerMatrix", fn := fun _ => fun
  | [d1, d2] => { results := [.lit (.bool false)], args := [d1, d2] }
  | _ => none }
def FnExactPowerMatrixWrongFalsely : Prop := fnExactPowerMatrixRow.holds Try.pinned (OpenSpec.ofChange fnExactPowerMatrixWrong)

/-- 'laws.FnExactTimesVector': WHATEVER THE INPUT: true; the input reads as it did. -/
def fnExactTimesVectorSpec : ChangeSpec := { name := "fnExactTimesVector", fn := fun _ => fun
  | [d1, d2] => { results := [.lit (.bool true)], args := [d1, d2] }
  | _ => none }
def fnExactTimesVectorRow : OpenClaim := { program := "ytpgjfanacnbfkab", sum := "d928bdf9fb480156c864bbcfb5169ba23331a13ae2534103d7ba4a00f124051c", func := "loop.example/g01327/laws.FnExactTimesVector", spec := "fnExactTimesVector", inPlace := ["math.Float64bits", "math.Float64frombits"], apart := false }
def FnExactTimesVectorSaid : Prop := fnExactTimesVectorRow.holds Try.pinned (OpenSpec.ofChange fnExactTimesVectorSpec)

/-- ITS FALSE NEIGHBOUR: 'it returns false'. Refute it at one input. -/
def fnExactTimesVectorWrong : ChangeSpec := { name := "fnExactTimesVector", fn := fun _ => fun
  | [d1, d2] => { results := [.lit (.bool false)], args := [d1, d2] }
  | _ => none }
def FnExactTimesVectorWrongFalsely : Prop := fnExactTimesVectorRow.holds Try.pinned (OpenSpec.ofChange fnExactTimesVectorWrong)

/-- 'laws.FnExactOuterMatrix': WHATEVER THE INPUT: true; the input reads as it did. -/
def fnExactOuterMatrixSpec : ChangeSpec := { name := "fnExactOuterMatrix", fn := fun _ => fun
  | [d1, d2] => { results := [.lit (.bool true)], args := [d1, d2] }
  | _ => none }
def fnExactOuterMatrixRow : OpenClaim := { program := "ytpgjfanacnbfkab", sum := "d928bdf9fb480156c864bbcfb5169ba23331a13ae2534103d7ba4a00f124051c", func := "loop.example/g01327/laws.FnExactOuterMatrix", spec := "fnExactOuterMatrix", inPlace := ["math.Float64bits", "math.Float64frombits"], apart := false }
def FnExactOuterMatrixSaid : Prop := fnExactOuterMatrixRow.holds Try.pinned (OpenSpec.ofChange fnExactOuterMatrixSpec)

/-- ITS FALSE NEIGHBOUR: 'it returns false'. Refute it at one input. -/
def fnExactOuterMatrixWrong : ChangeSpec := { name := "fnExactOuterMatrix", fn := fun _ => fun
  | [d1, d2] => { results := [.lit (.bool false)], args := [d1, d2] }
  | _ => none }
def FnExactOuterMatrixWrongFalsely : Prop := fnExactOuterMatrixRow.holds Try.pinned (OpenSpec.ofChange fnExactOuterMatrixWrong)

/-- 'laws.FnExactKroneckerMatrix': WHATEVER THE INPUT: true; the input reads as it did. -/
def fnExactKroneckerMatrixSpec : ChangeSpec := { name := "fnExactKroneckerMatrix", fn := fun _ => fun
  | [d1, d2] => { results := [.lit (.bool true)], args := [d1, d2] }
  | _ => none }
def fnExactKroneckerMatrixRow : OpenClaim := { program := "ytpgjfanacnbfkab", sum := "d928bdf9fb480156c864bbcfb5169ba23331a13ae2534103d7ba4a00f124051c", func := "loop.example/g01327/laws.FnExactKroneckerMatrix", spec := "fnExactKroneckerMatrix", inPlace := ["math.Float64bits", "math.Float64frombits"], apart := false }
def FnExactKroneckerMatrixSaid : Prop := fnExactKroneckerMatrixRow.holds Try.pinned (OpenSpec.ofChange fnExactKroneckerMatrixSpec)

/-- ITS FALSE NEIGHBOUR: 'it returns false'. Refute it at one input. -/
def fnExactKroneckerMatrixWrong : ChangeSpec := { name := "fnExactKroneckerMatrix", fn := fun _ => fun
  | [d1, d2] => { results := [.lit (.bool false)], args := [d1, d2] }
  | _ => none }
def FnExactKroneckerMatrixWrongFalsely : Prop := fnExactKroneckerMatrixRow.holds Try.pinned (OpenSpec.ofChange fnExactKroneckerMatrixWrong)

/-- 'laws.FnExactPartOfMatrix': WHATEVER THE INPUT: true; the input reads as it did. -/
def fnExactPartOfMatrixSpec : ChangeSpec := { name := "fnExactPartOfMatrix", fn := fun _ => fun
  | [d1, d2, d3, d4, d5] => { results := [.lit (.bool true)], args := [d1, d2, d3, d4, d5] }
  | _ => none }
def fnExactPartOfMatrixRow : OpenClaim := { program := "ytpgjfanacnbfkab", sum := "d928bdf9fb480156c864bbcfb5169ba23331a13ae2534103d7ba4a00f124051c", func := "loop.example/g01327/laws.FnExactPartOfMatrix", spec := "fnExactPartOfMatrix", inPlace := ["math.Float64bits", "math.Float64frombits"], apart := false }
def FnExactPartOfMatrixSaid : Prop := fnExactPartOfMatrixRow.holds Try.pinned (OpenSpec.ofChange fnExactPartOfMatrixSpec)

/-- ITS FALSE NEIGHBOUR: 'it returns false'. Refute it at one input. -/
def fnExactPartOfMatrixWrong : ChangeSpec := { name := "fnExactPartOfMatrix", fn := fun _ => fun
  | [d1, d2, d3, d4, d5] => { results := [.lit (.bool false)], args := [d1, d2, d3, d4, d5] }
  | _ => none }
def FnExactPartOfMatrixWrongFalsely : Prop := fnExactPartOfMatrixRow.holds Try.pinned (OpenSpec.ofChange fnExactPartOfMatrixWrong)

/-- 'laws.FnExactPutMatrix': WHATEVER THE INPUT: true; the input reads as it did. -/
def fnExactPutMatrixSpec : ChangeSpec := { name := "fnExactPutMatrix", fn := fun _ => fun
  | [d1, d2, d3, d4] => { results := [.lit (.bool true)], args := [d1, d2, d3, d4] }
  | _ => none }
def fnExactPutMatrixRow : OpenClaim := { program := "ytpgjfanacnbfkab", sum := "d928bdf9fb480156c864bbcfb5169ba23331a13ae2534103d7ba4a00f124051c", func := "loop.example/g01327/laws.FnExactPutMatrix", spec := "fnExactPutMatrix", inPlace := ["math.Float64bits", "math.Float64frombits"], apart := false }
def FnExactPutMatrixSaid : Prop := fnExactPutMatrixRow.holds Try.pinned (OpenSpec.ofChange fnExactPutMatrixSpec)

/-- ITS FALSE NEIGHBOUR: 'it returns false'. Refute it at one input. -/
def fnExactPutMatrixWrong : ChangeSpec := { name := "fnExactPutMatrix", fn := fun _ => fun
  | [d1, d2, d3, d4] => { results := [.lit (.bool false)], args := [d1, d2, d3, d4] }
  | _ => none }
def FnExactPutMatrixWrongFalsely : Prop := fnExactPutMatrixRow.holds Try.pinned (OpenSpec.ofChange fnExactPutMatrixWrong)

/-- 'laws.FnExactIsOrder': WHATEVER THE INPUT: true; the input reads as it did. -/
def fnExactIsOrderSpec : ChangeSpec := { name := "fnExactIsOrder", fn := fun _ => fun
  | [d] => { results := [.lit (.bool true)], args := [d] }
  | _ => none }
def fnExactIsOrderRow : OpenClaim := { program := "ytpgjfanacnbfkab", sum := "d928bdf9fb480156c864bbcfb5169ba23331a13ae2534103d7ba4a00f124051c", func := "loop.example/g01327/laws.FnExactIsOrder", spec := "fnExactIsOrder", apart := false }
def FnExactIsOrderSaid : Prop := fnExactIsOrderRow.holds Try.pinned (OpenSpec.ofChange fnExactIsOrderSpec)

/-- ITS FALSE NEIGHBOUR: 'it returns false'. Refute it at one input. -/
def fnExactIsOrderWrong : ChangeSpec := { name := "fnExactIsOrder", fn := fun _ => fun
  | [d] => { results := [.lit (.bool false)], args := [d] }
  | _ => none }
def FnExactIsOrderWrongFalsely : Prop := fnExactIsOrderRow.holds Try.pinned (OpenSpec.ofChange fnExactIsOrderWrong)

/-- 'laws.FnExactBackOrder': WHATEVER THE INPUT: true; the input reads as it did. -/
def fnExactBackOrderSpec : ChangeSpec := { name := "fnExactBackOrder", fn := fun _ => fun
  | [d] => { results := [.lit (.bool true)], args := [d] }
  | _ => none }
def fnExactBackOrderRow : OpenClaim := { program := "ytpgjfanacnbfkab", sum := "d928bdf9fb480156c864bbcfb5169ba23331a13ae2534103d7ba4a00f124051c", func := "loop.example/g01327/laws.FnExactBackOrder", spec := "fnExactBackOrder", apart := false }
def FnExactBackOrderSaid : Prop := fnExactBackOrderRow.holds Try.pinned (OpenSpec.ofChange fnExactBackOrderSpec)

/-- ITS FALSE NEIGHBOUR: 'it returns false'. Refute it at one input. -/
def fnExactBackOrderWrong : ChangeSpec := { name := "fnExactBackOrder", fn := fun _ => fun
  | [d] => { results := [.lit (.bool false)], args := [d] }
  | _ => none }
def FnExactBackOrderWrongFalsely : Prop := fnExactBackOrderRow.holds Try.pinned (OpenSpec.ofChange fnExactBackOrderWrong)

/-- 'laws.FnExactOrderSign': WHATEVER THE INPUT: true; the input reads as it did. -/
def fnExactOrderSignSpec : ChangeSpec := { name := "fnExactOrderSign", fn := fun _ => fun
  | [d] => { results := [.lit (.bool true)], args := [d] }
  | _ => none }
def fnExactOrderSignRow : OpenClaim := { program := "ytpgjfanacnbfkab", sum := "d928bdf9fb480156c864bbcfb5169ba23331a13ae2534103d7ba4a00f124051c", func := "loop.example/g01327/laws.FnExactOrderSign", spec := "fnExactOrderSign", apart := false }
def FnExactOrderSignSaid : Prop := fnExactOrderSignRow.holds Try.pinned (OpenSpec.ofChange fnExactOrderSignSpec)

/-- ITS FALSE NEIGHBOUR: 'it returns false'. Refute it at one input. -/
def fnExactOrderSignWrong : ChangeSpec := { name := "fnExactOrderSign", fn := fun _ => fun
  | [d] => { results := [.lit (.bool false)], args := [d] }
  | _ => none }
def FnExactOrderSignWrongFalsely : Prop := fnExactOrderSignRow.holds Try.pinned (OpenSpec.ofChange fnExactOrderSignWrong)

/-- 'laws.FnExactOrderRows': WHATEVER THE INPUT: true; the input reads as it did. -/
def fnExactOrderRowsSpec : ChangeSpec := { name := "fnExactOrderRows", fn := fun _ => fun
  | [d1, d2] => { results := [.lit (.bool true)], args := [d1, d2] }
  | _ => none }
def fnExactOrderRowsRow : OpenClaim := { program := "ytpgjfanacnbfkab", sum := "d928bdf9fb480156c864bbcfb5169ba23331a13ae2534103d7ba4a00f124051c", func := "loop.example/g01327/laws.FnExactOrderRows", spec := "fnExactOrderRows", inPlace := ["math.Float64bits", "math.Float64frombits"], apart := false }
def FnExactOrderRowsSaid : Prop := fnExactOrderRowsRow.holds Try.pinned (OpenSpec.ofChange fnExactOrderRowsSpec)

/-- ITS FALSE NEIGHBOUR: 'it returns false'. Refute it at one input. -/
def fnExactOrderRowsWrong : ChangeSpec := { name := "fnExactOrderRows", fn := fun _ => fun
  | [d1, d2] => { results := [.lit (.bool false)], args := [d1, d2] }
  | _ => none }
def FnExactOrderRowsWrongFalsely : Prop := fnExactOrderRowsRow.holds Try.pinned (OpenSpec.ofChange fnExactOrderRowsWrong)

/-- 'laws.FnExactTraceOf': WHATEVER THE INPUT: true; the input reads as it did. -/
def fnExactTraceOfSpec : ChangeSpec := { name := "fnExactTraceOf", fn := fun _ => fun
  | [d] => { results := [.lit (.bool true)], args := [d] }
  | _ => none }
def fnExactTraceOfRow : OpenClaim := { program := "ytpgjfanacnbfkab", sum := "d928bdf9fb480156c864bbcfb5169ba23331a13ae2534103d7ba4a00f124051c", func := "loop.example/g01327/laws.FnExactTraceOf", spec := "fnExactTraceOf", inPlace := ["math.Float64bits", "math.Float64frombits"], apart := false }
def FnExactTraceOfSaid : Prop := fnExactTraceOfRow.holds Try.pinned (OpenSpec.ofChange fnExactTraceOfSpec)

/-- ITS FALSE NEIGHBOUR: 'it returns false'. Refute it at one input. -/
def fnExactTraceOfWrong : ChangeSpec := { name := "fnExactTraceOf", fn := fun _ => fun
  | [d] => { results := [.lit (.bool false)], args := [d] }
  | _ => none }
def FnExactTraceOfWrongFalsely : Prop := fnExactTraceOfRow.holds Try.pinned (OpenSpec.ofChange fnExactTraceOfWrong)

/- THE SECOND FORM. 'bulk': how many values and letters a reading holds, each counted each time it is reached (what is shared counts as often as it is met; a slice's spare places count too). A statement '..UptoSaid' is the law's where the arguments, and the package variables that the reading takes, are together of bulk at most 1048576: NARROWER than '..Said'. Prove '..Said' where nothing that the law and all that it calls make is longer than what came in: it says more and counts as full. Else prove '..UptoSaid'. A law counts once. -/
mutual
def uptoBulk {H : Type} : DataW H → Nat
  | .lit (.string bytes) => bytes.length + 1
  | .lit _ => 1
  | .nil => 1
  | .ptr d => uptoBulk d + 1
  | .slice elems spare => uptoBulkAll elems + uptoBulkAll spare + 1
  | .agg parts => uptoBulkAll parts + 1
  | .iface _ d => uptoBulk d + 1
  | .map entries => uptoBulkEntries entries + 1
  | .held _ => 1
def uptoBulkAll {H : Type} : List (DataW H) → Nat
  | [] => 0
  | d :: r => uptoBulk d + uptoBulkAll r
def uptoBulkEntries {H : Type} : List (Lit × DataW H) → Nat
  | [] => 0
  | x :: r => uptoBulkEntry x + uptoBulkEntries r
def uptoBulkEntry {H : Type} : Lit × DataW H → Nat
  | (.string bytes, d) => bytes.length + uptoBulk d + 1
  | (_, d) => uptoBulk d + 1
 end
def uptoSmall : (H : Type) → List (DataW H) → Bool := fun _ ds => decide (uptoBulkAll ds ≤ 1048576)
def OpenSpec.upto (s : _root_.Go.ChangeSpec) : _root_.Go.OpenSpec := { _root_.Go.OpenSpec.ofChange s with cond := some uptoSmall }

/-- 'laws.FnExactMulShared', WHERE WHAT IT READS IS OF BULK AT MOST 1048576: true; the input reads as it did. -/
def fnExactMulSharedUptoRow : OpenClaim := { program := "ytpgjfanacnbfkab", sum := "d928bdf9fb480156c864bbcfb5169ba23331a13ae2534103d7ba4a00f124051c", func := "loop.example/g01327/laws.FnExactMulShared", spec := "fnExactMulShared", inPlace := ["math.Float64bits", "math.Float64frombits", "(*sync.WaitGroup).Add", "internal/race.ReleaseMerge", "internal/race.Disable", "internal/race.Enable", "internal/synctest.IsInBubble", "internal/synctest.Associate[sync.WaitGroup]", "sync.fatal", "sync/atomic.OrUint64", "sync/atomic.AddUint64", "internal/race.Read", "sync/atomic.LoadUint64", "sync/atomic.StoreUint64", "internal/synctest.Disassociate[sync.WaitGroup]", "sync.runtime_Semrelease", "(*sync.WaitGroup).Done", "(*sync.WaitGroup).Wait", "internal/race.Acquire", "internal/synctest.IsAssociated[sync.WaitGroup]", "sync/atomic.CompareAndSwapUint64", "internal/race.Write", "sync.runtime_SemacquireWaitGroup"], unfollowed := true, recurses := true, leaving := true, apart := false, narrowed := true }
def FnExactMulSharedUptoSaid : Prop := fnExactMulSharedUptoRow.holds Try.pinned (OpenSpec.upto fnExactMulSharedSpec)

/-- 'laws.FnExactPowerMatrix', WHERE WHAT IT READS IS OF BULK AT MOST 1048576: true; the input reads as it did. -/
def fnExactPowerMatrixUptoRow : OpenClaim := { program := "ytpgjfanacnbfkab", sum := "d928bdf9fb480156c864bbcfb5169ba23331a13ae2534103d7ba4a00f124051c", func := "loop.example/g01327/laws.FnExactPowerMatrix", spec := "fnExactPowerMatrix", inPlace := ["math.Float64bits", "math.Float64frombits"], apart := false, narrowed := true }
def FnExactPowerMatrixUptoSaid : Prop := fnExactPowerMatrixUptoRow.holds Try.pinned (OpenSpec.upto fnExactPowerMatrixSpec)

/-- 'laws.FnExactTimesVector', WHERE WHAT IT READS IS OF BULK AT MOST 1048576: true; the input reads as it did. -/
def fnExactTimesVectorUptoRow : OpenClaim := { program := "ytpgjfanacnbfkab", sum := "d928bdf9fb480156c864bbcfb5169ba23331a13ae2534103d7ba4a00f124051c", func := "loop.example/g01327/laws.FnExactTimesVector", spec := "fnExactTimesVector", inPlace := ["math.Float64bits", "math.Float64frombits"], apart := false, narrowed := true }
def FnExactTimesVectorUptoSaid : Prop := fnExactTimesVectorUptoRow.holds Try.pinned (OpenSpec.upto fnExactTimesVectorSpec)

/-- 'laws.FnExactOuterMatrix', WHERE WHAT IT READS IS OF BULK AT MOST 1048576: true; the input reads as it did. -/
def fnExactOuterMatrixUptoRow : OpenClaim := { program := "ytpgjfanacnbfkab", sum := "d928bdf9fb480156c864bbcfb5169ba23331a13ae2534103d7ba4a00f124051c", func := "loop.example/g01327/laws.FnExactOuterMatrix", spec := "fnExactOuterMatrix", inPlace := ["math.Float64bits", "math.Float64frombits"], apart := false, narrowed := true }
def FnExactOuterMatrixUptoSaid : Prop := fnExactOuterMatrixUptoRow.holds Try.pinned (OpenSpec.upto fnExactOuterMatrixSpec)

/-- 'laws.FnExactKroneckerMatrix', WHERE WHAT IT READS IS OF BULK AT MOST 1048576: true; the input reads as it did. -/
def fnExactKroneckerMatrixUptoRow : OpenClaim := { program := "ytpgjfanacnbfkab", sum := "d928bdf9fb480156c864bbcfb5169ba23331a13ae2534103d7ba4a00f124051c", func := "loop.example/g01327/laws.FnExactKroneckerMatrix", spec := "fnExactKroneckerMatrix", inPlace := ["math.Float64bits", "math.Float64frombits"], apart := false, narrowed := true }
def FnExactKroneckerMatrixUptoSaid : Prop := fnExactKroneckerMatrixUptoRow.holds Try.pinned (OpenSpec.upto fnExactKroneckerMatrixSpec)

/-- 'laws.FnExactPartOfMatrix', WHERE WHAT IT READS IS OF BULK AT MOST 1048576: true; the input reads as it did. -/
def fnExactPartOfMatrixUptoRow : OpenClaim := { program := "ytpgjfanacnbfkab", sum := "d928bdf9fb480156c864bbcfb5169ba23331a13ae2534103d7ba4a00f124051c", func := "loop.example/g01327/laws.FnExactPartOfMatrix", spec := "fnExactPartOfMatrix", inPlace := ["math.Float64bits", "math.Float64frombits"], apart := false, narrowed := true }
def FnExactPartOfMatrixUptoSaid : Prop := fnExactPartOfMatrixUptoRow.holds Try.pinned (OpenSpec.upto fnExactPartOfMatrixSpec)

/-- 'laws.FnExactPutMatrix', WHERE WHAT IT READS IS OF BULK AT MOST 1048576: true; the input reads as it did. -/
def fnExactPutMatrixUptoRow : OpenClaim := { program := "ytpgjfanacnbfkab", sum := "d928bdf9fb480156c864bbcfb5169ba23331a13ae2534103d7ba4a00f124051c", func := "loop.example/g01327/laws.FnExactPutMatrix", spec := "fnExactPutMatrix", inPlace := ["math.Float64bits", "math.Float64frombits"], apart := false, narrowed := true }
def FnExactPutMatrixUptoSaid : Prop := fnExactPutMatrixUptoRow.holds Try.pinned (OpenSpec.upto fnExactPutMatrixSpec)

/-- 'laws.FnExactIsOrder', WHERE WHAT IT READS IS OF BULK AT MOST 1048576: true; the input reads as it did. -/
def fnExactIsOrderUptoRow : OpenClaim := { program := "ytpgjfanacnbfkab", sum := "d928bdf9fb480156c864bbcfb5169ba23331a13ae2534103d7ba4a00f124051c", func := "loop.example/g01327/laws.FnExactIsOrder", spec := "fnExactIsOrder", apart := false, narrowed := true }
def FnExactIsOrderUptoSaid : Prop := fnExactIsOrderUptoRow.holds Try.pinned (OpenSpec.upto fnExactIsOrderSpec)

/-- 'laws.FnExactBackOrder', WHERE WHAT IT READS IS OF BULK AT MOST 1048576: true; the input reads as it did. -/
def fnExactBackOrderUptoRow : OpenClaim := { program := "ytpgjfanacnbfkab", sum := "d928bdf9fb480156c864bbcfb5169ba23331a13ae2534103d7ba4a00f124051c", func := "loop.example/g01327/laws.FnExactBackOrder", spec := "fnExactBackOrder", apart := false, narrowed := true }
def FnExactBackOrderUptoSaid : Prop := fnExactBackOrderUptoRow.holds Try.pinned (OpenSpec.upto fnExactBackOrderSpec)

/-- 'laws.FnExactOrderSign', WHERE WHAT IT READS IS OF BULK AT MOST 1048576: true; the input reads as it did. -/
def fnExactOrderSignUptoRow : OpenClaim := { program := "ytpgjfanacnbfkab", sum := "d928bdf9fb480156c864bbcfb5169ba23331a13ae2534103d7ba4a00f124051c", func := "loop.example/g01327/laws.FnExactOrderSign", spec := "fnExactOrderSign", apart := false, narrowed := true }
def FnExactOrderSignUptoSaid : Prop := fnExactOrderSignUptoRow.holds Try.pinned (OpenSpec.upto fnExactOrderSignSpec)

/-- 'laws.FnExactOrderRows', WHERE WHAT IT READS IS OF BULK AT MOST 1048576: true; the input reads as it did. -/
def fnExactOrderRowsUptoRow : OpenClaim := { program := "ytpgjfanacnbfkab", sum := "d928bdf9fb480156c864bbcfb5169ba23331a13ae2534103d7ba4a00f124051c", func := "loop.example/g01327/laws.FnExactOrderRows", spec := "fnExactOrderRows", inPlace := ["math.Float64bits", "math.Float64frombits"], apart := false, narrowed := true }
def FnExactOrderRowsUptoSaid : Prop := fnExactOrderRowsUptoRow.holds Try.pinned (OpenSpec.upto fnExactOrderRowsSpec)

/-- 'laws.FnExactTraceOf', WHERE WHAT IT READS IS OF BULK AT MOST 1048576: true; the input reads as it did. -/
def fnExactTraceOfUptoRow : OpenClaim := { program := "ytpgjfanacnbfkab", sum := "d928bdf9fb480156c864bbcfb5169ba23331a13ae2534103d7ba4a00f124051c", func := "loop.example/g01327/laws.FnExactTraceOf", spec := "fnExactTraceOf", inPlace := ["math.Float64bits", "math.Float64frombits"], apart := false, narrowed := true }
def FnExactTraceOfUptoSaid : Prop := fnExactTraceOfUptoRow.holds Try.pinned (OpenSpec.upto fnExactTraceOfSpec)

end Rows
end Go.Proofs.Ytpgjfanacnbfkab
