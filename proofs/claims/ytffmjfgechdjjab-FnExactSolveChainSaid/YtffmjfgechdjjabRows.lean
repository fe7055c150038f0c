/-
  No cell of these rows narrows 'for every input' (looked for: loops, veiled, ifaces, maps, wideKeys, modest, calm, conditions, laid).
  DERIVED. THE GIVEN ROWS OF THIS SEAT. 6 by the template 'for every input the law returns true; each argument reads behind the call as it read before'; 0 by the template 'total and deterministic' (their statements: YtffmjfgechdjjabTotals.lean).
  GIVEN WITH THE SEED: the statements are not yours to turn. If you find one false, say at which input.
  Laid BY PROGRAM, IN A SANDBOX (cutbox-rows.mjs): the forced cells as the released guide's own fill.sh prints them over the translation ef2f875f41632ae6… (all of the seat's roots in one cut). By AI agents, Wed Nov 11 2026. No macro, syntax, notation, axiom, sorry.
-/
import Derived.Test.YtffmjfgechdjjabChecked
import GoSem.Claim
import GoSem.ClaimJoined
import GoSem.ClaimMapViews
import Derived.JoinedTies
import Derived.KernelRfl
namespace Go.Proofs.Ytffmjfgechdjjab
/- THE CELL 'sum', in the pinned program and in every row, IS THE sha256 OF THE DUMP (.gsa) THAT YtffmjfgechdjjabProg.lean LOADS. Nothing in Lean hashes anything: it is a label: what it is worth is what the hold of that sum in a sandbox is worth. -/
noncomputable def Try.pinned : Pinned := { name := "ytffmjfgechdjjab", sum := "ef2f875f41632ae6767ce4eee3806adb42515a289963f66d01e2dcb3755f49ac", checked := Try.checked }
namespace Rows
def none {H : Type} : Left H := { results := [], args := [] }

/-- 'laws.FnExactValuesOfChain': WHATEVER THE INPUT: true; the input reads as it did. -/
def fnExactValuesOfChainSpec : ChangeSpec := { name := "fnExactValuesOfChain", fn := fun _ => fun
  | [d] => { results := [.lit (.bool true)], args := [d] }
  | _ => none }
def fnExactValuesOfChainRow : OpenClaim := { program := "ytffmjfgechdjjab", sum := "ef2f875f41632ae6767ce4eee3806adb42515a289963f66d01e2dcb3755f49ac", func := "loop.example/g01327/laws.FnExactValuesOfChain", spec := "fnExactValuesOfChain", inPlace := ["math.Float64bits", "math.Float64frombits"], apart := false }
def FnExactValuesOfChainSaid : Prop := fnExactValuesOfChainRow.holds Try.pinned (OpenSpec.ofChange fnExactValuesOfChainSpec)

/-- ITS FALSE NEIGHBOUR: 'it returns false'. Refute it at one input. -/
def fnExactValuesOfChainWrong : ChangeSpec := { name := "fnExactValuesOfChain", fn := fun _ => fun
  | [d] => { results := [.lit (.bool false)], args := [d] }
  | _ => none }
def FnExactValuesOfChainWrongFalsely : Prop := fnExactValuesOfChainRow.holds Try.pinned (OpenSpec.ofChange fnExactValuesOfChainWrong)

/-- 'laws.FnExactSolveChain': WHATEVER THE INPUT: true; the input reads as it did. -/
def fnExactSolveChainSpec : ChangeSpec := { name := "fnExactSolveChain", fn := fun _ => fun
  | [d1, d2] => { results := [.lit (.bool true)], args := [d1, d2] }
  | _ => none }
def fnExactSolveChainRow : OpenClaim := { program := "ytffmjfgechdjjab", sum := "ef2f875f41632ae6767ce4eee3806adb42515a289963f66d01e2dcb3755f49ac", func := "loop.example/g01327/laws.FnExactSolveChain", spec := "fnExactSolveChain", inPlace := ["math.Float64bits", "math.Float64frombits"], apart := false }
def FnExactSolveChainSaid : Prop := fnExactSolveChainRow.holds Try.pinned (OpenSpec.ofChange fnExactSolveChainSpec)

/-- ITS FALSE NEIGHBOUR: 'it returns false'. Refute it at one input. -/
def fnExactSolveChainWrong : ChangeSpec := { name := "fnExactSolveChain", fn := fun _ => fun
  | [d1, d2] => { results := [.lit (.bool false)], args := [d1, d2] }
  | _ => none }
def FnExactSolveChainWrongFalsely : Prop := fnExactSolveChainRow.holds Try.pinned (OpenSpec.ofChange fnExactSolveChainWrong)

/-- 'laws.FnExactChainMatrix': WHATEVER THE INPUT: true; the input reads as it did. -/
def fnExactChainMatrixSpec : ChangeSpec := { name := "fnExactChainMatrix", fn := fun _ => fun
  | [d] => { results := [.lit (.bool true)], args := [d] }
  | _ => none }
def fnExactChainMatrixRow : OpenClaim := { program := "ytffmjfgechdjjab", sum := "ef2f875f41632ae6767ce4eee3806adb42515a289963f66d01e2dcb3755f49ac", func := "loop.example/g01327/laws.FnExactChainMatrix", spec := "fnExactChainMatrix", inPlace := ["math.Float64bits", "math.Float64frombits"], apart := false }
def FnExactChainMatrixSaid : Prop := fnExactChainMatrixRow.holds Try.pinned (OpenSpec.ofChange fnExactChainMatrixSpec)

/-- ITS FALSE NEIGHBOUR: 'it returns false'. Refute it at one input. -/
def fnExactChainMatrixWrong : ChangeSpec := { name := "fnExactChainMatrix", fn := fun _ => fun
  | [d] => { results := [.lit (.bool false)], args := [d] }
  | _ => none }
def FnExactChainMatrixWrongFalsely : Prop := fnExactChainMatrixRow.holds Try.pinned (OpenSpec.ofChange fnExactChainMatrixWrong)

/-- 'laws.FnExactOffNorm': WHATEVER THE INPUT: true; the input reads as it did. -/
def fnExactOffNormSpec : ChangeSpec := { name := "fnExactOffNorm", fn := fun _ => fun
  | [d] => { results := [.lit (.bool true)], args := [d] }
  | _ => none }
def fnExactOffNormRow : OpenClaim := { program := "ytffmjfgechdjjab", sum := "ef2f875f41632ae6767ce4eee3806adb42515a289963f66d01e2dcb3755f49ac", func := "loop.example/g01327/laws.FnExactOffNorm", spec := "fnExactOffNorm", inPlace := ["math.sqrt", "math.Float64bits", "math.Float64frombits"], unfollowed := true, recurses := true, apart := false }
def FnExactOffNormSaid : Prop := fnExactOffNormRow.holds Try.pinned (OpenSpec.ofChange fnExactOffNormSpec)

/-- ITS FALSE NEIGHBOUR: 'it returns false'. Refute it at one input. -/
def fnExactOffNormWrong : ChangeSpec := { name := "fnExactOffNorm", fn := fun _ => fun
  | [d] => { results := [.lit (.bool false)], args := [d] }
  | _ => none }
def FnExactOffNormWrongFalsely : Prop := fnExactOffNormRow.holds Try.pinned (OpenSpec.ofChange fnExactOffNormWrong)

/-- 'laws.FnExactUnitVector': WHATEVER THE INPUT: true; the input reads as it did. -/
def fnExactUnitVectorSpec : ChangeSpec := { name := "fnExactUnitVector", fn := fun _ => fun
  | [d] => { results := [.lit (.bool true)], args := [d] }
  | _ => none }
def fnExactUnitVectorRow : OpenClaim := { program := "ytffmjfgechdjjab", sum := "ef2f875f41632ae6767ce4eee3806adb42515a289963f66d01e2dcb3755f49ac", func := "loop.example/g01327/laws.FnExactUnitVector", spec := "fnExactUnitVector", inPlace := ["math.sqrt", "math.Float64bits", "math.Float64frombits"], apart := false }
def FnExactUnitVectorSaid : Prop := fnExactUnitVectorRow.holds Try.pinned (OpenSpec.ofChange fnExactUnitVectorSpec)

/-- ITS FALSE NEIGHBOUR: 'it returns false'. Refute it at one input. -/
def fnExactUnitVectorWrong : ChangeSpec := { name := "fnExactUnitVector", fn := fun _ => fun
  | [d] => { results := [.lit (.bool false)], args := [d] }
  | _ => none }
def FnExactUnitVectorWrongFalsely : Prop := fnExactUnitVectorRow.holds Try.pinned (OpenSpec.ofChange fnExactUnitVectorWrong)

/-- 'laws.FnExactCosineOf': WHATEVER THE INPUT: true; the input reads as it did. -/
def fnExactCosineOfSpec : ChangeSpec := { name := "fnExactCosineOf", fn := fun _ => fun
  | [d1, d2] => { results := [.lit (.bool true)], args := [d1, d2] }
  | _ => none }
def fnExactCosineOfRow : OpenClaim := { program := "ytffmjfgechdjjab", sum := "ef2f875f41632ae6767ce4eee3806adb42515a289963f66d01e2dcb3755f49ac", func := "loop.example/g01327/laws.FnExactCosineOf", spec := "fnExactCosineOf", inPlace := ["math.sqrt", "math.Float64bits", "math.Float64frombits"], apart := false }
def FnExactCosineOfSaid : Prop := fnExactCosineOfRow.holds Try.pinned (OpenSpec.ofChange fnExactCosineOfSpec)

/-- ITS FALSE NEIGHBOUR: 'it returns false'. Refute it at one input. -/
def fnExactCosineOfWrong : ChangeSpec := { name := "fnExactCosineOf", fn := fun _ => fun
  | [d1, d2] => { results := [.lit (.bool false)], args := [d1, d2] }
  | _ => none }
def FnExactCosineOfWrongFalsely : Prop := fnExactCosineOfRow.holds Try.pinned (OpenSpec.ofChange fnExactCosineOfWrong)

/- THE SECOND FORM. 'bulk': how many values and letters a reading holds, each counted each time it is reached (what is shared counts as often as it is met; a slice's spare places count too). A statement '..UptoSaid' is the law's where the arguments, and the package variables that the reading takes, are together of bulk at most 1048576: NARROWER than '..Said'. Prove '..Said' where nothing that the law and all that it calls make is longer than what came in: it says more and counts as full. Else prove '..UptoSaid'. A law counts once. -/
mutual
def uptoBulk {H : Type} : DataW H → Nat
  | .lit (.string bytes) => bytes.length + 1
  | .lit _ => 1
  | .nil => 1
  | .ptr d => uptoBulk d + 1
  | .slice elems spare => uptoBulkAll elems + uptoBulkAll spare + 1
  | .agg parts => uptoBulkAll parts + 1
  | .iface _ d => uptoBulk d + 1
  | .map entries => uptoBulkEntries entries + 1
  | .held _ => 1
def uptoBulkAll {H : Type} : List (DataW H) → Nat
  | [] => 0
  | d :: r => uptoBulk d + uptoBulkAll r
def uptoBulkEntries {H : Type} : List (Lit × DataW H) → Nat
  | [] => 0
  | x :: r => uptoBulkEntry x + uptoBulkEntries r
def uptoBulkEntry {H : Type} : Lit × DataW H → Nat
  | (.string bytes, d) => bytes.length + uptoBulk d + 1
  | (_, d) => uptoBulk d + 1
 end
def uptoSmall : (H : Type) → List (DataW H) → Bool := fun _ ds => decide (uptoBulkAll ds ≤ 1048576)
def OpenSpec.upto (s : _root_.Go.ChangeSpec) : _root_.Go.OpenSpec := { _root_.Go.OpenSpec.ofChange s with cond := some uptoSmall }

/-- 'laws.FnExactValuesOfChain', WHERE WHAT IT READS IS OF BULK AT MOST 1048576: true; the input reads as it did. -/
def fnExactValuesOfChainUptoRow : OpenClaim := { program := "ytffmjfgechdjjab", sum := "ef2f875f41632ae6767ce4eee3806adb42515a289963f66d01e2dcb3755f49ac", func := "loop.example/g01327/laws.FnExactValuesOfChain", spec := "fnExactValuesOfChain", inPlace := ["math.Float64bits", "math.Float64frombits"], apart := false, narrowed := true }
def FnExactValuesOfChainUptoSaid : Prop := fnExactValuesOfChainUptoRow.holds Try.pinned (OpenSpec.upto fnExactValuesOfChainSpec)

/-- 'laws.FnExactSolveChain', WHERE WHAT IT READS IS OF BULK AT MOST 1048576: true; the input reads as it did. -/
def fnExactSolveChainUptoRow : OpenClaim := { program := "ytffmjfgechdjjab", sum := "ef2f875f41632ae6767ce4eee3806adb42515a289963f66d01e2dcb3755f49ac", func := "loop.example/g01327/laws.FnExactSolveChain", spec := "fnExactSolveChain", inPlace := ["math.Float64bits", "math.Float64frombits"], apart := false, narrowed := true }
def FnExactSolveChainUptoSaid : Prop := fnExactSolveChainUptoRow.holds Try.pinned (OpenSpec.upto fnExactSolveChainSpec)

/-- 'laws.FnExactChainMatrix', WHERE WHAT IT READS IS OF BULK AT MOST 1048576: true; the input reads as it did. -/
def fnExactChainMatrixUptoRow : OpenClaim := { program := "ytffmjfgechdjjab", sum := "ef2f875f41632ae6767ce4eee3806adb42515a289963f66d01e2dcb3755f49ac", func := "loop.example/g01327/laws.FnExactChainMatrix", spec := "fnExactChainMatrix", inPlace := ["math.Float64bits", "math.Float64frombits"], apart := false, narrowed := true }
def FnExactChainMatrixUptoSaid : Prop := fnExactChainMatrixUptoRow.holds Try.pinned (OpenSpec.upto fnExactChainMatrixSpec)

/-- 'laws.FnExactOffNorm', WHERE WHAT IT READS IS OF BULK AT MOST 1048576: true; the input reads as it did. -/
def fnExactOffNormUptoRow : OpenClaim := { program := "ytffmjfgechdjjab", sum := "ef2f875f41632ae6767ce4eee3806adb42515a289963f66d01e2dcb3755f49ac", func := "loop.example/g01327/laws.FnExactOffNorm", spec := "fnExactOffNorm", inPlace := ["math.sqrt", "math.Float64bits", "math.Float64frombits"], unfollowed := true, recurses := true, apart := false, narrowed := true }
def FnExactOffNormUptoSaid : Prop := fnExactOffNormUptoRow.holds Try.pinned (OpenSpec.upto fnExactOffNormSpec)

/-- 'laws.FnExactUnitVector', WHERE WHAT IT READS IS OF BULK AT MOST 1048576: true; the input reads as it did. -/
def fnExactUnitVectorUptoRow : OpenClaim := { program := "ytffmjfgechdjjab", sum := "ef2f875f41632ae6767ce4eee3806adb42515a289963f66d01e2dcb3755f49ac", func := "loop.example/g01327/laws.FnExactUnitVector", spec := "fnExactUnitVector", inPlace := ["math.sqrt", "math.Float64bits", "math.Float64frombits"], apart := false, narrowed := true }
def FnExactUnitVectorUptoSaid : Prop := fnExactUnitVectorUptoRow.holds Try.pinned (OpenSpec.upto fnExactUnitVectorSpec)

/-- 'laws.FnExactCosineOf', WHERE WHAT IT READS IS OF BULK AT MOST 1048576: true; the input reads as it did. -/
def fnExactCosineOfUptoRow : OpenClaim := { program := "ytffmjfgechdjjab", sum := "ef2f875f41632ae6767ce4eee3806adb42515a289963f66d01e2dcb3755f49ac", func := "loop.example/g01327/laws.FnExactCosineOf", spec := "fnExactCosineOf", inPlace := ["math.sqrt", "math.Float64bits", "math.Float64frombits"], apart := false, narrowed := true }
def FnExactCosineOfUptoSaid : Prop := fnExactCosineOfUptoRow.holds Try.pinned (OpenSpec.upto fnExactCosineOfSpec)

end Rows
end Go.Proofs.Ytffmjfgechdjjab
