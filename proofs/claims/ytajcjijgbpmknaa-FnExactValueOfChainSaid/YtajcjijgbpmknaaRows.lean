/-
  No cell of these rows narrows 'for every input' (looked for: loops, veiled, ifaces, maps, wideKeys, modest, calm, conditions, laid).
  DERIVED. THE GIVEN ROWS OF THIS SEAT. 4 by the template 'for every input the law returns true; each argument reads behind the call as it read before'; 0 by the template 'total and deterministic' (their statements: YtajcjijgbpmknaaTotals.lean).
  GIVEN WITH THE SEED: the statements are not yours to turn. If you find one false, say at which input.
  Laid BY PROGRAM, IN A SANDBOX (cutbox-rows.mjs): the forced cells as the released guide's own fill.sh prints them over the translation c7456167502ed5bf… (all of the seat's roots in one cut). By AI agents, Wed Nov 11 2026. No macro, syntax, notation, axiom, sorry.
-/
import Derived.Test.YtajcjijgbpmknaaChecked
import GoSem.Claim
import GoSem.ClaimJoined
import GoSem.ClaimMapViews
import Derived.JoinedTies
import Derived.KernelRfl
namespace Go.Proofs.Ytajcjijgbpmknaa
/- THE CELL 'sum', in the pinned program and in every row, IS THE sha256 OF THE DUMP (.gsa) THAT YtajcjijgbpmknaaProg.lean LOADS. Nothing in Lean hashes anything: it is a label: what it is worth is what the hold of that sum in a sandbox is worth. -/
noncomputable def Try.pinned : Pinned := { name := "ytajcjijgbpmknaa", sum := "c7456167502ed5bf7960f65230cbd241b14678238d391cdc4077fc67017b2dfb", checked := Try.checked }
namespace Rows
def none {H : Type} : Left H := { results := [], args := [] }

/-- 'laws.FnExactChainMatrix': WHATEVER THE INPUT: true; the input reads as it did. -/
def fnExactChainMatrixSpec : ChangeSpec := { name := "fnExactChainMatrix", fn := fun _ => fun
  | [d] => { results := [.lit (.bool true)], args := [d] }
  | _ => none }
def fnExactChainMatrixRow : OpenClaim := { program := "ytajcjijgbpmknaa", sum := "c7456167502ed5bf7960f65230cbd241b14678238d391cdc4077fc67017b2dfb", func := "loop.example/g01327/laws.FnExactChainMatrix", spec := "fnExactChainMatrix", inPlace := ["math.Float64bits", "math.Float64frombits"], apart := false }
def FnExactChainMatrixSaid : Prop := fnExactChainMatrixRow.holds Try.pinned (OpenSpec.ofChange fnExactChainMatrixSpec)

/-- ITS FALSE NEIGHBOUR: 'it returns false'. Refute it at one input. -/
def fnExactChainMatrixWrong : ChangeSpec := { name := "fnExactChainMatrix", fn := fun _ => fun
  | [d] => { results := [.lit (.bool false)], args := [d] }
  | _ => none }
def FnExactChainMatrixWrongFalsely : Prop := fnExactChainMatrixRow.holds Try.pinned (OpenSpec.ofChange fnExactChainMatrixWrong)

/-- 'laws.FnExactValueOfChain': WHATEVER THE INPUT: true; the input reads as it did. -/
def fnExactValueOfChainSpec : ChangeSpec := { name := "fnExactValueOfChain", fn := fun _ => fun
  | [d1, d2] => { results := [.lit (.bool true)], args := [d1, d2] }
  | _ => none }
def fnExactValueOfChainRow : OpenClaim := { program := "ytajcjijgbpmknaa", sum := "c7456167502ed5bf7960f65230cbd241b14678238d391cdc4077fc67017b2dfb", func := "loop.example/g01327/laws.FnExactValueOfChain", spec := "fnExactValueOfChain", inPlace := ["math.Float64bits", "math.Float64frombits"], apart := false }
def FnExactValueOfChainSaid : Prop := fnExactValueOfChainRow.holds Try.pinned (OpenSpec.ofChange fnExactValueOfChainSpec)

/-- ITS FALSE NEIGHBOUR: 'it returns false'. Refute it at one input. -/
def fnExactValueOfChainWrong : ChangeSpec := { name := "fnExactValueOfChain", fn := fun _ => fun
  | [d1, d2] => { results := [.lit (.bool false)], args := [d1, d2] }
  | _ => none }
def FnExactValueOfChainWrongFalsely : Prop := fnExactValueOfChainRow.holds Try.pinned (OpenSpec.ofChange fnExactValueOfChainWrong)

/-- 'laws.FnExactValuesOfChain': WHATEVER THE INPUT: true; the input reads as it did. -/
def fnExactValuesOfChainSpec : ChangeSpec := { name := "fnExactValuesOfChain", fn := fun _ => fun
  | [d] => { results := [.lit (.bool true)], args := [d] }
  | _ => none }
def fnExactValuesOfChainRow : OpenClaim := { program := "ytajcjijgbpmknaa", sum := "c7456167502ed5bf7960f65230cbd241b14678238d391cdc4077fc67017b2dfb", func := "loop.example/g01327/laws.FnExactValuesOfChain", spec := "fnExactValuesOfChain", inPlace := ["math.Float64bits", "math.Float64frombits"], apart := false }
def FnExactValuesOfChainSaid : Prop := fnExactValuesOfChainRow.holds Try.pinned (OpenSpec.ofChange fnExactValuesOfChainSpec)

/-- ITS FALSE NEIGHBOUR: 'it returns false'. Refute it at one input. -/
def fnExactValuesOfChainWrong : ChangeSpec := { name := "fnExactValuesOfChain", fn := fun _ => fun
  | [d] => { results := [.lit (.bool false)], args := [d] }
  | _ => none }
def FnExactValuesOfChainWrongFalsely : Prop := fnExactValuesOfChainRow.holds Try.pinned (OpenSpec.ofChange fnExactValuesOfChainWrong)

/-- 'laws.FnExactSolveChain': WHATEVER THE INPUT: true; the input reads as it did. -/
def fnExactSolveChainSpec : ChangeSpec := { name := "fnExactSolveChain", fn := fun _ => fun
  | [d1, d2] => { results := [.lit (.bool true)], args := [d1, d2] }
  | _ => none }
def fnExactSolveChainRow : OpenClaim := { program := "ytajcjijgbpmknaa", sum := "c7456167502ed5bf7960f65230cbd241b14678238d391cdc4077fc67017b2dfb", func := "loop.example/g01327/laws.FnExactSolveChain", spec := "fnExactSolveChain", inPlace := ["math.Float64bits", "math.Float64frombits"], apart := false }
def FnExactSolveChainSaid : Prop := fnExactSolveChainRow.holds Try.pinned (OpenSpec.ofChange fnExactSolveChainSpec)

/-- ITS FALSE NEIGHBOUR: 'it returns false'. Refute it at one input. -/
def fnExactSolveChainWrong : ChangeSpec := { name := "fnExactSolveChain", fn := fun _ => fun
  | [d1, d2] => { results := [.lit (.bool false)], args := [d1, d2] }
  | _ => none }
def FnExactSolveChainWrongFalsely : Prop := fnExactSolveChainRow.holds Try.pinned (OpenSpec.ofChange fnExactSolveChainWrong)

/- THE SECOND FORM. 'bulk': how many values and letters a reading holds, each counted each time it is reached (what is shared counts as often as it is met; a slice's spare places count too). A statement '..UptoSaid' is the law's where the arguments, and the package variables that the reading takes, are together of bulk at most 1048576: NARROWER than '..Said'. Prove '..Said' where nothing that the law and all that it calls make is longer than what came in: it says more and counts as full. Else prove '..UptoSaid'. A law counts once. -/
mutual
def uptoBulk {H : Type} : DataW H → Nat
  | .lit (.string bytes) => bytes.length + 1
  | .lit _ => 1
  | .nil => 1
  | .ptr d => uptoBulk d + 1
  | .slice elems spare => uptoBulkAll elems + uptoBulkAll spare + 1
  | .agg parts => uptoBulkAll parts + 1
  | .iface _ d => uptoBulk d + 1
  | .map entries => uptoBulkEntries entries + 1
  | .held _ => 1
def uptoBulkAll {H : Type} : List (DataW H) → Nat
  | [] => 0
  | d :: r => uptoBulk d + uptoBulkAll r
def uptoBulkEntries {H : Type} : List (Lit × DataW H) → Nat
  | [] => 0
  | x :: r => uptoBulkEntry x + uptoBulkEntries r
def uptoBulkEntry {H : Type} : Lit × DataW H → Nat
  | (.string bytes, d) => bytes.length + uptoBulk d + 1
  | (_, d) => uptoBulk d + 1
 end
def uptoSmall : (H : Type) → List (DataW H) → Bool := fun _ ds => decide (uptoBulkAll ds ≤ 1048576)
def OpenSpec.upto (s : _root_.Go.ChangeSpec) : _root_.Go.OpenSpec := { _root_.Go.OpenSpec.ofChange s with cond := some uptoSmall }

/-- 'laws.FnExactChainMatrix', WHERE WHAT IT READS IS OF BULK AT MOST 1048576: true; the input reads as it did. -/
def fnExactChainMatrixUptoRow : OpenClaim := { program := "ytajcjijgbpmknaa", sum := "c7456167502ed5bf7960f65230cbd241b14678238d391cdc4077fc67017b2dfb", func := "loop.example/g01327/laws.FnExactChainMatrix", spec := "fnExactChainMatrix", inPlace := ["math.Float64bits", "math.Float64frombits"], apart := false, narrowed := true }
def FnExactChainMatrixUptoSaid : Prop := fnExactChainMatrixUptoRow.holds Try.pinned (OpenSpec.upto fnExactChainMatrixSpec)

/-- 'laws.FnExactValueOfChain', WHERE WHAT IT READS IS OF BULK AT MOST 1048576: true; the input reads as it did. -/
def fnExactValueOfChainUptoRow : OpenClaim := { program := "ytajcjijgbpmknaa", sum := "c7456167502ed5bf7960f65230cbd241b14678238d391cdc4077fc67017b2dfb", func := "loop.example/g01327/laws.FnExactValueOfChain", spec := "fnExactValueOfChain", inPlace := ["math.Float64bits", "math.Float64frombits"], apart := false, narrowed := true }
def FnExactValueOfChainUptoSaid : Prop := fnExactValueOfChainUptoRow.holds Try.pinned (OpenSpec.upto fnExactValueOfChainSpec)

/-- 'laws.FnExactValuesOfChain', WHERE WHAT IT READS IS OF BULK AT MOST 1048576: true; the input reads as it did. -/
def fnExactValuesOfChainUptoRow : OpenClaim := { program := "ytajcjijgbpmknaa", sum := "c7456167502ed5bf7960f65230cbd241b14678238d391cdc4077fc67017b2dfb", func := "loop.example/g01327/laws.FnExactValuesOfChain", spec := "fnExactValuesOfChain", inPlace := ["math.Float64bits", "math.Float64frombits"], apart := false, narrowed := true }
def FnExactValuesOfChainUptoSaid : Prop := fnExactValuesOfChainUptoRow.holds Try.pinned (OpenSpec.upto fnExactValuesOfChainSpec)

/-- 'laws.FnExactSolveChain', WHERE WHAT IT READS IS OF BULK AT MOST 1048576: true; the input reads as it did. -/
def fnExactSolveChainUptoRow : OpenClaim := { program := "ytajcjijgbpmknaa", sum := "c7456167502ed5bf7960f65230cbd241b14678238d391cdc4077fc67017b2dfb", func := "loop.example/g01327/laws.FnExactSolveChain", spec := "fnExactSolveChain", inPlace := ["math.Float64bits", "math.Float64frombits"], apart := false, narrowed := true }
def FnExactSolveChainUptoSaid : Prop := fnExactSolveChainUptoRow.holds Try.pinned (OpenSpec.upto fnExactSolveChainSpec)

end Rows
end Go.Proofs.Ytajcjijgbpmknaa
