/-
  No cell of these rows narrows 'for every input' (looked for: loops, veiled, ifaces, maps, wideKeys, modest, calm, conditions, laid).
  DERIVED. THE GIVEN ROWS OF THIS SEAT. 6 by the template 'for every input the law returns true; each argument reads behind the call as it read before'; 0 by the template 'total and deterministic' (their statements: YtinekdfpgkmbnabTotals.lean).
  GIVEN WITH THE SEED: the statements are not yours to turn. If you find one false, say at which input.
  Laid BY PROGRAM, IN A SANDBOX (cutbox-rows.mjs): the forced cells as the released guide's own fill.sh prints them over the translation ed41149da5fbae07… (all of the seat's roots in one cut). By AI agents, Wed Nov 11 2026. No macro, syntax, notation, axiom, sorry.
-/
import Derived.Test.YtinekdfpgkmbnabChecked
import GoSem.Claim
import GoSem.ClaimJoined
import GoSem.ClaimMapViews
import Derived.JoinedTies
import Derived.KernelRfl
namespace Go.Proofs.Ytinekdfpgkmbnab
/- THE CELL 'sum', in the pinned program and in every row, IS THE sha256 OF THE DUMP (.gsa) THAT YtinekdfpgkmbnabProg.lean LOADS. Nothing in Lean hashes anything: it is a label: what it is worth is what the hold of that sum in a sandbox is worth. -/
noncomputable def Try.pinned : Pinned := { name := "ytinekdfpgkmbnab", sum := "ed41149da5fbae07b42536c850614d6170f4e5d7ec9fd8d2c427ed4c2e301347", checked := Try.checked }
namespace Rows
def none {H : Type} : Left H := { results := [], args := [] }

/-- 'laws.FnExactUnitWhole': WHATEVER THE INPUT: true; the input reads as it did. -/
def fnExactUnitWholeSpec : ChangeSpec := { name := "fnExactUnitWhole", fn := fun _ => fun
  | [d] => { results := [.lit (.bool true)], args := [d] }
  | _ => none }
def fnExactUnitWholeRow : OpenClaim := { program := "ytinekdfpgkmbnab", sum := "ed41149da5fbae07b42536c850614d6170f4e5d7ec9fd8d2c427ed4c2e301347", func := "loop.example/g01327/laws.FnExactUnitWhole", spec := "fnExactUnitWhole", apart := false }
def FnExactUnitWholeSaid : Prop := fnExactUnitWholeRow.holds Try.pinned (OpenSpec.ofChange fnExactUnitWholeSpec)

/-- ITS FALSE NEIGHBOUR: 'it returns false'. Refute it at one input. -/
def fnExactUnitWholeWrong : ChangeSpec := { name := "fnExactUnitWhole", fn := fun _ => fun
  | [d] => { results := [.lit (.bool false)], args := [d] }
  | _ => none }
def FnExactUnitWholeWrongFalsely : Prop := fnExactUnitWholeRow.holds Try.pinned (OpenSpec.ofChange fnExactUnitWholeWrong)

/-- 'laws.FnExactFlipWhole': WHATEVER THE INPUT: true; the input reads as it did. -/
def fnExactFlipWholeSpec : ChangeSpec := { name := "fnExactFlipWhole", fn := fun _ => fun
  | [d] => { results := [.lit (.bool true)], args := [d] }
  | _ => none }
def fnExactFlipWholeRow : OpenClaim := { program := "ytinekdfpgkmbnab", sum := "ed41149da5fbae07b42536c850614d6170f4e5d7ec9fd8d2c427ed4c2e301347", func := "loop.example/g01327/laws.FnExactFlipWhole", spec := "fnExactFlipWhole", apart := false }
def FnExactFlipWholeSaid : Prop := fnExactFlipWholeRow.holds Try.pinned (OpenSpec.ofChange fnExactFlipWholeSpec)

/-- ITS FALSE NEIGHBOUR: 'it returns false'. Refute it at one input. -/
def fnExactFlipWholeWrong : ChangeSpec := { name := "fnExactFlipWhole", fn := fun _ => fun
  | [d] => { results := [.lit (.bool false)], args := [d] }
  | _ => none }
def FnExactFlipWholeWrongFalsely : Prop := fnExactFlipWholeRow.holds Try.pinned (OpenSpec.ofChange fnExactFlipWholeWrong)

/-- 'laws.FnExactMulWholes': WHATEVER THE INPUT: true; the input reads as it did. -/
def fnExactMulWholesSpec : ChangeSpec := { name := "fnExactMulWholes", fn := fun _ => fun
  | [d1, d2] => { results := [.lit (.bool true)], args := [d1, d2] }
  | _ => none }
def fnExactMulWholesRow : OpenClaim := { program := "ytinekdfpgkmbnab", sum := "ed41149da5fbae07b42536c850614d6170f4e5d7ec9fd8d2c427ed4c2e301347", func := "loop.example/g01327/laws.FnExactMulWholes", spec := "fnExactMulWholes", unfollowed := true, recurses := true, apart := false }
def FnExactMulWholesSaid : Prop := fnExactMulWholesRow.holds Try.pinned (OpenSpec.ofChange fnExactMulWholesSpec)

/-- ITS FALSE NEIGHBOUR: 'it returns false'. Refute it at one input. -/
def fnExactMulWholesWrong : ChangeSpec := { name := "fnExactMulWholes", fn := fun _ => fun
  | [d1, d2] => { results := [.lit (.bool false)], args := [d1, d2] }
  | _ => none }
def FnExactMulWholesWrongFalsely : Prop := fnExactMulWholesRow.holds Try.pinned (OpenSpec.ofChange fnExactMulWholesWrong)

/-- 'laws.FnExactGramOf': WHATEVER THE INPUT: true; the input reads as it did. -/
def fnExactGramOfSpec : ChangeSpec := { name := "fnExactGramOf", fn := fun _ => fun
  | [d] => { results := [.lit (.bool true)], args := [d] }
  | _ => none }
def fnExactGramOfRow : OpenClaim := { program := "ytinekdfpgkmbnab", sum := "ed41149da5fbae07b42536c850614d6170f4e5d7ec9fd8d2c427ed4c2e301347", func := "loop.example/g01327/laws.FnExactGramOf", spec := "fnExactGramOf", unfollowed := true, recurses := true, apart := false }
def FnExactGramOfSaid : Prop := fnExactGramOfRow.holds Try.pinned (OpenSpec.ofChange fnExactGramOfSpec)

/-- ITS FALSE NEIGHBOUR: 'it returns false'. Refute it at one input. -/
def fnExactGramOfWrong : ChangeSpec := { name := "fnExactGramOf", fn := fun _ => fun
  | [d] => { results := [.lit (.bool false)], args := [d] }
  | _ => none }
def FnExactGramOfWrongFalsely : Prop := fnExactGramOfRow.holds Try.pinned (OpenSpec.ofChange fnExactGramOfWrong)

/-- 'laws.FnExactMatrixOf': WHATEVER THE INPUT: true; the input reads as it did. -/
def fnExactMatrixOfSpec : ChangeSpec := { name := "fnExactMatrixOf", fn := fun _ => fun
  | [d] => { results := [.lit (.bool true)], args := [d] }
  | _ => none }
def fnExactMatrixOfRow : OpenClaim := { program := "ytinekdfpgkmbnab", sum := "ed41149da5fbae07b42536c850614d6170f4e5d7ec9fd8d2c427ed4c2e301347", func := "loop.example/g01327/laws.FnExactMatrixOf", spec := "fnExactMatrixOf", apart := false }
def FnExactMatrixOfSaid : Prop := fnExactMatrixOfRow.holds Try.pinned (OpenSpec.ofChange fnExactMatrixOfSpec)

/-- ITS FALSE NEIGHBOUR: 'it returns false'. Refute it at one input. -/
def fnExactMatrixOfWrong : ChangeSpec := { name := "fnExactMatrixOf", fn := fun _ => fun
  | [d] => { results := [.lit (.bool false)], args := [d] }
  | _ => none }
def FnExactMatrixOfWrongFalsely : Prop := fnExactMatrixOfRow.holds Try.pinned (OpenSpec.ofChange fnExactMatrixOfWrong)

/-- 'laws.FnExactWholeOf': WHATEVER THE INPUT: true; the input reads as it did. -/
def fnExactWholeOfSpec : ChangeSpec := { name := "fnExactWholeOf", fn := fun _ => fun
  | [d1, d2] => { results := [.lit (.bool true)], args := [d1, d2] }
  | _ => none }
def fnExactWholeOfRow : OpenClaim := { program := "ytinekdfpgkmbnab", sum := "ed41149da5fbae07b42536c850614d6170f4e5d7ec9fd8d2c427ed4c2e301347", func := "loop.example/g01327/laws.FnExactWholeOf", spec := "fnExactWholeOf", inPlace := ["math.archFloor", "math.Float64bits", "math.Float64frombits", "math.archTrunc"], apart := false }
def FnExactWholeOfSaid : Prop := fnExactWholeOfRow.holds Try.pinned (OpenSpec.ofChange fnExactWholeOfSpec)

/-- ITS FALSE NEIGHBOUR: 'it returns false'. Refute it at one input. -/
def fnExactWholeOfWrong : ChangeSpec := { name := "fnExactWholeOf", fn := fun _ => fun
  | [d1, d2] => { results := [.lit (.bool false)], args := [d1, d2] }
  | _ => none }
def FnExactWholeOfWrongFalsely : Prop := fnExactWholeOfRow.holds Try.pinned (OpenSpec.ofChange fnExactWholeOfWrong)

/- THE SECOND FORM. 'bulk': how many values and letters a reading holds, each counted each time it is reached (what is shared counts as often as it is met; a slice's spare places count too). A statement '..UptoSaid' is the law's where the arguments, and the package variables that the reading takes, are together of bulk at most 1048576: NARROWER than '..Said'. Prove '..Said' where nothing that the law and all that it calls make is longer than what came in: it says more and counts as full. Else prove '..UptoSaid'. A law counts once. -/
mutual
def uptoBulk {H : Type} : DataW H → Nat
  | .lit (.string bytes) => bytes.length + 1
  | .lit _ => 1
  | .nil => 1
  | .ptr d => uptoBulk d + 1
  | .slice elems spare => uptoBulkAll elems + uptoBulkAll spare + 1
  | .agg parts => uptoBulkAll parts + 1
  | .iface _ d => uptoBulk d + 1
  | .map entries => uptoBulkEntries entries + 1
  | .held _ => 1
def uptoBulkAll {H : Type} : List (DataW H) → Nat
  | [] => 0
  | d :: r => uptoBulk d + uptoBulkAll r
def uptoBulkEntries {H : Type} : List (Lit × DataW H) → Nat
  | [] => 0
  | x :: r => uptoBulkEntry x + uptoBulkEntries r
def uptoBulkEntry {H : Type} : Lit × DataW H → Nat
  | (.string bytes, d) => bytes.length + uptoBulk d + 1
  | (_, d) => uptoBulk d + 1
 end
def uptoSmall : (H : Type) → List (DataW H) → Bool := fun _ ds => decide (uptoBulkAll ds ≤ 1048576)
def OpenSpec.upto (s : _root_.Go.ChangeSpec) : _root_.Go.OpenSpec := { _root_.Go.OpenSpec.ofChange s with cond := some uptoSmall }

/-- 'laws.FnExactUnitWhole', WHERE WHAT IT READS IS OF BULK AT MOST 1048576: true; the input reads as it did. -/
def fnExactUnitWholeUptoRow : OpenClaim := { program := "ytinekdfpgkmbnab", sum := "ed41149da5fbae07b42536c850614d6170f4e5d7ec9fd8d2c427ed4c2e301347", func := "loop.example/g01327/laws.FnExactUnitWhole", spec := "fnExactUnitWhole", apart := false, narrowed := true }
def FnExactUnitWholeUptoSaid : Prop := fnExactUnitWholeUptoRow.holds Try.pinned (OpenSpec.upto fnExactUnitWholeSpec)

/-- 'laws.FnExactFlipWhole', WHERE WHAT IT READS IS OF BULK AT MOST 1048576: true; the input reads as it did. -/
def fnExactFlipWholeUptoRow : OpenClaim := { program := "ytinekdfpgkmbnab", sum := "ed41149da5fbae07b42536c850614d6170f4e5d7ec9fd8d2c427ed4c2e301347", func := "loop.example/g01327/laws.FnExactFlipWhole", spec := "fnExactFlipWhole", apart := false, narrowed := true }
def FnExactFlipWholeUptoSaid : Prop := fnExactFlipWholeUptoRow.holds Try.pinned (OpenSpec.upto fnExactFlipWholeSpec)

/-- 'laws.FnExactMulWholes', WHERE WHAT IT READS IS OF BULK AT MOST 1048576: true; the input reads as it did. -/
def fnExactMulWholesUptoRow : OpenClaim := { program := "ytinekdfpgkmbnab", sum := "ed41149da5fbae07b42536c850614d6170f4e5d7ec9fd8d2c427ed4c2e301347", func := "loop.example/g01327/laws.FnExactMulWholes", spec := "fnExactMulWholes", unfollowed := true, recurses := true, apart := false, narrowed := true }
def FnExactMulWholesUptoSaid : Prop := fnExactMulWholesUptoRow.holds Try.pinned (OpenSpec.upto fnExactMulWholesSpec)

/-- 'laws.FnExactGramOf', WHERE WHAT IT READS IS OF BULK AT MOST 1048576: true; the input reads as it did. -/
def fnExactGramOfUptoRow : OpenClaim := { program := "ytinekdfpgkmbnab", sum := "ed41149da5fbae07b42536c850614d6170f4e5d7ec9fd8d2c427ed4c2e301347", func := "loop.example/g01327/laws.FnExactGramOf", spec := "fnExactGramOf", unfollowed := true, recurses := true, apart := false, narrowed := true }
def FnExactGramOfUptoSaid : Prop := fnExactGramOfUptoRow.holds Try.pinned (OpenSpec.upto fnExactGramOfSpec)

/-- 'laws.FnExactMatrixOf', WHERE WHAT IT READS IS OF BULK AT MOST 1048576: true; the input reads as it did. -/
def fnExactMatrixOfUptoRow : OpenClaim := { program := "ytinekdfpgkmbnab", sum := "ed41149da5fbae07b42536c850614d6170f4e5d7ec9fd8d2c427ed4c2e301347", func := "loop.example/g01327/laws.FnExactMatrixOf", spec := "fnExactMatrixOf", apart := false, narrowed := true }
def FnExactMatrixOfUptoSaid : Prop := fnExactMatrixOfUptoRow.holds Try.pinned (OpenSpec.upto fnExactMatrixOfSpec)

/-- 'laws.FnExactWholeOf', WHERE WHAT IT READS IS OF BULK AT MOST 1048576: true; the input reads as it did. -/
def fnExactWholeOfUptoRow : OpenClaim := { program := "ytinekdfpgkmbnab", sum := "ed41149da5fbae07b42536c850614d6170f4e5d7ec9fd8d2c427ed4c2e301347", func := "loop.example/g01327/laws.FnExactWholeOf", spec := "fnExactWholeOf", inPlace := ["math.archFloor", "math.Float64bits", "math.Float64frombits", "math.archTrunc"], apart := false, narrowed := true }
def FnExactWholeOfUptoSaid : Prop := fnExactWholeOfUptoRow.holds Try.pinned (OpenSpec.upto fnExactWholeOfSpec)

end Rows
end Go.Proofs.Ytinekdfpgkmbnab
