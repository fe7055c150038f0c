/-
  No cell of these rows narrows 'for every input' (looked for: loops, veiled, ifaces, maps, wideKeys, modest, calm, conditions, laid).
  DERIVED. THE GIVEN ROWS OF THIS SEAT. 6 by the template 'for every input the law returns true; each argument reads behind the call as it read before'; 0 by the template 'total and deterministic' (their statements: YtmjlhmbnaifhaacTotals.lean).
  GIVEN WITH THE SEED: the statements are not yours to turn. If you find one false, say at which input.
  Laid BY PROGRAM, IN A SANDBOX (cutbox-rows.mjs): the forced cells as the released guide's own fill.sh prints them over the translation 6ea14528dd45da63… (all of the seat's roots in one cut). By AI agents, Wed Nov 11 2026. No macro, syntax, notation, axiom, sorry.
-/
import Derived.Test.YtmjlhmbnaifhaacChecked
import GoSem.Claim
import GoSem.ClaimJoined
import GoSem.ClaimMapViews
import Derived.JoinedTies
import Derived.KernelRfl
namespace Go.Proofs.Ytmjlhmbnaifhaac
/- THE CELL 'sum', in the pinned program and in every row, IS THE sha256 OF THE DUMP (.gsa) THAT YtmjlhmbnaifhaacProg.lean LOADS. Nothing in Lean hashes anything: it is a label: what it is worth is what the hold of that sum in a sandbox is worth. -/
noncomputable def Try.pinned : Pinned := { name := "ytmjlhmbnaifhaac", sum := "6ea14528dd45da63d0445a0a96beb69e07b3eaa67377ebcdb41688856b0d1fa9", checked := Try.checked }
namespace Rows
def none {H : Type} : Left H := { results := [], args := [] }

/-- 'laws.FnExactExpMatrix': WHATEVER THE INPUT: true; the input reads as it did. -/
def fnExactExpMatrixSpec : ChangeSpec := { name := "fnExactExpMatrix", fn := fun _ => fun
  | [d1, d2] => { results := [.lit (.bool true)], args := [d1, d2] }
  | _ => none }
def fnExactExpMatrixRow : OpenClaim := { program := "ytmjlhmbnaifhaac", sum := "6ea14528dd45da63d0445a0a96beb69e07b3eaa67377ebcdb41688856b0d1fa9", func := "loop.example/g01327/laws.FnExactExpMatrix", spec := "fnExactExpMatrix", inPlace := ["math.Float64bits", "math.Float64frombits"], apart := false }
def FnExactExpMatrixSaid : Prop := fnExactExpMatrixRow.holds Try.pinned (OpenSpec.ofChange fnExactExpMatrixSpec)

/-- ITS FALSE NEIGHBOUR: 'it returns false'. Refute it at one input. -/
def fnExactExpMatrixWrong : ChangeSpec := { name := "fnExactExpMatrix", fn := fun _ => fun
  | [d1, d2] => { results := [.lit (.bool false)], args := [d1, d2] }
  | _ => none }
def FnExactExpMatrixWrongFalsely : Prop := fnExactExpMatrixRow.holds Try.pinned (OpenSpec.ofChange fnExactExpMatrixWrong)

/-- 'laws.FnExactSignsOf': WHATEVER THE INPUT: true; the input reads as it did. -/
def fnExactSignsOfSpec : ChangeSpec := { name := "fnExactSignsOf", fn := fun _ => fun
  | [d] => { results := [.lit (.bool true)], args := [d] }
  | _ => none }
def fnExactSignsOfRow : OpenClaim := { program := "ytmjlhmbnaifhaac", sum := "6ea14528dd45da63d0445a0a96beb69e07b3eaa67377ebcdb41688856b0d1fa9", func := "loop.example/g01327/laws.FnExactSignsOf", spec := "fnExactSignsOf", inPlace := ["math.Float64bits", "math.Float64frombits"], apart := false }
def FnExactSignsOfSaid : Prop := fnExactSignsOfRow.holds Try.pinned (OpenSpec.ofChange fnExactSignsOfSpec)

/-- ITS FALSE NEIGHBOUR: 'it returns false'. Refute it at one input. -/
def fnExactSignsOfWrong : ChangeSpec := { name := "fnExactSignsOf", fn := fun _ => fun
  | [d] => { results := [.lit (.bool false)], args := [d] }
  | _ => none }
def FnExactSignsOfWrongFalsely : Prop := fnExactSignsOfRow.holds Try.pinned (OpenSpec.ofChange fnExactSignsOfWrong)

/-- 'laws.FnExactWholeOf': WHATEVER THE INPUT: true; the input reads as it did. -/
def fnExactWholeOfSpec : ChangeSpec := { name := "fnExactWholeOf", fn := fun _ => fun
  | [d1, d2] => { results := [.lit (.bool true)], args := [d1, d2] }
  | _ => none }
def fnExactWholeOfRow : OpenClaim := { program := "ytmjlhmbnaifhaac", sum := "6ea14528dd45da63d0445a0a96beb69e07b3eaa67377ebcdb41688856b0d1fa9", func := "loop.example/g01327/laws.FnExactWholeOf", spec := "fnExactWholeOf", inPlace := ["math.archFloor", "math.Float64bits", "math.Float64frombits", "math.archTrunc"], apart := false }
def FnExactWholeOfSaid : Prop := fnExactWholeOfRow.holds Try.pinned (OpenSpec.ofChange fnExactWholeOfSpec)

/-- ITS FALSE NEIGHBOUR: 'it returns false'. Refute it at one input. -/
def fnExactWholeOfWrong : ChangeSpec := { name := "fnExactWholeOf", fn := fun _ => fun
  | [d1, d2] => { results := [.lit (.bool false)], args := [d1, d2] }
  | _ => none }
def FnExactWholeOfWrongFalsely : Prop := fnExactWholeOfRow.holds Try.pinned (OpenSpec.ofChange fnExactWholeOfWrong)

/-- 'laws.FnExactCharactersOf': WHATEVER THE INPUT: true; the input reads as it did. -/
def fnExactCharactersOfSpec : ChangeSpec := { name := "fnExactCharactersOf", fn := fun _ => fun
  | [d] => { results := [.lit (.bool true)], args := [d] }
  | _ => none }
def fnExactCharactersOfRow : OpenClaim := { program := "ytmjlhmbnaifhaac", sum := "6ea14528dd45da63d0445a0a96beb69e07b3eaa67377ebcdb41688856b0d1fa9", func := "loop.example/g01327/laws.FnExactCharactersOf", spec := "fnExactCharactersOf", unfollowed := true, recurses := true, apart := false }
def FnExactCharactersOfSaid : Prop := fnExactCharactersOfRow.holds Try.pinned (OpenSpec.ofChange fnExactCharactersOfSpec)

/-- ITS FALSE NEIGHBOUR: 'it returns false'. Refute it at one input. -/
def fnExactCharactersOfWrong : ChangeSpec := { name := "fnExactCharactersOf", fn := fun _ => fun
  | [d] => { results := [.lit (.bool false)], args := [d] }
  | _ => none }
def FnExactCharactersOfWrongFalsely : Prop := fnExactCharactersOfRow.holds Try.pinned (OpenSpec.ofChange fnExactCharactersOfWrong)

/-- 'laws.FnExactSameSheets': WHATEVER THE INPUT: true; the input reads as it did. -/
def fnExactSameSheetsSpec : ChangeSpec := { name := "fnExactSameSheets", fn := fun _ => fun
  | [d1, d2] => { results := [.lit (.bool true)], args := [d1, d2] }
  | _ => none }
def fnExactSameSheetsRow : OpenClaim := { program := "ytmjlhmbnaifhaac", sum := "6ea14528dd45da63d0445a0a96beb69e07b3eaa67377ebcdb41688856b0d1fa9", func := "loop.example/g01327/laws.FnExactSameSheets", spec := "fnExactSameSheets", inPlace := ["math.Float32bits"], unfollowed := true, recurses := true, apart := false }
def FnExactSameSheetsSaid : Prop := fnExactSameSheetsRow.holds Try.pinned (OpenSpec.ofChange fnExactSameSheetsSpec)

/-- ITS FALSE NEIGHBOUR: 'it returns false'. Refute it at one input. -/
def fnExactSameSheetsWrong : ChangeSpec := { name := "fnExactSameSheets", fn := fun _ => fun
  | [d1, d2] => { results := [.lit (.bool false)], args := [d1, d2] }
  | _ => none }
def FnExactSameSheetsWrongFalsely : Prop := fnExactSameSheetsRow.holds Try.pinned (OpenSpec.ofChange fnExactSameSheetsWrong)

/-- 'laws.FnExactThirdsSolve': WHATEVER THE INPUT: true; the input reads as it did. -/
def fnExactThirdsSolveSpec : ChangeSpec := { name := "fnExactThirdsSolve", fn := fun _ => fun
  | [d1, d2] => { results := [.lit (.bool true)], args := [d1, d2] }
  | _ => none }
def fnExactThirdsSolveRow : OpenClaim := { program := "ytmjlhmbnaifhaac", sum := "6ea14528dd45da63d0445a0a96beb69e07b3eaa67377ebcdb41688856b0d1fa9", func := "loop.example/g01327/laws.FnExactThirdsSolve", spec := "fnExactThirdsSolve", inPlace := ["math.Float64bits", "math.Float64frombits"], unfollowed := true, recurses := true, apart := false }
def FnExactThirdsSolveSaid : Prop := fnExactThirdsSolveRow.holds Try.pinned (OpenSpec.ofChange fnExactThirdsSolveSpec)

/-- ITS FALSE NEIGHBOUR: 'it returns false'. Refute it at one input. -/
def fnExactThirdsSolveWrong : ChangeSpec := { name := "fnExactThirdsSolve", fn := fun _ => fun
  | [d1, d2] => { results := [.lit (.bool false)], args := [d1, d2] }
  | _ => none }
def FnExactThirdsSolveWrongFalsely : Prop := fnExactThirdsSolveRow.holds Try.pinned (OpenSpec.ofChange fnExactThirdsSolveWrong)

/- THE SECOND FORM. 'bulk': how many values and letters a reading holds, each counted each time it is reached (what is shared counts as often as it is met; a slice's spare places count too). A statement '..UptoSaid' is the law's where the arguments, and the package variables that the reading takes, are together of bulk at most 1048576: NARROWER than '..Said'. Prove '..Said' where nothing that the law and all that it calls make is longer than what came in: it says more and counts as full. Else prove '..UptoSaid'. A law counts once. -/
mutual
def uptoBulk {H : Type} : DataW H → Nat
  | .lit (.string bytes) => bytes.length + 1
  | .lit _ => 1
  | .nil => 1
  | .ptr d => uptoBulk d + 1
  | .slice elems spare => uptoBulkAll elems + uptoBulkAll spare + 1
  | .agg parts => uptoBulkAll parts + 1
  | .iface _ d => uptoBulk d + 1
  | .map entries => uptoBulkEntries entries + 1
  | .held _ => 1
def uptoBulkAll {H : Type} : List (DataW H) → Nat
  | [] => 0
  | d :: r => uptoBulk d + uptoBulkAll r
def uptoBulkEntries {H : Type} : List (Lit × DataW H) → Nat
  | [] => 0
  | x :: r => uptoBulkEntry x + uptoBulkEntries r
def uptoBulkEntry {H : Type} : Lit × DataW H → Nat
  | (.string bytes, d) => bytes.length + uptoBulk d + 1
  | (_, d) => uptoBulk d + 1
 end
def uptoSmall : (H : Type) → List (DataW H) → Bool := fun _ ds => decide (uptoBulkAll ds ≤ 1048576)
def OpenSpec.upto (s : _root_.Go.ChangeSpec) : _root_.Go.OpenSpec := { _root_.Go.OpenSpec.ofChange s with cond := some uptoSmall }

/-- 'laws.FnExactExpMatrix', WHERE WHAT IT READS IS OF BULK AT MOST 1048576: true; the input reads as it did. -/
def fnExactExpMatrixUptoRow : OpenClaim := { program := "ytmjlhmbnaifhaac", sum := "6ea14528dd45da63d0445a0a96beb69e07b3eaa67377ebcdb41688856b0d1fa9", func := "loop.example/g01327/laws.FnExactExpMatrix", spec := "fnExactExpMatrix", inPlace := ["math.Float64bits", "math.Float64frombits"], apart := false, narrowed := true }
def FnExactExpMatrixUptoSaid : Prop := fnExactExpMatrixUptoRow.holds Try.pinned (OpenSpec.upto fnExactExpMatrixSpec)

/-- 'laws.FnExactSignsOf', WHERE WHAT IT READS IS OF BULK AT MOST 1048576: true; the input reads as it did. -/
def fnExactSignsOfUptoRow : OpenClaim := { program := "ytmjlhmbnaifhaac", sum := "6ea14528dd45da63d0445a0a96beb69e07b3eaa67377ebcdb41688856b0d1fa9", func := "loop.example/g01327/laws.FnExactSignsOf", spec := "fnExactSignsOf", inPlace := ["math.Float64bits", "math.Float64frombits"], apart := false, narrowed := true }
def FnExactSignsOfUptoSaid : Prop := fnExactSignsOfUptoRow.holds Try.pinned (OpenSpec.upto fnExactSignsOfSpec)

/-- 'laws.FnExactWholeOf', WHERE WHAT IT READS IS OF BULK AT MOST 1048576: true; the input reads as it did. -/
def fnExactWholeOfUptoRow : OpenClaim := { program := "ytmjlhmbnaifhaac", sum := "6ea14528dd45da63d0445a0a96beb69e07b3eaa67377ebcdb41688856b0d1fa9", func := "loop.example/g01327/laws.FnExactWholeOf", spec := "fnExactWholeOf", inPlace := ["math.archFloor", "math.Float64bits", "math.Float64frombits", "math.archTrunc"], apart := false, narrowed := true }
def FnExactWholeOfUptoSaid : Prop := fnExactWholeOfUptoRow.holds Try.pinned (OpenSpec.upto fnExactWholeOfSpec)

/-- 'laws.FnExactCharactersOf', WHERE WHAT IT READS IS OF BULK AT MOST 1048576: true; the input reads as it did. -/
def fnExactCharactersOfUptoRow : OpenClaim := { program := "ytmjlhmbnaifhaac", sum := "6ea14528dd45da63d0445a0a96beb69e07b3eaa67377ebcdb41688856b0d1fa9", func := "loop.example/g01327/laws.FnExactCharactersOf", spec := "fnExactCharactersOf", unfollowed := true, recurses := true, apart := false, narrowed := true }
def FnExactCharactersOfUptoSaid : Prop := fnExactCharactersOfUptoRow.holds Try.pinned (OpenSpec.upto fnExactCharactersOfSpec)

/-- 'laws.FnExactSameSheets', WHERE WHAT IT READS IS OF BULK AT MOST 1048576: true; the input reads as it did. -/
def fnExactSameSheetsUptoRow : OpenClaim := { program := "ytmjlhmbnaifhaac", sum := "6ea14528dd45da63d0445a0a96beb69e07b3eaa67377ebcdb41688856b0d1fa9", func := "loop.example/g01327/laws.FnExactSameSheets", spec := "fnExactSameSheets", inPlace := ["math.Float32bits"], unfollowed := true, recurses := true, apart := false, narrowed := true }
def FnExactSameSheetsUptoSaid : Prop := fnExactSameSheetsUptoRow.holds Try.pinned (OpenSpec.upto fnExactSameSheetsSpec)

/-- 'laws.FnExactThirdsSolve', WHERE WHAT IT READS IS OF BULK AT MOST 1048576: true; the input reads as it did. -/
def fnExactThirdsSolveUptoRow : OpenClaim := { program := "ytmjlhmbnaifhaac", sum := "6ea14528dd45da63d0445a0a96beb69e07b3eaa67377ebcdb41688856b0d1fa9", func := "loop.example/g01327/laws.FnExactThirdsSolve", spec := "fnExactThirdsSolve", inPlace := ["math.Float64bits", "math.Float64frombits"], unfollowed := true, recurses := true, apart := false, narrowed := true }
def FnExactThirdsSolveUptoSaid : Prop := fnExactThirdsSolveUptoRow.holds Try.pinned (OpenSpec.upto fnExactThirdsSolveSpec)

end Rows
end Go.Proofs.Ytmjlhmbnaifhaac
