/-
  No cell of these rows narrows 'for every input' (looked for: loops, veiled, ifaces, maps, wideKeys, modest, calm, conditions, laid).
  DERIVED. THE GIVEN ROWS OF THIS SEAT. 6 by the template 'for every input the law returns true; each argument reads behind the call as it read before'; 0 by the template 'total and deterministic' (their statements: YtpmilaemmdcfaacTotals.lean).
  GIVEN WITH THE SEED: the statements are not yours to turn. If you find one false, say at which input.
  Laid BY PROGRAM, IN A SANDBOX (cutbox-rows.mjs): the forced cells as the released guide's own fill.sh prints them over the translation 17fc94bf34606830… (all of the seat's roots in one cut). By AI agents, Wed Nov 11 2026. No macro, syntax, notation, axiom, sorry.
-/
import Derived.Test.YtpmilaemmdcfaacChecked
import GoSem.Claim
import GoSem.ClaimJoined
import GoSem.ClaimMapViews
import Derived.JoinedTies
import Derived.KernelRfl
namespace Go.Proofs.Ytpmilaemmdcfaac
/- THE CELL 'sum', in the pinned program and in every row, IS THE sha256 OF THE DUMP (.gsa) THAT YtpmilaemmdcfaacProg.lean LOADS. Nothing in Lean hashes anything: it is a label: what it is worth is what the hold of that sum in a sandbox is worth. -/
noncomputable def Try.pinned : Pinned := { name := "ytpmilaemmdcfaac", sum := "17fc94bf34606830dd5ec244b689b4ec3c2c33a3e063ac3fa3d6c05f157b4c64", checked := Try.checked }
namespace Rows
def none {H : Type} : Left H := { results := [], args := [] }

/-- 'laws.FnExactValidFactor': WHATEVER THE INPUT: true; the input reads as it did. -/
def fnExactValidFactorSpec : ChangeSpec := { name := "fnExactValidFactor", fn := fun _ => fun
  | [d] => { results := [.lit (.bool true)], args := [d] }
  | _ => none }
def fnExactValidFactorRow : OpenClaim := { program := "ytpmilaemmdcfaac", sum := "17fc94bf34606830dd5ec244b689b4ec3c2c33a3e063ac3fa3d6c05f157b4c64", func := "loop.example/g01327/laws.FnExactValidFactor", spec := "fnExactValidFactor", inPlace := ["math.Float64bits", "math.Float64frombits"], apart := false }
def FnExactValidFactorSaid : Prop := fnExactValidFactorRow.holds Try.pinned (OpenSpec.ofChange fnExactValidFactorSpec)

/-- ITS FALSE NEIGHBOUR: 'it returns false'. Refute it at one input. -/
def fnExactValidFactorWrong : ChangeSpec := { name := "fnExactValidFactor", fn := fun _ => fun
  | [d] => { results := [.lit (.bool false)], args := [d] }
  | _ => none }
def FnExactValidFactorWrongFalsely : Prop := fnExactValidFactorRow.holds Try.pinned (OpenSpec.ofChange fnExactValidFactorWrong)

/-- 'laws.FnExactSameFactor': WHATEVER THE INPUT: true; the input reads as it did. -/
def fnExactSameFactorSpec : ChangeSpec := { name := "fnExactSameFactor", fn := fun _ => fun
  | [d1, d2] => { results := [.lit (.bool true)], args := [d1, d2] }
  | _ => none }
def fnExactSameFactorRow : OpenClaim := { program := "ytpmilaemmdcfaac", sum := "17fc94bf34606830dd5ec244b689b4ec3c2c33a3e063ac3fa3d6c05f157b4c64", func := "loop.example/g01327/laws.FnExactSameFactor", spec := "fnExactSameFactor", inPlace := ["math.Float32bits"], apart := false }
def FnExactSameFactorSaid : Prop := fnExactSameFactorRow.holds Try.pinned (OpenSpec.ofChange fnExactSameFactorSpec)

/-- ITS FALSE NEIGHBOUR: 'it returns false'. Refute it at one input. -/
def fnExactSameFactorWrong : ChangeSpec := { name := "fnExactSameFactor", fn := fun _ => fun
  | [d1, d2] => { results := [.lit (.bool false)], args := [d1, d2] }
  | _ => none }
def FnExactSameFactorWrongFalsely : Prop := fnExactSameFactorRow.holds Try.pinned (OpenSpec.ofChange fnExactSameFactorWrong)

/-- 'laws.FnExactLowerOf': WHATEVER THE INPUT: true; the input reads as it did. -/
def fnExactLowerOfSpec : ChangeSpec := { name := "fnExactLowerOf", fn := fun _ => fun
  | [d] => { results := [.lit (.bool true)], args := [d] }
  | _ => none }
def fnExactLowerOfRow : OpenClaim := { program := "ytpmilaemmdcfaac", sum := "17fc94bf34606830dd5ec244b689b4ec3c2c33a3e063ac3fa3d6c05f157b4c64", func := "loop.example/g01327/laws.FnExactLowerOf", spec := "fnExactLowerOf", inPlace := ["math.Float64bits", "math.Float64frombits"], unfollowed := true, recurses := true, apart := false }
def FnExactLowerOfSaid : Prop := fnExactLowerOfRow.holds Try.pinned (OpenSpec.ofChange fnExactLowerOfSpec)

/-- ITS FALSE NEIGHBOUR: 'it returns false'. Refute it at one input. -/
def fnExactLowerOfWrong : ChangeSpec := { name := "fnExactLowerOf", fn := fun _ => fun
  | [d] => { results := [.lit (.bool false)], args := [d] }
  | _ => none }
def FnExactLowerOfWrongFalsely : Prop := fnExactLowerOfRow.holds Try.pinned (OpenSpec.ofChange fnExactLowerOfWrong)

/-- 'laws.FnExactUpperOf': WHATEVER THE INPUT: true; the input reads as it did. -/
def fnExactUpperOfSpec : ChangeSpec := { name := "fnExactUpperOf", fn := fun _ => fun
  | [d] => { results := [.lit (.bool true)], args := [d] }
  | _ => none }
def fnExactUpperOfRow : OpenClaim := { program := "ytpmilaemmdcfaac", sum := "17fc94bf34606830dd5ec244b689b4ec3c2c33a3e063ac3fa3d6c05f157b4c64", func := "loop.example/g01327/laws.FnExactUpperOf", spec := "fnExactUpperOf", inPlace := ["math.Float64bits", "math.Float64frombits"], unfollowed := true, recurses := true, apart := false }
def FnExactUpperOfSaid : Prop := fnExactUpperOfRow.holds Try.pinned (OpenSpec.ofChange fnExactUpperOfSpec)

/-- ITS FALSE NEIGHBOUR: 'it returns false'. Refute it at one input. -/
def fnExactUpperOfWrong : ChangeSpec := { name := "fnExactUpperOf", fn := fun _ => fun
  | [d] => { results := [.lit (.bool false)], args := [d] }
  | _ => none }
def FnExactUpperOfWrongFalsely : Prop := fnExactUpperOfRow.holds Try.pinned (OpenSpec.ofChange fnExactUpperOfWrong)

/-- 'laws.FnExactFactorDet': WHATEVER THE INPUT: true; the input reads as it did. -/
def fnExactFactorDetSpec : ChangeSpec := { name := "fnExactFactorDet", fn := fun _ => fun
  | [d] => { results := [.lit (.bool true)], args := [d] }
  | _ => none }
def fnExactFactorDetRow : OpenClaim := { program := "ytpmilaemmdcfaac", sum := "17fc94bf34606830dd5ec244b689b4ec3c2c33a3e063ac3fa3d6c05f157b4c64", func := "loop.example/g01327/laws.FnExactFactorDet", spec := "fnExactFactorDet", inPlace := ["math.Float64bits", "math.Float64frombits"], apart := false }
def FnExactFactorDetSaid : Prop := fnExactFactorDetRow.holds Try.pinned (OpenSpec.ofChange fnExactFactorDetSpec)

/-- ITS FALSE NEIGHBOUR: 'it returns false'. Refute it at one input. -/
def fnExactFactorDetWrong : ChangeSpec := { name := "fnExactFactorDet", fn := fun _ => fun
  | [d] => { results := [.lit (.bool false)], args := [d] }
  | _ => none }
def FnExactFactorDetWrongFalsely : Prop := fnExactFactorDetRow.holds Try.pinned (OpenSpec.ofChange fnExactFactorDetWrong)

/-- 'laws.FnExactFactorSolve': WHATEVER THE INPUT: true; the input reads as it did. -/
def fnExactFactorSolveSpec : ChangeSpec := { name := "fnExactFactorSolve", fn := fun _ => fun
  | [d1, d2] => { results := [.lit (.bool true)], args := [d1, d2] }
  | _ => none }
def fnExactFactorSolveRow : OpenClaim := { program := "ytpmilaemmdcfaac", sum := "17fc94bf34606830dd5ec244b689b4ec3c2c33a3e063ac3fa3d6c05f157b4c64", func := "loop.example/g01327/laws.FnExactFactorSolve", spec := "fnExactFactorSolve", inPlace := ["math.Float64bits", "math.Float64frombits"], apart := false }
def FnExactFactorSolveSaid : Prop := fnExactFactorSolveRow.holds Try.pinned (OpenSpec.ofChange fnExactFactorSolveSpec)

/-- ITS FALSE NEIGHBOUR: 'it returns false'. Refute it at one input. -/
def fnExactFactorSolveWrong : ChangeSpec := { name := "fnExactFactorSolve", fn := fun _ => fun
  | [d1, d2] => { results := [.lit (.bool false)], args := [d1, d2] }
  | _ => none }
def FnExactFactorSolveWrongFalsely : Prop := fnExactFactorSolveRow.holds Try.pinned (OpenSpec.ofChange fnExactFactorSolveWrong)

/- THE SECOND FORM. 'bulk': how many values and letters a reading holds, each counted each time it is reached (what is shared counts as often as it is met; a slice's spare places count too). A statement '..UptoSaid' is the law's where the arguments, and the package variables that the reading takes, are together of bulk at most 1048576: NARROWER than '..Said'. Prove '..Said' where nothing that the law and all that it calls make is longer than what came in: it says more and counts as full. Else prove '..UptoSaid'. A law counts once. -/
mutual
def uptoBulk {H : Type} : DataW H → Nat
  | .lit (.string bytes) => bytes.length + 1
  | .lit _ => 1
  | .nil => 1
  | .ptr d => uptoBulk d + 1
  | .slice elems spare => uptoBulkAll elems + uptoBulkAll spare + 1
  | .agg parts => uptoBulkAll parts + 1
  | .iface _ d => uptoBulk d + 1
  | .map entries => uptoBulkEntries entries + 1
  | .held _ => 1
def uptoBulkAll {H : Type} : List (DataW H) → Nat
  | [] => 0
  | d :: r => uptoBulk d + uptoBulkAll r
def uptoBulkEntries {H : Type} : List (Lit × DataW H) → Nat
  | [] => 0
  | x :: r => uptoBulkEntry x + uptoBulkEntries r
def uptoBulkEntry {H : Type} : Lit × DataW H → Nat
  | (.string bytes, d) => bytes.length + uptoBulk d + 1
  | (_, d) => uptoBulk d + 1
 end
def uptoSmall : (H : Type) → List (DataW H) → Bool := fun _ ds => decide (uptoBulkAll ds ≤ 1048576)
def OpenSpec.upto (s : _root_.Go.ChangeSpec) : _root_.Go.OpenSpec := { _root_.Go.OpenSpec.ofChange s with cond := some uptoSmall }

/-- 'laws.FnExactValidFactor', WHERE WHAT IT READS IS OF BULK AT MOST 1048576: true; the input reads as it did. -/
def fnExactValidFactorUptoRow : OpenClaim := { program := "ytpmilaemmdcfaac", sum := "17fc94bf34606830dd5ec244b689b4ec3c2c33a3e063ac3fa3d6c05f157b4c64", func := "loop.example/g01327/laws.FnExactValidFactor", spec := "fnExactValidFactor", inPlace := ["math.Float64bits", "math.Float64frombits"], apart := false, narrowed := true }
def FnExactValidFactorUptoSaid : Prop := fnExactValidFactorUptoRow.holds Try.pinned (OpenSpec.upto fnExactValidFactorSpec)

/-- 'laws.FnExactSameFactor', WHERE WHAT IT READS IS OF BULK AT MOST 1048576: true; the input reads as it did. -/
def fnExactSameFactorUptoRow : OpenClaim := { program := "ytpmilaemmdcfaac", sum := "17fc94bf34606830dd5ec244b689b4ec3c2c33a3e063ac3fa3d6c05f157b4c64", func := "loop.example/g01327/laws.FnExactSameFactor", spec := "fnExactSameFactor", inPlace := ["math.Float32bits"], apart := false, narrowed := true }
def FnExactSameFactorUptoSaid : Prop := fnExactSameFactorUptoRow.holds Try.pinned (OpenSpec.upto fnExactSameFactorSpec)

/-- 'laws.FnExactLowerOf', WHERE WHAT IT READS IS OF BULK AT MOST 1048576: true; the input reads as it did. -/
def fnExactLowerOfUptoRow : OpenClaim := { program := "ytpmilaemmdcfaac", sum := "17fc94bf34606830dd5ec244b689b4ec3c2c33a3e063ac3fa3d6c05f157b4c64", func := "loop.example/g01327/laws.FnExactLowerOf", spec := "fnExactLowerOf", inPlace := ["math.Float64bits", "math.Float64frombits"], unfollowed := true, recurses := true, apart := false, narrowed := true }
def FnExactLowerOfUptoSaid : Prop := fnExactLowerOfUptoRow.holds Try.pinned (OpenSpec.upto fnExactLowerOfSpec)

/-- 'laws.FnExactUpperOf', WHERE WHAT IT READS IS OF BULK AT MOST 1048576: true; the input reads as it did. -/
def fnExactUpperOfUptoRow : OpenClaim := { program := "ytpmilaemmdcfaac", sum := "17fc94bf34606830dd5ec244b689b4ec3c2c33a3e063ac3fa3d6c05f157b4c64", func := "loop.example/g01327/laws.FnExactUpperOf", spec := "fnExactUpperOf", inPlace := ["math.Float64bits", "math.Float64frombits"], unfollowed := true, recurses := true, apart := false, narrowed := true }
def FnExactUpperOfUptoSaid : Prop := fnExactUpperOfUptoRow.holds Try.pinned (OpenSpec.upto fnExactUpperOfSpec)

/-- 'laws.FnExactFactorDet', WHERE WHAT IT READS IS OF BULK AT MOST 1048576: true; the input reads as it did. -/
def fnExactFactorDetUptoRow : OpenClaim := { program := "ytpmilaemmdcfaac", sum := "17fc94bf34606830dd5ec244b689b4ec3c2c33a3e063ac3fa3d6c05f157b4c64", func := "loop.example/g01327/laws.FnExactFactorDet", spec := "fnExactFactorDet", inPlace := ["math.Float64bits", "math.Float64frombits"], apart := false, narrowed := true }
def FnExactFactorDetUptoSaid : Prop := fnExactFactorDetUptoRow.holds Try.pinned (OpenSpec.upto fnExactFactorDetSpec)

/-- 'laws.FnExactFactorSolve', WHERE WHAT IT READS IS OF BULK AT MOST 1048576: true; the input reads as it did. -/
def fnExactFactorSolveUptoRow : OpenClaim := { program := "ytpmilaemmdcfaac", sum := "17fc94bf34606830dd5ec244b689b4ec3c2c33a3e063ac3fa3d6c05f157b4c64", func := "loop.example/g01327/laws.FnExactFactorSolve", spec := "fnExactFactorSolve", inPlace := ["math.Float64bits", "math.Float64frombits"], apart := false, narrowed := true }
def FnExactFactorSolveUptoSaid : Prop := fnExactFactorSolveUptoRow.holds Try.pinned (OpenSpec.upto fnExactFactorSolveSpec)

end Rows
end Go.Proofs.Ytpmilaemmdcfaac
