/-
  No cell of these rows narrows 'for every input' (looked for: loops, veiled, ifaces, maps, wideKeys, modest, calm, conditions, laid).
  DERIVED. THE GIVEN ROWS OF THIS SEAT. 6 by the template 'for every input the law returns true; each argument reads behind the call as it read before'; 0 by the template 'total and deterministic' (their statements: YtpmilaemmdcfaabTotals.lean).
  GIVEN WITH THE SEED: the statements are not yours to turn. If you find one false, say at which input.
  Laid BY PROGRAM, IN A SANDBOX (cutbox-rows.mjs): the forced cells as the released guide's own fill.sh prints them over the translation 4d6aca0d388a4bbb… (all of the seat's roots in one cut). By AI agents, Wed Nov 11 2026. No macro, syntax, notation, axiom, sorry.
-/
import Derived.Test.YtpmilaemmdcfaabChecked
import GoSem.Claim
import GoSem.ClaimJoined
import GoSem.ClaimMapViews
import Derived.JoinedTies
import Derived.KernelRfl
namespace Go.Proofs.Ytpmilaemmdcfaab
/- THE CELL 'sum', in the pinned program and in every row, IS THE sha256 OF THE DUMP (.gsa) THAT YtpmilaemmdcfaabProg.lean LOADS. Nothing in Lean hashes anything: it is a label: what it is worth is what the hold of that sum in a sandbox is worth. -/
noncomputable def Try.pinned : Pinned := { name := "ytpmilaemmdcfaab", sum := "4d6aca0d388a4bbbb108a1a203648d820a88d1a4213cf9f7eb1de901ba55ef31", checked := Try.checked }
namespace Rows
def none {H : Type} : Left H := { results := [], args := [] }

/-- 'laws.FnExactValidThirds': WHATEVER THE INPUT: true; the input reads as it did. -/
def fnExactValidThirdsSpec : ChangeSpec := { name := "fnExactValidThirds", fn := fun _ => fun
  | [d] => { results := [.lit (.bool true)], args := [d] }
  | _ => none }
def fnExactValidThirdsRow : OpenClaim := { program := "ytpmilaemmdcfaab", sum := "4d6aca0d388a4bbbb108a1a203648d820a88d1a4213cf9f7eb1de901ba55ef31", func := "loop.example/g01327/laws.FnExactValidThirds", spec := "fnExactValidThirds", inPlace := ["math.Float64bits", "math.Float64frombits"], apart := false }
def FnExactValidThirdsSaid : Prop := fnExactValidThirdsRow.holds Try.pinned (OpenSpec.ofChange fnExactValidThirdsSpec)

/-- ITS FALSE NEIGHBOUR: 'it returns false'. Refute it at one input. -/
def fnExactValidThirdsWrong : ChangeSpec := { name := "fnExactValidThirds", fn := fun _ => fun
  | [d] => { results := [.lit (.bool false)], args := [d] }
  | _ => none }
def FnExactValidThirdsWrongFalsely : Prop := fnExactValidThirdsRow.holds Try.pinned (OpenSpec.ofChange fnExactValidThirdsWrong)

/-- 'laws.FnExactThirdsTimes': WHATEVER THE INPUT: true; the input reads as it did. -/
def fnExactThirdsTimesSpec : ChangeSpec := { name := "fnExactThirdsTimes", fn := fun _ => fun
  | [d1, d2] => { results := [.lit (.bool true)], args := [d1, d2] }
  | _ => none }
def fnExactThirdsTimesRow : OpenClaim := { program := "ytpmilaemmdcfaab", sum := "4d6aca0d388a4bbbb108a1a203648d820a88d1a4213cf9f7eb1de901ba55ef31", func := "loop.example/g01327/laws.FnExactThirdsTimes", spec := "fnExactThirdsTimes", inPlace := ["math.Float64bits", "math.Float64frombits"], apart := false }
def FnExactThirdsTimesSaid : Prop := fnExactThirdsTimesRow.holds Try.pinned (OpenSpec.ofChange fnExactThirdsTimesSpec)

/-- ITS FALSE NEIGHBOUR: 'it returns false'. Refute it at one input. -/
def fnExactThirdsTimesWrong : ChangeSpec := { name := "fnExactThirdsTimes", fn := fun _ => fun
  | [d1, d2] => { results := [.lit (.bool false)], args := [d1, d2] }
  | _ => none }
def FnExactThirdsTimesWrongFalsely : Prop := fnExactThirdsTimesRow.holds Try.pinned (OpenSpec.ofChange fnExactThirdsTimesWrong)

/-- 'laws.FnExactThirdsSolve': WHATEVER THE INPUT: true; the input reads as it did. -/
def fnExactThirdsSolveSpec : ChangeSpec := { name := "fnExactThirdsSolve", fn := fun _ => fun
  | [d1, d2] => { results := [.lit (.bool true)], args := [d1, d2] }
  | _ => none }
def fnExactThirdsSolveRow : OpenClaim := { program := "ytpmilaemmdcfaab", sum := "4d6aca0d388a4bbbb108a1a203648d820a88d1a4213cf9f7eb1de901ba55ef31", func := "loop.example/g01327/laws.FnExactThirdsSolve", spec := "fnExactThirdsSolve", inPlace := ["math.Float64bits", "math.Float64frombits"], unfollowed := true, recurses := true, apart := false }
def FnExactThirdsSolveSaid : Prop := fnExactThirdsSolveRow.holds Try.pinned (OpenSpec.ofChange fnExactThirdsSolveSpec)

/-- ITS FALSE NEIGHBOUR: 'it returns false'. Refute it at one input. -/
def fnExactThirdsSolveWrong : ChangeSpec := { name := "fnExactThirdsSolve", fn := fun _ => fun
  | [d1, d2] => { results := [.lit (.bool false)], args := [d1, d2] }
  | _ => none }
def FnExactThirdsSolveWrongFalsely : Prop := fnExactThirdsSolveRow.holds Try.pinned (OpenSpec.ofChange fnExactThirdsSolveWrong)

/-- 'laws.FnExactThirdsRing': WHATEVER THE INPUT: true; the input reads as it did. -/
def fnExactThirdsRingSpec : ChangeSpec := { name := "fnExactThirdsRing", fn := fun _ => fun
  | [d1, d2, d3, d4] => { results := [.lit (.bool true)], args := [d1, d2, d3, d4] }
  | _ => none }
def fnExactThirdsRingRow : OpenClaim := { program := "ytpmilaemmdcfaab", sum := "4d6aca0d388a4bbbb108a1a203648d820a88d1a4213cf9f7eb1de901ba55ef31", func := "loop.example/g01327/laws.FnExactThirdsRing", spec := "fnExactThirdsRing", inPlace := ["math.Float64bits", "math.Float64frombits"], unfollowed := true, recurses := true, apart := false }
def FnExactThirdsRingSaid : Prop := fnExactThirdsRingRow.holds Try.pinned (OpenSpec.ofChange fnExactThirdsRingSpec)

/-- ITS FALSE NEIGHBOUR: 'it returns false'. Refute it at one input. -/
def fnExactThirdsRingWrong : ChangeSpec := { name := "fnExactThirdsRing", fn := fun _ => fun
  | [d1, d2, d3, d4] => { results := [.lit (.bool false)], args := [d1, d2, d3, d4] }
  | _ => none }
def FnExactThirdsRingWrongFalsely : Prop := fnExactThirdsRingRow.holds Try.pinned (OpenSpec.ofChange fnExactThirdsRingWrong)

/-- 'laws.FnExactShiftSolve': WHATEVER THE INPUT: true; the input reads as it did. -/
def fnExactShiftSolveSpec : ChangeSpec := { name := "fnExactShiftSolve", fn := fun _ => fun
  | [d1, d2] => { results := [.lit (.bool true)], args := [d1, d2] }
  | _ => none }
def fnExactShiftSolveRow : OpenClaim := { program := "ytpmilaemmdcfaab", sum := "4d6aca0d388a4bbbb108a1a203648d820a88d1a4213cf9f7eb1de901ba55ef31", func := "loop.example/g01327/laws.FnExactShiftSolve", spec := "fnExactShiftSolve", inPlace := ["math.Float64bits", "math.Float64frombits"], apart := false }
def FnExactShiftSolveSaid : Prop := fnExactShiftSolveRow.holds Try.pinned (OpenSpec.ofChange fnExactShiftSolveSpec)

/-- ITS FALSE NEIGHBOUR: 'it returns false'. Refute it at one input. -/
def fnExactShiftSolveWrong : ChangeSpec := { name := "fnExactShiftSolve", fn := fun _ => fun
  | [d1, d2] => { results := [.lit (.bool false)], args := [d1, d2] }
  | _ => none }
def FnExactShiftSolveWrongFalsely : Prop := fnExactShiftSolveRow.holds Try.pinned (OpenSpec.ofChange fnExactShiftSolveWrong)

/-- 'laws.FnExactValidSheet': WHATEVER THE INPUT: true; the input reads as it did. -/
def fnExactValidSheetSpec : ChangeSpec := { name := "fnExactValidSheet", fn := fun _ => fun
  | [d] => { results := [.lit (.bool true)], args := [d] }
  | _ => none }
def fnExactValidSheetRow : OpenClaim := { program := "ytpmilaemmdcfaab", sum := "4d6aca0d388a4bbbb108a1a203648d820a88d1a4213cf9f7eb1de901ba55ef31", func := "loop.example/g01327/laws.FnExactValidSheet", spec := "fnExactValidSheet", inPlace := ["math.Float64bits", "math.Float64frombits"], apart := false }
def FnExactValidSheetSaid : Prop := fnExactValidSheetRow.holds Try.pinned (OpenSpec.ofChange fnExactValidSheetSpec)

/-- ITS FALSE NEIGHBOUR: 'it returns false'. Refute it at one input. -/
def fnExactValidSheetWrong : ChangeSpec := { name := "fnExactValidSheet", fn := fun _ => fun
  | [d] => { results := [.lit (.bool false)], args := [d] }
  | _ => none }
def FnExactValidSheetWrongFalsely : Prop := fnExactValidSheetRow.holds Try.pinned (OpenSpec.ofChange fnExactValidSheetWrong)

/- THE SECOND FORM. 'bulk': how many values and letters a reading holds, each counted each time it is reached (what is shared counts as often as it is met; a slice's spare places count too). A statement '..UptoSaid' is the law's where the arguments, and the package variables that the reading takes, are together of bulk at most 1048576: NARROWER than '..Said'. Prove '..Said' where nothing that the law and all that it calls make is longer than what came in: it says more and counts as full. Else prove '..UptoSaid'. A law counts once. -/
mutual
def uptoBulk {H : Type} : DataW H → Nat
  | .lit (.string bytes) => bytes.length + 1
  | .lit _ => 1
  | .nil => 1
  | .ptr d => uptoBulk d + 1
  | .slice elems spare => uptoBulkAll elems + uptoBulkAll spare + 1
  | .agg parts => uptoBulkAll parts + 1
  | .iface _ d => uptoBulk d + 1
  | .map entries => uptoBulkEntries entries + 1
  | .held _ => 1
def uptoBulkAll {H : Type} : List (DataW H) → Nat
  | [] => 0
  | d :: r => uptoBulk d + uptoBulkAll r
def uptoBulkEntries {H : Type} : List (Lit × DataW H) → Nat
  | [] => 0
  | x :: r => uptoBulkEntry x + uptoBulkEntries r
def uptoBulkEntry {H : Type} : Lit × DataW H → Nat
  | (.string bytes, d) => bytes.length + uptoBulk d + 1
  | (_, d) => uptoBulk d + 1
 end
def uptoSmall : (H : Type) → List (DataW H) → Bool := fun _ ds => decide (uptoBulkAll ds ≤ 1048576)
def OpenSpec.upto (s : _root_.Go.ChangeSpec) : _root_.Go.OpenSpec := { _root_.Go.OpenSpec.ofChange s with cond := some uptoSmall }

/-- 'laws.FnExactValidThirds', WHERE WHAT IT READS IS OF BULK AT MOST 1048576: true; the input reads as it did. -/
def fnExactValidThirdsUptoRow : OpenClaim := { program := "ytpmilaemmdcfaab", sum := "4d6aca0d388a4bbbb108a1a203648d820a88d1a4213cf9f7eb1de901ba55ef31", func := "loop.example/g01327/laws.FnExactValidThirds", spec := "fnExactValidThirds", inPlace := ["math.Float64bits", "math.Float64frombits"], apart := false, narrowed := true }
def FnExactValidThirdsUptoSaid : Prop := fnExactValidThirdsUptoRow.holds Try.pinned (OpenSpec.upto fnExactValidThirdsSpec)

/-- 'laws.FnExactThirdsTimes', WHERE WHAT IT READS IS OF BULK AT MOST 1048576: true; the input reads as it did. -/
def fnExactThirdsTimesUptoRow : OpenClaim := { program := "ytpmilaemmdcfaab", sum := "4d6aca0d388a4bbbb108a1a203648d820a88d1a4213cf9f7eb1de901ba55ef31", func := "loop.example/g01327/laws.FnExactThirdsTimes", spec := "fnExactThirdsTimes", inPlace := ["math.Float64bits", "math.Float64frombits"], apart := false, narrowed := true }
def FnExactThirdsTimesUptoSaid : Prop := fnExactThirdsTimesUptoRow.holds Try.pinned (OpenSpec.upto fnExactThirdsTimesSpec)

/-- 'laws.FnExactThirdsSolve', WHERE WHAT IT READS IS OF BULK AT MOST 1048576: true; the input reads as it did. -/
def fnExactThirdsSolveUptoRow : OpenClaim := { program := "ytpmilaemmdcfaab", sum := "4d6aca0d388a4bbbb108a1a203648d820a88d1a4213cf9f7eb1de901ba55ef31", func := "loop.example/g01327/laws.FnExactThirdsSolve", spec := "fnExactThirdsSolve", inPlace := ["math.Float64bits", "math.Float64frombits"], unfollowed := true, recurses := true, apart := false, narrowed := true }
def FnExactThirdsSolveUptoSaid : Prop := fnExactThirdsSolveUptoRow.holds Try.pinned (OpenSpec.upto fnExactThirdsSolveSpec)

/-- 'laws.FnExactThirdsRing', WHERE WHAT IT READS IS OF BULK AT MOST 1048576: true; the input reads as it did. -/
def fnExactThirdsRingUptoRow : OpenClaim := { program := "ytpmilaemmdcfaab", sum := "4d6aca0d388a4bbbb108a1a203648d820a88d1a4213cf9f7eb1de901ba55ef31", func := "loop.example/g01327/laws.FnExactThirdsRing", spec := "fnExactThirdsRing", inPlace := ["math.Float64bits", "math.Float64frombits"], unfollowed := true, recurses := true, apart := false, narrowed := true }
def FnExactThirdsRingUptoSaid : Prop := fnExactThirdsRingUptoRow.holds Try.pinned (OpenSpec.upto fnExactThirdsRingSpec)

/-- 'laws.FnExactShiftSolve', WHERE WHAT IT READS IS OF BULK AT MOST 1048576: true; the input reads as it did. -/
def fnExactShiftSolveUptoRow : OpenClaim := { program := "ytpmilaemmdcfaab", sum := "4d6aca0d388a4bbbb108a1a203648d820a88d1a4213cf9f7eb1de901ba55ef31", func := "loop.example/g01327/laws.FnExactShiftSolve", spec := "fnExactShiftSolve", inPlace := ["math.Float64bits", "math.Float64frombits"], apart := false, narrowed := true }
def FnExactShiftSolveUptoSaid : Prop := fnExactShiftSolveUptoRow.holds Try.pinned (OpenSpec.upto fnExactShiftSolveSpec)

/-- 'laws.FnExactValidSheet', WHERE WHAT IT READS IS OF BULK AT MOST 1048576: true; the input reads as it did. -/
def fnExactValidSheetUptoRow : OpenClaim := { program := "ytpmilaemmdcfaab", sum := "4d6aca0d388a4bbbb108a1a203648d820a88d1a4213cf9f7eb1de901ba55ef31", func := "loop.example/g01327/laws.FnExactValidSheet", spec := "fnExactValidSheet", inPlace := ["math.Float64bits", "math.Float64frombits"], apart := false, narrowed := true }
def FnExactValidSheetUptoSaid : Prop := fnExactValidSheetUptoRow.holds Try.pinned (OpenSpec.upto fnExactValidSheetSpec)

end Rows
end Go.Proofs.Ytpmilaemmdcfaab
