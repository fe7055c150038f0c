/-
  No cell of these rows narrows 'for every input' (looked for: loops, veiled, ifaces, maps, wideKeys, modest, calm, conditions, laid).
  DERIVED. THE GIVEN ROWS OF THIS SEAT. 6 by the template 'for every input the law returns true; each argument reads behind the call as it read before'; 0 by the template 'total and deterministic' (their statements: YtmjlhmbnaifhaabTotals.lean).
  GIVEN WITH THE SEED: the statements are not yours to turn. If you find one false, say at which input.
  Laid BY PROGRAM, IN A SANDBOX (cutbox-rows.mjs): the forced cells as the released guide's own fill.sh prints them over the translation 566b16aa4fa5aed5… (all of the seat's roots in one cut). By AI agents, Wed Nov 11 2026. No macro, syntax, notation, axiom, sorry.
-/
import Derived.Test.YtmjlhmbnaifhaabChecked
import GoSem.Claim
import GoSem.ClaimJoined
import GoSem.ClaimMapViews
import Derived.JoinedTies
import Derived.KernelRfl
namespace Go.Proofs.Ytmjlhmbnaifhaab
/- THE CELL 'sum', in the pinned program and in every row, IS THE sha256 OF THE DUMP (.gsa) THAT YtmjlhmbnaifhaabProg.lean LOADS. Nothing in Lean hashes anything: it is a label: what it is worth is what the hold of that sum in a sandbox is worth. -/
noncomputable def Try.pinned : Pinned := { name := "ytmjlhmbnaifhaab", sum := "566b16aa4fa5aed53123f7576c599c688d59eab419206eff34bc939fe4be834a", checked := Try.checked }
namespace Rows
def none {H : Type} : Left H := { results := [], args := [] }

/-- 'laws.FnExactSparseAt': WHATEVER THE INPUT: true; the input reads as it did. -/
def fnExactSparseAtSpec : ChangeSpec := { name := "fnExactSparseAt", fn := fun _ => fun
  | [d1, d2, d3] => { results := [.lit (.bool true)], args := [d1, d2, d3] }
  | _ => none }
def fnExactSparseAtRow : OpenClaim := { program := "ytmjlhmbnaifhaab", sum := "566b16aa4fa5aed53123f7576c599c688d59eab419206eff34bc939fe4be834a", func := "loop.example/g01327/laws.FnExactSparseAt", spec := "fnExactSparseAt", inPlace := ["math.Float64bits", "math.Float64frombits"], unfollowed := true, recurses := true, plainKeys := false, apart := false }
def FnExactSparseAtSaid : Prop := fnExactSparseAtRow.holds Try.pinned (OpenSpec.ofChange fnExactSparseAtSpec)

/-- ITS FALSE NEIGHBOUR: 'it returns false'. Refute it at one input. -/
def fnExactSparseAtWrong : ChangeSpec := { name := "fnExactSparseAt", fn := fun _ => fun
  | [d1, d2, d3] => { results := [.lit (.bool false)], args := [d1, d2, d3] }
  | _ => none }
def FnExactSparseAtWrongFalsely : Prop := fnExactSparseAtRow.holds Try.pinned (OpenSpec.ofChange fnExactSparseAtWrong)

/-- 'laws.FnExactSparseTimes': WHATEVER THE INPUT: true; the input reads as it did. -/
def fnExactSparseTimesSpec : ChangeSpec := { name := "fnExactSparseTimes", fn := fun _ => fun
  | [d1, d2] => { results := [.lit (.bool true)], args := [d1, d2] }
  | _ => none }
def fnExactSparseTimesRow : OpenClaim := { program := "ytmjlhmbnaifhaab", sum := "566b16aa4fa5aed53123f7576c599c688d59eab419206eff34bc939fe4be834a", func := "loop.example/g01327/laws.FnExactSparseTimes", spec := "fnExactSparseTimes", inPlace := ["math.Float64bits", "math.Float64frombits"], unfollowed := true, recurses := true, plainKeys := false, apart := false }
def FnExactSparseTimesSaid : Prop := fnExactSparseTimesRow.holds Try.pinned (OpenSpec.ofChange fnExactSparseTimesSpec)

/-- ITS FALSE NEIGHBOUR: 'it returns false'. Refute it at one input. -/
def fnExactSparseTimesWrong : ChangeSpec := { name := "fnExactSparseTimes", fn := fun _ => fun
  | [d1, d2] => { results := [.lit (.bool false)], args := [d1, d2] }
  | _ => none }
def FnExactSparseTimesWrongFalsely : Prop := fnExactSparseTimesRow.holds Try.pinned (OpenSpec.ofChange fnExactSparseTimesWrong)

/-- 'laws.FnExactSparseDegrees': WHATEVER THE INPUT: true; the input reads as it did. -/
def fnExactSparseDegreesSpec : ChangeSpec := { name := "fnExactSparseDegrees", fn := fun _ => fun
  | [d] => { results := [.lit (.bool true)], args := [d] }
  | _ => none }
def fnExactSparseDegreesRow : OpenClaim := { program := "ytmjlhmbnaifhaab", sum := "566b16aa4fa5aed53123f7576c599c688d59eab419206eff34bc939fe4be834a", func := "loop.example/g01327/laws.FnExactSparseDegrees", spec := "fnExactSparseDegrees", inPlace := ["math.Float64bits", "math.Float64frombits"], unfollowed := true, recurses := true, plainKeys := false, apart := false }
def FnExactSparseDegreesSaid : Prop := fnExactSparseDegreesRow.holds Try.pinned (OpenSpec.ofChange fnExactSparseDegreesSpec)

/-- ITS FALSE NEIGHBOUR: 'it returns false'. Refute it at one input. -/
def fnExactSparseDegreesWrong : ChangeSpec := { name := "fnExactSparseDegrees", fn := fun _ => fun
  | [d] => { results := [.lit (.bool false)], args := [d] }
  | _ => none }
def FnExactSparseDegreesWrongFalsely : Prop := fnExactSparseDegreesRow.holds Try.pinned (OpenSpec.ofChange fnExactSparseDegreesWrong)

/-- 'laws.FnExactSparseBand': WHATEVER THE INPUT: true; the input reads as it did. -/
def fnExactSparseBandSpec : ChangeSpec := { name := "fnExactSparseBand", fn := fun _ => fun
  | [d] => { results := [.lit (.bool true)], args := [d] }
  | _ => none }
def fnExactSparseBandRow : OpenClaim := { program := "ytmjlhmbnaifhaab", sum := "566b16aa4fa5aed53123f7576c599c688d59eab419206eff34bc939fe4be834a", func := "loop.example/g01327/laws.FnExactSparseBand", spec := "fnExactSparseBand", inPlace := ["math.Float64bits", "math.Float64frombits"], unfollowed := true, recurses := true, plainKeys := false, apart := false }
def FnExactSparseBandSaid : Prop := fnExactSparseBandRow.holds Try.pinned (OpenSpec.ofChange fnExactSparseBandSpec)

/-- ITS FALSE NEIGHBOUR: 'it returns false'. Refute it at one input. -/
def fnExactSparseBandWrong : ChangeSpec := { name := "fnExactSparseBand", fn := fun _ => fun
  | [d] => { results := [.lit (.bool false)], args := [d] }
  | _ => none }
def FnExactSparseBandWrongFalsely : Prop := fnExactSparseBandRow.holds Try.pinned (OpenSpec.ofChange fnExactSparseBandWrong)

/-- 'laws.FnExactEntriesOf': WHATEVER THE INPUT: true; the input reads as it did. -/
def fnExactEntriesOfSpec : ChangeSpec := { name := "fnExactEntriesOf", fn := fun _ => fun
  | [d] => { results := [.lit (.bool true)], args := [d] }
  | _ => none }
def fnExactEntriesOfRow : OpenClaim := { program := "ytmjlhmbnaifhaab", sum := "566b16aa4fa5aed53123f7576c599c688d59eab419206eff34bc939fe4be834a", func := "loop.example/g01327/laws.FnExactEntriesOf", spec := "fnExactEntriesOf", inPlace := ["math.Float64bits", "math.Float64frombits"], unfollowed := true, recurses := true, plainKeys := false, apart := false }
def FnExactEntriesOfSaid : Prop := fnExactEntriesOfRow.holds Try.pinned (OpenSpec.ofChange fnExactEntriesOfSpec)

/-- ITS FALSE NEIGHBOUR: 'it returns false'. Refute it at one input. -/
def fnExactEntriesOfWrong : ChangeSpec := { name := "fnExactEntriesOf", fn := fun _ => fun
  | [d] => { results := [.lit (.bool false)], args := [d] }
  | _ => none }
def FnExactEntriesOfWrongFalsely : Prop := fnExactEntriesOfRow.holds Try.pinned (OpenSpec.ofChange fnExactEntriesOfWrong)

/-- 'laws.FnExactSparseFlip': WHATEVER THE INPUT: true; the input reads as it did. -/
def fnExactSparseFlipSpec : ChangeSpec := { name := "fnExactSparseFlip", fn := fun _ => fun
  | [d] => { results := [.lit (.bool true)], args := [d] }
  | _ => none }
def fnExactSparseFlipRow : OpenClaim := { program := "ytmjlhmbnaifhaab", sum := "566b16aa4fa5aed53123f7576c599c688d59eab419206eff34bc939fe4be834a", func := "loop.example/g01327/laws.FnExactSparseFlip", spec := "fnExactSparseFlip", inPlace := ["math.Float64bits", "math.Float64frombits"], unfollowed := true, recurses := true, plainKeys := false, apart := false }
def FnExactSparseFlipSaid : Prop := fnExactSparseFlipRow.holds Try.pinned (OpenSpec.ofChange fnExactSparseFlipSpec)

/-- ITS FALSE NEIGHBOUR: 'it returns false'. Refute it at one input. -/
def fnExactSparseFlipWrong : ChangeSpec := { name := "fnExactSparseFlip", fn := fun _ => fun
  | [d] => { results := [.lit (.bool false)], args := [d] }
  | _ => none }
def FnExactSparseFlipWrongFalsely : Prop := fnExactSparseFlipRow.holds Try.pinned (OpenSpec.ofChange fnExactSparseFlipWrong)

/- THE SECOND FORM. 'bulk': how many values and letters a reading holds, each counted each time it is reached (what is shared counts as often as it is met; a slice's spare places count too). A statement '..UptoSaid' is the law's where the arguments, and the package variables that the reading takes, are together of bulk at most 1048576: NARROWER than '..Said'. Prove '..Said' where nothing that the law and all that it calls make is longer than what came in: it says more and counts as full. Else prove '..UptoSaid'. A law counts once. -/
mutual
def uptoBulk {H : Type} : DataW H → Nat
  | .lit (.string bytes) => bytes.length + 1
  | .lit _ => 1
  | .nil => 1
  | .ptr d => uptoBulk d + 1
  | .slice elems spare => uptoBulkAll elems + uptoBulkAll spare + 1
  | .agg parts => uptoBulkAll parts + 1
  | .iface _ d => uptoBulk d + 1
  | .map entries => uptoBulkEntries entries + 1
  | .held _ => 1
def uptoBulkAll {H : Type} : List (DataW H) → Nat
  | [] => 0
  | d :: r => uptoBulk d + uptoBulkAll r
def uptoBulkEntries {H : Type} : List (Lit × DataW H) → Nat
  | [] => 0
  | x :: r => uptoBulkEntry x + uptoBulkEntries r
def uptoBulkEntry {H : Type} : Lit × DataW H → Nat
  | (.string bytes, d) => bytes.length + uptoBulk d + 1
  | (_, d) => uptoBulk d + 1
 end
def uptoSmall : (H : Type) → List (DataW H) → Bool := fun _ ds => decide (uptoBulkAll ds ≤ 1048576)
def OpenSpec.upto (s : _root_.Go.ChangeSpec) : _root_.Go.OpenSpec := { _root_.Go.OpenSpec.ofChange s with cond := some uptoSmall }

/-- 'laws.FnExactSparseAt', WHERE WHAT IT READS IS OF BULK AT MOST 1048576: true; the input reads as it did. -/
def fnExactSparseAtUptoRow : OpenClaim := { program := "ytmjlhmbnaifhaab", sum := "566b16aa4fa5aed53123f7576c599c688d59eab419206eff34bc939fe4be834a", func := "loop.example/g01327/laws.FnExactSparseAt", spec := "fnExactSparseAt", inPlace := ["math.Float64bits", "math.Float64frombits"], unfollowed := true, recurses := true, plainKeys := false, apart := false, narrowed := true }
def FnExactSparseAtUptoSaid : Prop := fnExactSparseAtUptoRow.holds Try.pinned (OpenSpec.upto fnExactSparseAtSpec)

/-- 'laws.FnExactSparseTimes', WHERE WHAT IT READS IS OF BULK AT MOST 1048576: true; the input reads as it did. -/
def fnExactSparseTimesUptoRow : OpenClaim := { program := "ytmjlhmbnaifhaab", sum := "566b16aa4fa5aed53123f7576c599c688d59eab419206eff34bc939fe4be834a", func := "loop.example/g01327/laws.FnExactSparseTimes", spec := "fnExactSparseTimes", inPlace := ["math.Float64bits", "math.Float64frombits"], unfollowed := true, recurses := true, plainKeys := false, apart := false, narrowed := true }
def FnExactSparseTimesUptoSaid : Prop := fnExactSparseTimesUptoRow.holds Try.pinned (OpenSpec.upto fnExactSparseTimesSpec)

/-- 'laws.FnExactSparseDegrees', WHERE WHAT IT READS IS OF BULK AT MOST 1048576: true; the input reads as it did. -/
def fnExactSparseDegreesUptoRow : OpenClaim := { program := "ytmjlhmbnaifhaab", sum := "566b16aa4fa5aed53123f7576c599c688d59eab419206eff34bc939fe4be834a", func := "loop.example/g01327/laws.FnExactSparseDegrees", spec := "fnExactSparseDegrees", inPlace := ["math.Float64bits", "math.Float64frombits"], unfollowed := true, recurses := true, plainKeys := false, apart := false, narrowed := true }
def FnExactSparseDegreesUptoSaid : Prop := fnExactSparseDegreesUptoRow.holds Try.pinned (OpenSpec.upto fnExactSparseDegreesSpec)

/-- 'laws.FnExactSparseBand', WHERE WHAT IT READS IS OF BULK AT MOST 1048576: true; the input reads as it did. -/
def fnExactSparseBandUptoRow : OpenClaim := { program := "ytmjlhmbnaifhaab", sum := "566b16aa4fa5aed53123f7576c599c688d59eab419206eff34bc939fe4be834a", func := "loop.example/g01327/laws.FnExactSparseBand", spec := "fnExactSparseBand", inPlace := ["math.Float64bits", "math.Float64frombits"], unfollowed := true, recurses := true, plainKeys := false, apart := false, narrowed := true }
def FnExactSparseBandUptoSaid : Prop := fnExactSparseBandUptoRow.holds Try.pinned (OpenSpec.upto fnExactSparseBandSpec)

/-- 'laws.FnExactEntriesOf', WHERE WHAT IT READS IS OF BULK AT MOST 1048576: true; the input reads as it did. -/
def fnExactEntriesOfUptoRow : OpenClaim := { program := "ytmjlhmbnaifhaab", sum := "566b16aa4fa5aed53123f7576c599c688d59eab419206eff34bc939fe4be834a", func := "loop.example/g01327/laws.FnExactEntriesOf", spec := "fnExactEntriesOf", inPlace := ["math.Float64bits", "math.Float64frombits"], unfollowed := true, recurses := true, plainKeys := false, apart := false, narrowed := true }
def FnExactEntriesOfUptoSaid : Prop := fnExactEntriesOfUptoRow.holds Try.pinned (OpenSpec.upto fnExactEntriesOfSpec)

/-- 'laws.FnExactSparseFlip', WHERE WHAT IT READS IS OF BULK AT MOST 1048576: true; the input reads as it did. -/
def fnExactSparseFlipUptoRow : OpenClaim := { program := "ytmjlhmbnaifhaab", sum := "566b16aa4fa5aed53123f7576c599c688d59eab419206eff34bc939fe4be834a", func := "loop.example/g01327/laws.FnExactSparseFlip", spec := "fnExactSparseFlip", inPlace := ["math.Float64bits", "math.Float64frombits"], unfollowed := true, recurses := true, plainKeys := false, apart := false, narrowed := true }
def FnExactSparseFlipUptoSaid : Prop := fnExactSparseFlipUptoRow.holds Try.pinned (OpenSpec.upto fnExactSparseFlipSpec)

end Rows
end Go.Proofs.Ytmjlhmbnaifhaab
