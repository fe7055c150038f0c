/-
  No cell of these rows narrows 'for every input' (looked for: loops, veiled, ifaces, maps, wideKeys, modest, calm, conditions, laid).
  DERIVED. THE GIVEN ROWS OF THIS SEAT. 6 by the template 'for every input the law returns true; each argument reads behind the call as it read before'; 0 by the template 'total and deterministic' (their statements: YtinekdfpgkmbnacTotals.lean).
  GIVEN WITH THE SEED: the statements are not yours to turn. If you find one false, say at which input.
  Laid BY PROGRAM, IN A SANDBOX (cutbox-rows.mjs): the forced cells as the released guide's own fill.sh prints them over the translation c94d12d712ea1f26… (all of the seat's roots in one cut). By AI agents, Wed Nov 11 2026. No macro, syntax, notation, axiom, sorry.
-/
import Derived.Test.YtinekdfpgkmbnacChecked
import GoSem.Claim
import GoSem.ClaimJoined
import GoSem.ClaimMapViews
import Derived.JoinedTies
import Derived.KernelRfl
namespace Go.Proofs.Ytinekdfpgkmbnac
/- THE CELL 'sum', in the pinned program and in every row, IS THE sha256 OF THE DUMP (.gsa) THAT YtinekdfpgkmbnacProg.lean LOADS. Nothing in Lean hashes anything: it is a label: what it is worth is what the hold of that sum in a sandbox is worth. -/
noncomputable def Try.pinned : Pinned := { name := "ytinekdfpgkmbnac", sum := "c94d12d712ea1f26d06716dbd66df9a3d14813b2a96dc12f2cfeb72d880d9dee", checked := Try.checked }
namespace Rows
def none {H : Type} : Left H := { results := [], args := [] }

/-- 'laws.FnExactDetOfWhole': WHATEVER THE INPUT: true; the input reads as it did. -/
def fnExactDetOfWholeSpec : ChangeSpec := { name := "fnExactDetOfWhole", fn := fun _ => fun
  | [d] => { results := [.lit (.bool true)], args := [d] }
  | _ => none }
def fnExactDetOfWholeRow : OpenClaim := { program := "ytinekdfpgkmbnac", sum := "c94d12d712ea1f26d06716dbd66df9a3d14813b2a96dc12f2cfeb72d880d9dee", func := "loop.example/g01327/laws.FnExactDetOfWhole", spec := "fnExactDetOfWhole", recurses := true, apart := false }
def FnExactDetOfWholeSaid : Prop := fnExactDetOfWholeRow.holds Try.pinned (OpenSpec.ofChange fnExactDetOfWholeSpec)

/-- ITS FALSE NEIGHBOUR: 'it returns false'. Refute it at one input. -/
def fnExactDetOfWholeWrong : ChangeSpec := { name := "fnExactDetOfWhole", fn := fun _ => fun
  | [d] => { results := [.lit (.bool false)], args := [d] }
  | _ => none }
def FnExactDetOfWholeWrongFalsely : Prop := fnExactDetOfWholeRow.holds Try.pinned (OpenSpec.ofChange fnExactDetOfWholeWrong)

/-- 'laws.FnExactMinorOfWhole': WHATEVER THE INPUT: true; the input reads as it did. -/
def fnExactMinorOfWholeSpec : ChangeSpec := { name := "fnExactMinorOfWhole", fn := fun _ => fun
  | [d1, d2, d3] => { results := [.lit (.bool true)], args := [d1, d2, d3] }
  | _ => none }
def fnExactMinorOfWholeRow : OpenClaim := { program := "ytinekdfpgkmbnac", sum := "c94d12d712ea1f26d06716dbd66df9a3d14813b2a96dc12f2cfeb72d880d9dee", func := "loop.example/g01327/laws.FnExactMinorOfWhole", spec := "fnExactMinorOfWhole", recurses := true, apart := false }
def FnExactMinorOfWholeSaid : Prop := fnExactMinorOfWholeRow.holds Try.pinned (OpenSpec.ofChange fnExactMinorOfWholeSpec)

/-- ITS FALSE NEIGHBOUR: 'it returns false'. Refute it at one input. -/
def fnExactMinorOfWholeWrong : ChangeSpec := { name := "fnExactMinorOfWhole", fn := fun _ => fun
  | [d1, d2, d3] => { results := [.lit (.bool false)], args := [d1, d2, d3] }
  | _ => none }
def FnExactMinorOfWholeWrongFalsely : Prop := fnExactMinorOfWholeRow.holds Try.pinned (OpenSpec.ofChange fnExactMinorOfWholeWrong)

/-- 'laws.FnExactAdjointOf': WHATEVER THE INPUT: true; the input reads as it did. -/
def fnExactAdjointOfSpec : ChangeSpec := { name := "fnExactAdjointOf", fn := fun _ => fun
  | [d] => { results := [.lit (.bool true)], args := [d] }
  | _ => none }
def fnExactAdjointOfRow : OpenClaim := { program := "ytinekdfpgkmbnac", sum := "c94d12d712ea1f26d06716dbd66df9a3d14813b2a96dc12f2cfeb72d880d9dee", func := "loop.example/g01327/laws.FnExactAdjointOf", spec := "fnExactAdjointOf", recurses := true, apart := false }
def FnExactAdjointOfSaid : Prop := fnExactAdjointOfRow.holds Try.pinned (OpenSpec.ofChange fnExactAdjointOfSpec)

/-- ITS FALSE NEIGHBOUR: 'it returns false'. Refute it at one input. -/
def fnExactAdjointOfWrong : ChangeSpec := { name := "fnExactAdjointOf", fn := fun _ => fun
  | [d] => { results := [.lit (.bool false)], args := [d] }
  | _ => none }
def FnExactAdjointOfWrongFalsely : Prop := fnExactAdjointOfRow.holds Try.pinned (OpenSpec.ofChange fnExactAdjointOfWrong)

/-- 'laws.FnExactCharactersOf': WHATEVER THE INPUT: true; the input reads as it did. -/
def fnExactCharactersOfSpec : ChangeSpec := { name := "fnExactCharactersOf", fn := fun _ => fun
  | [d] => { results := [.lit (.bool true)], args := [d] }
  | _ => none }
def fnExactCharactersOfRow : OpenClaim := { program := "ytinekdfpgkmbnac", sum := "c94d12d712ea1f26d06716dbd66df9a3d14813b2a96dc12f2cfeb72d880d9dee", func := "loop.example/g01327/laws.FnExactCharactersOf", spec := "fnExactCharactersOf", unfollowed := true, recurses := true, apart := false }
def FnExactCharactersOfSaid : Prop := fnExactCharactersOfRow.holds Try.pinned (OpenSpec.ofChange fnExactCharactersOfSpec)

/-- ITS FALSE NEIGHBOUR: 'it returns false'. Refute it at one input. -/
def fnExactCharactersOfWrong : ChangeSpec := { name := "fnExactCharactersOf", fn := fun _ => fun
  | [d] => { results := [.lit (.bool false)], args := [d] }
  | _ => none }
def FnExactCharactersOfWrongFalsely : Prop := fnExactCharactersOfRow.holds Try.pinned (OpenSpec.ofChange fnExactCharactersOfWrong)

/-- 'laws.FnExactNormalOf': WHATEVER THE INPUT: true; the input reads as it did. -/
def fnExactNormalOfSpec : ChangeSpec := { name := "fnExactNormalOf", fn := fun _ => fun
  | [d] => { results := [.lit (.bool true)], args := [d] }
  | _ => none }
def fnExactNormalOfRow : OpenClaim := { program := "ytinekdfpgkmbnac", sum := "c94d12d712ea1f26d06716dbd66df9a3d14813b2a96dc12f2cfeb72d880d9dee", func := "loop.example/g01327/laws.FnExactNormalOf", spec := "fnExactNormalOf", unfollowed := true, recurses := true, apart := false }
def FnExactNormalOfSaid : Prop := fnExactNormalOfRow.holds Try.pinned (OpenSpec.ofChange fnExactNormalOfSpec)

/-- ITS FALSE NEIGHBOUR: 'it returns false'. Refute it at one input. -/
def fnExactNormalOfWrong : ChangeSpec := { name := "fnExactNormalOf", fn := fun _ => fun
  | [d] => { results := [.lit (.bool false)], args := [d] }
  | _ => none }
def FnExactNormalOfWrongFalsely : Prop := fnExactNormalOfRow.holds Try.pinned (OpenSpec.ofChange fnExactNormalOfWrong)

/-- 'laws.FnExactShortestOf': WHATEVER THE INPUT: true; the input reads as it did. -/
def fnExactShortestOfSpec : ChangeSpec := { name := "fnExactShortestOf", fn := fun _ => fun
  | [d1, d2] => { results := [.lit (.bool true)], args := [d1, d2] }
  | _ => none }
def fnExactShortestOfRow : OpenClaim := { program := "ytinekdfpgkmbnac", sum := "c94d12d712ea1f26d06716dbd66df9a3d14813b2a96dc12f2cfeb72d880d9dee", func := "loop.example/g01327/laws.FnExactShortestOf", spec := "fnExactShortestOf", unfollowed := true, recurses := true, apart := false }
def FnExactShortestOfSaid : Prop := fnExactShortestOfRow.holds Try.pinned (OpenSpec.ofChange fnExactShortestOfSpec)

/-- ITS FALSE NEIGHBOUR: 'it returns false'. Refute it at one input. -/
def fnExactShortestOfWrong : ChangeSpec := { name := "fnExactShortestOf", fn := fun _ => fun
  | [d1, d2] => { results := [.lit (.bool false)], args := [d1, d2] }
  | _ => none }
def FnExactShortestOfWrongFalsely : Prop := fnExactShortestOfRow.holds Try.pinned (OpenSpec.ofChange fnExactShortestOfWrong)

/- THE SECOND FORM. 'bulk': how many values and letters a reading holds, each counted each time it is reached (what is shared counts as often as it is met; a slice's spare places count too). A statement '..UptoSaid' is the law's where the arguments, and the package variables that the reading takes, are together of bulk at most 1048576: NARROWER than '..Said'. Prove '..Said' where nothing that the law and all that it calls make is longer than what came in: it says more and counts as full. Else prove '..UptoSaid'. A law counts once. -/
mutual
def uptoBulk {H : Type} : DataW H → Nat
  | .lit (.string bytes) => bytes.length + 1
  | .lit _ => 1
  | .nil => 1
  | .ptr d => uptoBulk d + 1
  | .slice elems spare => uptoBulkAll elems + uptoBulkAll spare + 1
  | .agg parts => uptoBulkAll parts + 1
  | .iface _ d => uptoBulk d + 1
  | .map entries => uptoBulkEntries entries + 1
  | .held _ => 1
def uptoBulkAll {H : Type} : List (DataW H) → Nat
  | [] => 0
  | d :: r => uptoBulk d + uptoBulkAll r
def uptoBulkEntries {H : Type} : List (Lit × DataW H) → Nat
  | [] => 0
  | x :: r => uptoBulkEntry x + uptoBulkEntries r
def uptoBulkEntry {H : Type} : Lit × DataW H → Nat
  | (.string bytes, d) => bytes.length + uptoBulk d + 1
  | (_, d) => uptoBulk d + 1
 end
def uptoSmall : (H : Type) → List (DataW H) → Bool := fun _ ds => decide (uptoBulkAll ds ≤ 1048576)
def OpenSpec.upto (s : _root_.Go.ChangeSpec) : _root_.Go.OpenSpec := { _root_.Go.OpenSpec.ofChange s with cond := some uptoSmall }

/-- 'laws.FnExactDetOfWhole', WHERE WHAT IT READS IS OF BULK AT MOST 1048576: true; the input reads as it did. -/
def fnExactDetOfWholeUptoRow : OpenClaim := { program := "ytinekdfpgkmbnac", sum := "c94d12d712ea1f26d06716dbd66df9a3d14813b2a96dc12f2cfeb72d880d9dee", func := "loop.example/g01327/laws.FnExactDetOfWhole", spec := "fnExactDetOfWhole", recurses := true, apart := false, narrowed := true }
def FnExactDetOfWholeUptoSaid : Prop := fnExactDetOfWholeUptoRow.holds Try.pinned (OpenSpec.upto fnExactDetOfWholeSpec)

/-- 'laws.FnExactMinorOfWhole', WHERE WHAT IT READS IS OF BULK AT MOST 1048576: true; the input reads as it did. -/
def fnExactMinorOfWholeUptoRow : OpenClaim := { program := "ytinekdfpgkmbnac", sum := "c94d12d712ea1f26d06716dbd66df9a3d14813b2a96dc12f2cfeb72d880d9dee", func := "loop.example/g01327/laws.FnExactMinorOfWhole", spec := "fnExactMinorOfWhole", recurses := true, apart := false, narrowed := true }
def FnExactMinorOfWholeUptoSaid : Prop := fnExactMinorOfWholeUptoRow.holds Try.pinned (OpenSpec.upto fnExactMinorOfWholeSpec)

/-- 'laws.FnExactAdjointOf', WHERE WHAT IT READS IS OF BULK AT MOST 1048576: true; the input reads as it did. -/
def fnExactAdjointOfUptoRow : OpenClaim := { program := "ytinekdfpgkmbnac", sum := "c94d12d712ea1f26d06716dbd66df9a3d14813b2a96dc12f2cfeb72d880d9dee", func := "loop.example/g01327/laws.FnExactAdjointOf", spec := "fnExactAdjointOf", recurses := true, apart := false, narrowed := true }
def FnExactAdjointOfUptoSaid : Prop := fnExactAdjointOfUptoRow.holds Try.pinned (OpenSpec.upto fnExactAdjointOfSpec)

/-- 'laws.FnExactCharactersOf', WHERE WHAT IT READS IS OF BULK AT MOST 1048576: true; the input reads as it did. -/
def fnExactCharactersOfUptoRow : OpenClaim := { program := "ytinekdfpgkmbnac", sum := "c94d12d712ea1f26d06716dbd66df9a3d14813b2a96dc12f2cfeb72d880d9dee", func := "loop.example/g01327/laws.FnExactCharactersOf", spec := "fnExactCharactersOf", unfollowed := true, recurses := true, apart := false, narrowed := true }
def FnExactCharactersOfUptoSaid : Prop := fnExactCharactersOfUptoRow.holds Try.pinned (OpenSpec.upto fnExactCharactersOfSpec)

/-- 'laws.FnExactNormalOf', WHERE WHAT IT READS IS OF BULK AT MOST 1048576: true; the input reads as it did. -/
def fnExactNormalOfUptoRow : OpenClaim := { program := "ytinekdfpgkmbnac", sum := "c94d12d712ea1f26d06716dbd66df9a3d14813b2a96dc12f2cfeb72d880d9dee", func := "loop.example/g01327/laws.FnExactNormalOf", spec := "fnExactNormalOf", unfollowed := true, recurses := true, apart := false, narrowed := true }
def FnExactNormalOfUptoSaid : Prop := fnExactNormalOfUptoRow.holds Try.pinned (OpenSpec.upto fnExactNormalOfSpec)

/-- 'laws.FnExactShortestOf', WHERE WHAT IT READS IS OF BULK AT MOST 1048576: true; the input reads as it did. -/
def fnExactShortestOfUptoRow : OpenClaim := { program := "ytinekdfpgkmbnac", sum := "c94d12d712ea1f26d06716dbd66df9a3d14813b2a96dc12f2cfeb72d880d9dee", func := "loop.example/g01327/laws.FnExactShortestOf", spec := "fnExactShortestOf", unfollowed := true, recurses := true, apart := false, narrowed := true }
def FnExactShortestOfUptoSaid : Prop := fnExactShortestOfUptoRow.holds Try.pinned (OpenSpec.upto fnExactShortestOfSpec)

end Rows
end Go.Proofs.Ytinekdfpgkmbnac
