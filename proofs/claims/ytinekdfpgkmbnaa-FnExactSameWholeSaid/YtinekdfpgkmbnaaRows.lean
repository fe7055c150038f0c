/-
  No cell of these rows narrows 'for every input' (looked for: loops, veiled, ifaces, maps, wideKeys, modest, calm, conditions, laid).
  DERIVED. THE GIVEN ROWS OF THIS SEAT. 6 by the template 'for every input the law returns true; each argument reads behind the call as it read before'; 0 by the template 'total and deterministic' (their statements: YtinekdfpgkmbnaaTotals.lean).
  GIVEN WITH THE SEED: the statements are not yours to turn. If you find one false, say at which input.
  Laid BY PROGRAM, IN A SANDBOX (cutbox-rows.mjs): the forced cells as the released guide's own fill.sh prints them over the translation 24f9ca00e6ea4072… (all of the seat's roots in one cut). By AI agents, Wed Nov 11 2026. No macro, syntax, notation, axiom, sorry.
-/
import Derived.Test.YtinekdfpgkmbnaaChecked
import GoSem.Claim
import GoSem.ClaimJoined
import GoSem.ClaimMapViews
import Derived.JoinedTies
import Derived.KernelRfl
namespace Go.Proofs.Ytinekdfpgkmbnaa
/- THE CELL 'sum', in the pinned program and in every row, IS THE sha256 OF THE DUMP (.gsa) THAT YtinekdfpgkmbnaaProg.lean LOADS. Nothing in Lean hashes anything: it is a label: what it is worth is what the hold of that sum in a sandbox is worth. -/
noncomputable def Try.pinned : Pinned := { name := "ytinekdfpgkmbnaa", sum := "24f9ca00e6ea407263bcb40ad73811c546951b58b2380cd01b879270b0abff4c", checked := Try.checked }
namespace Rows
def none {H : Type} : Left H := { results := [], args := [] }

/-- 'laws.FnExactGcdOf': WHATEVER THE INPUT: true; the input reads as it did. -/
def fnExactGcdOfSpec : ChangeSpec := { name := "fnExactGcdOf", fn := fun _ => fun
  | [d1, d2] => { results := [.lit (.bool true)], args := [d1, d2] }
  | _ => none }
def fnExactGcdOfRow : OpenClaim := { program := "ytinekdfpgkmbnaa", sum := "24f9ca00e6ea407263bcb40ad73811c546951b58b2380cd01b879270b0abff4c", func := "loop.example/g01327/laws.FnExactGcdOf", spec := "fnExactGcdOf", apart := false }
def FnExactGcdOfSaid : Prop := fnExactGcdOfRow.holds Try.pinned (OpenSpec.ofChange fnExactGcdOfSpec)

/-- ITS FALSE NEIGHBOUR: 'it returns false'. Refute it at one input. -/
def fnExactGcdOfWrong : ChangeSpec := { name := "fnExactGcdOf", fn := fun _ => fun
  | [d1, d2] => { results := [.lit (.bool false)], args := [d1, d2] }
  | _ => none }
def FnExactGcdOfWrongFalsely : Prop := fnExactGcdOfRow.holds Try.pinned (OpenSpec.ofChange fnExactGcdOfWrong)

/-- 'laws.FnExactIsPrime': WHATEVER THE INPUT: true; the input reads as it did. -/
def fnExactIsPrimeSpec : ChangeSpec := { name := "fnExactIsPrime", fn := fun _ => fun
  | [d] => { results := [.lit (.bool true)], args := [d] }
  | _ => none }
def fnExactIsPrimeRow : OpenClaim := { program := "ytinekdfpgkmbnaa", sum := "24f9ca00e6ea407263bcb40ad73811c546951b58b2380cd01b879270b0abff4c", func := "loop.example/g01327/laws.FnExactIsPrime", spec := "fnExactIsPrime", apart := false }
def FnExactIsPrimeSaid : Prop := fnExactIsPrimeRow.holds Try.pinned (OpenSpec.ofChange fnExactIsPrimeSpec)

/-- ITS FALSE NEIGHBOUR: 'it returns false'. Refute it at one input. -/
def fnExactIsPrimeWrong : ChangeSpec := { name := "fnExactIsPrime", fn := fun _ => fun
  | [d] => { results := [.lit (.bool false)], args := [d] }
  | _ => none }
def FnExactIsPrimeWrongFalsely : Prop := fnExactIsPrimeRow.holds Try.pinned (OpenSpec.ofChange fnExactIsPrimeWrong)

/-- 'laws.FnExactBackOver': WHATEVER THE INPUT: true; the input reads as it did. -/
def fnExactBackOverSpec : ChangeSpec := { name := "fnExactBackOver", fn := fun _ => fun
  | [d1, d2] => { results := [.lit (.bool true)], args := [d1, d2] }
  | _ => none }
def fnExactBackOverRow : OpenClaim := { program := "ytinekdfpgkmbnaa", sum := "24f9ca00e6ea407263bcb40ad73811c546951b58b2380cd01b879270b0abff4c", func := "loop.example/g01327/laws.FnExactBackOver", spec := "fnExactBackOver", apart := false }
def FnExactBackOverSaid : Prop := fnExactBackOverRow.holds Try.pinned (OpenSpec.ofChange fnExactBackOverSpec)

/-- ITS FALSE NEIGHBOUR: 'it returns false'. Refute it at one input. -/
def fnExactBackOverWrong : ChangeSpec := { name := "fnExactBackOver", fn := fun _ => fun
  | [d1, d2] => { results := [.lit (.bool false)], args := [d1, d2] }
  | _ => none }
def FnExactBackOverWrongFalsely : Prop := fnExactBackOverRow.holds Try.pinned (OpenSpec.ofChange fnExactBackOverWrong)

/-- 'laws.FnExactContentOf': WHATEVER THE INPUT: true; the input reads as it did. -/
def fnExactContentOfSpec : ChangeSpec := { name := "fnExactContentOf", fn := fun _ => fun
  | [d] => { results := [.lit (.bool true)], args := [d] }
  | _ => none }
def fnExactContentOfRow : OpenClaim := { program := "ytinekdfpgkmbnaa", sum := "24f9ca00e6ea407263bcb40ad73811c546951b58b2380cd01b879270b0abff4c", func := "loop.example/g01327/laws.FnExactContentOf", spec := "fnExactContentOf", apart := false }
def FnExactContentOfSaid : Prop := fnExactContentOfRow.holds Try.pinned (OpenSpec.ofChange fnExactContentOfSpec)

/-- ITS FALSE NEIGHBOUR: 'it returns false'. Refute it at one input. -/
def fnExactContentOfWrong : ChangeSpec := { name := "fnExactContentOf", fn := fun _ => fun
  | [d] => { results := [.lit (.bool false)], args := [d] }
  | _ => none }
def FnExactContentOfWrongFalsely : Prop := fnExactContentOfRow.holds Try.pinned (OpenSpec.ofChange fnExactContentOfWrong)

/-- 'laws.FnExactValidWhole': WHATEVER THE INPUT: true; the input reads as it did. -/
def fnExactValidWholeSpec : ChangeSpec := { name := "fnExactValidWhole", fn := fun _ => fun
  | [d] => { results := [.lit (.bool true)], args := [d] }
  | _ => none }
def fnExactValidWholeRow : OpenClaim := { program := "ytinekdfpgkmbnaa", sum := "24f9ca00e6ea407263bcb40ad73811c546951b58b2380cd01b879270b0abff4c", func := "loop.example/g01327/laws.FnExactValidWhole", spec := "fnExactValidWhole", apart := false }
def FnExactValidWholeSaid : Prop := fnExactValidWholeRow.holds Try.pinned (OpenSpec.ofChange fnExactValidWholeSpec)

/-- ITS FALSE NEIGHBOUR: 'it returns false'. Refute it at one input. -/
def fnExactValidWholeWrong : ChangeSpec := { name := "fnExactValidWhole", fn := fun _ => fun
  | [d] => { results := [.lit (.bool false)], args := [d] }
  | _ => none }
def FnExactValidWholeWrongFalsely : Prop := fnExactValidWholeRow.holds Try.pinned (OpenSpec.ofChange fnExactValidWholeWrong)

/-- 'laws.FnExactSameWhole': WHATEVER THE INPUT: true; the input reads as it did. -/
def fnExactSameWholeSpec : ChangeSpec := { name := "fnExactSameWhole", fn := fun _ => fun
  | [d1, d2] => { results := [.lit (.bool true)], args := [d1, d2] }
  | _ => none }
def fnExactSameWholeRow : OpenClaim := { program := "ytinekdfpgkmbnaa", sum := "24f9ca00e6ea407263bcb40ad73811c546951b58b2380cd01b879270b0abff4c", func := "loop.example/g01327/laws.FnExactSameWhole", spec := "fnExactSameWhole", apart := false }
def FnExactSameWholeSaid : Prop := fnExactSameWholeRow.holds Try.pinned (OpenSpec.ofChange fnExactSameWholeSpec)

/-- ITS FALSE NEIGHBOUR: 'it returns false'. Refute it at one input. -/
def fnExactSameWholeWrong : ChangeSpec := { name := "fnExactSameWhole", fn := fun _ => fun
  | [d1, d2] => { results := [.lit (.bool false)], args := [d1, d2] }
  | _ => none }
def FnExactSameWholeWrongFalsely : Prop := fnExactSameWholeRow.holds Try.pinned (OpenSpec.ofChange fnExactSameWholeWrong)

/- THE SECOND FORM. 'bulk': how many values and letters a reading holds, each counted each time it is reached (what is shared counts as often as it is met; a slice's spare places count too). A statement '..UptoSaid' is the law's where the arguments, and the package variables that the reading takes, are together of bulk at most 1048576: NARROWER than '..Said'. Prove '..Said' where nothing that the law and all that it calls make is longer than what came in: it says more and counts as full. Else prove '..UptoSaid'. A law counts once. -/
mutual
def uptoBulk {H : Type} : DataW H → Nat
  | .lit (.string bytes) => bytes.length + 1
  | .lit _ => 1
  | .nil => 1
  | .ptr d => uptoBulk d + 1
  | .slice elems spare => uptoBulkAll elems + uptoBulkAll spare + 1
  | .agg parts => uptoBulkAll parts + 1
  | .iface _ d => uptoBulk d + 1
  | .map entries => uptoBulkEntries entries + 1
  | .held _ => 1
def uptoBulkAll {H : Type} : List (DataW H) → Nat
  | [] => 0
  | d :: r => uptoBulk d + uptoBulkAll r
def uptoBulkEntries {H : Type} : List (Lit × DataW H) → Nat
  | [] => 0
  | x :: r => uptoBulkEntry x + uptoBulkEntries r
def uptoBulkEntry {H : Type} : Lit × DataW H → Nat
  | (.string bytes, d) => bytes.length + uptoBulk d + 1
  | (_, d) => uptoBulk d + 1
 end
def uptoSmall : (H : Type) → List (DataW H) → Bool := fun _ ds => decide (uptoBulkAll ds ≤ 1048576)
def OpenSpec.upto (s : _root_.Go.ChangeSpec) : _root_.Go.OpenSpec := { _root_.Go.OpenSpec.ofChange s with cond := some uptoSmall }

/-- 'laws.FnExactGcdOf', WHERE WHAT IT READS IS OF BULK AT MOST 1048576: true; the input reads as it did. -/
def fnExactGcdOfUptoRow : OpenClaim := { program := "ytinekdfpgkmbnaa", sum := "24f9ca00e6ea407263bcb40ad73811c546951b58b2380cd01b879270b0abff4c", func := "loop.example/g01327/laws.FnExactGcdOf", spec := "fnExactGcdOf", apart := false, narrowed := true }
def FnExactGcdOfUptoSaid : Prop := fnExactGcdOfUptoRow.holds Try.pinned (OpenSpec.upto fnExactGcdOfSpec)

/-- 'laws.FnExactIsPrime', WHERE WHAT IT READS IS OF BULK AT MOST 1048576: true; the input reads as it did. -/
def fnExactIsPrimeUptoRow : OpenClaim := { program := "ytinekdfpgkmbnaa", sum := "24f9ca00e6ea407263bcb40ad73811c546951b58b2380cd01b879270b0abff4c", func := "loop.example/g01327/laws.FnExactIsPrime", spec := "fnExactIsPrime", apart := false, narrowed := true }
def FnExactIsPrimeUptoSaid : Prop := fnExactIsPrimeUptoRow.holds Try.pinned (OpenSpec.upto fnExactIsPrimeSpec)

/-- 'laws.FnExactBackOver', WHERE WHAT IT READS IS OF BULK AT MOST 1048576: true; the input reads as it did. -/
def fnExactBackOverUptoRow : OpenClaim := { program := "ytinekdfpgkmbnaa", sum := "24f9ca00e6ea407263bcb40ad73811c546951b58b2380cd01b879270b0abff4c", func := "loop.example/g01327/laws.FnExactBackOver", spec := "fnExactBackOver", apart := false, narrowed := true }
def FnExactBackOverUptoSaid : Prop := fnExactBackOverUptoRow.holds Try.pinned (OpenSpec.upto fnExactBackOverSpec)

/-- 'laws.FnExactContentOf', WHERE WHAT IT READS IS OF BULK AT MOST 1048576: true; the input reads as it did. -/
def fnExactContentOfUptoRow : OpenClaim := { program := "ytinekdfpgkmbnaa", sum := "24f9ca00e6ea407263bcb40ad73811c546951b58b2380cd01b879270b0abff4c", func := "loop.example/g01327/laws.FnExactContentOf", spec := "fnExactContentOf", apart := false, narrowed := true }
def FnExactContentOfUptoSaid : Prop := fnExactContentOfUptoRow.holds Try.pinned (OpenSpec.upto fnExactContentOfSpec)

/-- 'laws.FnExactValidWhole', WHERE WHAT IT READS IS OF BULK AT MOST 1048576: true; the input reads as it did. -/
def fnExactValidWholeUptoRow : OpenClaim := { program := "ytinekdfpgkmbnaa", sum := "24f9ca00e6ea407263bcb40ad73811c546951b58b2380cd01b879270b0abff4c", func := "loop.example/g01327/laws.FnExactValidWhole", spec := "fnExactValidWhole", apart := false, narrowed := true }
def FnExactValidWholeUptoSaid : Prop := fnExactValidWholeUptoRow.holds Try.pinned (OpenSpec.upto fnExactValidWholeSpec)

/-- 'laws.FnExactSameWhole', WHERE WHAT IT READS IS OF BULK AT MOST 1048576: true; the input reads as it did. -/
def fnExactSameWholeUptoRow : OpenClaim := { program := "ytinekdfpgkmbnaa", sum := "24f9ca00e6ea407263bcb40ad73811c546951b58b2380cd01b879270b0abff4c", func := "loop.example/g01327/laws.FnExactSameWhole", spec := "fnExactSameWhole", apart := false, narrowed := true }
def FnExactSameWholeUptoSaid : Prop := fnExactSameWholeUptoRow.holds Try.pinned (OpenSpec.upto fnExactSameWholeSpec)

end Rows
end Go.Proofs.Ytinekdfpgkmbnaa
