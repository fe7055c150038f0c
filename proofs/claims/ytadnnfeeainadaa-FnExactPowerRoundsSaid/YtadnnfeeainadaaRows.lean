/-
  No cell of these rows narrows 'for every input' (looked for: loops, veiled, ifaces, maps, wideKeys, modest, calm, conditions, laid).
  DERIVED. THE GIVEN ROWS OF THIS SEAT. 4 by the template 'for every input the law returns true; each argument reads behind the call as it read before'; 0 by the template 'total and deterministic' (their statements: YtadnnfeeainadaaTotals.lean).
  GIVEN WITH THE SEED: the statements are not yours to turn. If you find one false, say at which input.
  Laid BY PROGRAM, IN A SANDBOX (cutbox-rows.mjs): the forced cells as the released guide's own fill.sh prints them over the translation 08354e93193e157d… (all of the seat's roots in one cut). By AI agents, Wed Nov 11 2026. No macro, syntax, notation, axiom, sorry.
-/
import Derived.Test.YtadnnfeeainadaaChecked
import GoSem.Claim
import GoSem.ClaimJoined
import GoSem.ClaimMapViews
import Derived.JoinedTies
import Derived.KernelRfl
namespace Go.Proofs.Ytadnnfeeainadaa
/- THE CELL 'sum', in the pinned program and in every row, IS THE sha256 OF THE DUMP (.gsa) THAT YtadnnfeeainadaaProg.lean LOADS. Nothing in Lean hashes anything: it is a label: what it is worth is what the hold of that sum in a sandbox is worth. -/
noncomputable def Try.pinned : Pinned := { name := "ytadnnfeeainadaa", sum := "08354e93193e157d80cc4316f2ce704748d1cc036916da097975a9b5fb3fa63a", checked := Try.checked }
namespace Rows
def none {H : Type} : Left H := { results := [], args := [] }

/-- 'laws.FnExactPowerRounds': WHATEVER THE INPUT: true; the input reads as it did. -/
def fnExactPowerRoundsSpec : ChangeSpec := { name := "fnExactPowerRounds", fn := fun _ => fun
  | [d1, d2, d3] => { results := [.lit (.bool true)], args := [d1, d2, d3] }
  | _ => none }
def fnExactPowerRoundsRow : OpenClaim := { program := "ytadnnfeeainadaa", sum := "08354e93193e157d80cc4316f2ce704748d1cc036916da097975a9b5fb3fa63a", func := "loop.example/g01327/laws.FnExactPowerRounds", spec := "fnExactPowerRounds", inPlace := ["math.sqrt", "math.Float64bits", "math.Float64frombits"], apart := false }
def FnExactPowerRoundsSaid : Prop := fnExactPowerRoundsRow.holds Try.pinned (OpenSpec.ofChange fnExactPowerRoundsSpec)

/-- ITS FALSE NEIGHBOUR: 'it returns false'. Refute it at one input. -/
def fnExactPowerRoundsWrong : ChangeSpec := { name := "fnExactPowerRounds", fn := fun _ => fun
  | [d1, d2, d3] => { results := [.lit (.bool false)], args := [d1, d2, d3] }
  | _ => none }
def FnExactPowerRoundsWrongFalsely : Prop := fnExactPowerRoundsRow.holds Try.pinned (OpenSpec.ofChange fnExactPowerRoundsWrong)

/-- 'laws.FnExactTurnPair': WHATEVER THE INPUT: true; the input reads as it did. -/
def fnExactTurnPairSpec : ChangeSpec := { name := "fnExactTurnPair", fn := fun _ => fun
  | [d1, d2, d3] => { results := [.lit (.bool true)], args := [d1, d2, d3] }
  | _ => none }
def fnExactTurnPairRow : OpenClaim := { program := "ytadnnfeeainadaa", sum := "08354e93193e157d80cc4316f2ce704748d1cc036916da097975a9b5fb3fa63a", func := "loop.example/g01327/laws.FnExactTurnPair", spec := "fnExactTurnPair", inPlace := ["math.sqrt", "math.Float64bits", "math.Float64frombits"], unfollowed := true, recurses := true, apart := false }
def FnExactTurnPairSaid : Prop := fnExactTurnPairRow.holds Try.pinned (OpenSpec.ofChange fnExactTurnPairSpec)

/-- ITS FALSE NEIGHBOUR: 'it returns false'. Refute it at one input. -/
def fnExactTurnPairWrong : ChangeSpec := { name := "fnExactTurnPair", fn := fun _ => fun
  | [d1, d2, d3] => { results := [.lit (.bool false)], args := [d1, d2, d3] }
  | _ => none }
def FnExactTurnPairWrongFalsely : Prop := fnExactTurnPairRow.holds Try.pinned (OpenSpec.ofChange fnExactTurnPairWrong)

/-- 'laws.FnExactRootOfSquare': WHATEVER THE INPUT: true; the input reads as it did. -/
def fnExactRootOfSquareSpec : ChangeSpec := { name := "fnExactRootOfSquare", fn := fun _ => fun
  | [d] => { results := [.lit (.bool true)], args := [d] }
  | _ => none }
def fnExactRootOfSquareRow : OpenClaim := { program := "ytadnnfeeainadaa", sum := "08354e93193e157d80cc4316f2ce704748d1cc036916da097975a9b5fb3fa63a", func := "loop.example/g01327/laws.FnExactRootOfSquare", spec := "fnExactRootOfSquare", inPlace := ["math.sqrt", "math.Float64bits", "math.Float64frombits"], apart := false }
def FnExactRootOfSquareSaid : Prop := fnExactRootOfSquareRow.holds Try.pinned (OpenSpec.ofChange fnExactRootOfSquareSpec)

/-- ITS FALSE NEIGHBOUR: 'it returns false'. Refute it at one input. -/
def fnExactRootOfSquareWrong : ChangeSpec := { name := "fnExactRootOfSquare", fn := fun _ => fun
  | [d] => { results := [.lit (.bool false)], args := [d] }
  | _ => none }
def FnExactRootOfSquareWrongFalsely : Prop := fnExactRootOfSquareRow.holds Try.pinned (OpenSpec.ofChange fnExactRootOfSquareWrong)

/-- 'laws.FnExactAddRow': WHATEVER THE INPUT: true; the input reads as it did. -/
def fnExactAddRowSpec : ChangeSpec := { name := "fnExactAddRow", fn := fun _ => fun
  | [d1, d2] => { results := [.lit (.bool true)], args := [d1, d2] }
  | _ => none }
def fnExactAddRowRow : OpenClaim := { program := "ytadnnfeeainadaa", sum := "08354e93193e157d80cc4316f2ce704748d1cc036916da097975a9b5fb3fa63a", func := "loop.example/g01327/laws.FnExactAddRow", spec := "fnExactAddRow", inPlace := ["math.sqrt", "math.Float64bits", "math.Float64frombits"], unfollowed := true, recurses := true, apart := false }
def FnExactAddRowSaid : Prop := fnExactAddRowRow.holds Try.pinned (OpenSpec.ofChange fnExactAddRowSpec)

/-- ITS FALSE NEIGHBOUR: 'it returns false'. Refute it at one input. -/
def fnExactAddRowWrong : ChangeSpec := { name := "fnExactAddRow", fn := fun _ => fun
  | [d1, d2] => { results := [.lit (.bool false)], args := [d1, d2] }
  | _ => none }
def FnExactAddRowWrongFalsely : Prop := fnExactAddRowRow.holds Try.pinned (OpenSpec.ofChange fnExactAddRowWrong)

/- THE SECOND FORM. 'bulk': how many values and letters a reading holds, each counted each time it is reached (what is shared counts as often as it is met; a slice's spare places count too). A statement '..UptoSaid' is the law's where the arguments, and the package variables that the reading takes, are together of bulk at most 1048576: NARROWER than '..Said'. Prove '..Said' where nothing that the law and all that it calls make is longer than what came in: it says more and counts as full. Else prove '..UptoSaid'. A law counts once. -/
mutual
def uptoBulk {H : Type} : DataW H → Nat
  | .lit (.string bytes) => bytes.length + 1
  | .lit _ => 1
  | .nil => 1
  | .ptr d => uptoBulk d + 1
  | .slice elems spare => uptoBulkAll elems + uptoBulkAll spare + 1
  | .agg parts => uptoBulkAll parts + 1
  | .iface _ d => uptoBulk d + 1
  | .map entries => uptoBulkEntries entries + 1
  | .held _ => 1
def uptoBulkAll {H : Type} : List (DataW H) → Nat
  | [] => 0
  | d :: r => uptoBulk d + uptoBulkAll r
def uptoBulkEntries {H : Type} : List (Lit × DataW H) → Nat
  | [] => 0
  | x :: r => uptoBulkEntry x + uptoBulkEntries r
def uptoBulkEntry {H : Type} : Lit × DataW H → Nat
  | (.string bytes, d) => bytes.length + uptoBulk d + 1
  | (_, d) => uptoBulk d + 1
 end
def uptoSmall : (H : Type) → List (DataW H) → Bool := fun _ ds => decide (uptoBulkAll ds ≤ 1048576)
def OpenSpec.upto (s : _root_.Go.ChangeSpec) : _root_.Go.OpenSpec := { _root_.Go.OpenSpec.ofChange s with cond := some uptoSmall }

/-- 'laws.FnExactPowerRounds', WHERE WHAT IT READS IS OF BULK AT MOST 1048576: true; the input reads as it did. -/
def fnExactPowerRoundsUptoRow : OpenClaim := { program := "ytadnnfeeainadaa", sum := "08354e93193e157d80cc4316f2ce704748d1cc036916da097975a9b5fb3fa63a", func := "loop.example/g01327/laws.FnExactPowerRounds", spec := "fnExactPowerRounds", inPlace := ["math.sqrt", "math.Float64bits", "math.Float64frombits"], apart := false, narrowed := true }
def FnExactPowerRoundsUptoSaid : Prop := fnExactPowerRoundsUptoRow.holds Try.pinned (OpenSpec.upto fnExactPowerRoundsSpec)

/-- 'laws.FnExactTurnPair', WHERE WHAT IT READS IS OF BULK AT MOST 1048576: true; the input reads as it did. -/
def fnExactTurnPairUptoRow : OpenClaim := { program := "ytadnnfeeainadaa", sum := "08354e93193e157d80cc4316f2ce704748d1cc036916da097975a9b5fb3fa63a", func := "loop.example/g01327/laws.FnExactTurnPair", spec := "fnExactTurnPair", inPlace := ["math.sqrt", "math.Float64bits", "math.Float64frombits"], unfollowed := true, recurses := true, apart := false, narrowed := true }
def FnExactTurnPairUptoSaid : Prop := fnExactTurnPairUptoRow.holds Try.pinned (OpenSpec.upto fnExactTurnPairSpec)

/-- 'laws.FnExactRootOfSquare', WHERE WHAT IT READS IS OF BULK AT MOST 1048576: true; the input reads as it did. -/
def fnExactRootOfSquareUptoRow : OpenClaim := { program := "ytadnnfeeainadaa", sum := "08354e93193e157d80cc4316f2ce704748d1cc036916da097975a9b5fb3fa63a", func := "loop.example/g01327/laws.FnExactRootOfSquare", spec := "fnExactRootOfSquare", inPlace := ["math.sqrt", "math.Float64bits", "math.Float64frombits"], apart := false, narrowed := true }
def FnExactRootOfSquareUptoSaid : Prop := fnExactRootOfSquareUptoRow.holds Try.pinned (OpenSpec.upto fnExactRootOfSquareSpec)

/-- 'laws.FnExactAddRow', WHERE WHAT IT READS IS OF BULK AT MOST 1048576: true; the input reads as it did. -/
def fnExactAddRowUptoRow : OpenClaim := { program := "ytadnnfeeainadaa", sum := "08354e93193e157d80cc4316f2ce704748d1cc036916da097975a9b5fb3fa63a", func := "loop.example/g01327/laws.FnExactAddRow", spec := "fnExactAddRow", inPlace := ["math.sqrt", "math.Float64bits", "math.Float64frombits"], unfollowed := true, recurses := true, apart := false, narrowed := true }
def FnExactAddRowUptoSaid : Prop := fnExactAddRowUptoRow.holds Try.pinned (OpenSpec.upto fnExactAddRowSpec)

end Rows
end Go.Proofs.Ytadnnfeeainadaa
