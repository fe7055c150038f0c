/-
  No cell of these rows narrows 'for every input' (looked for: loops, veiled, ifaces, maps, wideKeys, modest, calm, conditions, laid).
  DERIVED. THE GIVEN ROWS OF THIS SEAT. 6 by the template 'for every input the law returns true; each argument reads behind the call as it read before'; 0 by the template 'total and deterministic' (their statements: YtpgjfanacnbfkacTotals.lean).
  GIVEN WITH THE SEED: the statements are not yours to turn. If you find one false, say at which input.
  Laid BY PROGRAM, IN A SANDBOX (cutbox-rows.mjs): the forced cells as the released guide's own fill.sh prints them over the translation 08cccfd23f96f940… (all of the seat's roots in one cut). By AI agents, Wed Nov 11 2026. No macro, syntax, notation, axiom, sorry.
-/
import Derived.Test.YtpgjfanacnbfkacChecked
import GoSem.Claim
import GoSem.ClaimJoined
import GoSem.ClaimMapViews
import Derived.JoinedTies
import Derived.KernelRfl
namespace Go.Proofs.Ytpgjfanacnbfkac
/- THE CELL 'sum', in the pinned program and in every row, IS THE sha256 OF THE DUMP (.gsa) THAT YtpgjfanacnbfkacProg.lean LOADS. Nothing in Lean hashes anything: it is a label: what it is worth is what the hold of that sum in a sandbox is worth. -/
noncomputable def Try.pinned : Pinned := { name := "ytpgjfanacnbfkac", sum := "08cccfd23f96f940c5be23e9f4c918546fd68c742cef131dbdf75e9f465e7318", checked := Try.checked }
namespace Rows
def none {H : Type} : Left H := { results := [], args := [] }

/-- 'laws.FnExactRowNorm': WHATEVER THE INPUT: true; the input reads as it did. -/
def fnExactRowNormSpec : ChangeSpec := { name := "fnExactRowNorm", fn := fun _ => fun
  | [d] => { results := [.lit (.bool true)], args := [d] }
  | _ => none }
def fnExactRowNormRow : OpenClaim := { program := "ytpgjfanacnbfkac", sum := "08cccfd23f96f940c5be23e9f4c918546fd68c742cef131dbdf75e9f465e7318", func := "loop.example/g01327/laws.FnExactRowNorm", spec := "fnExactRowNorm", inPlace := ["math.Float64bits", "math.Float64frombits"], apart := false }
def FnExactRowNormSaid : Prop := fnExactRowNormRow.holds Try.pinned (OpenSpec.ofChange fnExactRowNormSpec)

/-- ITS FALSE NEIGHBOUR: 'it returns false'. Refute it at one input. -/
def fnExactRowNormWrong : ChangeSpec := { name := "fnExactRowNorm", fn := fun _ => fun
  | [d] => { results := [.lit (.bool false)], args := [d] }
  | _ => none }
def FnExactRowNormWrongFalsely : Prop := fnExactRowNormRow.holds Try.pinned (OpenSpec.ofChange fnExactRowNormWrong)

/-- 'laws.FnExactColumnNorm': WHATEVER THE INPUT: true; the input reads as it did. -/
def fnExactColumnNormSpec : ChangeSpec := { name := "fnExactColumnNorm", fn := fun _ => fun
  | [d] => { results := [.lit (.bool true)], args := [d] }
  | _ => none }
def fnExactColumnNormRow : OpenClaim := { program := "ytpgjfanacnbfkac", sum := "08cccfd23f96f940c5be23e9f4c918546fd68c742cef131dbdf75e9f465e7318", func := "loop.example/g01327/laws.FnExactColumnNorm", spec := "fnExactColumnNorm", inPlace := ["math.Float64bits", "math.Float64frombits"], apart := false }
def FnExactColumnNormSaid : Prop := fnExactColumnNormRow.holds Try.pinned (OpenSpec.ofChange fnExactColumnNormSpec)

/-- ITS FALSE NEIGHBOUR: 'it returns false'. Refute it at one input. -/
def fnExactColumnNormWrong : ChangeSpec := { name := "fnExactColumnNorm", fn := fun _ => fun
  | [d] => { results := [.lit (.bool false)], args := [d] }
  | _ => none }
def FnExactColumnNormWrongFalsely : Prop := fnExactColumnNormRow.holds Try.pinned (OpenSpec.ofChange fnExactColumnNormWrong)

/-- 'laws.FnExactWholeNorm': WHATEVER THE INPUT: true; the input reads as it did. -/
def fnExactWholeNormSpec : ChangeSpec := { name := "fnExactWholeNorm", fn := fun _ => fun
  | [d] => { results := [.lit (.bool true)], args := [d] }
  | _ => none }
def fnExactWholeNormRow : OpenClaim := { program := "ytpgjfanacnbfkac", sum := "08cccfd23f96f940c5be23e9f4c918546fd68c742cef131dbdf75e9f465e7318", func := "loop.example/g01327/laws.FnExactWholeNorm", spec := "fnExactWholeNorm", inPlace := ["math.sqrt", "math.Float64bits", "math.Float64frombits"], apart := false }
def FnExactWholeNormSaid : Prop := fnExactWholeNormRow.holds Try.pinned (OpenSpec.ofChange fnExactWholeNormSpec)

/-- ITS FALSE NEIGHBOUR: 'it returns false'. Refute it at one input. -/
def fnExactWholeNormWrong : ChangeSpec := { name := "fnExactWholeNorm", fn := fun _ => fun
  | [d] => { results := [.lit (.bool false)], args := [d] }
  | _ => none }
def FnExactWholeNormWrongFalsely : Prop := fnExactWholeNormRow.holds Try.pinned (OpenSpec.ofChange fnExactWholeNormWrong)

/-- 'laws.FnExactDotVectors': WHATEVER THE INPUT: true; the input reads as it did. -/
def fnExactDotVectorsSpec : ChangeSpec := { name := "fnExactDotVectors", fn := fun _ => fun
  | [d1, d2] => { results := [.lit (.bool true)], args := [d1, d2] }
  | _ => none }
def fnExactDotVectorsRow : OpenClaim := { program := "ytpgjfanacnbfkac", sum := "08cccfd23f96f940c5be23e9f4c918546fd68c742cef131dbdf75e9f465e7318", func := "loop.example/g01327/laws.FnExactDotVectors", spec := "fnExactDotVectors", inPlace := ["math.Float64bits", "math.Float64frombits"], apart := false }
def FnExactDotVectorsSaid : Prop := fnExactDotVectorsRow.holds Try.pinned (OpenSpec.ofChange fnExactDotVectorsSpec)

/-- ITS FALSE NEIGHBOUR: 'it returns false'. Refute it at one input. -/
def fnExactDotVectorsWrong : ChangeSpec := { name := "fnExactDotVectors", fn := fun _ => fun
  | [d1, d2] => { results := [.lit (.bool false)], args := [d1, d2] }
  | _ => none }
def FnExactDotVectorsWrongFalsely : Prop := fnExactDotVectorsRow.holds Try.pinned (OpenSpec.ofChange fnExactDotVectorsWrong)

/-- 'laws.FnExactLongDot': WHATEVER THE INPUT: true; the input reads as it did. -/
def fnExactLongDotSpec : ChangeSpec := { name := "fnExactLongDot", fn := fun _ => fun
  | [d1, d2] => { results := [.lit (.bool true)], args := [d1, d2] }
  | _ => none }
def fnExactLongDotRow : OpenClaim := { program := "ytpgjfanacnbfkac", sum := "08cccfd23f96f940c5be23e9f4c918546fd68c742cef131dbdf75e9f465e7318", func := "loop.example/g01327/laws.FnExactLongDot", spec := "fnExactLongDot", inPlace := ["math.Float64bits", "math.Float64frombits"], apart := false }
def FnExactLongDotSaid : Prop := fnExactLongDotRow.holds Try.pinned (OpenSpec.ofChange fnExactLongDotSpec)

/-- ITS FALSE NEIGHBOUR: 'it returns false'. Refute it at one input. -/
def fnExactLongDotWrong : ChangeSpec := { name := "fnExactLongDot", fn := fun _ => fun
  | [d1, d2] => { results := [.lit (.bool false)], args := [d1, d2] }
  | _ => none }
def FnExactLongDotWrongFalsely : Prop := fnExactLongDotRow.holds Try.pinned (OpenSpec.ofChange fnExactLongDotWrong)

/-- 'laws.FnExactCarrySum': WHATEVER THE INPUT: true; the input reads as it did. -/
def fnExactCarrySumSpec : ChangeSpec := { name := "fnExactCarrySum", fn := fun _ => fun
  | [d] => { results := [.lit (.bool true)], args := [d] }
  | _ => none }
def fnExactCarrySumRow : OpenClaim := { program := "ytpgjfanacnbfkac", sum := "08cccfd23f96f940c5be23e9f4c918546fd68c742cef131dbdf75e9f465e7318", func := "loop.example/g01327/laws.FnExactCarrySum", spec := "fnExactCarrySum", inPlace := ["math.Float64bits", "math.Float64frombits"], apart := false }
def FnExactCarrySumSaid : Prop := fnExactCarrySumRow.holds Try.pinned (OpenSpec.ofChange fnExactCarrySumSpec)

/-- ITS FALSE NEIGHBOUR: 'it returns false'. Refute it at one input. -/
def fnExactCarrySumWrong : ChangeSpec := { name := "fnExactCarrySum", fn := fun _ => fun
  | [d] => { results := [.lit (.bool false)], args := [d] }
  | _ => none }
def FnExactCarrySumWrongFalsely : Prop := fnExactCarrySumRow.holds Try.pinned (OpenSpec.ofChange fnExactCarrySumWrong)

/- THE SECOND FORM. 'bulk': how many values and letters a reading holds, each counted each time it is reached (what is shared counts as often as it is met; a slice's spare places count too). A statement '..UptoSaid' is the law's where the arguments, and the package variables that the reading takes, are together of bulk at most 1048576: NARROWER than '..Said'. Prove '..Said' where nothing that the law and all that it calls make is longer than what came in: it says more and counts as full. Else prove '..UptoSaid'. A law counts once. -/
mutual
def uptoBulk {H : Type} : DataW H → Nat
  | .lit (.string bytes) => bytes.length + 1
  | .lit _ => 1
  | .nil => 1
  | .ptr d => uptoBulk d + 1
  | .slice elems spare => uptoBulkAll elems + uptoBulkAll spare + 1
  | .agg parts => uptoBulkAll parts + 1
  | .iface _ d => uptoBulk d + 1
  | .map entries => uptoBulkEntries entries + 1
  | .held _ => 1
def uptoBulkAll {H : Type} : List (DataW H) → Nat
  | [] => 0
  | d :: r => uptoBulk d + uptoBulkAll r
def uptoBulkEntries {H : Type} : List (Lit × DataW H) → Nat
  | [] => 0
  | x :: r => uptoBulkEntry x + uptoBulkEntries r
def uptoBulkEntry {H : Type} : Lit × DataW H → Nat
  | (.string bytes, d) => bytes.length + uptoBulk d + 1
  | (_, d) => uptoBulk d + 1
 end
def uptoSmall : (H : Type) → List (DataW H) → Bool := fun _ ds => decide (uptoBulkAll ds ≤ 1048576)
def OpenSpec.upto (s : _root_.Go.ChangeSpec) : _root_.Go.OpenSpec := { _root_.Go.OpenSpec.ofChange s with cond := some uptoSmall }

/-- 'laws.FnExactRowNorm', WHERE WHAT IT READS IS OF BULK AT MOST 1048576: true; the input reads as it did. -/
def fnExactRowNormUptoRow : OpenClaim := { program := "ytpgjfanacnbfkac", sum := "08cccfd23f96f940c5be23e9f4c918546fd68c742cef131dbdf75e9f465e7318", func := "loop.example/g01327/laws.FnExactRowNorm", spec := "fnExactRowNorm", inPlace := ["math.Float64bits", "math.Float64frombits"], apart := false, narrowed := true }
def FnExactRowNormUptoSaid : Prop := fnExactRowNormUptoRow.holds Try.pinned (OpenSpec.upto fnExactRowNormSpec)

/-- 'laws.FnExactColumnNorm', WHERE WHAT IT READS IS OF BULK AT MOST 1048576: true; the input reads as it did. -/
def fnExactColumnNormUptoRow : OpenClaim := { program := "ytpgjfanacnbfkac", sum := "08cccfd23f96f940c5be23e9f4c918546fd68c742cef131dbdf75e9f465e7318", func := "loop.example/g01327/laws.FnExactColumnNorm", spec := "fnExactColumnNorm", inPlace := ["math.Float64bits", "math.Float64frombits"], apart := false, narrowed := true }
def FnExactColumnNormUptoSaid : Prop := fnExactColumnNormUptoRow.holds Try.pinned (OpenSpec.upto fnExactColumnNormSpec)

/-- 'laws.FnExactWholeNorm', WHERE WHAT IT READS IS OF BULK AT MOST 1048576: true; the input reads as it did. -/
def fnExactWholeNormUptoRow : OpenClaim := { program := "ytpgjfanacnbfkac", sum := "08cccfd23f96f940c5be23e9f4c918546fd68c742cef131dbdf75e9f465e7318", func := "loop.example/g01327/laws.FnExactWholeNorm", spec := "fnExactWholeNorm", inPlace := ["math.sqrt", "math.Float64bits", "math.Float64frombits"], apart := false, narrowed := true }
def FnExactWholeNormUptoSaid : Prop := fnExactWholeNormUptoRow.holds Try.pinned (OpenSpec.upto fnExactWholeNormSpec)

/-- 'laws.FnExactDotVectors', WHERE WHAT IT READS IS OF BULK AT MOST 1048576: true; the input reads as it did. -/
def fnExactDotVectorsUptoRow : OpenClaim := { program := "ytpgjfanacnbfkac", sum := "08cccfd23f96f940c5be23e9f4c918546fd68c742cef131dbdf75e9f465e7318", func := "loop.example/g01327/laws.FnExactDotVectors", spec := "fnExactDotVectors", inPlace := ["math.Float64bits", "math.Float64frombits"], apart := false, narrowed := true }
def FnExactDotVectorsUptoSaid : Prop := fnExactDotVectorsUptoRow.holds Try.pinned (OpenSpec.upto fnExactDotVectorsSpec)

/-- 'laws.FnExactLongDot', WHERE WHAT IT READS IS OF BULK AT MOST 1048576: true; the input reads as it did. -/
def fnExactLongDotUptoRow : OpenClaim := { program := "ytpgjfanacnbfkac", sum := "08cccfd23f96f940c5be23e9f4c918546fd68c742cef131dbdf75e9f465e7318", func := "loop.example/g01327/laws.FnExactLongDot", spec := "fnExactLongDot", inPlace := ["math.Float64bits", "math.Float64frombits"], apart := false, narrowed := true }
def FnExactLongDotUptoSaid : Prop := fnExactLongDotUptoRow.holds Try.pinned (OpenSpec.upto fnExactLongDotSpec)

/-- 'laws.FnExactCarrySum', WHERE WHAT IT READS IS OF BULK AT MOST 1048576: true; the input reads as it did. -/
def fnExactCarrySumUptoRow : OpenClaim := { program := "ytpgjfanacnbfkac", sum := "08cccfd23f96f940c5be23e9f4c918546fd68c742cef131dbdf75e9f465e7318", func := "loop.example/g01327/laws.FnExactCarrySum", spec := "fnExactCarrySum", inPlace := ["math.Float64bits", "math.Float64frombits"], apart := false, narrowed := true }
def FnExactCarrySumUptoSaid : Prop := fnExactCarrySumUptoRow.holds Try.pinned (OpenSpec.upto fnExactCarrySumSpec)

end Rows
end Go.Proofs.Ytpgjfanacnbfkac
