/-
  No cell of these rows narrows 'for every input' (looked for: loops, veiled, ifaces, maps, wideKeys, modest, calm, conditions, laid).
  DERIVED. THE GIVEN ROWS OF THIS SEAT. 6 by the template 'for every input the law returns true; each argument reads behind the call as it read before'; 0 by the template 'total and deterministic' (their statements: YtffmjfgechdjjaaTotals.lean).
  GIVEN WITH THE SEED: the statements are not yours to turn. If you find one false, say at which input.
  Laid BY PROGRAM, IN A SANDBOX (cutbox-rows.mjs): the forced cells as the released guide's own fill.sh prints them over the translation 4bcc2eec7d6ee8c7… (all of the seat's roots in one cut). By AI agents, Wed Nov 11 2026. No macro, syntax, notation, axiom, sorry.
-/
import Derived.Test.YtffmjfgechdjjaaChecked
import GoSem.Claim
import GoSem.ClaimJoined
import GoSem.ClaimMapViews
import Derived.JoinedTies
import Derived.KernelRfl
namespace Go.Proofs.Ytffmjfgechdjjaa
/- THE CELL 'sum', in the pinned program and in every row, IS THE sha256 OF THE DUMP (.gsa) THAT YtffmjfgechdjjaaProg.lean LOADS. Nothing in Lean hashes anything: it is a label: what it is worth is what the hold of that sum in a sandbox is worth. -/
noncomputable def Try.pinned : Pinned := { name := "ytffmjfgechdjjaa", sum := "4bcc2eec7d6ee8c775fe1bbad5d430b6af45ea46655e2a47f8f995b6505c2322", checked := Try.checked }
namespace Rows
def none {H : Type} : Left H := { results := [], args := [] }

/-- 'laws.FnExactIsOrder': WHATEVER THE INPUT: true; the input reads as it did. -/
def fnExactIsOrderSpec : ChangeSpec := { name := "fnExactIsOrder", fn := fun _ => fun
  | [d] => { results := [.lit (.bool true)], args := [d] }
  | _ => none }
def fnExactIsOrderRow : OpenClaim := { program := "ytffmjfgechdjjaa", sum := "4bcc2eec7d6ee8c775fe1bbad5d430b6af45ea46655e2a47f8f995b6505c2322", func := "loop.example/g01327/laws.FnExactIsOrder", spec := "fnExactIsOrder", apart := false }
def FnExactIsOrderSaid : Prop := fnExactIsOrderRow.holds Try.pinned (OpenSpec.ofChange fnExactIsOrderSpec)

/-- ITS FALSE NEIGHBOUR: 'it returns false'. Refute it at one input. -/
def fnExactIsOrderWrong : ChangeSpec := { name := "fnExactIsOrder", fn := fun _ => fun
  | [d] => { results := [.lit (.bool false)], args := [d] }
  | _ => none }
def FnExactIsOrderWrongFalsely : Prop := fnExactIsOrderRow.holds Try.pinned (OpenSpec.ofChange fnExactIsOrderWrong)

/-- 'laws.FnExactBackOrder': WHATEVER THE INPUT: true; the input reads as it did. -/
def fnExactBackOrderSpec : ChangeSpec := { name := "fnExactBackOrder", fn := fun _ => fun
  | [d] => { results := [.lit (.bool true)], args := [d] }
  | _ => none }
def fnExactBackOrderRow : OpenClaim := { program := "ytffmjfgechdjjaa", sum := "4bcc2eec7d6ee8c775fe1bbad5d430b6af45ea46655e2a47f8f995b6505c2322", func := "loop.example/g01327/laws.FnExactBackOrder", spec := "fnExactBackOrder", apart := false }
def FnExactBackOrderSaid : Prop := fnExactBackOrderRow.holds Try.pinned (OpenSpec.ofChange fnExactBackOrderSpec)

/-- ITS FALSE NEIGHBOUR: 'it returns false'. Refute it at one input. -/
def fnExactBackOrderWrong : ChangeSpec := { name := "fnExactBackOrder", fn := fun _ => fun
  | [d] => { results := [.lit (.bool false)], args := [d] }
  | _ => none }
def FnExactBackOrderWrongFalsely : Prop := fnExactBackOrderRow.holds Try.pinned (OpenSpec.ofChange fnExactBackOrderWrong)

/-- 'laws.FnExactOrderSign': WHATEVER THE INPUT: true; the input reads as it did. -/
def fnExactOrderSignSpec : ChangeSpec := { name := "fnExactOrderSign", fn := fun _ => fun
  | [d] => { results := [.lit (.bool true)], args := [d] }
  | _ => none }
def fnExactOrderSignRow : OpenClaim := { program := "ytffmjfgechdjjaa", sum := "4bcc2eec7d6ee8c775fe1bbad5d430b6af45ea46655e2a47f8f995b6505c2322", func := "loop.example/g01327/laws.FnExactOrderSign", spec := "fnExactOrderSign", apart := false }
def FnExactOrderSignSaid : Prop := fnExactOrderSignRow.holds Try.pinned (OpenSpec.ofChange fnExactOrderSignSpec)

/-- ITS FALSE NEIGHBOUR: 'it returns false'. Refute it at one input. -/
def fnExactOrderSignWrong : ChangeSpec := { name := "fnExactOrderSign", fn := fun _ => fun
  | [d] => { results := [.lit (.bool false)], args := [d] }
  | _ => none }
def FnExactOrderSignWrongFalsely : Prop := fnExactOrderSignRow.holds Try.pinned (OpenSpec.ofChange fnExactOrderSignWrong)

/-- 'laws.FnExactOrderRows': WHATEVER THE INPUT: true; the input reads as it did. -/
def fnExactOrderRowsSpec : ChangeSpec := { name := "fnExactOrderRows", fn := fun _ => fun
  | [d1, d2] => { results := [.lit (.bool true)], args := [d1, d2] }
  | _ => none }
def fnExactOrderRowsRow : OpenClaim := { program := "ytffmjfgechdjjaa", sum := "4bcc2eec7d6ee8c775fe1bbad5d430b6af45ea46655e2a47f8f995b6505c2322", func := "loop.example/g01327/laws.FnExactOrderRows", spec := "fnExactOrderRows", inPlace := ["math.Float64bits", "math.Float64frombits"], apart := false }
def FnExactOrderRowsSaid : Prop := fnExactOrderRowsRow.holds Try.pinned (OpenSpec.ofChange fnExactOrderRowsSpec)

/-- ITS FALSE NEIGHBOUR: 'it returns false'. Refute it at one input. -/
def fnExactOrderRowsWrong : ChangeSpec := { name := "fnExactOrderRows", fn := fun _ => fun
  | [d1, d2] => { results := [.lit (.bool false)], args := [d1, d2] }
  | _ => none }
def FnExactOrderRowsWrongFalsely : Prop := fnExactOrderRowsRow.holds Try.pinned (OpenSpec.ofChange fnExactOrderRowsWrong)

/-- 'laws.FnExactSymmetricPart': WHATEVER THE INPUT: true; the input reads as it did. -/
def fnExactSymmetricPartSpec : ChangeSpec := { name := "fnExactSymmetricPart", fn := fun _ => fun
  | [d] => { results := [.lit (.bool true)], args := [d] }
  | _ => none }
def fnExactSymmetricPartRow : OpenClaim := { program := "ytffmjfgechdjjaa", sum := "4bcc2eec7d6ee8c775fe1bbad5d430b6af45ea46655e2a47f8f995b6505c2322", func := "loop.example/g01327/laws.FnExactSymmetricPart", spec := "fnExactSymmetricPart", inPlace := ["math.Float64bits", "math.Float64frombits"], apart := false }
def FnExactSymmetricPartSaid : Prop := fnExactSymmetricPartRow.holds Try.pinned (OpenSpec.ofChange fnExactSymmetricPartSpec)

/-- ITS FALSE NEIGHBOUR: 'it returns false'. Refute it at one input. -/
def fnExactSymmetricPartWrong : ChangeSpec := { name := "fnExactSymmetricPart", fn := fun _ => fun
  | [d] => { results := [.lit (.bool false)], args := [d] }
  | _ => none }
def FnExactSymmetricPartWrongFalsely : Prop := fnExactSymmetricPartRow.holds Try.pinned (OpenSpec.ofChange fnExactSymmetricPartWrong)

/-- 'laws.FnExactWeighMatrices': WHATEVER THE INPUT: true; the input reads as it did. -/
def fnExactWeighMatricesSpec : ChangeSpec := { name := "fnExactWeighMatrices", fn := fun _ => fun
  | [d1, d2, d3, d4] => { results := [.lit (.bool true)], args := [d1, d2, d3, d4] }
  | _ => none }
def fnExactWeighMatricesRow : OpenClaim := { program := "ytffmjfgechdjjaa", sum := "4bcc2eec7d6ee8c775fe1bbad5d430b6af45ea46655e2a47f8f995b6505c2322", func := "loop.example/g01327/laws.FnExactWeighMatrices", spec := "fnExactWeighMatrices", inPlace := ["math.Float64bits", "math.Float64frombits"], apart := false }
def FnExactWeighMatricesSaid : Prop := fnExactWeighMatricesRow.holds Try.pinned (OpenSpec.ofChange fnExactWeighMatricesSpec)

/-- ITS FALSE NEIGHBOUR: 'it returns false'. Refute it at one input. -/
def fnExactWeighMatricesWrong : ChangeSpec := { name := "fnExactWeighMatrices", fn := fun _ => fun
  | [d1, d2, d3, d4] => { results := [.lit (.bool false)], args := [d1, d2, d3, d4] }
  | _ => none }
def FnExactWeighMatricesWrongFalsely : Prop := fnExactWeighMatricesRow.holds Try.pinned (OpenSpec.ofChange fnExactWeighMatricesWrong)

/- THE SECOND FORM. 'bulk': how many values and letters a reading holds, each counted each time it is reached (what is shared counts as often as it is met; a slice's spare places count too). A statement '..UptoSaid' is the law's where the arguments, and the package variables that the reading takes, are together of bulk at most 1048576: NARROWER than '..Said'. Prove '..Said' where nothing that the law and all that it calls make is longer than what came in: it says more and counts as full. Else prove '..UptoSaid'. A law counts once. -/
mutual
def uptoBulk {H : Type} : DataW H → Nat
  | .lit (.string bytes) => bytes.length + 1
  | .lit _ => 1
  | .nil => 1
  | .ptr d => uptoBulk d + 1
  | .slice elems spare => uptoBulkAll elems + uptoBulkAll spare + 1
  | .agg parts => uptoBulkAll parts + 1
  | .iface _ d => uptoBulk d + 1
  | .map entries => uptoBulkEntries entries + 1
  | .held _ => 1
def uptoBulkAll {H : Type} : List (DataW H) → Nat
  | [] => 0
  | d :: r => uptoBulk d + uptoBulkAll r
def uptoBulkEntries {H : Type} : List (Lit × DataW H) → Nat
  | [] => 0
  | x :: r => uptoBulkEntry x + uptoBulkEntries r
def uptoBulkEntry {H : Type} : Lit × DataW H → Nat
  | (.string bytes, d) => bytes.length + uptoBulk d + 1
  | (_, d) => uptoBulk d + 1
 end
def uptoSmall : (H : Type) → List (DataW H) → Bool := fun _ ds => decide (uptoBulkAll ds ≤ 1048576)
def OpenSpec.upto (s : _root_.Go.ChangeSpec) : _root_.Go.OpenSpec := { _root_.Go.OpenSpec.ofChange s with cond := some uptoSmall }

/-- 'laws.FnExactIsOrder', WHERE WHAT IT READS IS OF BULK AT MOST 1048576: true; the input reads as it did. -/
def fnExactIsOrderUptoRow : OpenClaim := { program := "ytffmjfgechdjjaa", sum := "4bcc2eec7d6ee8c775fe1bbad5d430b6af45ea46655e2a47f8f995b6505c2322", func := "loop.example/g01327/laws.FnExactIsOrder", spec := "fnExactIsOrder", apart := false, narrowed := true }
def FnExactIsOrderUptoSaid : Prop := fnExactIsOrderUptoRow.holds Try.pinned (OpenSpec.upto fnExactIsOrderSpec)

/-- 'laws.FnExactBackOrder', WHERE WHAT IT READS IS OF BULK AT MOST 1048576: true; the input reads as it did. -/
def fnExactBackOrderUptoRow : OpenClaim := { program := "ytffmjfgechdjjaa", sum := "4bcc2eec7d6ee8c775fe1bbad5d430b6af45ea46655e2a47f8f995b6505c2322", func := "loop.example/g01327/laws.FnExactBackOrder", spec := "fnExactBackOrder", apart := false, narrowed := true }
def FnExactBackOrderUptoSaid : Prop := fnExactBackOrderUptoRow.holds Try.pinned (OpenSpec.upto fnExactBackOrderSpec)

/-- 'laws.FnExactOrderSign', WHERE WHAT IT READS IS OF BULK AT MOST 1048576: true; the input reads as it did. -/
def fnExactOrderSignUptoRow : OpenClaim := { program := "ytffmjfgechdjjaa", sum := "4bcc2eec7d6ee8c775fe1bbad5d430b6af45ea46655e2a47f8f995b6505c2322", func := "loop.example/g01327/laws.FnExactOrderSign", spec := "fnExactOrderSign", apart := false, narrowed := true }
def FnExactOrderSignUptoSaid : Prop := fnExactOrderSignUptoRow.holds Try.pinned (OpenSpec.upto fnExactOrderSignSpec)

/-- 'laws.FnExactOrderRows', WHERE WHAT IT READS IS OF BULK AT MOST 1048576: true; the input reads as it did. -/
def fnExactOrderRowsUptoRow : OpenClaim := { program := "ytffmjfgechdjjaa", sum := "4bcc2eec7d6ee8c775fe1bbad5d430b6af45ea46655e2a47f8f995b6505c2322", func := "loop.example/g01327/laws.FnExactOrderRows", spec := "fnExactOrderRows", inPlace := ["math.Float64bits", "math.Float64frombits"], apart := false, narrowed := true }
def FnExactOrderRowsUptoSaid : Prop := fnExactOrderRowsUptoRow.holds Try.pinned (OpenSpec.upto fnExactOrderRowsSpec)

/-- 'laws.FnExactSymmetricPart', WHERE WHAT IT READS IS OF BULK AT MOST 1048576: true; the input reads as it did. -/
def fnExactSymmetricPartUptoRow : OpenClaim := { program := "ytffmjfgechdjjaa", sum := "4bcc2eec7d6ee8c775fe1bbad5d430b6af45ea46655e2a47f8f995b6505c2322", func := "loop.example/g01327/laws.FnExactSymmetricPart", spec := "fnExactSymmetricPart", inPlace := ["math.Float64bits", "math.Float64frombits"], apart := false, narrowed := true }
def FnExactSymmetricPartUptoSaid : Prop := fnExactSymmetricPartUptoRow.holds Try.pinned (OpenSpec.upto fnExactSymmetricPartSpec)

/-- 'laws.FnExactWeighMatrices', WHERE WHAT IT READS IS OF BULK AT MOST 1048576: true; the input reads as it did. -/
def fnExactWeighMatricesUptoRow : OpenClaim := { program := "ytffmjfgechdjjaa", sum := "4bcc2eec7d6ee8c775fe1bbad5d430b6af45ea46655e2a47f8f995b6505c2322", func := "loop.example/g01327/laws.FnExactWeighMatrices", spec := "fnExactWeighMatrices", inPlace := ["math.Float64bits", "math.Float64frombits"], apart := false, narrowed := true }
def FnExactWeighMatricesUptoSaid : Prop := fnExactWeighMatricesUptoRow.holds Try.pinned (OpenSpec.upto fnExactWeighMatricesSpec)

end Rows
end Go.Proofs.Ytffmjfgechdjjaa
