/- Helper: walks of the laws' own functions on matrices: copies, comparisons, marks. Conditions: none. -/
import Derived.Test.YtmjlhmbnaifhaabMatLaw
import Derived.Handy
set_option linter.unusedVariables false
set_option linter.unusedSimpArgs false
namespace Go.Proofs.Ytmjlhmbnaifhaab
open Go.RowKit

/-- A new matrix whose numbers read as Z, in w'. -/
def NewMat (w : World) (R C : Int) (n : Nat) (Z : Nat → Nat) (e : Ending) (w' : World) : Prop :=
  ∃ a c, e = .returned (.agg #[.int .i64 R, .int .i64 C, .slice a n c]) ∧ Own 27 .f32 w.heap.size w'.heap.size w' a n c Z ∧ Below w.heap.size w w'


end Go.Proofs.Ytmjlhmbnaifhaab
