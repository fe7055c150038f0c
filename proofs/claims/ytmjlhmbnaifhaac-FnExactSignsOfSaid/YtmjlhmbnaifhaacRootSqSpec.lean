/- Helper: the root of a square, of the reference, with what is added to its middle. Conditions: none. -/
import Derived.Test.YtmjlhmbnaifhaacWk
import Derived.Test.YtmjlhmbnaifhaacKindSteps
import Derived.Test.YtmjlhmbnaifhaacRootSqFacts
set_option linter.unusedVariables false
set_option linter.unusedSimpArgs false
namespace Go.Proofs.Ytmjlhmbnaifhaac
open Go.RowKit

/-- Numbers of a square, and S added in its middle. -/
def diagV (r : Nat) (V : Nat → Option Nat) (S : Option Nat) (t : Nat) : Option Nat := if t % r = t / r then fop .add .f32 (V t) S else V t
theorem diagV_on {r i : Nat} {V : Nat → Option Nat} {S : Option Nat} (hi : i < r) : diagV r V S (i * r + i) = fop .add .f32 (V (i * r + i)) S := by
  obtain ⟨q1, q2⟩ := place_div (j := i) hi
  unfold diagV
  rw [q1, q2, if_pos rfl]
theorem diagV_off {r i k : Nat} {V : Nat → Option Nat} {S : Option Nat} (hk : k < r) (hne : k ≠ i) : diagV r V S (i * r + k) = V (i * r + k) := by
  obtain ⟨q1, q2⟩ := place_div (j := i) hk
  unfold diagV
  rw [q1, q2, if_neg hne]
end Go.Proofs.Ytmjlhmbnaifhaac
