/- Helper: whether a matrix is a square, of the program and of its reference. Conditions: none. -/
import Derived.Test.YtmjlhmbnaifhaabMatWalks
import Derived.Test.YtmjlhmbnaifhaabVecSums
set_option linter.unusedVariables false
set_option linter.unusedSimpArgs false
namespace Go.Proofs.Ytmjlhmbnaifhaab
open Go.RowKit

/-- What a square is. -/
def squareB (R C : Int) (n : Nat) (V : Nat → Option Nat) : Bool := validB R C n V && decide (R = C)
theorem square_nat {R C : Int} {n : Nat} {V : Nat → Option Nat} (h : squareB R C n V = true) : ∃ r : Nat, R = r ∧ C = r ∧ 1 ≤ r ∧ r ≤ 12 ∧ n = r * r ∧ allFin V n = true := by
  unfold squareB at h
  simp only [Bool.and_eq_true, decide_eq_true_eq] at h
  obtain ⟨hv, e⟩ := h
  obtain ⟨r, c, h1, h2, h3, h4, h5, h6, h7, h8⟩ := valid_nat hv
  have : r = c := by omega
  subst this
  exact ⟨r, h1, h2, h3, h4, h7, h8⟩


end Go.Proofs.Ytmjlhmbnaifhaab
