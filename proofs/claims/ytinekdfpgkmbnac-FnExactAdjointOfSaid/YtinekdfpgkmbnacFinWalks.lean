/- Helper: walks of the tests whether all numbers of a list are finite, and of vectors. Conditions: none. -/
import Derived.Test.YtinekdfpgkmbnacRowWalks
import Derived.Test.YtinekdfpgkmbnacMatRows
set_option linter.unusedVariables false
set_option linter.unusedSimpArgs false
namespace Go.Proofs.Ytinekdfpgkmbnac
open Go.RowKit

def vals (Z : Nat → Nat) (i : Nat) : Option Nat := cn .f32 (Z i)
def allFin (V : Nat → Option Nat) : Nat → Bool
  | 0 => true
  | n + 1 => allFin V n && finite .f32 (V n)
theorem allFin_lt {V : Nat → Option Nat} {j : Nat} : ∀ {n : Nat}, allFin V n = true → j < n → finite .f32 (V j) = true
  | 0, _, h => by omega
  | n + 1, ha, h => by
    simp only [allFin, Bool.and_eq_true] at ha
    by_cases e : j = n
    · subst e; exact ha.2
    · exact allFin_lt ha.1 (by omega)
theorem allFin_no {V : Nat → Option Nat} {j : Nat} {n : Nat} (h : j < n) (hf : finite .f32 (V j) = false) : allFin V n = false := by
  cases e : allFin V n with
  | false => rfl
  | true => rw [allFin_lt e h] at hf; cases hf
theorem allFin_succ {V : Nat → Option Nat} {j : Nat} (h : allFin V j = true) (h2 : finite .f32 (V j) = true) : allFin V (j + 1) = true := by simp [allFin, h, h2]
theorem allFin_congr {V W : Nat → Option Nat} : ∀ {n : Nat}, (∀ j, j < n → V j = W j) → allFin V n = allFin W n
  | 0, _ => rfl
  | n + 1, h => by simp only [allFin]; rw [allFin_congr fun j hj => h j (by omega), h n (by omega)]



/-- What a vector is. -/
def vecB (n : Nat) (V : Nat → Option Nat) : Bool := decide (1 ≤ n) && (decide (n ≤ 256) && allFin V n)



end Go.Proofs.Ytinekdfpgkmbnac
