/- Helper: the walk of the law FnExactIsPrime. Conditions: none. -/
import Derived.Test.YtinekdfpgkmbnaaPrimeKey
set_option linter.unusedVariables false
set_option linter.unusedSimpArgs false
namespace Go.Proofs.Ytinekdfpgkmbnaa
open Go.RowKit

theorem law_FnExactIsPrime (w : World) (p : Int) (wp : (Lit.int .i64 p).wf = true) :
    Calls Try.prog 4 #[.int .i64 p] w fun e w' => e = .returned (.bool true) ∧ Below w.heap.size w w' := by
  have k1 : ∀ W, Calls Try.prog 11 #[.int .i64 p] W fun e w' => e = .returned (.bool (primeI p)) ∧ W = w' := by
    intro W
    go_enter Try.func11, Try.ntmps11
    go_wp2_with (go_at_call 28; refine (specPrime_any p _ wp).mono ?_; rintro e w' ⟨rfl, rfl⟩)
    go_ret
    exact ⟨rfl, rfl⟩
  have k2 := fun W => implPrime_any p W
  cases h : primeI p
  all_goals
    rw [h] at k1 k2
    clear h
    go_enter Try.func4, Try.ntmps4
    go_wp2_with (first | (go_at_call 11; refine (k1 _).mono ?_; rintro e w' ⟨rfl, rfl⟩) | (go_at_call 12; refine (k2 _).mono ?_; rintro e w' ⟨rfl, rfl⟩))
    go_ret
    exact ⟨rfl, (by repeat first | (with_reducible exact Below.refl _ _) | (with_reducible refine Below.setCell ?_ (by first | exact Nat.le_refl _ | (simp; done) | (simp; omega) | omega) _) | (with_reducible refine Below.alloc ?_ (by first | exact Nat.le_refl _ | (simp; done) | (simp; omega) | omega) _) | (with_reducible refine below_drewN ?_ _) | (with_reducible refine Below.drew ?_))⟩
end Go.Proofs.Ytinekdfpgkmbnaa
