/- Helper: whether two matrices are the same, of the program, and the key. Conditions: none. -/
import Derived.Test.YtmddhhmgfhljiadSameSpec
set_option linter.unusedVariables false
set_option linter.unusedSimpArgs false
namespace Go.Proofs.Ytmddhhmgfhljiad
open Go.RowKit

theorem implSameNumber_any (a : Nat) (ha : (Lit.float .f32 a).wf = true) (b : Nat) (hb : (Lit.float .f32 b).wf = true) (w : World) :
    Calls Try.prog 45 #[.float .f32 a, .float .f32 b] w fun e w' => e = .returned (.bool (bitsP (cn .f32 a) == bitsP (cn .f32 b))) ∧ w = w' := by
  go_enter Try.func45, Try.ntmps45
  go_wp2_with (go_at_call 66; refine (implBits_any _ (by assumption) _).mono ?_; rintro e w' ⟨rfl, rfl⟩)
  go_ret
  exact ⟨rfl, rfl⟩
end Go.Proofs.Ytmddhhmgfhljiad
