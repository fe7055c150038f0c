/- Helper: what the test whether a matrix is valid tells, of the program and of its reference. Conditions: none. -/
import Derived.Test.YtpgjfanacnbfkaaKeys
set_option linter.unusedVariables false
namespace Go.Proofs.Ytpgjfanacnbfkaa
open Go.RowKit

theorem specValid_any (R C : Int) (a : Option Addr) (n c : Nat) (Z : Nat → Nat) (w : World) (hn : n ≤ 1048576) (h : FS .f32 w a n c Z) :
    Calls Try.prog 44 #[.agg #[.int .i64 R, .int .i64 C, .slice a n c]] w fun e w' => e = .returned (.bool (validB R C n (vals Z))) ∧ Below w.heap.size w w' := by
  go_enter Try.func44, Try.ntmps44
  go_wp2_with fail
  go_at_call 92
  refine (specIs_any _ R C a n c Z _ hn (Box.new _ _ _ _ _ _ _) (h.below (by repeat first | (with_reducible exact Below.refl _ _) | (with_reducible refine Below.setCell ?_ (by first | exact Nat.le_refl _ | (simp; done) | (simp; omega) | omega) _) | (with_reducible refine Below.alloc ?_ (by first | exact Nat.le_refl _ | (simp; done) | (simp; omega) | omega) _) | (with_reducible refine below_drewN ?_ _)) (Nat.le_refl _))).mono ?_
  rintro e w' ⟨rfl, m, rfl⟩
  go_wp2_with fail
  go_ret
  exact ⟨rfl, (by repeat first | (with_reducible exact Below.refl _ _) | (with_reducible refine Below.setCell ?_ (by first | exact Nat.le_refl _ | (simp; done) | (simp; omega) | omega) _) | (with_reducible refine Below.alloc ?_ (by first | exact Nat.le_refl _ | (simp; done) | (simp; omega) | omega) _) | (with_reducible refine below_drewN ?_ _))⟩


theorem keyValidMatrix (R C : Int) (n : Nat) (Z : Nat → Nat) (hn : n ≤ 1048576) : ∃ ok : Bool,
    (∀ a c W, FS .f32 W a n c Z → Calls Try.prog 44 #[.agg #[.int .i64 R, .int .i64 C, .slice a n c]] W (BoolBel ok W)) ∧
    (∀ a c W, FS .f32 W a n c Z → Calls Try.prog 46 #[.agg #[.int .i64 R, .int .i64 C, .slice a n c]] W (BoolBel ok W)) :=
  ⟨_, fun a c W h => specValid_any R C a n c Z W hn h, fun a c W h => implValid_any R C a n c Z W hn h⟩
end Go.Proofs.Ytpgjfanacnbfkaa
