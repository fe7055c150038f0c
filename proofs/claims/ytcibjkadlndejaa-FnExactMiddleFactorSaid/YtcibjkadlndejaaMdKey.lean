/- Helper: a square taken apart into a lower square and its middle, of both. Conditions: none. -/
import Derived.Test.YtcibjkadlndejaaMdImpl
import Derived.Test.YtcibjkadlndejaaMdSpec
set_option linter.unusedVariables false
set_option linter.unusedSimpArgs false
namespace Go.Proofs.Ytcibjkadlndejaa
open Go.RowKit

theorem keyMiddleFactor (R C : Int) (n : Nat) (Z : Nat → Nat) (hn : n ≤ 1048576) : ∃ (ok : Bool) (Ra Ca : Int) (na : Nat) (Va : Nat → Option Nat) (nb : Nat) (Vb : Nat → Option Nat), na ≤ 144 ∧ nb ≤ 144 ∧
    (∀ a c W, FS .f32 W a n c Z → Calls Try.prog 29 #[.agg #[.int .i64 R, .int .i64 C, .slice a n c]] W (MdBel ok Ra Ca na Va nb Vb W)) ∧
    (∀ a c W, FS .f32 W a n c Z → Calls Try.prog 30 #[.agg #[.int .i64 R, .int .i64 C, .slice a n c]] W (MdOwn ok Ra Ca na Va nb Vb W)) := by
  cases hs : squareB R C n (vals Z) with
  | false => exact ⟨false, 0, 0, 0, fun _ => none, 0, fun _ => none, by omega, by omega, fun a c W h => specMd_no R C a n c Z W hn h hs, fun a c W h => implMd_no R C a n c Z W hn h hs⟩
  | true =>
    obtain ⟨r, rfl, rfl, h1, h12, hN, _⟩ := square_nat hs
    have h0 : 0 < n := by rw [hN]; exact Nat.mul_pos h1 h1
    have ks : ∀ a d W, FS .f32 W a n d Z → Calls Try.prog 29 #[.agg #[.int .i64 r, .int .i64 r, .slice a n d]] W (MdBelIf (mdOk r n (vals Z)) r r n (mdT r (vals Z) r).1 r (mdT r (vals Z) r).2 W) := fun a d W h => by
      obtain ⟨p, o, rfl, _⟩ := h.at h0
      exact specMd_yes r n p o d Z W h1 h12 hN hs h
    have ki : ∀ a d W, FS .f32 W a n d Z → Calls Try.prog 30 #[.agg #[.int .i64 r, .int .i64 r, .slice a n d]] W (MdOwnIf (mdOk r n (vals Z)) r r n (mdT r (vals Z) r).1 r (mdT r (vals Z) r).2 W) := fun a d W h => by
      obtain ⟨p, o, rfl, _⟩ := h.at h0
      exact implMd_yes r n p o d Z W h1 h12 hN hs h
    have n144 : n ≤ 144 := by have := sides_le h12 h12; omega
    cases hq : mdOk r n (vals Z) with
    | false =>
      rw [hq] at ki ks
      exact ⟨false, 0, 0, 0, fun _ => none, 0, fun _ => none, by omega, by omega, ks, ki⟩
    | true =>
      rw [hq] at ki ks
      exact ⟨true, r, r, n, _, r, _, n144, by omega, ks, ki⟩
end Go.Proofs.Ytcibjkadlndejaa
