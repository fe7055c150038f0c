/- Helper: whether a part lies in a matrix, of the reference. Conditions: none. -/
import Derived.Test.YtcldaafmbmmhiaaPartImpl
set_option linter.unusedVariables false
namespace Go.Proofs.Ytcldaafmbmmhiaa
open Go.RowKit

set_option maxHeartbeats 1000000 in
theorem l02In_any (p R C n c : Nat) (A : Option Addr) (P Q X Y : Int) (w : World) (hR : R ≤ 12) (hC : C ≤ 12) (hb : Box w p R C A n c) :
    Calls Try.prog 50 #[.pointer (some ⟨p, 0, none⟩), .int .i64 X, .int .i64 Y, .int .i64 P, .int .i64 Q] w fun e w' => e = .returned (.bool (liB R P X && liB C Q Y)) ∧ w = w' := by
  rw [liB_eq (by omega) (by omega)]
  obtain ⟨x0, x1, x2⟩ := hb
  have hsd : ∀ W, Calls Try.prog 67 #[.int .i64 P, .int .i64 Q] W fun e w' => e = .returned (.bool (sideB P && sideB Q)) ∧ W = w' := fun W => specSides_any _ _ W
  cases hs : (sideB P && sideB Q) with
  | false =>
    rw [hs] at hsd
    clear hs
    go_enter Try.func50, Try.ntmps50
    go_wp2_with (go_at_call 67; refine (hsd _).mono ?_; rintro e w' ⟨rfl, rfl⟩)
    go_ret
    exact ⟨rfl, rfl⟩
  | true =>
    rw [hs] at hsd
    simp only [Bool.and_eq_true] at hs
    obtain ⟨p1, p2⟩ := sideB_le hs.1
    obtain ⟨q1, q2⟩ := sideB_le hs.2
    have hw1 : IntKind.i64.wrap ((R : Int) - P) = (R : Int) - P := IntWalk.i64_in _ (by omega)
    have hw2 : IntKind.i64.wrap ((C : Int) - Q) = (C : Int) - Q := IntWalk.i64_in _ (by omega)
    have hin1 : ∀ W, Calls Try.prog 70 #[.int .i64 X, .int .i64 0, .int .i64 ((R : Int) - P)] W fun e w' => e = .returned (.bool (inB X 0 ((R : Int) - P))) ∧ W = w' := fun W => l00In_any _ _ _ W
    have hin2 : ∀ W, Calls Try.prog 70 #[.int .i64 Y, .int .i64 0, .int .i64 ((C : Int) - Q)] W fun e w' => e = .returned (.bool (inB Y 0 ((C : Int) - Q))) ∧ W = w' := fun W => l00In_any _ _ _ W
    cases h1 : inB X 0 ((R : Int) - P) <;> cases h2 : inB Y 0 ((C : Int) - Q)
    all_goals
      rw [h1] at hin1
      rw [h2] at hin2
      clear hs h1 h2 p1 p2 q1 q2
      go_enter Try.func50, Try.ntmps50
      go_wp2_with (first | (go_at_call 67; refine (hsd _).mono ?_; rintro e w' ⟨rfl, rfl⟩) | (go_at_call 70; (first | (with_reducible refine (hin1 _).mono ?_) | (with_reducible refine (hin2 _).mono ?_)); rintro e w' ⟨rfl, rfl⟩))
      go_ret
      exact ⟨rfl, rfl⟩
end Go.Proofs.Ytcldaafmbmmhiaa
