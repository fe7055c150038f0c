/- Helper: half of the sum of a square and its flipped one: what program and reference both tell. Conditions: none. -/
import Derived.Test.YtffmjfgechdjjaaSymPartSpec
set_option linter.unusedVariables false
set_option linter.unusedSimpArgs false
namespace Go.Proofs.Ytffmjfgechdjjaa
open Go.RowKit

theorem specSymPart_no (R C : Int) (a : Option Addr) (n c : Nat) (Z : Nat → Nat) (w : World) (hn : n ≤ 1048576) (h : FS .f32 w a n c Z) (hsq : squareB R C n (vals Z) = false) :
    Calls Try.prog 26 #[.agg #[.int .i64 R, .int .i64 C, .slice a n c]] w (MatBel false 0 0 0 (fun _ => none) w) := by
  have HSQ := Lib.hid hsq
  clear hsq
  go_enter Try.func26, Try.ntmps26
  go_wp2_with fail
  go_at_call 44
  refine (specSquare_any _ R C a n c Z _ hn (by refine ⟨?_, ?_, ?_⟩ <;> simp [go_sem]) (h.below (by repeat first | (with_reducible exact Below.refl _ _) | (with_reducible refine Below.setCell ?_ (by first | exact Nat.le_refl _ | (simp; done) | (simp; omega) | omega) _) | (with_reducible refine Below.alloc ?_ (by first | exact Nat.le_refl _ | (simp; done) | (simp; omega) | omega) _) | (with_reducible refine below_drewN ?_ _) | (with_reducible refine Below.drew ?_)) (Nat.le_refl _))).mono ?_
  rintro e w1 ⟨rfl, m1, rfl⟩
  rw [HSQ.out]
  go_wp2_with fail
  refine bodyPost_ret (v := .tuple #[.agg #[.int .i64 0, .int .i64 0, .slice none 0 0], .bool false]) (by simp [results, Try.results26, go_sem]) rfl ?_
  exact ⟨none, 0, fun _ => 0, rfl, ⟨Nat.le_refl _, Nat.zero_le _, fun i hi => absurd hi (Nat.not_lt_zero _)⟩, fun i hi => absurd hi (Nat.not_lt_zero _), (by repeat first | (with_reducible exact Below.refl _ _) | (with_reducible refine Below.setCell ?_ (by first | exact Nat.le_refl _ | (simp; done) | (simp; omega) | omega) _) | (with_reducible refine Below.alloc ?_ (by first | exact Nat.le_refl _ | (simp; done) | (simp; omega) | omega) _) | (with_reducible refine below_drewN ?_ _) | (with_reducible refine Below.drew ?_))⟩
theorem keySymmetricPart (R0 C0 : Int) (n0 : Nat) (Z0 : Nat → Nat) (hn0 : n0 ≤ 1048576) : ∃ (ok : Bool) (R C : Int) (n : Nat) (V : Nat → Option Nat), n ≤ 144 ∧
    (∀ a c W, FS .f32 W a n0 c Z0 → Calls Try.prog 26 #[.agg #[.int .i64 R0, .int .i64 C0, .slice a n0 c]] W (MatBel ok R C n V W)) ∧
    (∀ a c W, FS .f32 W a n0 c Z0 → Calls Try.prog 27 #[.agg #[.int .i64 R0, .int .i64 C0, .slice a n0 c]] W (MatOwn ok R C n V W)) := by
  cases hs : squareB R0 C0 n0 (vals Z0) with
  | false => exact ⟨false, 0, 0, 0, fun _ => none, by omega, fun a c W h => specSymPart_no R0 C0 a n0 c Z0 W hn0 h hs, fun a c W h => implSymPart_no R0 C0 a n0 c Z0 W hn0 h hs⟩
  | true =>
    obtain ⟨s, rfl, rfl, hr1, hr, hnr, hfin⟩ := square_nat hs
    have k1 : ∀ a c W, FS .f32 W a n0 c Z0 → Calls Try.prog 26 #[.agg #[.int .i64 s, .int .i64 s, .slice a n0 c]] W (BelIf (allFin (symV s Z0) n0) s s n0 (symV s Z0) W) := fun a c W h => by
      obtain ⟨b, off, rfl, _⟩ := h.at (show 0 < n0 by rw [hnr]; exact Nat.mul_pos hr1 hr1)
      exact specSymPart_yes s n0 b off c Z0 W hr1 hr hnr hs hfin h
    have k2 : ∀ a c W, FS .f32 W a n0 c Z0 → Calls Try.prog 27 #[.agg #[.int .i64 s, .int .i64 s, .slice a n0 c]] W (OwnIf (allFin (symV s Z0) n0) s s n0 (symV s Z0) W) := fun a c W h => by
      obtain ⟨b, off, rfl, _⟩ := h.at (show 0 < n0 by rw [hnr]; exact Nat.mul_pos hr1 hr1)
      exact implSymPart_yes s n0 b off c Z0 W hr1 hr hnr hs h
    have hle : n0 ≤ 144 := by have := sides_le hr hr; omega
    generalize allFin (symV s Z0) n0 = ok at k1 k2
    cases ok
    · exact ⟨false, 0, 0, 0, fun _ => none, by omega, k1, k2⟩
    · exact ⟨true, s, s, n0, symV s Z0, hle, k1, k2⟩
end Go.Proofs.Ytffmjfgechdjjaa
