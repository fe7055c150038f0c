/- Helper: the adjoint of a low square, of program and reference, its key. Conditions: none. -/
import Derived.Test.YtinekdfpgkmbnacAdjSpec
set_option linter.unusedVariables false
set_option linter.unusedSimpArgs false
namespace Go.Proofs.Ytinekdfpgkmbnac
open Go.RowKit

theorem keyAdjointOf (R C : Int) (n : Nat) (Z : Nat → Int) (wR : (Lit.int .i64 R).wf = true) (wC : (Lit.int .i64 C).wf = true) (hn : n ≤ 1048576) : ∃ (ok : Bool) (R2 C2 : Int) (n2 : Nat) (V : Nat → Int), n2 ≤ 144 ∧
    (∀ a c W, IS .i64 W a n c Z → Calls Try.prog 18 #[.agg #[.int .i64 R, .int .i64 C, .slice a n c]] W (WholeBel ok R2 C2 n2 V W)) ∧
    (∀ a c W, IS .i64 W a n c Z → Calls Try.prog 19 #[.agg #[.int .i64 R, .int .i64 C, .slice a n c]] W (WholeOwn ok R2 C2 n2 V W)) := by
  cases hv : lowSq R C n Z with
  | false => exact ⟨false, 0, 0, 0, fun _ => 0, by omega, fun a c W h => specAdj_no R C a n c Z W hn (.inl hv) h, fun a c W h => implAdj_no R C a n c Z W hn hv h⟩
  | true =>
    by_cases h4 : 4 < R
    · exact ⟨false, 0, 0, 0, fun _ => 0, by omega, fun a c W h => specAdj_no R C a n c Z W hn (.inr h4) h, fun a c W h => implAdj_big R C a n c Z W hn hv h4 h⟩
    · have hv0 := hv
      unfold lowSq at hv0
      simp only [Bool.and_eq_true, decide_eq_true_eq] at hv0
      obtain ⟨hw, rfl⟩ := hv0
      obtain ⟨r, c, rfl, rc, g1, g2, g3, g5, hN, hB⟩ := whole_nat hw
      obtain rfl : r = c := by omega
      have hr4 : r ≤ 4 := by omega
      have hn16 : n ≤ 16 := by have : r * r ≤ 4 * 4 := Nat.mul_le_mul hr4 hr4; omega
      have hpos : 0 < n := by rw [hN]; exact Nat.mul_pos g1 g3
      have hZ := low_abs (R := (0 : Int)) (C := (0 : Int)) hB
      have hS : ∀ ok, wholeB 1000000 r r n (joinZ r (adjY r Z)) = ok → ∀ a c W, IS .i64 W a n c Z → Calls Try.prog 18 #[.agg #[.int .i64 r, .int .i64 r, .slice a n c]] W (WholeBel ok (bif ok then (r : Int) else 0) (bif ok then (r : Int) else 0) (bif ok then n else 0) (fun t => bif ok then joinZ r (adjY r Z) t else 0) W) := by
        intro ok e a c W h
        obtain ⟨ab, ao, rfl, _⟩ := IS.at h hpos
        exact specAdj_run r n ab ao c Z W g1 hr4 hN hw hZ h ok e
      have hsq := whole_sq (m := 1000000) (Y := joinZ r (adjY r Z)) g1 g2 g1 g2 hN
      cases hk : withB 1000000 (joinZ r (adjY r Z)) n with
      | false =>
        rw [hk] at hsq
        refine ⟨false, 0, 0, 0, fun _ => 0, by omega, fun a c W h => hS false hsq a c W h, fun a c W h => ?_⟩
        obtain ⟨ab, ao, rfl, _⟩ := IS.at h hpos
        exact implAdj_run r n ab ao c Z W g1 hr4 hN hv hZ h false 0 0 0 (fun _ => 0) (fun W b off c hR => wholeOfRows_no b off r c r (adjY r Z) W g1 g2 g1 g2 hR (by rw [← hN]; exact hk))
      | true =>
        rw [hk] at hsq
        refine ⟨true, r, r, n, joinZ r (adjY r Z), by omega, fun a c W h => hS true hsq a c W h, fun a c W h => ?_⟩
        obtain ⟨ab, ao, rfl, _⟩ := IS.at h hpos
        have hh := implAdj_run r n ab ao c Z W g1 hr4 hN hv hZ h true r r (r * r) (joinZ r (adjY r Z)) (fun W b off c hR => wholeOfRows_yes b off r c r (adjY r Z) W g1 g2 g1 g2 hR (by rw [← hN]; exact hk))
        rw [← hN] at hh
        exact hh
end Go.Proofs.Ytinekdfpgkmbnac
