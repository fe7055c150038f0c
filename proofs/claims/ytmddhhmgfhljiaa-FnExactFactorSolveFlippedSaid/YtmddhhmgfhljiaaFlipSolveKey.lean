/- Helper: what the flipped square of a factor makes a list of: what program and reference both tell. Conditions: none. -/
import Derived.Test.YtmddhhmgfhljiaaFlipSolveSpec
set_option linter.unusedVariables false
set_option linter.unusedSimpArgs false
namespace Go.Proofs.Ytmddhhmgfhljiaa
open Go.RowKit

theorem keyFactorSolveFlipped (R C : Int) (n : Nat) (Z : Nat → Nat) (m : Nat) (O : Nat → Int) (n2 : Nat) (Y : Nat → Nat) (wR : (Lit.int .i64 R).wf = true) (wC : (Lit.int .i64 C).wf = true) (hn : n ≤ 1048576) (hm : m ≤ 1048576) (hn2 : n2 ≤ 1048576) : ∃ (ok : Bool) (nr : Nat) (V : Nat → Option Nat), nr ≤ 144 ∧
    (∀ a c b d b2 d2 W, FS .f32 W a n c Z → IS .i64 W b m d O → FS .f32 W b2 n2 d2 Y → Calls Try.prog 10 #[.agg #[.int .i64 R, .int .i64 C, .slice a n c, .slice b m d], .slice b2 n2 d2] W (NumsBel ok nr V W)) ∧
    (∀ a c b d b2 d2 W, FS .f32 W a n c Z → IS .i64 W b m d O → FS .f32 W b2 n2 d2 Y → Calls Try.prog 13 #[.agg #[.int .i64 R, .int .i64 C, .slice a n c, .slice b m d], .slice b2 n2 d2] W (NumsOwn ok nr V W)) := by
  cases ho : (factorB R C n (vals Z) m O && fitsB R n2 (vals Y)) with
  | false => exact ⟨false, 0, fun _ => none, by omega, fun a c b d b2 d2 W h h2 h3 => specFlipS_no R C a n c Z b m d O b2 n2 d2 Y W hn hm hn2 h h2 h3 ho, fun a c b d b2 d2 W h h2 h3 => implFlipS_no R C a n c Z b m d O b2 n2 d2 Y W hn hm hn2 h h2 h3 ho⟩
  | true =>
    simp only [Bool.and_eq_true] at ho
    obtain ⟨hf, hft⟩ := ho
    obtain ⟨r, rfl, rfl, rfl, h1, h12, hN, _⟩ := factor_nat hf
    obtain ⟨rfl, _⟩ := fits_natF hft
    have hpos : 0 < n := by rw [hN]; exact Nat.mul_pos h1 h1
    have hs : ∀ a c b d b2 d2 W, FS .f32 W a n c Z → IS .i64 W b n2 d O → FS .f32 W b2 n2 d2 Y → Calls Try.prog 10 #[.agg #[.int .i64 (n2 : Int), .int .i64 (n2 : Int), .slice a n c, .slice b n2 d], .slice b2 n2 d2] W (NBelIf (allFin (flV n2 (sq n2 Z) O (vals Y)) n2) n2 (flV n2 (sq n2 Z) O (vals Y)) W) := by
      intro a c b d b2 d2 W h h2 h3
      obtain ⟨ba, oa, rfl, _, _, _⟩ := h.at hpos
      obtain ⟨bb, ob, rfl, _, _, _⟩ := h2.at (show 0 < n2 by omega)
      obtain ⟨bc, oc, rfl, _, _, _⟩ := h3.at (show 0 < n2 by omega)
      exact specFlipS_yes n2 n ba oa c bb ob d bc oc d2 Z O Y W hf hft h h2 h3
    have hi : ∀ a c b d b2 d2 W, FS .f32 W a n c Z → IS .i64 W b n2 d O → FS .f32 W b2 n2 d2 Y → Calls Try.prog 13 #[.agg #[.int .i64 (n2 : Int), .int .i64 (n2 : Int), .slice a n c, .slice b n2 d], .slice b2 n2 d2] W (NOwnIf (allFin (flV n2 (sq n2 Z) O (vals Y)) n2) n2 (flV n2 (sq n2 Z) O (vals Y)) W) := by
      intro a c b d b2 d2 W h h2 h3
      obtain ⟨ba, oa, rfl, _, _, _⟩ := h.at hpos
      obtain ⟨bb, ob, rfl, _, _, _⟩ := h2.at (show 0 < n2 by omega)
      obtain ⟨bc, oc, rfl, _, _, _⟩ := h3.at (show 0 < n2 by omega)
      exact implFlipS_yes n2 n ba oa c bb ob d bc oc d2 Z O Y W hf hft h h2 h3
    cases hk : allFin (flV n2 (sq n2 Z) O (vals Y)) n2 with
    | true =>
      rw [hk] at hs hi
      exact ⟨true, n2, flV n2 (sq n2 Z) O (vals Y), by omega, hs, hi⟩
    | false =>
      rw [hk] at hs hi
      exact ⟨false, 0, fun _ => none, by omega, hs, hi⟩
end Go.Proofs.Ytmddhhmgfhljiaa
