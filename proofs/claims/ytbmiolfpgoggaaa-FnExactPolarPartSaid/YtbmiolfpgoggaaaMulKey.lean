/- Helper: the product of two matrices, told by program and reference alike. Conditions: none. -/
import Derived.Test.YtbmiolfpgoggaaaMulSpec
set_option linter.unusedVariables false
set_option linter.unusedSimpArgs false
namespace Go.Proofs.Ytbmiolfpgoggaaa
open Go.RowKit

theorem mulB_nat {R C : Int} {n : Nat} {V : Nat → Option Nat} {R2 C2 : Int} {n2 : Nat} {V2 : Nat → Option Nat} (h : mulB R C n V R2 C2 n2 V2 = true) :
    ∃ r c k : Nat, R = r ∧ C = c ∧ R2 = c ∧ C2 = k ∧ 1 ≤ r ∧ r ≤ 12 ∧ 1 ≤ c ∧ c ≤ 12 ∧ 1 ≤ k ∧ k ≤ 12 ∧ n = r * c ∧ n2 = c * k ∧ allFin V n = true ∧ allFin V2 n2 = true := by
  unfold mulB at h
  simp only [Bool.and_eq_true, decide_eq_true_eq] at h
  obtain ⟨h1, h2, h3⟩ := h
  obtain ⟨r, c, rfl, rfl, a1, a2, a3, a4, a5, a6⟩ := valid_nat h1
  obtain ⟨c', k, rfl, rfl, b1, b2, b3, b4, b5, b6⟩ := valid_nat h2
  obtain rfl : c = c' := by omega
  exact ⟨r, c, k, rfl, rfl, rfl, rfl, a1, a2, a3, a4, b3, b4, a5, b5, a6, b6⟩
theorem keyMulMatrices (R0 C0 : Int) (n0 : Nat) (Z0 : Nat → Nat) (R1 C1 : Int) (n1 : Nat) (Z1 : Nat → Nat) (hn0 : n0 ≤ 1048576) (hn1 : n1 ≤ 1048576) : ∃ (ok : Bool) (R C : Int) (n : Nat) (V : Nat → Option Nat), n ≤ 144 ∧
    (∀ a c b d W, FS .f32 W a n0 c Z0 → FS .f32 W b n1 d Z1 → Calls Try.prog 17 #[.agg #[.int .i64 R0, .int .i64 C0, .slice a n0 c], .agg #[.int .i64 R1, .int .i64 C1, .slice b n1 d]] W (MatBel ok R C n V W)) ∧
    (∀ a c b d W, FS .f32 W a n0 c Z0 → FS .f32 W b n1 d Z1 → Calls Try.prog 27 #[.agg #[.int .i64 R0, .int .i64 C0, .slice a n0 c], .agg #[.int .i64 R1, .int .i64 C1, .slice b n1 d]] W (MatOwn ok R C n V W)) := by
  cases ho : mulB R0 C0 n0 (vals Z0) R1 C1 n1 (vals Z1) with
  | false => exact ⟨false, 0, 0, 0, fun _ => none, by omega, fun a c b d W h h2 => specMul_no _ _ _ _ _ _ _ _ _ _ _ _ _ hn0 hn1 h h2 ho, fun a c b d W h h2 => implMul_no _ _ _ _ _ _ _ _ _ _ _ _ _ hn0 hn1 h h2 ho⟩
  | true =>
    obtain ⟨r, c, k, rfl, rfl, rfl, rfl, hr1, hr, hc1, hc, hk1, hk, e1, e2, f1, f2⟩ := mulB_nat ho
    have k1 : ∀ a c' b d W, FS .f32 W a n0 c' Z0 → FS .f32 W b n1 d Z1 → Calls Try.prog 17 #[.agg #[.int .i64 r, .int .i64 c, .slice a n0 c'], .agg #[.int .i64 c, .int .i64 k, .slice b n1 d]] W (BelIf (allFin (mulV c k Z0 Z1) (r * k)) r k (r * k) (mulV c k Z0 Z1) W) := fun a c' b d W h h2 => by
      obtain ⟨p1, o1, rfl, _⟩ := h.at (show 0 < n0 by rw [e1]; exact Nat.mul_pos hr1 hc1)
      obtain ⟨p2, o2, rfl, _⟩ := h2.at (show 0 < n1 by rw [e2]; exact Nat.mul_pos hc1 hk1)
      exact specMul_yes r c k n0 n1 (r * k) p1 o1 c' p2 o2 d Z0 Z1 W hr1 hr hc1 hc hk1 hk e1 e2 rfl ho f1 f2 h h2
    have k2 : ∀ a c' b d W, FS .f32 W a n0 c' Z0 → FS .f32 W b n1 d Z1 → Calls Try.prog 27 #[.agg #[.int .i64 r, .int .i64 c, .slice a n0 c'], .agg #[.int .i64 c, .int .i64 k, .slice b n1 d]] W (OwnIf (allFin (mulV c k Z0 Z1) (r * k)) r k (r * k) (mulV c k Z0 Z1) W) := fun a c' b d W h h2 => by
      obtain ⟨p1, o1, rfl, _⟩ := h.at (show 0 < n0 by rw [e1]; exact Nat.mul_pos hr1 hc1)
      obtain ⟨p2, o2, rfl, _⟩ := h2.at (show 0 < n1 by rw [e2]; exact Nat.mul_pos hc1 hk1)
      exact implMul_yes r c k n0 n1 (r * k) p1 o1 c' p2 o2 d Z0 Z1 W hr1 hr hc1 hc hk1 hk e1 e2 rfl ho h h2
    have hle := sides_le hr hk
    generalize allFin (mulV c k Z0 Z1) (r * k) = ok at k1 k2
    cases ok
    · exact ⟨false, 0, 0, 0, fun _ => none, by omega, k1, k2⟩
    · exact ⟨true, r, k, r * k, mulV c k Z0 Z1, hle, k1, k2⟩
end Go.Proofs.Ytbmiolfpgoggaaa
