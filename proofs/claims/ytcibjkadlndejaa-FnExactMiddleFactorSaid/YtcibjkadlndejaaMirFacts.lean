/- Helper: products commute; what a step leaves of the other columns. Conditions: none. -/
import Derived.Test.YtcibjkadlndejaaMirDefs
set_option linter.unusedVariables false
set_option linter.unusedSimpArgs false
namespace Go.Proofs.Ytcibjkadlndejaa
open Go.RowKit

theorem product_comm (a b : Ieee.Datum) : a.product b = b.product a := by
  cases a <;> cases b <;> simp [Ieee.Datum.product, Bool.xor_comm, Nat.mul_comm, Int.add_comm]
theorem fmul_comm (X Y : Option Nat) : fop .mul .f32 X Y = fop .mul .f32 Y X := by
  cases X with
  | none => cases Y <;> rfl
  | some x =>
    cases Y with
    | none => rfl
    | some y =>
      show (FloatKind.f32.format.mul x y) = FloatKind.f32.format.mul y x
      unfold Ieee.Format.mul
      rw [product_comm]
theorem dotG_comm (A B : Nat → Option Nat) : ∀ n, dotG A B n = dotG B A n
  | 0 => rfl
  | n + 1 => by
    show fop .add .f32 (dotG A B n) (fop .mul .f32 (A n) (B n)) = fop .add .f32 (dotG B A n) (fop .mul .f32 (B n) (A n))
    rw [dotG_comm A B n, fmul_comm]
theorem gsL_out {r c k t : Nat} {P : GS} (h : t < k * r ∨ k * r + r ≤ t) : ∀ {j : Nat}, (gsL r c k P j).1 t = P.1 t
  | 0 => rfl
  | j + 1 => by
    show lsS _ (k * r) (j * r) (gsL r c k P j).1 r t = _
    rw [lsS_out h]
    exact gsL_out h
theorem gsR_out {r c k t : Nat} {P : GS} (h : t < k * r ∨ k * r + r ≤ t) : ∀ {q : Nat}, (gsR r c k P q).1 t = P.1 t
  | 0 => rfl
  | q + 1 => by
    show (gsL r c k (gsR r c k P q) k).1 t = _
    rw [gsL_out h]
    exact gsR_out h
/-- A step leaves the columns beside its own. -/
theorem gsC_out {r c k t : Nat} {P : GS} (h : t < k * r ∨ k * r + r ≤ t) : (gsC r c P (k + 1)).1 t = (gsC r c P k).1 t := by
  show dvS _ (k * r) (gsR r c k (gsC r c P k) 2).1 r t = _
  rw [dvS_out h]
  exact gsR_out h
/-- The columns that are still to come. -/
theorem gsC_new {r c t : Nat} {P : GS} : ∀ {k : Nat}, k * r ≤ t → (gsC r c P k).1 t = P.1 t
  | 0, _ => rfl
  | k + 1, h => by
    rw [Nat.succ_mul] at h
    rw [gsC_out (.inr h)]
    exact gsC_new (by omega)
end Go.Proofs.Ytcibjkadlndejaa
