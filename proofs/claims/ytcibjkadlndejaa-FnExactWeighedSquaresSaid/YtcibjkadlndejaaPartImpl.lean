/- Helper: a part of a matrix, of the program. Conditions: none. -/
import Derived.Test.YtcibjkadlndejaaCopy
import Derived.Test.YtcibjkadlndejaaKindSteps
import Derived.Test.YtcibjkadlndejaaGive
set_option linter.unusedVariables false
set_option linter.unusedSimpArgs false
namespace Go.Proofs.Ytcibjkadlndejaa
open Go.RowKit

/-- Whether a part of p from s on lies in W. -/
def liB (W p s : Int) : Bool := decide (1 ≤ p) && (decide (p ≤ W) && (decide (0 ≤ s) && decide (s ≤ W - p)))
theorem liB_eq {R C p q x y : Int} (hR : R ≤ 12) (hC : C ≤ 12) : (liB R p x && liB C q y) = ((sideB p && sideB q) && (inB x 0 (R - p) && inB y 0 (C - q))) := by
  rw [Bool.eq_iff_iff]
  unfold liB sideB inB
  simp only [Bool.and_eq_true, decide_eq_true_eq]
  omega
/-- A part, so far; and at last. -/
def partP (c q j x y : Nat) (Z : Nat → Nat) (t : Nat) : Nat := if t / q < j then Z ((x + t / q) * c + (y + t % q)) else 0
def partZ (c q x y : Nat) (Z : Nat → Nat) (t : Nat) : Nat := Z ((x + t / q) * c + (y + t % q))
theorem partP_next {c q j x y : Nat} {Z : Nat → Nat} (hq : 0 < q) (t : Nat) : pasted (j * q) q (fun k => Z ((x + j) * c + (y + k))) (partP c q j x y Z) t = partP c q (j + 1) x y Z t := by
  unfold pasted partP
  have hp := place_eq (c := q) (t := t)
  have hm := Nat.mod_lt t hq
  by_cases h : j * q ≤ t ∧ t < j * q + q
  · have e : t / q = j := by
      have h1 : j ≤ t / q := (Nat.le_div_iff_mul_le hq).2 h.1
      have h2 : t / q < j + 1 := Nat.div_lt_of_lt_mul (by rw [Nat.mul_comm, Nat.add_mul, Nat.one_mul]; exact h.2)
      omega
    have e2 : t - j * q = t % q := by rw [e] at hp; omega
    rw [if_pos h, if_pos (by omega), e, e2]
  · rw [if_neg h]
    by_cases h2 : t / q < j
    · rw [if_pos h2, if_pos (by omega)]
    · rw [if_neg h2, if_neg]
      intro h3
      have e : t / q = j := by omega
      rw [e] at hp
      exact h ⟨by omega, by omega⟩

end Go.Proofs.Ytcibjkadlndejaa
