/- Helper: powers of a square by squares of it, told by their numbers. Conditions: none. -/
import Derived.Test.YtffmjfgechdjjacMulKey
import Derived.Test.YtffmjfgechdjjacUnitKey
import Derived.Test.YtffmjfgechdjjacSquare
set_option linter.unusedVariables false
set_option linter.unusedSimpArgs false
namespace Go.Proofs.Ytffmjfgechdjjac
open Go.RowKit

/-- The numbers of a product of squares. -/
def mulW (c : Nat) (U V : Nat → Option Nat) (t : Nat) : Option Nat := dotG (fun i => U (t / c * c + i)) (fun i => V (i * c + t % c)) c
theorem mulV_mulW (c : Nat) (Z Y : Nat → Nat) : mulV c c Z Y = mulW c (vals Z) (vals Y) := rfl
theorem mulW_congr {c n : Nat} {U V U' V' : Nat → Option Nat} (hn : n = c * c) (hu : ∀ i, i < n → U i = U' i) (hv : ∀ i, i < n → V i = V' i) {t : Nat} (ht : t < n) : mulW c U V t = mulW c U' V' t := by
  have hc : 0 < c := by
    rcases Nat.eq_zero_or_pos c with e | e
    · subst e; omega
    · exact e
  have h1 : t / c < c := Nat.div_lt_of_lt_mul (by rw [← hn]; exact ht)
  have h2 : t % c < c := Nat.mod_lt _ hc
  refine dotG_congr fun j hj => ⟨hu _ ?_, hv _ ?_⟩
  · rw [hn]; exact place_lt h1 hj
  · rw [hn]; exact place_lt hj h2

/-- What is told of a power: whether it is told, and its numbers; at most f rounds. -/
def pwF (c n : Nat) : Nat → Nat → (Nat → Option Nat) → (Nat → Option Nat) → Bool × (Nat → Option Nat)
  | 0, _, R, _ => (true, R)
  | f + 1, p, R, A =>
    if p = 0 then (true, R) else
    if p % 2 = 1 then
      (if allFin (mulW c R A) n = false then (false, R) else
       if p / 2 = 0 then (true, mulW c R A) else
       if allFin (mulW c A A) n = false then (false, R) else pwF c n f (p / 2) (mulW c R A) (mulW c A A))
    else
      (if p / 2 = 0 then (true, R) else
       if allFin (mulW c A A) n = false then (false, R) else pwF c n f (p / 2) R (mulW c A A))
theorem pw_zero {c n f : Nat} {R A : Nat → Option Nat} : pwF c n f 0 R A = (true, R) := by
  cases f <;> rfl
theorem pw_odd_no {c n f p : Nat} {R A : Nat → Option Nat} (hp : p % 2 = 1) (h : allFin (mulW c R A) n = false) : pwF c n (f + 1) p R A = (false, R) := by
  unfold pwF; rw [if_neg (by omega), if_pos hp, if_pos h]
theorem pw_odd_end {c n f p : Nat} {R A : Nat → Option Nat} (hp : p % 2 = 1) (h : allFin (mulW c R A) n = true) (h0 : p / 2 = 0) : pwF c n (f + 1) p R A = (true, mulW c R A) := by
  unfold pwF; rw [if_neg (by omega), if_pos hp, if_neg (by rw [h]; exact Bool.noConfusion), if_pos h0]
theorem pw_odd_bad {c n f p : Nat} {R A : Nat → Option Nat} (hp : p % 2 = 1) (h : allFin (mulW c R A) n = true) (h0 : ¬ p / 2 = 0) (h2 : allFin (mulW c A A) n = false) : pwF c n (f + 1) p R A = (false, R) := by
  unfold pwF; rw [if_neg (by omega), if_pos hp, if_neg (by rw [h]; exact Bool.noConfusion), if_neg h0, if_pos h2]
theorem pw_odd {c n f p : Nat} {R A : Nat → Option Nat} (hp : p % 2 = 1) (h : allFin (mulW c R A) n = true) (h0 : ¬ p / 2 = 0) (h2 : allFin (mulW c A A) n = true) : pwF c n (f + 1) p R A = pwF c n f (p / 2) (mulW c R A) (mulW c A A) := by
  conv => lhs; unfold pwF
  rw [if_neg (by omega), if_pos hp, if_neg (by rw [h]; exact Bool.noConfusion), if_neg h0, if_neg (by rw [h2]; exact Bool.noConfusion)]
theorem pw_even_bad {c n f p : Nat} {R A : Nat → Option Nat} (hp : ¬ p % 2 = 1) (h0 : ¬ p = 0) (h2 : allFin (mulW c A A) n = false) : pwF c n (f + 1) p R A = (false, R) := by
  unfold pwF; rw [if_neg h0, if_neg hp, if_neg (by omega), if_pos h2]
theorem pw_even {c n f p : Nat} {R A : Nat → Option Nat} (hp : ¬ p % 2 = 1) (h0 : ¬ p = 0) (h2 : allFin (mulW c A A) n = true) : pwF c n (f + 1) p R A = pwF c n f (p / 2) R (mulW c A A) := by
  conv => lhs; unfold pwF
  rw [if_neg h0, if_neg hp, if_neg (by omega), if_neg (by rw [h2]; exact Bool.noConfusion)]
end Go.Proofs.Ytffmjfgechdjjac
