/- Helper: walks of the flip of a matrix, of the program and of its reference. Conditions: none. -/
import Derived.Test.YtffmjfgechdjjabBuild
import Derived.Deep.RegionHeld3
import Derived.Deep.RegionLaw
set_option linter.unusedVariables false
set_option linter.unusedSimpArgs false
namespace Go.Proofs.Ytffmjfgechdjjab
open Go.RowKit

def flipP (r c i k : Nat) (Z : Nat → Nat) (t : Nat) : Nat := if t % r < i ∨ (t % r = i ∧ t / r < k) then Z (t % r * c + t / r) else 0
theorem flip_step {r c i k : Nat} {Z : Nat → Nat} (hi : i < r) (t : Nat) : (if t = k * r + i then Z (i * c + k) else flipP r c i k Z t) = flipP r c i (k + 1) Z t := by
  unfold flipP
  obtain ⟨h1, h2⟩ := place_div (j := k) hi
  by_cases e : t = k * r + i
  · subst e
    rw [if_pos rfl, h1, h2, if_pos (.inr ⟨rfl, by omega⟩)]
  · rw [if_neg e]
    have hp := place_eq (c := r) (t := t)
    by_cases h : t % r < i ∨ (t % r = i ∧ t / r < k)
    · rw [if_pos h, if_pos (by omega)]
    · rw [if_neg h, if_neg]
      intro h'
      have : t % r = i ∧ t / r = k := by omega
      rw [this.1, this.2] at hp
      exact e hp.symm
theorem flip_next {r c i : Nat} {Z : Nat → Nat} (t : Nat) (ht : t < c * r) (hr : 0 < r) : flipP r c i c Z t = flipP r c (i + 1) 0 Z t := by
  unfold flipP
  have h1 : t / r < c := Nat.div_lt_of_lt_mul (by rw [Nat.mul_comm]; exact ht)
  generalize t / r = x at *
  generalize t % r = y at *
  by_cases h : y < i ∨ (y = i ∧ x < c)
  · rw [if_pos h, if_pos (by omega)]
  · rw [if_neg h, if_neg (by omega)]
/-- The numbers of the flip. -/
def flipZ (r c : Nat) (Z : Nat → Nat) (t : Nat) : Nat := Z (t % r * c + t / r)
theorem flip_end {r c : Nat} {Z : Nat → Nat} (t : Nat) (hr : 0 < r) : flipP r c r 0 Z t = flipZ r c Z t := by
  unfold flipP flipZ
  rw [if_pos (.inl (Nat.mod_lt _ hr))]


end Go.Proofs.Ytffmjfgechdjjab
