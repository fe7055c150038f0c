/- Helper: a matrix into which a part is put, of the program. Conditions: none. -/
import Derived.Test.YtcldaafmbmmhiaaPartImpl
set_option linter.unusedVariables false
set_option linter.unusedSimpArgs false
namespace Go.Proofs.Ytcldaafmbmmhiaa
open Go.RowKit

/-- With a part put, row by row; and number by number. -/
def putP (c q j x y : Nat) (Y Z : Nat → Nat) (t : Nat) : Nat := if (x ≤ t / c ∧ t / c < x + j) ∧ (y ≤ t % c ∧ t % c < y + q) then Y ((t / c - x) * q + (t % c - y)) else Z t
theorem putP_next {c q j x y : Nat} {Y Z : Nat → Nat} (hy : y + q ≤ c) (hq : 0 < q) (t : Nat) : pasted ((x + j) * c + y) q (fun k => Y (j * q + k)) (putP c q j x y Y Z) t = putP c q (j + 1) x y Y Z t := by
  unfold pasted putP
  have hp := place_eq (c := c) (t := t)
  have hm := Nat.mod_lt t (show 0 < c by omega)
  by_cases h : (x + j) * c + y ≤ t ∧ t < (x + j) * c + y + q
  · obtain ⟨s, hs⟩ : ∃ s, t = (x + j) * c + (y + s) := ⟨t - ((x + j) * c + y), by omega⟩
    obtain ⟨d1, d2⟩ := place_div (c := c) (j := x + j) (k := y + s) (by omega)
    rw [if_pos h]
    rw [hs, d1, d2, if_pos ⟨⟨by omega, by omega⟩, by omega, by omega⟩]
    rw [show (x + j) * c + (y + s) - ((x + j) * c + y) = s by omega, show x + j - x = j by omega, show y + s - y = s by omega]
  · rw [if_neg h]
    by_cases h2 : (x ≤ t / c ∧ t / c < x + j) ∧ (y ≤ t % c ∧ t % c < y + q)
    · rw [if_pos h2, if_pos ⟨⟨h2.1.1, by omega⟩, h2.2⟩]
    · rw [if_neg h2, if_neg]
      rintro ⟨⟨h3, h4⟩, h5, h6⟩
      have e : t / c = x + j := by
        by_cases h7 : t / c < x + j
        · exact absurd ⟨⟨h3, h7⟩, h5, h6⟩ h2
        · omega
      rw [e] at hp
      exact h ⟨by omega, by omega⟩
/-- Whether a part can be put. -/
def putOk (R C R2 C2 x y : Int) (n n2 : Nat) (Z Y : Nat → Nat) : Bool := validB R C n (vals Z) && (validB R2 C2 n2 (vals Y) && (liB R R2 x && liB C C2 y))

end Go.Proofs.Ytcldaafmbmmhiaa
