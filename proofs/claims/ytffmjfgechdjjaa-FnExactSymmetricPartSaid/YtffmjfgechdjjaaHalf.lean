/- Helper: a 32-bit number divided by two is the number times a half, bit for bit. Conditions: none. -/
import Derived.Test.YtffmjfgechdjjaaSizeFacts
set_option linter.unusedVariables false
set_option linter.unusedSimpArgs false
namespace Go.Proofs.Ytffmjfgechdjjaa
open Ieee

theorem read_two : single.read 1073741824 = .number false 8388608 (-22) := by decide +kernel
theorem read_half : single.read 1056964608 = .number false 8388608 (-24) := by decide +kernel
theorem log_two : Nat.log2 8388608 = 23 := by decide +kernel
theorem half_bits (x : Nat) : single.div x 1073741824 = single.mul 1056964608 x := by
  unfold Format.div Format.mul
  rw [read_two, read_half]
  cases hx : single.read x with
  | nan s t => rfl
  | infinity s => cases s <;> rfl
  | number s m i =>
    obtain ⟨_, _, _, hm, _, _⟩ := write_read_single hx
    have ef : single.fractionBits = 23 := rfl
    have hl : m.log2 ≤ 23 := by
      by_cases h0 : m = 0
      · subst h0; decide
      · have := (Nat.log2_lt h0).2 (show m < 2 ^ 24 by omega); omega
    simp only [Datum.quotient, Datum.product, ef, log_two, Option.map_some]
    rw [if_neg (by decide)]
    simp only [Option.map_some]
    obtain ⟨p, hp⟩ : ∃ p, 23 + 2 + 23 - m.log2 = p + 23 := ⟨25 - m.log2, by omega⟩
    rw [hp]
    have e1 : m <<< (p + 23) = m <<< p * 8388608 := by rw [Nat.shiftLeft_add, Nat.shiftLeft_eq (m <<< p) 23]
    rw [e1, Nat.mul_div_cancel _ (by decide), Nat.mul_mod_left]
    have e2 : (2 * (m <<< p) + ((0 : Nat) != 0).toNat) = m <<< (p + 1) := by
      show 2 * (m <<< p) + 0 = m <<< (p + 1)
      rw [Nat.shiftLeft_add, Nat.shiftLeft_eq (m <<< p) 1]; omega
    rw [e2]
    show some (single.nearest (s ^^ false) (m <<< (p + 1)) (i - -22 - ((p + 23 : Nat) : Int) - 1)) = some (single.nearest (false ^^ s) (8388608 * m) (-24 + i))
    have e3 : 8388608 * m = m <<< 23 := by rw [Nat.shiftLeft_eq, Nat.mul_comm]
    have e4 : i - -22 - ((p + 23 : Nat) : Int) - 1 = (i - 1) - ((p + 1 : Nat) : Int) := by omega
    have e5 : -24 + i = (i - 1) - ((23 : Nat) : Int) := by omega
    rw [e3, e4, e5, nearest_shift, nearest_shift, Bool.xor_false, Bool.false_xor]
theorem half_quo (S : Option Nat) : fop .quo .f32 S (some 1073741824) = fop .mul .f32 (some 1056964608) S := by
  cases S with
  | none => rfl
  | some x => exact half_bits x
end Go.Proofs.Ytffmjfgechdjjaa
