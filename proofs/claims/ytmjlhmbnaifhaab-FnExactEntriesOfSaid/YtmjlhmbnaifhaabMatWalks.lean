/- Helper: walks of the small functions of chapter 2 on matrices: rows, numbers in their places. Conditions: none. -/
import Derived.Test.YtmjlhmbnaifhaabKeys
import Derived.Deep.QuietTactic
import Derived.BigQuiet
import Derived.IntWalk
set_option linter.unusedVariables false
set_option linter.unusedSimpArgs false
namespace Go.Proofs.Ytmjlhmbnaifhaab
open Go.RowKit

theorem place_lt {r c i k : Nat} (hi : i < r) (hk : k < c) : i * c + k < r * c := by
  have h1 : (i + 1) * c ≤ r * c := Nat.mul_le_mul_right c hi
  rw [Nat.add_mul, Nat.one_mul] at h1
  omega
theorem sides_le {r c : Nat} (hr : r ≤ 12) (hc : c ≤ 12) : r * c ≤ 144 := Nat.mul_le_mul hr hc

theorem ret_slice {a : Option Addr} {n m n' m' : Nat} (h : n = n') (k : m = m') : Ending.returned (.slice a n m) = .returned (.slice a n' m') := by rw [h, k]


end Go.Proofs.Ytmjlhmbnaifhaab
