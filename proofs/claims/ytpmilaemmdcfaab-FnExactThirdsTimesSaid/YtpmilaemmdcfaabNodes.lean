/- Helper: nodes: two lists of one length, of 1 to 32 finite numbers, of the program. Conditions: none. -/
import Derived.Test.YtpmilaemmdcfaabFinWalks
set_option linter.unusedVariables false
set_option linter.unusedSimpArgs false
namespace Go.Proofs.Ytpmilaemmdcfaab
open Go.RowKit

/-- A length of 1 to 32. -/
def lenB (n : Nat) : Bool := decide (1 ≤ n) && decide (n ≤ 32)
theorem lenB_yes {n : Nat} (h : lenB n = true) : 1 ≤ n ∧ n ≤ 32 := by unfold lenB at h; simpa using h
theorem lenB_no {n : Nat} (h : lenB n = false) : n < 1 ∨ 32 < n := by unfold lenB at h; simp at h; omega
theorem lenB_of {n : Nat} (h1 : 1 ≤ n) (h2 : n ≤ 32) : lenB n = true := by unfold lenB; simp; omega
def nodesB (n m : Nat) (V W : Nat → Option Nat) : Bool := lenB n && (decide (m = n) && (allFin V n && allFin W m))
theorem ringLength_any (n : Nat) (w : World) (hn : n ≤ 1048576) : Calls Try.prog 34 #[.int .i64 n] w fun e w' => e = .returned (.bool (lenB n)) ∧ w = w' := by
  by_cases h1 : 1 ≤ n
  · by_cases h2 : n ≤ 32
    · have HB : Hid (lenB n = true) := Lib.hid (lenB_of h1 h2)
      have d1 : decide ((1 : Int) ≤ n) = true := decide_eq_true (by omega)
      have d2 : decide ((n : Int) ≤ 32) = true := decide_eq_true (by omega)
      go_enter Try.func34, Try.ntmps34
      go_wp2
      go_ret
      exact ⟨by rw [HB.out]; rfl, rfl⟩
    · have HB : Hid (lenB n = false) := Lib.hid (by unfold lenB; rw [decide_eq_false h2]; simp)
      have d1 : decide ((1 : Int) ≤ n) = true := decide_eq_true (by omega)
      have d2 : decide ((n : Int) ≤ 32) = false := decide_eq_false (by omega)
      go_enter Try.func34, Try.ntmps34
      go_wp2
      go_ret
      exact ⟨by rw [HB.out]; rfl, rfl⟩
  · have HB : Hid (lenB n = false) := Lib.hid (by unfold lenB; rw [decide_eq_false h1]; simp)
    have d1 : decide ((1 : Int) ≤ n) = false := decide_eq_false (by omega)
    go_enter Try.func34, Try.ntmps34
    go_wp2
    go_ret
    exact ⟨by rw [HB.out]; rfl, rfl⟩
theorem nodes_yes {n m : Nat} {V W : Nat → Option Nat} (h : nodesB n m V W = true) : (1 ≤ n ∧ n ≤ 32) ∧ m = n ∧ allFin V n = true ∧ allFin W m = true := by
  unfold nodesB at h
  simp only [Bool.and_eq_true, decide_eq_true_eq] at h
  exact ⟨lenB_yes h.1, h.2.1, h.2.2.1, h.2.2.2⟩
end Go.Proofs.Ytpmilaemmdcfaab
