/- Helper: the greatest divisor of two numbers, of the program and of its reference, and its law. Conditions: none. -/
import Derived.Test.YtmddhhmgfhljiabNumMath
import Derived.Test.YtmddhhmgfhljiabMatValid
import Derived.Test.YtmddhhmgfhljiabIntLaw
import Derived.Test.YtmddhhmgfhljiabKeys
import Derived.Deep.QuietTactic
import Derived.BigQuiet
set_option linter.unusedVariables false
set_option linter.unusedSimpArgs false
namespace Go.Proofs.Ytmddhhmgfhljiab
open Go.RowKit

/-- Numbers that are not too great. -/
def Fit (x : Int) : Prop := -4000000000000000000 ≤ x ∧ x ≤ 4000000000000000000
theorem fit_tmod {a b : Int} (ha : Fit a) (hb : Fit b) : Fit (a.tmod b) := by
  have h1 : (a.tmod b).natAbs ≤ a.natAbs := by rw [Int.natAbs_tmod]; exact Nat.mod_le _ _
  unfold Fit at *
  omega
def absI (a : Int) : Int := if a < 0 then -a else a


/-- Whether all of n numbers are from -m to m. -/
def withB (m : Int) (Z : Nat → Int) : Nat → Bool
  | 0 => true
  | k + 1 => withB m Z k && inB (Z k) (-m) m
theorem withB_bad {m : Int} {Z : Nat → Int} {i : Nat} (h : inB (Z i) (-m) m = false) : ∀ {k : Nat}, i < k → withB m Z k = false
  | 0, hk => by omega
  | k + 1, hk => by
    by_cases e : i = k
    · subst e; simp [withB, h]
    · simp [withB, withB_bad h (show i < k by omega)]
theorem withB_at {m : Int} {Z : Nat → Int} {n : Nat} : ∀ {i : Nat}, withB m Z n = true → i < n → -m ≤ Z i ∧ Z i ≤ m := by
  induction n with
  | zero => intro i _ h; omega
  | succ k ih =>
    intro i h hi
    simp only [withB, Bool.and_eq_true] at h
    by_cases e : i = k
    · subst e
      have := h.2
      unfold inB at this
      simpa using this
    · exact ih h.1 (by omega)
set_option maxHeartbeats 1000000 in
theorem areWithin_any (m : Nat) (a : Option Addr) (n c : Nat) (Z : Nat → Int) (w : World) (hm : m ≤ 1000000) (hn : n ≤ 1048576) (h : IS .i64 w a n c Z) :
    Calls Try.prog 71 #[.slice a n c, .int .i64 m] w fun e w' => e = .returned (.bool (withB m Z n)) ∧ w = w' := by
  go_enter Try.func71, Try.ntmps71
  go_wp2
  go_loop [9] (fun s => ∃ j : Nat, j ≤ n ∧ s = .int .i64 j ∧ Hid (withB m Z j = true)) (fun s => n - (intOf s).toNat)
  case atStart => exact ⟨0, Nat.zero_le _, rfl, Lib.hid rfl⟩
  case round =>
    obtain ⟨j, hj, rfl, ho⟩ := hrel
    by_cases hlt : j < n
    · obtain ⟨b, off, rfl, hbl, hc, hw⟩ := IS.at h hlt
      clear h hbl
      have hw' := hw
      cases hi : inB (Z j) (-(m : Int)) m with
      | false =>
        have HB := Lib.hid (withB_bad hi hlt)
        unfold inB at hi
        by_cases h1 : -(m : Int) ≤ Z j
        · have h2 : ¬ Z j ≤ m := fun h2 => by rw [decide_eq_true h1, decide_eq_true h2] at hi; cases hi
          have d1 : decide (Z j < -(m : Int)) = false := decide_eq_false (by omega)
          have d2 : decide ((m : Int) < Z j) = true := decide_eq_true (by omega)
          clear hi
          generalize Z j = x at hc d1 d2 h1 h2
          go_wp2
          go_ret
          exact ⟨by rw [HB.out]; rfl, rfl⟩
        · have d1 : decide (Z j < -(m : Int)) = true := decide_eq_true (by omega)
          clear hi
          generalize Z j = x at hc d1 h1
          go_wp2
          go_ret
          exact ⟨by rw [HB.out]; rfl, rfl⟩
      | true =>
        have HB : Hid (withB m Z (j + 1) = true) := Lib.hid (by simp only [withB, ho.out, hi]; rfl)
        unfold inB at hi
        simp only [Bool.and_eq_true, decide_eq_true_eq] at hi
        obtain ⟨h1, h2⟩ := hi
        have d1 : decide (Z j < -(m : Int)) = false := decide_eq_false (by omega)
        have d2 : decide ((m : Int) < Z j) = false := decide_eq_false (by omega)
        generalize Z j = x at hc d1 d2 h1 h2
        go_wp2
        go_round
        case rel => exact ⟨j + 1, by omega, by go_num, HB⟩
        case measure => simp [intOf]; omega
    · obtain rfl : j = n := by omega
      go_wp2
      go_ret
      exact ⟨by rw [ho.out]; rfl, rfl⟩
end Go.Proofs.Ytmddhhmgfhljiab
