/- Helper: walks of the tests whether all numbers of a list are finite, and of vectors. Conditions: none. -/
import Derived.Test.YtcibjkadlndejaaRowWalks
import Derived.Test.YtcibjkadlndejaaMatRows
set_option linter.unusedVariables false
set_option linter.unusedSimpArgs false
namespace Go.Proofs.Ytcibjkadlndejaa
open Go.RowKit

def vals (Z : Nat → Nat) (i : Nat) : Option Nat := cn .f32 (Z i)
def allFin (V : Nat → Option Nat) : Nat → Bool
  | 0 => true
  | n + 1 => allFin V n && finite .f32 (V n)
theorem allFin_lt {V : Nat → Option Nat} {j : Nat} : ∀ {n : Nat}, allFin V n = true → j < n → finite .f32 (V j) = true
  | 0, _, h => by omega
  | n + 1, ha, h => by
    simp only [allFin, Bool.and_eq_true] at ha
    by_cases e : j = n
    · subst e; exact ha.2
    · exact allFin_lt ha.1 (by omega)
theorem allFin_no {V : Nat → Option Nat} {j : Nat} {n : Nat} (h : j < n) (hf : finite .f32 (V j) = false) : allFin V n = false := by
  cases e : allFin V n with
  | false => rfl
  | true => rw [allFin_lt e h] at hf; cases hf
theorem allFin_succ {V : Nat → Option Nat} {j : Nat} (h : allFin V j = true) (h2 : finite .f32 (V j) = true) : allFin V (j + 1) = true := by simp [allFin, h, h2]
theorem allFin_congr {V W : Nat → Option Nat} : ∀ {n : Nat}, (∀ j, j < n → V j = W j) → allFin V n = allFin W n
  | 0, _ => rfl
  | n + 1, h => by simp only [allFin]; rw [allFin_congr fun j hj => h j (by omega), h n (by omega)]

theorem implFin_any (a : Option Addr) (n c : Nat) (Z : Nat → Nat) (w : World) (hn : n ≤ 1048576) (h : FS .f32 w a n c Z) :
    Calls Try.prog 83 #[.slice a n c] w fun e w' => e = .returned (.bool (allFin (vals Z) n)) ∧ ∃ m, w' = w.drewN m := by
  go_enter Try.func83, Try.ntmps83
  go_wp2
  go_loopw [7] (fun i wr => ∃ j m : Nat, j ≤ n ∧ i = .int .i64 j ∧ allFin (vals Z) j = true ∧ wr = w.drewN m) (fun i _ => n - (intOf i).toNat)
  case atStart => exact ⟨0, 0, Nat.zero_le _, rfl, rfl, rfl⟩
  case round =>
    obtain ⟨j, m0, hj, rfl, ha, rfl⟩ := hrel
    have HA := Lib.hid ha
    clear ha
    by_cases hlt : j < n
    · obtain ⟨b, off, rfl, hbl, hc, hfv⟩ := h.at hlt
      clear hbl h
      cases hfin : finite .f32 (cn .f32 (Z j)) with
      | true =>
        have HF := Lib.hid (allFin_succ HA.out hfin)
        go_wp2_with (go_at_call 92; refine (implIsFinite_any _ hfv _).mono ?_; rintro e w' ⟨rfl, q, rfl⟩)
        go_roundw
        case rel => exact ⟨j + 1, _, by omega, by go_num, HF.out, rfl⟩
        case measure => simp [intOf]; omega
      | false =>
        have HN := Lib.hid (allFin_no (V := vals Z) hlt hfin)
        go_wp2_with (go_at_call 92; refine (implIsFinite_any _ hfv _).mono ?_; rintro e w' ⟨rfl, q, rfl⟩)
        go_ret
        exact ⟨by rw [HN.out]; rfl, _, rfl⟩
    · obtain rfl : j = n := by omega
      go_wp2
      go_ret
      exact ⟨by rw [HA.out]; rfl, _, rfl⟩

theorem specFin_any (a : Option Addr) (n c : Nat) (Z : Nat → Nat) (w : World) (hn : n ≤ 1048576) (h : FS .f32 w a n c Z) :
    Calls Try.prog 54 #[.slice a n c] w fun e w' => e = .returned (.bool (allFin (vals Z) n)) ∧ ∃ m, w' = w.drewN m := by
  go_enter Try.func54, Try.ntmps54
  go_wp2
  go_loopw [3] (fun i wr => ∃ j m : Nat, j ≤ n ∧ i = .int .i64 j ∧ allFin (vals Z) j = true ∧ wr = w.drewN m) (fun i _ => n - (intOf i).toNat)
  case atStart => exact ⟨0, 0, Nat.zero_le _, rfl, rfl, rfl⟩
  case round =>
    obtain ⟨j, m0, hj, rfl, ha, rfl⟩ := hrel
    have HA := Lib.hid ha
    clear ha
    by_cases hlt : j < n
    · obtain ⟨b, off, rfl, hbl, hc, hfv⟩ := h.at hlt
      clear hbl h
      cases hfin : finite .f32 (cn .f32 (Z j)) with
      | true =>
        have HF := Lib.hid (allFin_succ HA.out hfin)
        go_wp2_with (go_at_call 62; refine (specFinite_any _ hfv _).mono ?_; rintro e w' ⟨rfl, q, rfl⟩)
        go_roundw
        case rel => exact ⟨j + 1, _, by omega, by go_num, HF.out, rfl⟩
        case measure => simp [intOf]; omega
      | false =>
        have HN := Lib.hid (allFin_no (V := vals Z) hlt hfin)
        go_wp2_with (go_at_call 62; refine (specFinite_any _ hfv _).mono ?_; rintro e w' ⟨rfl, q, rfl⟩)
        go_ret
        exact ⟨by rw [HN.out]; rfl, _, rfl⟩
    · obtain rfl : j = n := by omega
      go_wp2
      go_ret
      exact ⟨by rw [HA.out]; rfl, _, rfl⟩

/-- What a vector is. -/
def vecB (n : Nat) (V : Nat → Option Nat) : Bool := decide (1 ≤ n) && (decide (n ≤ 256) && allFin V n)

theorem implVector_any (a : Option Addr) (n c : Nat) (Z : Nat → Nat) (w : World) (hn : n ≤ 1048576) (h : FS .f32 w a n c Z) :
    Calls Try.prog 74 #[.slice a n c] w fun e w' => e = .returned (.bool (vecB n (vals Z))) ∧ ∃ m, w' = w.drewN m := by
  by_cases h1 : 1 ≤ n
  · by_cases h2 : n ≤ 256
    · have HB : Hid (vecB n (vals Z) = allFin (vals Z) n) := Lib.hid (by unfold vecB; rw [decide_eq_true h1, decide_eq_true h2]; rfl)
      have d1 : decide ((1 : Int) ≤ n) = true := decide_eq_true (by omega)
      have d2 : decide ((n : Int) ≤ 256) = true := decide_eq_true (by omega)
      go_enter Try.func74, Try.ntmps74
      go_wp2_with (go_at_call 83; refine (implFin_any _ _ _ Z _ hn (by assumption)).mono ?_; rintro e w' ⟨rfl, q, rfl⟩)
      go_ret
      exact ⟨by rw [HB.out]; rfl, _, rfl⟩
    · have HB : Hid (vecB n (vals Z) = false) := Lib.hid (by unfold vecB; rw [decide_eq_false h2]; simp)
      have d1 : decide ((1 : Int) ≤ n) = true := decide_eq_true (by omega)
      have d2 : decide ((n : Int) ≤ 256) = false := decide_eq_false (by omega)
      go_enter Try.func74, Try.ntmps74
      go_wp2
      go_ret
      exact ⟨by rw [HB.out]; rfl, 0, rfl⟩
  · have HB : Hid (vecB n (vals Z) = false) := Lib.hid (by unfold vecB; rw [decide_eq_false h1]; simp)
    have d1 : decide ((1 : Int) ≤ n) = false := decide_eq_false (by omega)
    go_enter Try.func74, Try.ntmps74
    go_wp2
    go_ret
    exact ⟨by rw [HB.out]; rfl, 0, rfl⟩

theorem specVector_any (a : Option Addr) (n c : Nat) (Z : Nat → Nat) (w : World) (hn : n ≤ 1048576) (h : FS .f32 w a n c Z) :
    Calls Try.prog 47 #[.slice a n c] w fun e w' => e = .returned (.bool (vecB n (vals Z))) ∧ ∃ m, w' = w.drewN m := by
  by_cases h1 : 1 ≤ n
  · by_cases h2 : n ≤ 256
    · have HB : Hid (vecB n (vals Z) = allFin (vals Z) n) := Lib.hid (by unfold vecB; rw [decide_eq_true h1, decide_eq_true h2]; rfl)
      have d1 : decide ((1 : Int) ≤ n) = true := decide_eq_true (by omega)
      have d2 : decide ((n : Int) ≤ 256) = true := decide_eq_true (by omega)
      go_enter Try.func47, Try.ntmps47
      go_wp2_with (go_at_call 54; refine (specFin_any _ _ _ Z _ hn (by assumption)).mono ?_; rintro e w' ⟨rfl, q, rfl⟩)
      go_ret
      exact ⟨by rw [HB.out]; rfl, _, rfl⟩
    · have HB : Hid (vecB n (vals Z) = false) := Lib.hid (by unfold vecB; rw [decide_eq_false h2]; simp)
      have d1 : decide ((1 : Int) ≤ n) = true := decide_eq_true (by omega)
      have d2 : decide ((n : Int) ≤ 256) = false := decide_eq_false (by omega)
      go_enter Try.func47, Try.ntmps47
      go_wp2
      go_ret
      exact ⟨by rw [HB.out]; rfl, 0, rfl⟩
  · have HB : Hid (vecB n (vals Z) = false) := Lib.hid (by unfold vecB; rw [decide_eq_false h1]; simp)
    have d1 : decide ((1 : Int) ≤ n) = false := decide_eq_false (by omega)
    go_enter Try.func47, Try.ntmps47
    go_wp2
    go_ret
    exact ⟨by rw [HB.out]; rfl, 0, rfl⟩

end Go.Proofs.Ytcibjkadlndejaa
