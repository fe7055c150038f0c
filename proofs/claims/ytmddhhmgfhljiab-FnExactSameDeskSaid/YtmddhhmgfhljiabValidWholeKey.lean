/- Helper: whether a whole is valid, of the program and of its reference. Conditions: none. -/
import Derived.Test.YtmddhhmgfhljiabGcdKey
import Derived.Test.YtmddhhmgfhljiabBoxes
import Derived.Deep.QuietTactic
import Derived.BigQuiet
import Derived.IntWalk
set_option linter.unusedVariables false
set_option linter.unusedSimpArgs false
namespace Go.Proofs.Ytmddhhmgfhljiab
open Go.RowKit

/-- What a side of a whole is. -/
def side6 (x : Int) : Bool := inB x 1 6
theorem side6_yes {x : Int} (h1 : 1 ≤ x) (h2 : x ≤ 6) : side6 x = true := by unfold side6 inB; rw [decide_eq_true h1, decide_eq_true h2]; rfl
theorem side6_le {x : Int} (h : side6 x = true) : 1 ≤ x ∧ x ≤ 6 := by unfold side6 inB at h; simpa using h
theorem side6_no1 {x : Int} (h1 : ¬ 1 ≤ x) : side6 x = false := by unfold side6 inB; rw [decide_eq_false h1]; rfl
theorem side6_no2 {x : Int} (h1 : ¬ x ≤ 6) : side6 x = false := by unfold side6 inB; rw [decide_eq_false h1]; simp
/-- A valid whole with numbers of at most m. -/
def wholeB (m : Int) (R C : Int) (n : Nat) (Z : Nat → Int) : Bool := side6 R && (side6 C && (decide ((n : Int) = R * C) && withB m Z n))
theorem mul_side6 {R C : Int} (h1 : 1 ≤ R ∧ R ≤ 6) (h2 : 1 ≤ C ∧ C ≤ 6) : 1 ≤ R * C ∧ R * C ≤ 36 := by
  obtain ⟨a, b⟩ := h1
  obtain ⟨c, d⟩ := h2
  have e1 : 1 * 1 ≤ R * C := Int.mul_le_mul a c (by omega) (by omega)
  have e2 : R * C ≤ 6 * 6 := Int.mul_le_mul b d (by omega) (by omega)
  omega
theorem whole_nat {m R C : Int} {n : Nat} {Z : Nat → Int} (h : wholeB m R C n Z = true) : ∃ r c : Nat, R = r ∧ C = c ∧ 1 ≤ r ∧ r ≤ 6 ∧ 1 ≤ c ∧ c ≤ 6 ∧ n = r * c ∧ withB m Z n = true := by
  unfold wholeB at h
  simp only [Bool.and_eq_true, decide_eq_true_eq] at h
  obtain ⟨h1, h2, h3, h4⟩ := h
  obtain ⟨a, b⟩ := side6_le h1
  obtain ⟨c, d⟩ := side6_le h2
  refine ⟨R.toNat, C.toNat, by omega, by omega, by omega, by omega, by omega, by omega, ?_, h4⟩
  have e1 : (R.toNat : Int) = R := by omega
  have e2 : (C.toNat : Int) = C := by omega
  have : ((R.toNat * C.toNat : Nat) : Int) = R * C := by rw [Int.natCast_mul, e1, e2]
  omega

theorem isWholeSide_any (x : Int) (w : World) : Calls Try.prog 70 #[.int .i64 x] w fun e w' => e = .returned (.bool (side6 x)) ∧ w = w' := by
  by_cases h1 : 1 ≤ x
  · by_cases h2 : x ≤ 6
    · rw [side6_yes h1 h2]
      go_enter Try.func70, Try.ntmps70
      go_wp2
      go_ret
      exact ⟨rfl, rfl⟩
    · rw [side6_no2 h2]
      have hd : decide (x ≤ 6) = false := decide_eq_false h2
      go_enter Try.func70, Try.ntmps70
      go_wp2
      go_ret
      exact ⟨rfl, rfl⟩
  · rw [side6_no1 h1]
    have hd : decide (1 ≤ x) = false := decide_eq_false h1
    go_enter Try.func70, Try.ntmps70
    go_wp2
    go_ret
    exact ⟨rfl, rfl⟩
set_option maxHeartbeats 1000000 in
theorem implWhole_any (R C : Int) (a : Option Addr) (n c : Nat) (Z : Nat → Int) (w : World) (hn : n ≤ 1048576) (h : IS .i64 w a n c Z) :
    Calls Try.prog 35 #[.agg #[.int .i64 R, .int .i64 C, .slice a n c]] w (BoolBel (wholeB 1000000 R C n Z) w) := by
  unfold wholeB
  cases h1 : side6 R with
  | false =>
    go_enter Try.func35, Try.ntmps35
    go_wp2_with (go_at_call 70; refine (isWholeSide_any _ _).mono ?_; rintro e w' ⟨rfl, rfl⟩)
    go_ret
    exact ⟨rfl, (by repeat first | (with_reducible exact Below.refl _ _) | (with_reducible refine Below.setCell ?_ (by first | exact Nat.le_refl _ | (simp; done) | (simp; omega) | omega) _) | (with_reducible refine Below.alloc ?_ (by first | exact Nat.le_refl _ | (simp; done) | (simp; omega) | omega) _) | (with_reducible refine below_drewN ?_ _) | (with_reducible refine Below.drew ?_))⟩
  | true =>
    cases h2 : side6 C with
    | false =>
      go_enter Try.func35, Try.ntmps35
      go_wp2_with (go_at_call 70; refine (isWholeSide_any _ _).mono ?_; rintro e w' ⟨rfl, rfl⟩)
      go_ret
      exact ⟨rfl, (by repeat first | (with_reducible exact Below.refl _ _) | (with_reducible refine Below.setCell ?_ (by first | exact Nat.le_refl _ | (simp; done) | (simp; omega) | omega) _) | (with_reducible refine Below.alloc ?_ (by first | exact Nat.le_refl _ | (simp; done) | (simp; omega) | omega) _) | (with_reducible refine below_drewN ?_ _) | (with_reducible refine Below.drew ?_))⟩
    | true =>
      obtain ⟨m1, m2⟩ := mul_side6 (side6_le h1) (side6_le h2)
      by_cases h3 : (n : Int) = R * C
      · rw [decide_eq_true h3]
        have hd : ((n : Int) == R * C) = true := beq_iff_eq.2 h3
        have h3' := Lib.hid h3
        clear h3
        go_enter Try.func35, Try.ntmps35
        go_wp2_with (first | (go_at_call 70; refine (isWholeSide_any _ _).mono ?_; rintro e w' ⟨rfl, rfl⟩) | (go_at_call 71; refine (areWithin_any 1000000 _ _ _ Z _ (by omega) hn (h.below (by repeat first | (with_reducible exact Below.refl _ _) | (with_reducible refine Below.setCell ?_ (by first | exact Nat.le_refl _ | (simp; done) | (simp; omega) | omega) _) | (with_reducible refine Below.alloc ?_ (by first | exact Nat.le_refl _ | (simp; done) | (simp; omega) | omega) _) | (with_reducible refine below_drewN ?_ _) | (with_reducible refine Below.drew ?_)) (Nat.le_refl _))).mono ?_; rintro e w' ⟨rfl, rfl⟩))
        go_ret
        exact ⟨rfl, (by repeat first | (with_reducible exact Below.refl _ _) | (with_reducible refine Below.setCell ?_ (by first | exact Nat.le_refl _ | (simp; done) | (simp; omega) | omega) _) | (with_reducible refine Below.alloc ?_ (by first | exact Nat.le_refl _ | (simp; done) | (simp; omega) | omega) _) | (with_reducible refine below_drewN ?_ _) | (with_reducible refine Below.drew ?_))⟩
      · rw [decide_eq_false h3]
        have hd : ((n : Int) == R * C) = false := beq_eq_false_iff_ne.2 h3
        have h3' := Lib.hid h3
        clear h3
        go_enter Try.func35, Try.ntmps35
        go_wp2_with (first | (go_at_call 70; refine (isWholeSide_any _ _).mono ?_; rintro e w' ⟨rfl, rfl⟩))
        go_ret
        exact ⟨rfl, (by repeat first | (with_reducible exact Below.refl _ _) | (with_reducible refine Below.setCell ?_ (by first | exact Nat.le_refl _ | (simp; done) | (simp; omega) | omega) _) | (with_reducible refine Below.alloc ?_ (by first | exact Nat.le_refl _ | (simp; done) | (simp; omega) | omega) _) | (with_reducible refine below_drewN ?_ _) | (with_reducible refine Below.drew ?_))⟩

set_option maxHeartbeats 1000000 in
theorem specBound_any (m : Nat) (a : Option Addr) (n c : Nat) (Z : Nat → Int) (w : World) (hm : m ≤ 1000000) (hn : n ≤ 1048576) (h : IS .i64 w a n c Z) :
    Calls Try.prog 83 #[.slice a n c, .int .i64 m] w fun e w' => e = .returned (.bool (withB m Z n)) ∧ w = w' := by
  go_enter Try.func83, Try.ntmps83
  go_wp2
  go_loop [5] (fun s => ∃ j : Nat, j ≤ n ∧ s = .int .i64 j ∧ Hid (withB m Z j = true)) (fun s => n - (intOf s).toNat)
  case atStart => exact ⟨0, Nat.zero_le _, rfl, Lib.hid rfl⟩
  case round =>
    obtain ⟨j, hj, rfl, ho⟩ := hrel
    by_cases hlt : j < n
    · obtain ⟨b, off, rfl, hbl, hc, hw⟩ := IS.at h hlt
      clear h hbl
      have hlt2 : decide ((j : Int) < (n : Int)) = true := decide_eq_true (by omega)
      have hin := fun W => l00In_any (Z j) (-(m : Int)) m W
      cases hi : inB (Z j) (-(m : Int)) m with
      | false =>
        have HB := Lib.hid (withB_bad hi hlt)
        rw [hi] at hin
        clear hi
        generalize Z j = x at hc hin hw
        go_wp2_with (go_at_call 82; refine (hin _).mono ?_; rintro e w' ⟨rfl, rfl⟩)
        go_ret
        exact ⟨by rw [HB.out]; rfl, rfl⟩
      | true =>
        have HB : Hid (withB m Z (j + 1) = true) := Lib.hid (by simp only [withB, ho.out, hi]; rfl)
        rw [hi] at hin
        clear hi
        generalize Z j = x at hc hin hw
        go_wp2_with (go_at_call 82; refine (hin _).mono ?_; rintro e w' ⟨rfl, rfl⟩)
        go_round
        case rel => exact ⟨j + 1, by omega, by go_num, HB⟩
        case measure => simp [intOf]; omega
    · obtain rfl : j = n := by omega
      go_wp2
      go_ret
      exact ⟨by rw [ho.out]; rfl, rfl⟩
set_option maxHeartbeats 2000000 in
theorem specWhole_any (m : Nat) (b : Nat) (R C : Int) (a : Option Addr) (n c : Nat) (Z : Nat → Int) (w : World) (hm : m ≤ 1000000) (hn : n ≤ 1048576) (hb : Box w b R C a n c) (h : IS .i64 w a n c Z) :
    Calls Try.prog 66 #[.pointer (some ⟨b, 0, none⟩), .int .i64 m] w fun e w' => e = .returned (.bool (wholeB m R C n Z)) ∧ ∃ q, w' = w.drewN q := by
  obtain ⟨hb0, hb1, hb2⟩ := hb
  have hR : ∀ W, Calls Try.prog 82 #[.int .i64 R, .int .i64 1, .int .i64 6] W fun e w' => e = .returned (.bool (side6 R)) ∧ W = w' := fun W => l00In_any R 1 6 W
  have hC : ∀ W, Calls Try.prog 82 #[.int .i64 C, .int .i64 1, .int .i64 6] W fun e w' => e = .returned (.bool (side6 C)) ∧ W = w' := fun W => l00In_any C 1 6 W
  have hB : ∀ W, IS .i64 W a n c Z → Calls Try.prog 83 #[.slice a n c, .int .i64 m] W fun e w' => e = .returned (.bool (withB m Z n)) ∧ W = w' := fun W hW => specBound_any m a n c Z W hm hn hW
  cases h1 : side6 R with
  | false =>
    rw [h1] at hR
    have HB : Hid (wholeB m R C n Z = false) := Lib.hid (by unfold wholeB; rw [h1]; rfl)
    clear h1 hB hC
    go_enter Try.func66, Try.ntmps66
    go_wp2
    go_quiet ((go_at_call 82; exact quiet_left (hR _)))
    go_wp2
    go_ret
    exact ⟨by rw [HB.out]; rfl, _, rfl⟩
  | true =>
    rw [h1] at hR
    cases h2 : side6 C with
    | false =>
      rw [h2] at hC
      have HB : Hid (wholeB m R C n Z = false) := Lib.hid (by unfold wholeB; rw [h2]; simp)
      clear h1 h2 hB
      go_enter Try.func66, Try.ntmps66
      go_wp2
      go_quiet ((go_at_call 82; (first | (with_reducible exact quiet_left (hR _)) | (with_reducible exact quiet_left (hC _)))))
      go_wp2
      go_ret
      exact ⟨by rw [HB.out]; rfl, _, rfl⟩
    | true =>
      rw [h2] at hC
      obtain ⟨m1, m2⟩ := mul_side6 (side6_le h1) (side6_le h2)
      by_cases h3 : (n : Int) = R * C
      · have HB : Hid (wholeB m R C n Z = withB m Z n) := Lib.hid (by unfold wholeB; rw [h1, h2, decide_eq_true h3]; rfl)
        have hd : ((n : Int) == R * C) = true := beq_iff_eq.2 h3
        have h3' := Lib.hid h3
        clear h3 h1 h2
        cases hv : withB m Z n
        all_goals
          rw [hv] at HB hB
          clear hv
          go_enter Try.func66, Try.ntmps66
          go_wp2
          go_quiet (first | (go_at_call 82; (first | (with_reducible exact quiet_left (hR _)) | (with_reducible exact quiet_left (hC _)))) | (go_at_call 83; exact quiet_left (hB _ (IS.drewN h))))
          go_wp2
          go_ret
          exact ⟨by rw [HB.out]; rfl, _, rfl⟩
      · have HB : Hid (wholeB m R C n Z = false) := Lib.hid (by unfold wholeB; rw [decide_eq_false h3]; simp)
        have hd : ((n : Int) == R * C) = false := beq_eq_false_iff_ne.2 h3
        have h3' := Lib.hid h3
        clear h3 h1 h2 hB
        go_enter Try.func66, Try.ntmps66
        go_wp2
        go_quiet ((go_at_call 82; (first | (with_reducible exact quiet_left (hR _)) | (with_reducible exact quiet_left (hC _)))))
        go_wp2
        go_ret
        exact ⟨by rw [HB.out]; rfl, _, rfl⟩
end Go.Proofs.Ytmddhhmgfhljiab
