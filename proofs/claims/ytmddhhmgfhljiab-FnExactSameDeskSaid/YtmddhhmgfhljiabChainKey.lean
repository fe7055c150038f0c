/- Helper: whether a chain is valid, of the program and of its reference. Conditions: none. -/
import Derived.Test.YtmddhhmgfhljiabChain
import Derived.Test.YtmddhhmgfhljiabMatValid
import Derived.Deep.QuietTactic
import Derived.BigQuiet
import Derived.IntWalk
set_option linter.unusedVariables false
set_option linter.unusedSimpArgs false
namespace Go.Proofs.Ytmddhhmgfhljiab
open Go.RowKit

/-- What a valid chain is. -/
def chainB (n : Nat) (V : Nat → Option Nat) (n2 : Nat) (V2 : Nat → Option Nat) : Bool := sideB (n : Int) && (decide ((n2 : Int) = (n : Int) - 1) && (allFin V n && allFin V2 n2))
theorem chain_nat {n n2 : Nat} {V V2 : Nat → Option Nat} (h : chainB n V n2 V2 = true) : 1 ≤ n ∧ n ≤ 12 ∧ n2 + 1 = n ∧ allFin V n = true ∧ allFin V2 n2 = true := by
  unfold chainB at h
  simp only [Bool.and_eq_true, decide_eq_true_eq] at h
  obtain ⟨h1, h2, h3, h4⟩ := h
  obtain ⟨a, b⟩ := sideB_le h1
  exact ⟨by omega, by omega, by omega, h3, h4⟩

set_option maxHeartbeats 1000000 in
theorem implChain_any (a : Option Addr) (n c : Nat) (Z : Nat → Nat) (a2 : Option Addr) (n2 c2 : Nat) (Z2 : Nat → Nat) (w : World) (hn : n ≤ 1048576) (hn2 : n2 ≤ 1048576) (h : FS .f32 w a n c Z) (h2 : FS .f32 w a2 n2 c2 Z2) :
    Calls Try.prog 34 #[.agg #[.slice a n c, .slice a2 n2 c2]] w (BoolBel (chainB n (vals Z) n2 (vals Z2)) w) := by
  unfold chainB
  cases h1 : sideB (n : Int) with
  | false =>
    go_enter Try.func34, Try.ntmps34
    go_wp2_with (go_at_call 68; refine (isSide_any _ _).mono ?_; rintro e w' ⟨rfl, rfl⟩)
    go_ret
    exact ⟨rfl, (by repeat first | (with_reducible exact Below.refl _ _) | (with_reducible refine Below.setCell ?_ (by first | exact Nat.le_refl _ | (simp; done) | (simp; omega) | omega) _) | (with_reducible refine Below.alloc ?_ (by first | exact Nat.le_refl _ | (simp; done) | (simp; omega) | omega) _) | (with_reducible refine below_drewN ?_ _) | (with_reducible refine Below.drew ?_))⟩
  | true =>
    by_cases h3 : (n2 : Int) = (n : Int) - 1
    · rw [decide_eq_true h3]
      have hd : ((n2 : Int) == (n : Int) - 1) = true := beq_iff_eq.2 h3
      have h3' := Lib.hid h3
      clear h3
      cases hv : allFin (vals Z) n with
      | false =>
        go_enter Try.func34, Try.ntmps34
        go_wp2_with (first | (go_at_call 68; refine (isSide_any _ _).mono ?_; rintro e w' ⟨rfl, rfl⟩) | (go_at_call 69; refine (implFin_any a n c Z _ hn (h.below (by repeat first | (with_reducible exact Below.refl _ _) | (with_reducible refine Below.setCell ?_ (by first | exact Nat.le_refl _ | (simp; done) | (simp; omega) | omega) _) | (with_reducible refine Below.alloc ?_ (by first | exact Nat.le_refl _ | (simp; done) | (simp; omega) | omega) _) | (with_reducible refine below_drewN ?_ _) | (with_reducible refine Below.drew ?_)) (Nat.le_refl _))).mono ?_; rintro e w' ⟨rfl, q, rfl⟩))
        go_ret
        exact ⟨rfl, (by repeat first | (with_reducible exact Below.refl _ _) | (with_reducible refine Below.setCell ?_ (by first | exact Nat.le_refl _ | (simp; done) | (simp; omega) | omega) _) | (with_reducible refine Below.alloc ?_ (by first | exact Nat.le_refl _ | (simp; done) | (simp; omega) | omega) _) | (with_reducible refine below_drewN ?_ _) | (with_reducible refine Below.drew ?_))⟩
      | true =>
        go_enter Try.func34, Try.ntmps34
        go_wp2_with (go_at_call 68; refine (isSide_any _ _).mono ?_; rintro e w' ⟨rfl, rfl⟩)
        go_at_call 69
        refine (implFin_any a n c Z _ hn (h.below (by repeat first | (with_reducible exact Below.refl _ _) | (with_reducible refine Below.setCell ?_ (by first | exact Nat.le_refl _ | (simp; done) | (simp; omega) | omega) _) | (with_reducible refine Below.alloc ?_ (by first | exact Nat.le_refl _ | (simp; done) | (simp; omega) | omega) _) | (with_reducible refine below_drewN ?_ _) | (with_reducible refine Below.drew ?_)) (Nat.le_refl _))).mono ?_
        rintro e w' ⟨rfl, q, rfl⟩
        go_wp2_with fail
        go_at_call 69
        refine (implFin_any a2 n2 c2 Z2 _ hn2 (h2.below (by repeat first | (with_reducible exact Below.refl _ _) | (with_reducible refine Below.setCell ?_ (by first | exact Nat.le_refl _ | (simp; done) | (simp; omega) | omega) _) | (with_reducible refine Below.alloc ?_ (by first | exact Nat.le_refl _ | (simp; done) | (simp; omega) | omega) _) | (with_reducible refine below_drewN ?_ _) | (with_reducible refine Below.drew ?_)) (Nat.le_refl _))).mono ?_
        rintro e w' ⟨rfl, q2, rfl⟩
        go_wp2_with fail
        go_ret
        exact ⟨rfl, (by repeat first | (with_reducible exact Below.refl _ _) | (with_reducible refine Below.setCell ?_ (by first | exact Nat.le_refl _ | (simp; done) | (simp; omega) | omega) _) | (with_reducible refine Below.alloc ?_ (by first | exact Nat.le_refl _ | (simp; done) | (simp; omega) | omega) _) | (with_reducible refine below_drewN ?_ _) | (with_reducible refine Below.drew ?_))⟩
    · rw [decide_eq_false h3]
      have hd : ((n2 : Int) == (n : Int) - 1) = false := beq_eq_false_iff_ne.2 h3
      have h3' := Lib.hid h3
      clear h3
      go_enter Try.func34, Try.ntmps34
      go_wp2_with (go_at_call 68; refine (isSide_any _ _).mono ?_; rintro e w' ⟨rfl, rfl⟩)
      go_ret
      exact ⟨rfl, (by repeat first | (with_reducible exact Below.refl _ _) | (with_reducible refine Below.setCell ?_ (by first | exact Nat.le_refl _ | (simp; done) | (simp; omega) | omega) _) | (with_reducible refine Below.alloc ?_ (by first | exact Nat.le_refl _ | (simp; done) | (simp; omega) | omega) _) | (with_reducible refine below_drewN ?_ _) | (with_reducible refine Below.drew ?_))⟩
set_option maxHeartbeats 1000000 in
theorem l04Is_any (b : Nat) (a : Option Addr) (n c : Nat) (Z : Nat → Nat) (a2 : Option Addr) (n2 c2 : Nat) (Z2 : Nat → Nat) (w : World) (hn : n ≤ 1048576) (hn2 : n2 ≤ 1048576) (hb : BoxC w b a n c a2 n2 c2) (h : FS .f32 w a n c Z) (h2 : FS .f32 w a2 n2 c2 Z2) :
    Calls Try.prog 65 #[.pointer (some ⟨b, 0, none⟩)] w fun e w' => e = .returned (.bool (chainB n (vals Z) n2 (vals Z2))) ∧ ∃ m, w' = w.drewN m := by
  obtain ⟨b0, b1⟩ := hb
  unfold chainB
  by_cases h1 : 1 ≤ (n : Int)
  · have d1 : decide (1 ≤ (n : Int)) = true := decide_eq_true h1
    by_cases h12 : (n : Int) ≤ 12
    · have d2 : decide ((n : Int) ≤ 12) = true := decide_eq_true h12
      rw [sideB_yes h1 h12]
      by_cases h3 : (n2 : Int) = (n : Int) - 1
      · rw [decide_eq_true h3]
        have hd : ((n2 : Int) == (n : Int) - 1) = true := beq_iff_eq.2 h3
        have h3' := Lib.hid h3
        clear h3
        cases hv : allFin (vals Z) n with
        | false =>
          go_enter Try.func65, Try.ntmps65
          go_wp2_with fail
          go_at_call 81
          refine (specFin_any a n c Z _ hn h).mono ?_
          rintro e w' ⟨rfl, q, rfl⟩
          go_wp2_with fail
          go_ret
          exact ⟨rfl, _, rfl⟩
        | true =>
          go_enter Try.func65, Try.ntmps65
          go_wp2_with fail
          go_at_call 81
          refine (specFin_any a n c Z _ hn h).mono ?_
          rintro e w' ⟨rfl, q, rfl⟩
          go_wp2_with fail
          go_at_call 81
          refine (specFin_any a2 n2 c2 Z2 _ hn2 (FS.drewN h2)).mono ?_
          rintro e w' ⟨rfl, q2, rfl⟩
          go_wp2_with fail
          go_ret
          exact ⟨rfl, _, rfl⟩
      · rw [decide_eq_false h3]
        have hd : ((n2 : Int) == (n : Int) - 1) = false := beq_eq_false_iff_ne.2 h3
        have h3' := Lib.hid h3
        clear h3
        go_enter Try.func65, Try.ntmps65
        go_wp2_with fail
        go_ret
        exact ⟨rfl, 0, rfl⟩
    · have d2 : decide ((n : Int) ≤ 12) = false := decide_eq_false h12
      rw [sideB_no2 h12]
      go_enter Try.func65, Try.ntmps65
      go_wp2_with fail
      go_ret
      exact ⟨rfl, 0, rfl⟩
  · have d1 : decide (1 ≤ (n : Int)) = false := decide_eq_false h1
    rw [sideB_no1 h1]
    go_enter Try.func65, Try.ntmps65
    go_wp2_with fail
    go_ret
    exact ⟨rfl, 0, rfl⟩
end Go.Proofs.Ytmddhhmgfhljiab
