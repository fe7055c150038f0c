/- Helper: whether a matrix is a square, of the program and of its reference. Conditions: none. -/
import Derived.Test.YtcibjkadlndejaaMatWalks
import Derived.Test.YtcibjkadlndejaaVecSums
set_option linter.unusedVariables false
set_option linter.unusedSimpArgs false
namespace Go.Proofs.Ytcibjkadlndejaa
open Go.RowKit

/-- What a square is. -/
def squareB (R C : Int) (n : Nat) (V : Nat → Option Nat) : Bool := validB R C n V && decide (R = C)
theorem square_nat {R C : Int} {n : Nat} {V : Nat → Option Nat} (h : squareB R C n V = true) : ∃ r : Nat, R = r ∧ C = r ∧ 1 ≤ r ∧ r ≤ 12 ∧ n = r * r ∧ allFin V n = true := by
  unfold squareB at h
  simp only [Bool.and_eq_true, decide_eq_true_eq] at h
  obtain ⟨hv, e⟩ := h
  obtain ⟨r, c, h1, h2, h3, h4, h5, h6, h7, h8⟩ := valid_nat hv
  have : r = c := by omega
  subst this
  exact ⟨r, h1, h2, h3, h4, h7, h8⟩

theorem implSquare_any (R C : Int) (a : Option Addr) (n c : Nat) (Z : Nat → Nat) (w : World) (hn : n ≤ 1048576) (h : FS .f32 w a n c Z) :
    Calls Try.prog 72 #[.agg #[.int .i64 R, .int .i64 C, .slice a n c]] w fun e w' => e = .returned (.bool (squareB R C n (vals Z))) ∧ Below w.heap.size w w' := by
  unfold squareB
  cases hv : validB R C n (vals Z) with
  | false =>
    go_enter Try.func72, Try.ntmps72
    go_wp2_with fail
    go_at_call 39
    refine (implValid_any R C a n c Z _ hn (h.below (by repeat first | (with_reducible exact Below.refl _ _) | (with_reducible refine Below.setCell ?_ (by first | exact Nat.le_refl _ | (simp; done) | (simp; omega) | omega) _) | (with_reducible refine Below.alloc ?_ (by first | exact Nat.le_refl _ | (simp; done) | (simp; omega) | omega) _) | (with_reducible refine below_drewN ?_ _) | (with_reducible refine Below.drew ?_)) (Nat.le_refl _))).mono ?_
    rintro e w1 ⟨rfl, b1⟩
    have B1 : Below w.heap.size w w1 := Below.trans (by repeat first | (with_reducible exact Below.refl _ _) | (with_reducible refine Below.setCell ?_ (by first | exact Nat.le_refl _ | (simp; done) | (simp; omega) | omega) _) | (with_reducible refine Below.alloc ?_ (by first | exact Nat.le_refl _ | (simp; done) | (simp; omega) | omega) _) | (with_reducible refine below_drewN ?_ _) | (with_reducible refine Below.drew ?_)) (b1.mono (by simp))
    go_wp2_with fail
    go_ret
    exact ⟨rfl, B1⟩
  | true =>
    by_cases e : R = C
    · rw [decide_eq_true e]
      have hd : (R == C) = true := beq_iff_eq.2 e
      have e' := Lib.hid e
      clear e
      go_enter Try.func72, Try.ntmps72
      go_wp2_with fail
      go_at_call 39
      refine (implValid_any R C a n c Z _ hn (h.below (by repeat first | (with_reducible exact Below.refl _ _) | (with_reducible refine Below.setCell ?_ (by first | exact Nat.le_refl _ | (simp; done) | (simp; omega) | omega) _) | (with_reducible refine Below.alloc ?_ (by first | exact Nat.le_refl _ | (simp; done) | (simp; omega) | omega) _) | (with_reducible refine below_drewN ?_ _) | (with_reducible refine Below.drew ?_)) (Nat.le_refl _))).mono ?_
      rintro e w1 ⟨rfl, b1⟩
      have B1 : Below w.heap.size w w1 := Below.trans (by repeat first | (with_reducible exact Below.refl _ _) | (with_reducible refine Below.setCell ?_ (by first | exact Nat.le_refl _ | (simp; done) | (simp; omega) | omega) _) | (with_reducible refine Below.alloc ?_ (by first | exact Nat.le_refl _ | (simp; done) | (simp; omega) | omega) _) | (with_reducible refine below_drewN ?_ _) | (with_reducible refine Below.drew ?_)) (b1.mono (by simp))
      obtain ⟨x0, x1, x2⟩ := (Box.new _ _ _ _ _ _ _).below b1 (by simp)
      go_wp2_with fail
      go_ret
      exact ⟨rfl, B1⟩
    · rw [decide_eq_false e]
      have hd : (R == C) = false := beq_eq_false_iff_ne.2 e
      have e' := Lib.hid e
      clear e
      go_enter Try.func72, Try.ntmps72
      go_wp2_with fail
      go_at_call 39
      refine (implValid_any R C a n c Z _ hn (h.below (by repeat first | (with_reducible exact Below.refl _ _) | (with_reducible refine Below.setCell ?_ (by first | exact Nat.le_refl _ | (simp; done) | (simp; omega) | omega) _) | (with_reducible refine Below.alloc ?_ (by first | exact Nat.le_refl _ | (simp; done) | (simp; omega) | omega) _) | (with_reducible refine below_drewN ?_ _) | (with_reducible refine Below.drew ?_)) (Nat.le_refl _))).mono ?_
      rintro e w1 ⟨rfl, b1⟩
      have B1 : Below w.heap.size w w1 := Below.trans (by repeat first | (with_reducible exact Below.refl _ _) | (with_reducible refine Below.setCell ?_ (by first | exact Nat.le_refl _ | (simp; done) | (simp; omega) | omega) _) | (with_reducible refine Below.alloc ?_ (by first | exact Nat.le_refl _ | (simp; done) | (simp; omega) | omega) _) | (with_reducible refine below_drewN ?_ _) | (with_reducible refine Below.drew ?_)) (b1.mono (by simp))
      obtain ⟨x0, x1, x2⟩ := (Box.new _ _ _ _ _ _ _).below b1 (by simp)
      go_wp2_with fail
      go_ret
      exact ⟨rfl, B1⟩
theorem specSquare_any (b : Nat) (R C : Int) (a : Option Addr) (n c : Nat) (Z : Nat → Nat) (w : World) (hn : n ≤ 1048576) (hb : Box w b R C a n c) (h : FS .f32 w a n c Z) :
    Calls Try.prog 69 #[.pointer (some ⟨b, 0, none⟩)] w fun e w' => e = .returned (.bool (squareB R C n (vals Z))) ∧ ∃ m, w' = w.drewN m := by
  unfold squareB
  have hs : ∀ W, Box W b R C a n c → FS .f32 W a n c Z → Calls Try.prog 37 #[.pointer (some ⟨b, 0, none⟩)] W fun e w' => e = .returned (.bool (validB R C n (vals Z))) ∧ ∃ m, w' = W.drewN m := fun W hB hF => specIs_any b R C a n c Z W hn hB hF
  have hb' := Lib.hid hb
  obtain ⟨hb0, hb1, hb2⟩ := hb
  cases hv : validB R C n (vals Z) with
  | false =>
    rw [hv] at hs
    clear hv
    go_enter Try.func69, Try.ntmps69
    go_wp2
    go_quiet ((go_at_call 37; exact Calls.quiet_of (hs _ hb'.out (FS.drewN h))))
    go_wp2
    go_ret
    exact ⟨rfl, _, rfl⟩
  | true =>
    rw [hv] at hs
    clear hv
    by_cases e : R = C
    · rw [decide_eq_true e]
      have hd : (R == C) = true := beq_iff_eq.2 e
      have e' := Lib.hid e
      clear e
      go_enter Try.func69, Try.ntmps69
      go_wp2
      go_quiet ((go_at_call 37; exact Calls.quiet_of (hs _ hb'.out (FS.drewN h))))
      go_wp2
      go_ret
      exact ⟨rfl, _, rfl⟩
    · rw [decide_eq_false e]
      have hd : (R == C) = false := beq_eq_false_iff_ne.2 e
      have e' := Lib.hid e
      clear e
      go_enter Try.func69, Try.ntmps69
      go_wp2
      go_quiet ((go_at_call 37; exact Calls.quiet_of (hs _ hb'.out (FS.drewN h))))
      go_wp2
      go_ret
      exact ⟨rfl, _, rfl⟩

end Go.Proofs.Ytcibjkadlndejaa
