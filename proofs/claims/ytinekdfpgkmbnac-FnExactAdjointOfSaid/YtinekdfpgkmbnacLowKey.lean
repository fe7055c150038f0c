/- Helper: whether a whole is low, sets of indices, determinants in some rows and columns, of the program and of its reference. Conditions: none. -/
import Derived.Test.YtinekdfpgkmbnacMinorKey
set_option linter.unusedVariables false
set_option linter.unusedSimpArgs false
namespace Go.Proofs.Ytinekdfpgkmbnac
open Go.RowKit

theorem with_more {Z : Nat → Int} : ∀ {n : Nat}, withB 100 Z n = true → withB 1000000 Z n = true
  | 0, _ => rfl
  | n + 1, h => by
    simp only [withB, Bool.and_eq_true] at h ⊢
    refine ⟨with_more h.1, ?_⟩
    have := h.2
    unfold inB at this ⊢
    simp only [Bool.and_eq_true, decide_eq_true_eq] at this ⊢
    omega
theorem low_of (R C : Int) (n : Nat) (Z : Nat → Int) : wholeB 100 R C n Z = (wholeB 1000000 R C n Z && withB 100 Z n) := by
  unfold wholeB
  cases h : withB 100 Z n with
  | false => simp
  | true => rw [with_more h]; simp
theorem low_abs {R C : Int} {n : Nat} {Z : Nat → Int} (h : withB 100 Z n = true) : ∀ i, i < n → (Z i).natAbs ≤ 100 := fun i hi => by
  have := withB_at h hi
  omega
/-- A whole number, and whether it is told. -/
def NumTell (ok : Bool) (X : Int) (w : World) (e : Ending) (w' : World) : Prop := e = .returned (.tuple #[.int .i64 X, .bool ok]) ∧ Below w.heap.size w w'

set_option maxHeartbeats 1000000 in
theorem isLow_any (R C : Int) (a : Option Addr) (n c : Nat) (Z : Nat → Int) (w : World) (hn : n ≤ 1048576) (h : IS .i64 w a n c Z) :
    Calls Try.prog 38 #[.agg #[.int .i64 R, .int .i64 C, .slice a n c]] w (BoolBel (wholeB 100 R C n Z) w) := by
  rw [low_of]
  have hV := fun W (f : IS .i64 W a n c Z) => implWhole_any R C a n c Z W hn f
  cases hv : wholeB 1000000 R C n Z with
  | false =>
    rw [hv] at hV
    clear hv
    go_enter Try.func38, Try.ntmps38
    go_wp2_with fail
    go_at_call 57
    refine (hV _ (h.below (by repeat first | (with_reducible exact Below.refl _ _) | (with_reducible refine Below.setCell ?_ (by first | exact Nat.le_refl _ | (simp; done) | (simp; omega) | omega) _) | (with_reducible refine Below.alloc ?_ (by first | exact Nat.le_refl _ | (simp; done) | (simp; omega) | omega) _) | (with_reducible refine below_drewN ?_ _) | (with_reducible refine Below.drew ?_)) (Nat.le_refl _))).mono ?_
    rintro e w1 ⟨rfl, b1⟩
    have B1 : Hid (Below w.heap.size w w1) := Lib.hid (Below.trans (by repeat first | (with_reducible exact Below.refl _ _) | (with_reducible refine Below.setCell ?_ (by first | exact Nat.le_refl _ | (simp; done) | (simp; omega) | omega) _) | (with_reducible refine Below.alloc ?_ (by first | exact Nat.le_refl _ | (simp; done) | (simp; omega) | omega) _) | (with_reducible refine below_drewN ?_ _) | (with_reducible refine Below.drew ?_)) (b1.mono (by simp)))
    clear b1
    go_wp2_with fail
    go_ret
    exact ⟨rfl, B1.out⟩
  | true =>
    rw [hv] at hV
    clear hv
    have hW : ∀ W, IS .i64 W a n c Z → Calls Try.prog 58 #[.slice a n c, .int .i64 100] W fun e w' => e = .returned (.bool (withB 100 Z n)) ∧ W = w' := fun W hW => areWithin_any 100 a n c Z W (by omega) hn hW
    go_enter Try.func38, Try.ntmps38
    go_wp2_with fail
    go_at_call 57
    refine (hV _ (h.below (by repeat first | (with_reducible exact Below.refl _ _) | (with_reducible refine Below.setCell ?_ (by first | exact Nat.le_refl _ | (simp; done) | (simp; omega) | omega) _) | (with_reducible refine Below.alloc ?_ (by first | exact Nat.le_refl _ | (simp; done) | (simp; omega) | omega) _) | (with_reducible refine below_drewN ?_ _) | (with_reducible refine Below.drew ?_)) (Nat.le_refl _))).mono ?_
    rintro e w1 ⟨rfl, b1⟩
    have X1 : Box w1 w.heap.size R C a n c := Box.below (Box.new _ _ _ _ _ _ _) b1 (by simp)
    obtain ⟨x0, x1, x2⟩ := X1
    have b2 : Below w.heap.size w w1 := Below.trans (by repeat first | (with_reducible exact Below.refl _ _) | (with_reducible refine Below.setCell ?_ (by first | exact Nat.le_refl _ | (simp; done) | (simp; omega) | omega) _) | (with_reducible refine Below.alloc ?_ (by first | exact Nat.le_refl _ | (simp; done) | (simp; omega) | omega) _) | (with_reducible refine below_drewN ?_ _) | (with_reducible refine Below.drew ?_)) (b1.mono (by simp))
    have F1 := h.below b2 (Nat.le_refl _)
    have B1 := Lib.hid b2
    clear b1 b2 h
    cases withB 100 Z n
    all_goals
      go_wp2_with (go_at_call 58; refine (hW _ F1).mono ?_; rintro e w' ⟨rfl, rfl⟩)
      go_ret
      exact ⟨rfl, B1.out⟩
theorem specLow_any (b : Nat) (R C : Int) (a : Option Addr) (n c : Nat) (Z : Nat → Int) (w : World) (hn : n ≤ 1048576) (hb : Box w b R C a n c) (h : IS .i64 w a n c Z) :
    Calls Try.prog 31 #[.pointer (some ⟨b, 0, none⟩)] w fun e w' => e = .returned (.bool (wholeB 100 R C n Z)) ∧ ∃ q, w' = w.drewN q := by
  have hs := specWhole_any 100 b R C a n c Z w (by omega) hn hb h
  go_enter Try.func31, Try.ntmps31
  go_wp2_with (go_at_call 56; refine hs.mono ?_; rintro e w' ⟨rfl, q, rfl⟩)
  go_ret
  exact ⟨rfl, _, rfl⟩

/-- Sets of indices: ascending, from 0 to b - 1. -/
def prevI (Z : Nat → Int) : Nat → Int
  | 0 => -1
  | k + 1 => Z k
def setAt (Z : Nat → Int) (b : Int) (k : Nat) : Bool := decide (prevI Z k < Z k) && decide (Z k < b)
def setTo (Z : Nat → Int) (b : Int) : Nat → Bool
  | 0 => true
  | k + 1 => setTo Z b k && setAt Z b k
def setB (Z : Nat → Int) (b : Int) (n : Nat) : Bool := decide (0 < n) && setTo Z b n
theorem setTo_bad {Z : Nat → Int} {b : Int} {i : Nat} (h : setAt Z b i = false) : ∀ {k : Nat}, i < k → setTo Z b k = false
  | 0, hk => by omega
  | k + 1, hk => by
    by_cases e : i = k
    · subst e; simp [setTo, h]
    · simp [setTo, setTo_bad h (show i < k by omega)]
theorem setTo_lo {Z : Nat → Int} {b : Int} {n : Nat} : setTo Z b n = true → ∀ k, k < n → (k : Int) ≤ Z k ∧ Z k < b := by
  induction n with
  | zero => intro _ k hk; omega
  | succ n ih =>
    intro h k hk
    simp only [setTo, Bool.and_eq_true] at h
    by_cases e : k = n
    · subst e
      have h2 := h.2
      unfold setAt at h2
      simp only [Bool.and_eq_true, decide_eq_true_eq] at h2
      rcases k with _ | q
      · simp only [prevI] at h2; exact ⟨by omega, h2.2⟩
      · have := ih h.1 q (by omega)
        simp only [prevI] at h2
        exact ⟨by omega, h2.2⟩
    · exact ih h.1 k (by omega)
theorem prevI_ge {Z : Nat → Int} {b : Int} {k : Nat} (h : setTo Z b k = true) : -1 ≤ prevI Z k := by
  rcases k with _ | q
  · simp [prevI]
  · have := setTo_lo h q (by omega)
    simp only [prevI]; omega

set_option maxHeartbeats 1000000 in
theorem areColumns_any (a : Option Addr) (n c : Nat) (Z : Nat → Int) (b : Int) (w : World) (hn : n ≤ 1048576) (h : IS .i64 w a n c Z) :
    Calls Try.prog 59 #[.slice a n c, .int .i64 b] w fun e w' => e = .returned (.bool (setTo Z b n)) ∧ w = w' := by
  go_enter Try.func59, Try.ntmps59
  go_wp2
  go_loop [5, 10] (fun s i => ∃ j : Nat, j ≤ n ∧ i = .int .i64 j ∧ s = .int .i64 (prevI Z j) ∧ Hid (setTo Z b j = true)) (fun _ i => n - (intOf i).toNat)
  case atStart => exact ⟨0, Nat.zero_le _, rfl, rfl, Lib.hid rfl⟩
  case round =>
    obtain ⟨j, hj, rfl, rfl, ho⟩ := hrel
    by_cases hlt : j < n
    · obtain ⟨bb, off, rfl, hbl, hc, hw⟩ := IS.at h hlt
      clear h hbl hw
      have hP : Hid (prevI Z (j + 1) = Z j) := Lib.hid rfl
      by_cases h1 : prevI Z j < Z j
      · have d1 : decide (Z j ≤ prevI Z j) = false := decide_eq_false (by omega)
        by_cases h2 : Z j < b
        · have HN : Hid (setTo Z b (j + 1) = true) := Lib.hid (by simp only [setTo, ho.out]; unfold setAt; rw [decide_eq_true h1, decide_eq_true h2]; rfl)
          have d2 : decide (b ≤ Z j) = false := decide_eq_false (by omega)
          clear h1 h2
          generalize Z j = x at hc d1 d2 hP
          generalize prevI Z j = p at d1
          go_wp2
          go_round
          case rel => exact ⟨j + 1, by omega, by go_num, by rw [hP.out], HN⟩
          case measure => simp [intOf]; omega
        · have HN := Lib.hid (setTo_bad (show setAt Z b j = false by unfold setAt; rw [decide_eq_false h2]; simp) hlt)
          have d2 : decide (b ≤ Z j) = true := decide_eq_true (by omega)
          clear h1 h2
          generalize Z j = x at hc d1 d2
          generalize prevI Z j = p at d1
          go_wp2
          go_ret
          exact ⟨by rw [HN.out]; rfl, rfl⟩
      · have HN := Lib.hid (setTo_bad (show setAt Z b j = false by unfold setAt; rw [decide_eq_false h1]; rfl) hlt)
        have d1 : decide (Z j ≤ prevI Z j) = true := decide_eq_true (by omega)
        clear h1
        generalize Z j = x at hc d1
        generalize prevI Z j = p at d1
        go_wp2
        go_ret
        exact ⟨by rw [HN.out]; rfl, rfl⟩
    · obtain rfl : j = n := by omega
      go_wp2
      go_ret
      exact ⟨by rw [ho.out]; rfl, rfl⟩
theorem isIndexSet_any (a : Option Addr) (n c : Nat) (Z : Nat → Int) (b : Int) (w : World) (hn : n ≤ 1048576) (h : IS .i64 w a n c Z) :
    Calls Try.prog 39 #[.slice a n c, .int .i64 b] w fun e w' => e = .returned (.bool (setB Z b n)) ∧ w = w' := by
  unfold setB
  by_cases h0 : 0 < n
  · rw [decide_eq_true h0]
    have d0 : decide (0 < (n : Int)) = true := decide_eq_true (by omega)
    have hs := fun W (f : IS .i64 W a n c Z) => areColumns_any a n c Z b W hn f
    cases hv : setTo Z b n
    all_goals
      rw [hv] at hs
      clear hv
      go_enter Try.func39, Try.ntmps39
      go_wp2_with (go_at_call 59; refine (hs _ h).mono ?_; rintro e w' ⟨rfl, rfl⟩)
      go_ret
      exact ⟨rfl, rfl⟩
  · rw [decide_eq_false h0]
    have d0 : decide (0 < (n : Int)) = false := decide_eq_false (by omega)
    obtain rfl : n = 0 := by omega
    go_enter Try.func39, Try.ntmps39
    go_wp2
    go_ret
    exact ⟨rfl, rfl⟩
set_option maxHeartbeats 2000000 in
theorem specSet_any (a : Option Addr) (n c : Nat) (Z : Nat → Int) (b : Int) (w : World) (hn : n ≤ 1048576) (hb : 1 ≤ b ∧ b ≤ 6) (h : IS .i64 w a n c Z) :
    Calls Try.prog 37 #[.slice a n c, .int .i64 b] w fun e w' => e = .returned (.bool (setB Z b n)) ∧ ∃ q, w' = w.drewN q := by
  have HB : Hid (setB Z b n = (decide (0 < n) && setTo Z b n)) := Lib.hid rfl
  obtain ⟨hb1, hb2⟩ := hb
  have hwb : IntKind.i64.wrap (b - 1) = b - 1 := IntWalk.i64_in _ (by omega)
  go_enter Try.func37, Try.ntmps37
  go_wp2
  go_loopw [5] (fun i wr => ∃ j m : Nat, j ≤ n ∧ i = .int .i64 j ∧ Hid (wr = w.drewN m) ∧ Hid (setTo Z b j = true)) (fun i _ => n - (intOf i).toNat)
  case atStart => exact ⟨0, 0, Nat.zero_le _, rfl, Lib.hid rfl, Lib.hid rfl⟩
  case round =>
    obtain ⟨j, m, hj, rfl, hwr, ho⟩ := hrel
    have hfin : Hid (∀ q, wr.drewN q = w.drewN (m + q)) := Lib.hid (fun q => by rw [hwr.out]; exact World.drewN_drewN ..)
    by_cases hlt : j < n
    · obtain ⟨bb, off, rfl, hbl, hc0, hw⟩ := IS.at h hlt
      have hc : wr.cell? ⟨bb, off + j, none⟩ = some (.int .i64 (Z j)) := by rw [hwr.out]; exact hc0
      clear hc0
      have hdj : decide ((j : Int) < (n : Int)) = true := decide_eq_true (by omega)
      have hp := prevI_ge ho.out
      have hin : ∀ q, Calls Try.prog 50 #[.int .i64 (Z j), .int .i64 0, .int .i64 (b - 1)] (wr.drewN q) fun e w' => e = .returned (.bool (inB (Z j) 0 (b - 1))) ∧ wr.drewN q = w' := fun q => l00In_any _ _ _ _
      cases hi : inB (Z j) 0 (b - 1) with
      | false =>
        have HN := Lib.hid (setTo_bad (b := b) (show setAt Z b j = false by
          unfold inB at hi
          unfold setAt
          by_cases y0 : 0 ≤ Z j
          · rw [decide_eq_true y0] at hi
            rw [decide_eq_false (show ¬ Z j < b by intro y1; rw [decide_eq_true (show Z j ≤ b - 1 by omega)] at hi; cases hi)]; simp
          · rw [decide_eq_false (show ¬ prevI Z j < Z j by omega)]; rfl) hlt)
        rw [hi] at hin
        clear hi h hbl hw
        generalize Z j = x at hc hin
        go_wp2
        go_quiet ((go_at_call 50; exact quiet_left (hin _)))
        go_wp2
        go_ret
        exact ⟨by rw [HB.out, HN.out]; simp, _, hfin.out _⟩
      | true =>
        have hi2 := hi
        unfold inB at hi2
        simp only [Bool.and_eq_true, decide_eq_true_eq] at hi2
        rw [hi] at hin
        clear hi
        by_cases hj0 : j = 0
        · subst hj0
          have HN : Hid (setTo Z b (0 + 1) = true) := Lib.hid (by simp only [setTo]; unfold setAt; rw [decide_eq_true (show prevI Z 0 < Z 0 by simp only [prevI]; omega), decide_eq_true (show Z 0 < b by omega)]; rfl)
          clear h hbl hw hp
          simp only [Nat.add_zero] at hc
          have hd0 : decide ((0 : Int) < ((0 : Nat) : Int)) = false := by decide
          generalize Z 0 = x at hc hin hi2
          go_wp2
          go_quiet ((go_at_call 50; exact quiet_left (hin _)))
          go_wp2
          go_roundw
          case rel => exact ⟨1, _, by omega, by go_num, Lib.hid (hfin.out _), HN⟩
          case measure => simp [intOf]; omega
        · obtain ⟨q, hq⟩ : ∃ q, j = q + 1 := ⟨j - 1, by omega⟩
          obtain ⟨bb', off', e, _, hc3, _⟩ := IS.at h (show q < n by omega)
          simp only [Option.some.injEq, Addr.mk.injEq, and_true] at e
          obtain ⟨rfl, rfl⟩ := e
          have hc2 : wr.cell? ⟨bb, off + q, none⟩ = some (.int .i64 (Z q)) := by rw [hwr.out]; exact hc3
          have hcap := h.1
          have hqn : q < n := by omega
          clear h hbl hw hc3
          have hd0 : decide ((0 : Int) < (j : Int)) = true := decide_eq_true (by omega)
          have hd00 : (0 : Int) < (j : Int) := by omega
          have hd1 : decide (0 < j) = true := decide_eq_true (by omega)
          have hwq : IntKind.i64.wrap ((j : Int) - 1) = (q : Int) := by rw [show (j : Int) - 1 = (q : Int) by omega]; exact IntWalk.i64_in _ (by omega)
          have hPJ : prevI Z j = Z q := by rw [hq]; rfl
          have HQ := Lib.hid hq
          clear hq
          by_cases h1 : Z q < Z j
          · have HN : Hid (setTo Z b (j + 1) = true) := Lib.hid (by
              simp only [setTo]
              rw [ho.out]; unfold setAt; rw [hPJ, decide_eq_true h1, decide_eq_true (show Z j < b by omega)]; rfl)
            have d1 : decide (Z j ≤ Z q) = false := decide_eq_false (by omega)
            clear h1 hp hPJ
            generalize Z j = x at hc hin hi2 d1
            generalize Z q = y at hc2 d1
            go_wp2
            go_quiet ((go_at_call 50; exact quiet_left (hin _)))
            go_wp2
            go_roundw
            case rel => exact ⟨j + 1, _, by omega, by go_num, Lib.hid (hfin.out _), HN⟩
            case measure => simp [intOf]; omega
          · have HN := Lib.hid (setTo_bad (b := b) (show setAt Z b j = false by unfold setAt; rw [hPJ, decide_eq_false h1]; rfl) hlt)
            have d1 : decide (Z j ≤ Z q) = true := decide_eq_true (by omega)
            clear h1 hp hPJ
            generalize Z j = x at hc hin hi2 d1
            generalize Z q = y at hc2 d1
            go_wp2
            go_quiet ((go_at_call 50; exact quiet_left (hin _)))
            go_wp2
            go_ret
            exact ⟨by rw [HB.out, HN.out]; simp, _, hfin.out _⟩
    · obtain rfl : j = n := by omega
      by_cases h0 : 0 < j
      · have d0 : decide (0 < (j : Int)) = true := decide_eq_true (by omega)
        have d1 : decide (0 < j) = true := decide_eq_true h0
        have HX : Hid (setB Z b j = true) := Lib.hid (by unfold setB; rw [ho.out, d1]; rfl)
        go_wp2
        go_ret
        exact ⟨by rw [HX.out]; rfl, _, hfin.out 0⟩
      · have d0 : decide (0 < (j : Int)) = false := decide_eq_false (by omega)
        have d1 : decide (0 < j) = false := decide_eq_false h0
        have HX : Hid (setB Z b j = false) := Lib.hid (by unfold setB; rw [d1]; rfl)
        go_wp2
        go_ret
        exact ⟨by rw [HX.out]; rfl, _, hfin.out 0⟩
end Go.Proofs.Ytinekdfpgkmbnac
