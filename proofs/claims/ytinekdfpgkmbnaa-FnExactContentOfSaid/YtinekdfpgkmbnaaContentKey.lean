/- Helper: the greatest number that divides all numbers of a whole, of the program and of its reference. Conditions: none. -/
import Derived.Test.YtinekdfpgkmbnaaValidWholeKey
set_option linter.unusedVariables false
set_option linter.unusedSimpArgs false
namespace Go.Proofs.Ytinekdfpgkmbnaa
open Go.RowKit

/-- The greatest number that divides the first k. -/
def gcdTo (Z : Nat → Int) : Nat → Int
  | 0 => 0
  | k + 1 => (Int.gcd (gcdTo Z k) (Z k) : Int)
theorem gcdTo_fit {Z : Nat → Int} {n : Nat} (h : ∀ i, i < n → -1000000 ≤ Z i ∧ Z i ≤ 1000000) : ∀ k, k ≤ n → 0 ≤ gcdTo Z k ∧ gcdTo Z k ≤ 1000000
  | 0, _ => by simp [gcdTo]
  | k + 1, hk => by
    have ih := gcdTo_fit h k (by omega)
    have hz := h k (by omega)
    refine ⟨by simp only [gcdTo]; omega, ?_⟩
    have hg : gcdTo Z (k + 1) = (Int.gcd (gcdTo Z k) (Z k) : Int) := rfl
    rw [hg]
    by_cases h0 : Z k = 0
    · have e := gcd_end (gcdTo Z k)
      rw [h0, e]
      split <;> omega
    · have hle : Nat.gcd (gcdTo Z k).natAbs (Z k).natAbs ≤ (Z k).natAbs := Nat.gcd_le_right _ (by omega)
      have hle' : Int.gcd (gcdTo Z k) (Z k) ≤ (Z k).natAbs := hle
      omega
theorem with_bd {Z : Nat → Int} {n : Nat} (h : withB 1000000 Z n = true) : ∀ i, i < n → -1000000 ≤ Z i ∧ Z i ≤ 1000000 := fun i hi => by
  have := withB_at h hi
  omega
/-- A whole number, and whether it is told. -/
def IntTell (ok : Bool) (X : Int) (w : World) (e : Ending) (w' : World) : Prop := e = .returned (.tuple #[.int .i64 X, .bool ok]) ∧ Below w.heap.size w w'

set_option maxHeartbeats 1000000 in
theorem implContent_no (R C : Int) (a : Option Addr) (n cap : Nat) (Z : Nat → Int) (w : World) (hn : n ≤ 1048576) (hv : wholeB 1000000 R C n Z = false) (h : IS .i64 w a n cap Z) :
    Calls Try.prog 18 #[.agg #[.int .i64 R, .int .i64 C, .slice a n cap]] w (IntTell false 0 w) := by
  have HV := Lib.hid hv
  clear hv
  go_enter Try.func18, Try.ntmps18
  go_wp2_with fail
  go_at_call 21
  refine (implWhole_any R C a n cap Z _ hn (h.below (by repeat first | (with_reducible exact Below.refl _ _) | (with_reducible refine Below.setCell ?_ (by first | exact Nat.le_refl _ | (simp; done) | (simp; omega) | omega) _) | (with_reducible refine Below.alloc ?_ (by first | exact Nat.le_refl _ | (simp; done) | (simp; omega) | omega) _) | (with_reducible refine below_drewN ?_ _) | (with_reducible refine Below.drew ?_)) (Nat.le_refl _))).mono ?_
  rintro e w1 ⟨rfl, b1⟩
  rw [HV.out]
  have B1 : Below w.heap.size w w1 := Below.trans (by repeat first | (with_reducible exact Below.refl _ _) | (with_reducible refine Below.setCell ?_ (by first | exact Nat.le_refl _ | (simp; done) | (simp; omega) | omega) _) | (with_reducible refine Below.alloc ?_ (by first | exact Nat.le_refl _ | (simp; done) | (simp; omega) | omega) _) | (with_reducible refine below_drewN ?_ _) | (with_reducible refine Below.drew ?_)) (b1.mono (by simp))
  have B2 := Lib.hid B1
  clear B1 b1
  go_wp2_with fail
  go_ret2
  exact ⟨rfl, B2.out⟩
set_option maxHeartbeats 2000000 in
theorem implContent_yes (r c n b off cap : Nat) (Z : Nat → Int) (w : World) (hn : n ≤ 36) (hv : wholeB 1000000 r c n Z = true) (hb : ∀ i, i < n → -1000000 ≤ Z i ∧ Z i ≤ 1000000)
    (h : IS .i64 w (some ⟨b, off, none⟩) n cap Z) :
    Calls Try.prog 18 #[.agg #[.int .i64 r, .int .i64 c, .slice (some ⟨b, off, none⟩) n cap]] w (IntTell true (gcdTo Z n) w) := by
  have HV := Lib.hid hv
  have HB := Lib.hid hb
  clear hv hb
  go_enter Try.func18, Try.ntmps18
  go_wp2_with fail
  generalize hwa : w.alloc (.cells #[.int .i64 r, .int .i64 c, .slice (some ⟨b, off, none⟩) n cap] 31) = wa
  have Ba : Below w.heap.size w wa := by rw [← hwa]; exact (by repeat first | (with_reducible exact Below.refl _ _) | (with_reducible refine Below.setCell ?_ (by first | exact Nat.le_refl _ | (simp; done) | (simp; omega) | omega) _) | (with_reducible refine Below.alloc ?_ (by first | exact Nat.le_refl _ | (simp; done) | (simp; omega) | omega) _) | (with_reducible refine below_drewN ?_ _) | (with_reducible refine Below.drew ?_))
  have sa : wa.heap.size = w.heap.size + 1 := by rw [← hwa]; simp
  have Xa : Box wa w.heap.size r c (some ⟨b, off, none⟩) n cap := by rw [← hwa]; exact Box.new _ _ _ _ _ _ _
  have Fa := h.below Ba (Nat.le_refl _)
  clear hwa h
  have la : w.heap.size < wa.heap.size := by omega
  go_at_call 21
  refine (implWhole_any r c _ n cap Z _ (by omega) Fa).mono ?_
  rintro e w2 ⟨rfl, b1⟩
  rw [HV.out]
  have F2 := Fa.below b1 (Nat.le_refl _)
  obtain ⟨x0, x1, x2⟩ := Xa.below b1 la
  have B2 := Lib.hid (Ba.trans (b1.mono Ba.size))
  clear Fa b1 Ba Xa
  go_wp2
  go_loopw [4, 13] (fun s i wr => ∃ j m : Nat, j ≤ n ∧ i = .int .i64 j ∧ s = .int .i64 (gcdTo Z j) ∧ wr = w2.drewN m) (fun _ i _ => n - (intOf i).toNat)
  case atStart => exact ⟨0, 0, Nat.zero_le _, rfl, rfl, rfl⟩
  case round =>
    obtain ⟨j, m, hj, rfl, rfl, rfl⟩ := hrel
    have hfit := gcdTo_fit HB.out j hj
    by_cases hlt : j < n
    · obtain ⟨b', off', e, hbl, hce, hwf⟩ := F2.at hlt
      simp only [Option.some.injEq, Addr.mk.injEq, and_true] at e
      obtain ⟨rfl, rfl⟩ := e
      have hz := HB.out j hlt
      have hS : Hid ((Int.gcd (gcdTo Z j) (Z j) : Int) = gcdTo Z (j + 1)) := Lib.hid rfl
      have hg : ∀ W, Calls Try.prog 27 #[.int .i64 (gcdTo Z j), .int .i64 (Z j)] W fun e w' => e = .returned (.int .i64 (Int.gcd (gcdTo Z j) (Z j) : Int)) ∧ ∃ q, w' = W.drewN q := fun W => implGcd_any _ _ W (by unfold Fit; omega) (by unfold Fit; omega)
      rw [hS.out] at hg
      clear hwf hbl hz hfit
      generalize gcdTo Z j = x at hg
      generalize Z j = z at hg hce
      clear hS
      go_wp2_with (go_at_call 27; refine (hg _).mono ?_; rintro e w' ⟨rfl, q, rfl⟩)
      go_roundw
      case rel => exact ⟨j + 1, _, by omega, by go_num, rfl, rfl⟩
      case measure => simp [intOf]; omega
    · obtain rfl : j = n := by omega
      go_wp2
      go_ret2
      exact ⟨rfl, below_drewN B2.out _⟩
set_option maxHeartbeats 1000000 in
theorem specContent_no (R C : Int) (a : Option Addr) (n cap : Nat) (Z : Nat → Int) (w : World) (hn : n ≤ 1048576) (hv : wholeB 1000000 R C n Z = false) (h : IS .i64 w a n cap Z) :
    Calls Try.prog 16 #[.agg #[.int .i64 R, .int .i64 C, .slice a n cap]] w (IntTell false 0 w) := by
  have HV := Lib.hid hv
  clear hv
  go_enter Try.func16, Try.ntmps16
  go_wp2_with fail
  go_at_call 33
  refine (specWhole_any 1000000 w.heap.size R C a n cap Z _ (by omega) hn ⟨by simp [go_sem], by simp [go_sem], by simp [go_sem]⟩ (h.below (by repeat first | (with_reducible exact Below.refl _ _) | (with_reducible refine Below.setCell ?_ (by first | exact Nat.le_refl _ | (simp; done) | (simp; omega) | omega) _) | (with_reducible refine Below.alloc ?_ (by first | exact Nat.le_refl _ | (simp; done) | (simp; omega) | omega) _) | (with_reducible refine below_drewN ?_ _) | (with_reducible refine Below.drew ?_)) (Nat.le_refl _))).mono ?_
  rintro e w1 ⟨rfl, m1, rfl⟩
  rw [show wholeB ((1000000 : Nat) : Int) R C n Z = false from HV.out]
  go_wp2_with fail
  go_ret2
  exact ⟨rfl, (by repeat first | (with_reducible exact Below.refl _ _) | (with_reducible refine Below.setCell ?_ (by first | exact Nat.le_refl _ | (simp; done) | (simp; omega) | omega) _) | (with_reducible refine Below.alloc ?_ (by first | exact Nat.le_refl _ | (simp; done) | (simp; omega) | omega) _) | (with_reducible refine below_drewN ?_ _) | (with_reducible refine Below.drew ?_))⟩
set_option maxHeartbeats 2000000 in
theorem specContent_yes (r c n b off cap : Nat) (Z : Nat → Int) (w : World) (hn : n ≤ 36) (hv : wholeB 1000000 r c n Z = true) (hb : ∀ i, i < n → -1000000 ≤ Z i ∧ Z i ≤ 1000000)
    (h : IS .i64 w (some ⟨b, off, none⟩) n cap Z) :
    Calls Try.prog 16 #[.agg #[.int .i64 r, .int .i64 c, .slice (some ⟨b, off, none⟩) n cap]] w (IntTell true (gcdTo Z n) w) := by
  have HV := Lib.hid hv
  have HB := Lib.hid hb
  clear hv hb
  go_enter Try.func16, Try.ntmps16
  go_wp2_with fail
  generalize hwa : w.alloc (.cells #[.int .i64 r, .int .i64 c, .slice (some ⟨b, off, none⟩) n cap] 31) = wa
  have Ba : Below w.heap.size w wa := by rw [← hwa]; exact (by repeat first | (with_reducible exact Below.refl _ _) | (with_reducible refine Below.setCell ?_ (by first | exact Nat.le_refl _ | (simp; done) | (simp; omega) | omega) _) | (with_reducible refine Below.alloc ?_ (by first | exact Nat.le_refl _ | (simp; done) | (simp; omega) | omega) _) | (with_reducible refine below_drewN ?_ _) | (with_reducible refine Below.drew ?_))
  have sa : wa.heap.size = w.heap.size + 1 := by rw [← hwa]; simp
  have Xa : Box wa w.heap.size r c (some ⟨b, off, none⟩) n cap := by rw [← hwa]; exact Box.new _ _ _ _ _ _ _
  have Fa := h.below Ba (Nat.le_refl _)
  clear hwa h
  have la : w.heap.size < wa.heap.size := by omega
  go_at_call 33
  refine (specWhole_any 1000000 w.heap.size r c _ n cap Z _ (by omega) (by omega) Xa Fa).mono ?_
  rintro e w2 ⟨rfl, m1, rfl⟩
  rw [show wholeB ((1000000 : Nat) : Int) r c n Z = true from HV.out]
  have F2 := Fa
  obtain ⟨x0, x1, x2⟩ := Xa
  have B2 := Lib.hid Ba
  clear Fa Ba
  go_wp2
  go_loopw [4, 5] (fun s i wr => ∃ j m : Nat, j ≤ n ∧ i = .int .i64 j ∧ s = .int .i64 (gcdTo Z j) ∧ wr = wa.drewN m) (fun _ i _ => n - (intOf i).toNat)
  case atStart => exact ⟨0, m1, Nat.zero_le _, rfl, rfl, rfl⟩
  case round =>
    obtain ⟨j, m, hj, rfl, rfl, rfl⟩ := hrel
    have hfit := gcdTo_fit HB.out j hj
    by_cases hlt : j < n
    · obtain ⟨b', off', e, hbl, hce, hwf⟩ := F2.at hlt
      simp only [Option.some.injEq, Addr.mk.injEq, and_true] at e
      obtain ⟨rfl, rfl⟩ := e
      have hz := HB.out j hlt
      have hd : decide ((j : Int) < (n : Int)) = true := decide_eq_true (by omega)
      have hS : Hid ((Int.gcd (gcdTo Z j) (Z j) : Int) = gcdTo Z (j + 1)) := Lib.hid rfl
      have hg : ∀ W, Calls Try.prog 25 #[.int .i64 (gcdTo Z j), .int .i64 (Z j)] W fun e w' => e = .returned (.int .i64 (Int.gcd (gcdTo Z j) (Z j) : Int)) ∧ W = w' := fun W => specGcd_any _ _ W (by unfold Fit; omega) (by unfold Fit; omega)
      rw [hS.out] at hg
      clear hwf hbl hz hfit
      generalize gcdTo Z j = x at hg
      generalize Z j = z at hg hce
      clear hS
      go_wp2_with (go_at_call 25; refine (hg _).mono ?_; rintro e w' ⟨rfl, rfl⟩)
      go_roundw
      case rel => exact ⟨j + 1, _, by omega, by go_num, rfl, rfl⟩
      case measure => simp [intOf]; omega
    · obtain rfl : j = n := by omega
      go_wp2
      go_ret2
      exact ⟨rfl, below_drewN B2.out _⟩
theorem keyContentOf (R C : Int) (n : Nat) (Z : Nat → Int) (wR : (Lit.int .i64 R).wf = true) (wC : (Lit.int .i64 C).wf = true) (hn : n ≤ 1048576) : ∃ (ok : Bool) (X : Int),
    (∀ a c W, IS .i64 W a n c Z → Calls Try.prog 16 #[.agg #[.int .i64 R, .int .i64 C, .slice a n c]] W (IntTell ok X W)) ∧
    (∀ a c W, IS .i64 W a n c Z → Calls Try.prog 18 #[.agg #[.int .i64 R, .int .i64 C, .slice a n c]] W (IntTell ok X W)) := by
  cases hv : wholeB 1000000 R C n Z with
  | false => exact ⟨false, 0, fun a c W h => specContent_no R C a n c Z W hn hv h, fun a c W h => implContent_no R C a n c Z W hn hv h⟩
  | true =>
    obtain ⟨r, c, rfl, rfl, h1, h2, h3, h4, h5, h6⟩ := whole_nat hv
    have hn36 : n ≤ 36 := by have : r * c ≤ 6 * 6 := Nat.mul_le_mul h2 h4; omega
    have hpos : 0 < n := by rw [h5]; exact Nat.mul_pos h1 h3
    refine ⟨true, gcdTo Z n, fun a cp W h => ?_, fun a cp W h => ?_⟩
    all_goals obtain ⟨b, off, rfl, _⟩ := IS.at h hpos
    · exact specContent_yes r c n b off cp Z W hn36 hv (with_bd h6) h
    · exact implContent_yes r c n b off cp Z W hn36 hv (with_bd h6) h
end Go.Proofs.Ytinekdfpgkmbnaa
