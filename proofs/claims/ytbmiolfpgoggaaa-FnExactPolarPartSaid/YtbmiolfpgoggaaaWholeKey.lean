/- Helper: the root of the sum of all squares, of the program and of its reference. Conditions: none. -/
import Derived.Test.YtbmiolfpgoggaaaMatWalks
import Derived.Test.YtbmiolfpgoggaaaVecSums
import Derived.Test.YtbmiolfpgoggaaaRootWalks
set_option linter.unusedVariables false
set_option linter.unusedSimpArgs false
namespace Go.Proofs.Ytbmiolfpgoggaaa
open Go.RowKit

theorem NumBel.of {ok : Bool} {X : Option Nat} {w W w' : World} {e : Ending} (h : NumPost ok X W e w') (hb : Below w.heap.size w W) : NumBel ok (pick ok X) w e w' := by
  obtain ⟨r, he, hr, m, hw⟩ := h
  exact ⟨r, he, hr, by rw [hw]; exact below_drewN hb m⟩

def wholeN (n : Nat) (Z : Nat → Nat) : Option Nat := narrow (fsqrt (widen (dotG (vals Z) (vals Z) n)))
def wholeOk (R C : Int) (n : Nat) (Z : Nat → Nat) : Bool := validB R C n (vals Z) && finite .f32 (wholeN n Z)
def wholeV (R C : Int) (n : Nat) (Z : Nat → Nat) : Option Nat := pick (wholeOk R C n Z) (wholeN n Z)

set_option maxHeartbeats 1000000 in
theorem implWhole_any (R C : Int) (a : Option Addr) (n cap : Nat) (Z : Nat → Nat) (w : World) (hn : n ≤ 1048576) (h : FS .f32 w a n cap Z) :
    Calls Try.prog 21 #[.agg #[.int .i64 R, .int .i64 C, .slice a n cap]] w (NumBel (wholeOk R C n Z) (wholeV R C n Z) w) := by
  unfold wholeV
  cases hv : validB R C n (vals Z) with
  | false =>
    have HK : Hid (wholeOk R C n Z = false) := Lib.hid (by unfold wholeOk; rw [hv]; rfl)
    go_enter Try.func21, Try.ntmps21
    go_wp2_with fail
    go_at_call 43
    refine (implValid_any R C a n cap Z _ hn (h.below (by repeat first | (with_reducible exact Below.refl _ _) | (with_reducible refine Below.setCell ?_ (by first | exact Nat.le_refl _ | (simp; done) | (simp; omega) | omega) _) | (with_reducible refine Below.alloc ?_ (by first | exact Nat.le_refl _ | (simp; done) | (simp; omega) | omega) _) | (with_reducible refine below_drewN ?_ _) | (with_reducible refine Below.drew ?_)) (Nat.le_refl _))).mono ?_
    rintro e w1 ⟨rfl, b1⟩
    have B1 : Below w.heap.size w w1 := Below.trans (by repeat first | (with_reducible exact Below.refl _ _) | (with_reducible refine Below.setCell ?_ (by first | exact Nat.le_refl _ | (simp; done) | (simp; omega) | omega) _) | (with_reducible refine Below.alloc ?_ (by first | exact Nat.le_refl _ | (simp; done) | (simp; omega) | omega) _) | (with_reducible refine below_drewN ?_ _) | (with_reducible refine Below.drew ?_)) (b1.mono (by simp))
    go_wp2_with fail
    go_ret2
    rw [HK.out]
    exact ⟨_, rfl, pick_no _ rfl, B1⟩
  | true =>
    have HK : Hid (wholeOk R C n Z = finite .f32 (wholeN n Z)) := Lib.hid (by unfold wholeOk; rw [hv]; simp)
    go_enter Try.func21, Try.ntmps21
    go_wp2_with fail
    go_at_call 43
    refine (implValid_any R C a n cap Z _ hn (h.below (by repeat first | (with_reducible exact Below.refl _ _) | (with_reducible refine Below.setCell ?_ (by first | exact Nat.le_refl _ | (simp; done) | (simp; omega) | omega) _) | (with_reducible refine Below.alloc ?_ (by first | exact Nat.le_refl _ | (simp; done) | (simp; omega) | omega) _) | (with_reducible refine below_drewN ?_ _) | (with_reducible refine Below.drew ?_)) (Nat.le_refl _))).mono ?_
    rintro e w1 ⟨rfl, b1⟩
    have B1 : Below w.heap.size w w1 := Below.trans (by repeat first | (with_reducible exact Below.refl _ _) | (with_reducible refine Below.setCell ?_ (by first | exact Nat.le_refl _ | (simp; done) | (simp; omega) | omega) _) | (with_reducible refine Below.alloc ?_ (by first | exact Nat.le_refl _ | (simp; done) | (simp; omega) | omega) _) | (with_reducible refine below_drewN ?_ _) | (with_reducible refine Below.drew ?_)) (b1.mono (by simp))
    obtain ⟨x0, x1, x2⟩ := (Box.new _ _ _ _ _ _ _).below b1 (by simp)
    have f1 := h.below B1 (Nat.le_refl _)
    clear b1
    go_wp2_with fail
    go_at_call 46
    refine (implDot_any _ _ n _ n _ Z Z _ hn (Nat.le_refl _) hn f1 f1).mono ?_
    rintro e w2 ⟨r, rfl, hr, m2, rfl⟩
    go_wp2_with fail
    go_at_call 45
    refine (implRoot_any _ hr _).mono ?_
    rintro e w3 ⟨r3, rfl, hr3, m3, rfl⟩
    have hr4 : FV .f32 r3 (wholeN n Z) := hr3
    clear hr3
    go_wp2_with fail
    go_at_call 44
    refine (implNumber_any _ hr4 _).mono ?_
    rintro e w4 ⟨q, rfl, hq, m4, rfl⟩
    go_wp2_with fail
    go_ret2
    rw [HK.out]
    exact ⟨_, rfl, hq, (by repeat first | (with_reducible exact B1) | (with_reducible refine Below.setCell ?_ (by first | exact Nat.le_refl _ | (simp; done) | (simp; omega) | omega) _) | (with_reducible refine Below.alloc ?_ (by first | exact Nat.le_refl _ | (simp; done) | (simp; omega) | omega) _) | (with_reducible refine below_drewN ?_ _) | (with_reducible refine Below.drew ?_))⟩
set_option maxHeartbeats 1000000 in
theorem specWhole_any (R C : Int) (a : Option Addr) (n cap : Nat) (Z : Nat → Nat) (w : World) (hn : n ≤ 1048576) (h : FS .f32 w a n cap Z) :
    Calls Try.prog 12 #[.agg #[.int .i64 R, .int .i64 C, .slice a n cap]] w (NumBel (wholeOk R C n Z) (wholeV R C n Z) w) := by
  unfold wholeV
  cases hv : validB R C n (vals Z) with
  | false =>
    have HK : Hid (wholeOk R C n Z = false) := Lib.hid (by unfold wholeOk; rw [hv]; rfl)
    go_enter Try.func12, Try.ntmps12
    go_wp2_with fail
    go_at_call 33
    refine (specIs_any _ R C a n cap Z _ hn (Box.new _ _ _ _ _ _ _) (h.below (by repeat first | (with_reducible exact Below.refl _ _) | (with_reducible refine Below.setCell ?_ (by first | exact Nat.le_refl _ | (simp; done) | (simp; omega) | omega) _) | (with_reducible refine Below.alloc ?_ (by first | exact Nat.le_refl _ | (simp; done) | (simp; omega) | omega) _) | (with_reducible refine below_drewN ?_ _) | (with_reducible refine Below.drew ?_)) (Nat.le_refl _))).mono ?_
    rintro e w1 ⟨rfl, m1, rfl⟩
    go_wp2_with fail
    go_ret2
    rw [HK.out]
    exact ⟨_, rfl, pick_no _ rfl, (by repeat first | (with_reducible exact Below.refl _ _) | (with_reducible refine Below.setCell ?_ (by first | exact Nat.le_refl _ | (simp; done) | (simp; omega) | omega) _) | (with_reducible refine Below.alloc ?_ (by first | exact Nat.le_refl _ | (simp; done) | (simp; omega) | omega) _) | (with_reducible refine below_drewN ?_ _) | (with_reducible refine Below.drew ?_))⟩
  | true =>
    have HK : Hid (wholeOk R C n Z = finite .f32 (wholeN n Z)) := Lib.hid (by unfold wholeOk; rw [hv]; simp)
    go_enter Try.func12, Try.ntmps12
    go_wp2_with fail
    go_at_call 33
    refine (specIs_any _ R C a n cap Z _ hn (Box.new _ _ _ _ _ _ _) (h.below (by repeat first | (with_reducible exact Below.refl _ _) | (with_reducible refine Below.setCell ?_ (by first | exact Nat.le_refl _ | (simp; done) | (simp; omega) | omega) _) | (with_reducible refine Below.alloc ?_ (by first | exact Nat.le_refl _ | (simp; done) | (simp; omega) | omega) _) | (with_reducible refine below_drewN ?_ _) | (with_reducible refine Below.drew ?_)) (Nat.le_refl _))).mono ?_
    rintro e w1 ⟨rfl, m1, rfl⟩
    go_wp2_with fail
    go_at_call 36
    refine (specDot_any _ _ n _ n _ Z Z _ hn (Nat.le_refl _) hn (h.below (by repeat first | (with_reducible exact Below.refl _ _) | (with_reducible refine Below.setCell ?_ (by first | exact Nat.le_refl _ | (simp; done) | (simp; omega) | omega) _) | (with_reducible refine Below.alloc ?_ (by first | exact Nat.le_refl _ | (simp; done) | (simp; omega) | omega) _) | (with_reducible refine below_drewN ?_ _) | (with_reducible refine Below.drew ?_)) (Nat.le_refl _)) (h.below (by repeat first | (with_reducible exact Below.refl _ _) | (with_reducible refine Below.setCell ?_ (by first | exact Nat.le_refl _ | (simp; done) | (simp; omega) | omega) _) | (with_reducible refine Below.alloc ?_ (by first | exact Nat.le_refl _ | (simp; done) | (simp; omega) | omega) _) | (with_reducible refine below_drewN ?_ _) | (with_reducible refine Below.drew ?_)) (Nat.le_refl _))).mono ?_
    rintro e w2 ⟨r, rfl, hr, m2, rfl⟩
    go_wp2_with fail
    go_at_call 35
    refine (specRoot_any _ hr _).mono ?_
    rintro e w3 ⟨r3, rfl, hr3, m3, rfl⟩
    have hr4 : FV .f32 r3 (wholeN n Z) := hr3
    clear hr3
    go_wp2_with fail
    go_at_call 34
    refine (specNumber_any _ hr4 _).mono ?_
    rintro e w4 ⟨q, rfl, hq, m4, rfl⟩
    go_wp2_with fail
    go_ret2
    rw [HK.out]
    exact ⟨_, rfl, hq, (by repeat first | (with_reducible exact Below.refl _ _) | (with_reducible refine Below.setCell ?_ (by first | exact Nat.le_refl _ | (simp; done) | (simp; omega) | omega) _) | (with_reducible refine Below.alloc ?_ (by first | exact Nat.le_refl _ | (simp; done) | (simp; omega) | omega) _) | (with_reducible refine below_drewN ?_ _) | (with_reducible refine Below.drew ?_))⟩
theorem keyWholeNorm (R C : Int) (n : Nat) (Z : Nat → Nat) (hn : n ≤ 1048576) : ∃ (ok : Bool) (X : Option Nat),
    (∀ a c W, FS .f32 W a n c Z → Calls Try.prog 12 #[.agg #[.int .i64 R, .int .i64 C, .slice a n c]] W (NumBel ok X W)) ∧
    (∀ a c W, FS .f32 W a n c Z → Calls Try.prog 21 #[.agg #[.int .i64 R, .int .i64 C, .slice a n c]] W (NumBel ok X W)) :=
  ⟨_, _, fun a c W h => specWhole_any R C a n c Z W hn h, fun a c W h => implWhole_any R C a n c Z W hn h⟩
end Go.Proofs.Ytbmiolfpgoggaaa
