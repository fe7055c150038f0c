/- Helper: whether two factors are the same, of the program and of its reference. Conditions: none. -/
import Derived.Test.YtpmilaemmdcfaacSameWholeKey
import Derived.Test.YtpmilaemmdcfaacSameKey
import Derived.Test.YtpmilaemmdcfaacBoxes
import Derived.Deep.QuietTactic
import Derived.BigQuiet
set_option linter.unusedVariables false
set_option linter.unusedSimpArgs false
namespace Go.Proofs.Ytpmilaemmdcfaac
open Go.RowKit

def sameF (R C : Int) (n : Nat) (Z : Nat → Nat) (m : Nat) (O : Nat → Int) (R2 C2 : Int) (n2 : Nat) (Z2 : Nat → Nat) (m2 : Nat) (O2 : Nat → Int) : Bool := eqB m O m2 O2 && sameM R C R2 C2 n n2 Z Z2
set_option maxHeartbeats 1000000 in
theorem l00Same_any (a b : Option Addr) (n c n2 d : Nat) (Z Y : Nat → Int) (w : World) (hn : n ≤ 1048576) (hn2 : n2 ≤ 1048576) (ha : IS .i64 w a n c Z) (hb : IS .i64 w b n2 d Y) :
    Calls Try.prog 43 #[.slice a n c, .slice b n2 d] w fun e w' => e = .returned (.bool (eqB n Z n2 Y)) ∧ ∃ m, w' = w.drewN m := by
  by_cases hnn : n = n2
  case neg =>
    have HB : Hid (eqB n Z n2 Y = false) := Lib.hid (by unfold eqB; rw [decide_eq_false hnn]; rfl)
    have e1 : ((n : Int) == (n2 : Int)) = false := beq_eq_false_iff_ne.2 (by omega)
    have e2 : (n == n2) = false := beq_eq_false_iff_ne.2 hnn
    have f1 : ((n : Int) != (n2 : Int)) = true := bne_iff_ne.2 (by omega)
    have f2 : (n != n2) = true := bne_iff_ne.2 hnn
    go_enter Try.func43, Try.ntmps43
    go_wp2
    go_ret
    exact ⟨by rw [HB.out]; rfl, 0, rfl⟩
  subst hnn
  have HB : Hid (eqB n Z n Y = eqTo Z Y n) := Lib.hid (by unfold eqB; simp)
  go_enter Try.func43, Try.ntmps43
  go_wp2
  go_loopw [5] (fun s wr => ∃ j m : Nat, j ≤ n ∧ s = .int .i64 j ∧ wr = w.drewN m ∧ Hid (eqTo Z Y j = true)) (fun s _ => n - (intOf s).toNat)
  case atStart => exact ⟨0, 0, Nat.zero_le _, rfl, rfl, Lib.hid rfl⟩
  case round =>
    obtain ⟨j, m, hj, rfl, rfl, ho⟩ := hrel
    by_cases hlt : j < n
    · obtain ⟨b1, off1, rfl, hbl, hc, hw⟩ := IS.at ha hlt
      obtain ⟨b2, off2, rfl, hbl2, hc2, hw2⟩ := IS.at hb hlt
      clear ha hb hbl hbl2 hw hw2
      have hdec : decide ((j : Int) < n) = true := decide_eq_true (by omega)
      cases hq : (Z j == Y j) with
      | false =>
        have HN := Lib.hid (eqTo_bad hq hlt)
        generalize Z j = x at hc hq
        generalize Y j = y at hc2 hq
        go_wp2
        go_quiet (fail)
        go_wp2
        go_ret
        exact ⟨by rw [HB.out, HN.out]; rfl, _, World.drewN_drewN ..⟩
      | true =>
        have HN : Hid (eqTo Z Y (j + 1) = true) := Lib.hid (by simp only [eqTo, ho.out, hq]; rfl)
        generalize Z j = x at hc hq
        generalize Y j = y at hc2 hq
        have hq2 := beq_iff_eq.1 hq
        subst hq2
        clear hq
        go_wp2
        go_quiet (fail)
        go_wp2
        go_roundw
        case rel => exact ⟨j + 1, _, by omega, by go_num, rfl, HN⟩
        case measure => simp [intOf]; omega
    · obtain rfl : j = n := by omega
      go_wp2
      go_ret
      exact ⟨by rw [HB.out, ho.out]; rfl, _, rfl⟩
set_option maxHeartbeats 1000000 in
theorem implSameF_any (R C : Int) (n : Nat) (Z : Nat → Nat) (m : Nat) (O : Nat → Int) (R2 C2 : Int) (n2 : Nat) (Z2 : Nat → Nat) (m2 : Nat) (O2 : Nat → Int) (a : Option Addr) (c : Nat) (b : Option Addr) (d : Nat) (a2 : Option Addr) (c2 : Nat) (b2 : Option Addr) (d2 : Nat) (w : World) (hn : n ≤ 1048576) (hm : m ≤ 1048576) (hn2 : n2 ≤ 1048576) (hm2 : m2 ≤ 1048576) (h : FS .f32 w a n c Z) (k : IS .i64 w b m d O) (h2 : FS .f32 w a2 n2 c2 Z2) (k2 : IS .i64 w b2 m2 d2 O2) :
    Calls Try.prog 15 #[.agg #[.int .i64 R, .int .i64 C, .slice a n c, .slice b m d], .agg #[.int .i64 R2, .int .i64 C2, .slice a2 n2 c2, .slice b2 m2 d2]] w (BoolBel (sameF R C n Z m O R2 C2 n2 Z2 m2 O2) w) := by
  cases ho : eqB m O m2 O2 with
  | false =>
    have HB : Hid (sameF R C n Z m O R2 C2 n2 Z2 m2 O2 = false) := Lib.hid (by unfold sameF; rw [ho]; rfl)
    go_enter Try.func15, Try.ntmps15
    go_wp2_with fail
    go_at_call 45
    refine (slicesEqual_any b b2 m d m2 d2 O O2 _ hm hm2 (k.below (by repeat first | (with_reducible exact Below.refl _ _) | (with_reducible refine Below.setCell ?_ (by first | exact Nat.le_refl _ | (simp; done) | (simp; omega) | omega) _) | (with_reducible refine Below.alloc ?_ (by first | exact Nat.le_refl _ | (simp; done) | (simp; omega) | omega) _) | (with_reducible refine below_drewN ?_ _) | (with_reducible refine Below.drew ?_)) (Nat.le_refl _)) (k2.below (by repeat first | (with_reducible exact Below.refl _ _) | (with_reducible refine Below.setCell ?_ (by first | exact Nat.le_refl _ | (simp; done) | (simp; omega) | omega) _) | (with_reducible refine Below.alloc ?_ (by first | exact Nat.le_refl _ | (simp; done) | (simp; omega) | omega) _) | (with_reducible refine below_drewN ?_ _) | (with_reducible refine Below.drew ?_)) (Nat.le_refl _))).mono ?_
    rintro e w1 ⟨rfl, q, rfl⟩
    rw [ho]
    go_wp2_with fail
    go_ret
    exact ⟨by rw [HB.out]; rfl, (by repeat first | (with_reducible exact Below.refl _ _) | (with_reducible refine Below.setCell ?_ (by first | exact Nat.le_refl _ | (simp; done) | (simp; omega) | omega) _) | (with_reducible refine Below.alloc ?_ (by first | exact Nat.le_refl _ | (simp; done) | (simp; omega) | omega) _) | (with_reducible refine below_drewN ?_ _) | (with_reducible refine Below.drew ?_))⟩
  | true =>
    have HB : Hid (sameF R C n Z m O R2 C2 n2 Z2 m2 O2 = sameM R C R2 C2 n n2 Z Z2) := Lib.hid (by unfold sameF; rw [ho]; rfl)
    go_enter Try.func15, Try.ntmps15
    go_wp2_with fail
    go_at_call 45
    refine (slicesEqual_any b b2 m d m2 d2 O O2 _ hm hm2 (k.below (by repeat first | (with_reducible exact Below.refl _ _) | (with_reducible refine Below.setCell ?_ (by first | exact Nat.le_refl _ | (simp; done) | (simp; omega) | omega) _) | (with_reducible refine Below.alloc ?_ (by first | exact Nat.le_refl _ | (simp; done) | (simp; omega) | omega) _) | (with_reducible refine below_drewN ?_ _) | (with_reducible refine Below.drew ?_)) (Nat.le_refl _)) (k2.below (by repeat first | (with_reducible exact Below.refl _ _) | (with_reducible refine Below.setCell ?_ (by first | exact Nat.le_refl _ | (simp; done) | (simp; omega) | omega) _) | (with_reducible refine Below.alloc ?_ (by first | exact Nat.le_refl _ | (simp; done) | (simp; omega) | omega) _) | (with_reducible refine below_drewN ?_ _) | (with_reducible refine Below.drew ?_)) (Nat.le_refl _))).mono ?_
    rintro e w1 ⟨rfl, q, rfl⟩
    rw [ho]
    go_wp2_with fail
    go_at_call 46
    refine (implSame_any R C R2 C2 a a2 n c n2 c2 Z Z2 _ hn hn2 (h.below (by repeat first | (with_reducible exact Below.refl _ _) | (with_reducible refine Below.setCell ?_ (by first | exact Nat.le_refl _ | (simp; done) | (simp; omega) | omega) _) | (with_reducible refine Below.alloc ?_ (by first | exact Nat.le_refl _ | (simp; done) | (simp; omega) | omega) _) | (with_reducible refine below_drewN ?_ _) | (with_reducible refine Below.drew ?_)) (Nat.le_refl _)) (h2.below (by repeat first | (with_reducible exact Below.refl _ _) | (with_reducible refine Below.setCell ?_ (by first | exact Nat.le_refl _ | (simp; done) | (simp; omega) | omega) _) | (with_reducible refine Below.alloc ?_ (by first | exact Nat.le_refl _ | (simp; done) | (simp; omega) | omega) _) | (with_reducible refine below_drewN ?_ _) | (with_reducible refine Below.drew ?_)) (Nat.le_refl _))).mono ?_
    rintro e w2 ⟨rfl, b1⟩
    have B1 : Below w.heap.size w w2 := Below.trans (by repeat first | (with_reducible exact Below.refl _ _) | (with_reducible refine Below.setCell ?_ (by first | exact Nat.le_refl _ | (simp; done) | (simp; omega) | omega) _) | (with_reducible refine Below.alloc ?_ (by first | exact Nat.le_refl _ | (simp; done) | (simp; omega) | omega) _) | (with_reducible refine below_drewN ?_ _) | (with_reducible refine Below.drew ?_)) (b1.mono (by simp <;> omega))
    go_wp2_with fail
    go_ret
    exact ⟨by rw [HB.out]; rfl, B1⟩
set_option maxHeartbeats 1000000 in
theorem specSameF_any (R C : Int) (n : Nat) (Z : Nat → Nat) (m : Nat) (O : Nat → Int) (R2 C2 : Int) (n2 : Nat) (Z2 : Nat → Nat) (m2 : Nat) (O2 : Nat → Int) (a : Option Addr) (c : Nat) (b : Option Addr) (d : Nat) (a2 : Option Addr) (c2 : Nat) (b2 : Option Addr) (d2 : Nat) (w : World) (hn : n ≤ 1048576) (hm : m ≤ 1048576) (hn2 : n2 ≤ 1048576) (hm2 : m2 ≤ 1048576) (h : FS .f32 w a n c Z) (k : IS .i64 w b m d O) (h2 : FS .f32 w a2 n2 c2 Z2) (k2 : IS .i64 w b2 m2 d2 O2) :
    Calls Try.prog 14 #[.agg #[.int .i64 R, .int .i64 C, .slice a n c, .slice b m d], .agg #[.int .i64 R2, .int .i64 C2, .slice a2 n2 c2, .slice b2 m2 d2]] w (BoolBel (sameF R C n Z m O R2 C2 n2 Z2 m2 O2) w) := by
  cases ho : eqB m O m2 O2 with
  | false =>
    have HB : Hid (sameF R C n Z m O R2 C2 n2 Z2 m2 O2 = false) := Lib.hid (by unfold sameF; rw [ho]; rfl)
    go_enter Try.func14, Try.ntmps14
    go_wp2_with fail
    go_at_call 43
    refine (l00Same_any b b2 m d m2 d2 O O2 _ hm hm2 (k.below (by repeat first | (with_reducible exact Below.refl _ _) | (with_reducible refine Below.setCell ?_ (by first | exact Nat.le_refl _ | (simp; done) | (simp; omega) | omega) _) | (with_reducible refine Below.alloc ?_ (by first | exact Nat.le_refl _ | (simp; done) | (simp; omega) | omega) _) | (with_reducible refine below_drewN ?_ _) | (with_reducible refine Below.drew ?_)) (Nat.le_refl _)) (k2.below (by repeat first | (with_reducible exact Below.refl _ _) | (with_reducible refine Below.setCell ?_ (by first | exact Nat.le_refl _ | (simp; done) | (simp; omega) | omega) _) | (with_reducible refine Below.alloc ?_ (by first | exact Nat.le_refl _ | (simp; done) | (simp; omega) | omega) _) | (with_reducible refine below_drewN ?_ _) | (with_reducible refine Below.drew ?_)) (Nat.le_refl _))).mono ?_
    rintro e w1 ⟨rfl, q, rfl⟩
    rw [ho]
    go_wp2_with fail
    go_ret
    exact ⟨by rw [HB.out]; rfl, (by repeat first | (with_reducible exact Below.refl _ _) | (with_reducible refine Below.setCell ?_ (by first | exact Nat.le_refl _ | (simp; done) | (simp; omega) | omega) _) | (with_reducible refine Below.alloc ?_ (by first | exact Nat.le_refl _ | (simp; done) | (simp; omega) | omega) _) | (with_reducible refine below_drewN ?_ _) | (with_reducible refine Below.drew ?_))⟩
  | true =>
    have HB : Hid (sameF R C n Z m O R2 C2 n2 Z2 m2 O2 = sameM R C R2 C2 n n2 Z Z2) := Lib.hid (by unfold sameF; rw [ho]; rfl)
    go_enter Try.func14, Try.ntmps14
    go_wp2_with fail
    go_at_call 43
    refine (l00Same_any b b2 m d m2 d2 O O2 _ hm hm2 (k.below (by repeat first | (with_reducible exact Below.refl _ _) | (with_reducible refine Below.setCell ?_ (by first | exact Nat.le_refl _ | (simp; done) | (simp; omega) | omega) _) | (with_reducible refine Below.alloc ?_ (by first | exact Nat.le_refl _ | (simp; done) | (simp; omega) | omega) _) | (with_reducible refine below_drewN ?_ _) | (with_reducible refine Below.drew ?_)) (Nat.le_refl _)) (k2.below (by repeat first | (with_reducible exact Below.refl _ _) | (with_reducible refine Below.setCell ?_ (by first | exact Nat.le_refl _ | (simp; done) | (simp; omega) | omega) _) | (with_reducible refine Below.alloc ?_ (by first | exact Nat.le_refl _ | (simp; done) | (simp; omega) | omega) _) | (with_reducible refine below_drewN ?_ _) | (with_reducible refine Below.drew ?_)) (Nat.le_refl _))).mono ?_
    rintro e w1 ⟨rfl, q, rfl⟩
    rw [ho]
    go_wp2_with fail
    go_at_call 44
    refine (l02Same_any _ _ R C R2 C2 a a2 n c n2 c2 Z Z2 _ hn hn2 (by refine ⟨?_, ?_, ?_⟩ <;> simp [go_sem]) (by refine ⟨?_, ?_, ?_⟩ <;> simp [go_sem]) (h.below (by repeat first | (with_reducible exact Below.refl _ _) | (with_reducible refine Below.setCell ?_ (by first | exact Nat.le_refl _ | (simp; done) | (simp; omega) | omega) _) | (with_reducible refine Below.alloc ?_ (by first | exact Nat.le_refl _ | (simp; done) | (simp; omega) | omega) _) | (with_reducible refine below_drewN ?_ _) | (with_reducible refine Below.drew ?_)) (Nat.le_refl _)) (h2.below (by repeat first | (with_reducible exact Below.refl _ _) | (with_reducible refine Below.setCell ?_ (by first | exact Nat.le_refl _ | (simp; done) | (simp; omega) | omega) _) | (with_reducible refine Below.alloc ?_ (by first | exact Nat.le_refl _ | (simp; done) | (simp; omega) | omega) _) | (with_reducible refine below_drewN ?_ _) | (with_reducible refine Below.drew ?_)) (Nat.le_refl _))).mono ?_
    rintro e w2 ⟨rfl, q2, rfl⟩
    skip
    go_wp2_with fail
    go_ret
    exact ⟨by rw [HB.out]; rfl, (by repeat first | (with_reducible exact Below.refl _ _) | (with_reducible refine Below.setCell ?_ (by first | exact Nat.le_refl _ | (simp; done) | (simp; omega) | omega) _) | (with_reducible refine Below.alloc ?_ (by first | exact Nat.le_refl _ | (simp; done) | (simp; omega) | omega) _) | (with_reducible refine below_drewN ?_ _) | (with_reducible refine Below.drew ?_))⟩
theorem keySameFactor (R C : Int) (n : Nat) (Z : Nat → Nat) (m : Nat) (O : Nat → Int) (R2 C2 : Int) (n2 : Nat) (Z2 : Nat → Nat) (m2 : Nat) (O2 : Nat → Int) (wR : (Lit.int .i64 R).wf = true) (wC : (Lit.int .i64 C).wf = true) (hn : n ≤ 1048576) (hm : m ≤ 1048576) (wR2 : (Lit.int .i64 R2).wf = true) (wC2 : (Lit.int .i64 C2).wf = true) (hn2 : n2 ≤ 1048576) (hm2 : m2 ≤ 1048576) : ∃ ok : Bool,
    (∀ a c b d a2 c2 b2 d2 W, FS .f32 W a n c Z → IS .i64 W b m d O → FS .f32 W a2 n2 c2 Z2 → IS .i64 W b2 m2 d2 O2 → Calls Try.prog 14 #[.agg #[.int .i64 R, .int .i64 C, .slice a n c, .slice b m d], .agg #[.int .i64 R2, .int .i64 C2, .slice a2 n2 c2, .slice b2 m2 d2]] W (BoolBel ok W)) ∧
    (∀ a c b d a2 c2 b2 d2 W, FS .f32 W a n c Z → IS .i64 W b m d O → FS .f32 W a2 n2 c2 Z2 → IS .i64 W b2 m2 d2 O2 → Calls Try.prog 15 #[.agg #[.int .i64 R, .int .i64 C, .slice a n c, .slice b m d], .agg #[.int .i64 R2, .int .i64 C2, .slice a2 n2 c2, .slice b2 m2 d2]] W (BoolBel ok W)) :=
  ⟨sameF R C n Z m O R2 C2 n2 Z2 m2 O2, fun a c b d a2 c2 b2 d2 W h k h2 k2 => specSameF_any R C n Z m O R2 C2 n2 Z2 m2 O2 a c b d a2 c2 b2 d2 W hn hm hn2 hm2 h k h2 k2, fun a c b d a2 c2 b2 d2 W h k h2 k2 => implSameF_any R C n Z m O R2 C2 n2 Z2 m2 O2 a c b d a2 c2 b2 d2 W hn hm hn2 hm2 h k h2 k2⟩
end Go.Proofs.Ytpmilaemmdcfaac
