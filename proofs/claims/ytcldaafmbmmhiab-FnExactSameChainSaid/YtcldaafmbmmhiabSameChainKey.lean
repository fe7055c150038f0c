/- Helper: whether two chains are the same, of the program and of its reference. Conditions: none. -/
import Derived.Test.YtcldaafmbmmhiabSameKey
import Derived.Test.YtcldaafmbmmhiabChainKey
set_option linter.unusedVariables false
namespace Go.Proofs.Ytcldaafmbmmhiab
open Go.RowKit

set_option maxRecDepth 100000 in
set_option maxHeartbeats 2000000 in
theorem equalFunc_any (a a2 : Option Addr) (n c n2 c2 : Nat) (X Y : Nat → Nat) (w : World) (hn : n ≤ 1048576) (hm : n2 ≤ 1048576) (h : FS .f32 w a n c X) (h2 : FS .f32 w a2 n2 c2 Y) :
    Calls Try.prog 91 #[.slice a n c, .slice a2 n2 c2, .func (.func 92) #[] #[]] w fun e w' => e = .returned (.bool (decide (n = n2) && sameTo X Y n)) ∧ ∃ m, w' = w.drewN m := by
  by_cases he : n = n2
  · subst he
    rw [decide_eq_true rfl, Bool.true_and]
    have hd : ((n : Int) != (n : Int)) = false := by simp
    go_enter Try.func91, Try.ntmps91
    go_wp2
    go_loopw [17] (fun i wr => ∃ j m : Nat, j ≤ n ∧ i = .int .i64 j ∧ sameTo X Y j = true ∧ wr = w.drewN m) (fun i _ => n - (intOf i).toNat)
    case atStart => exact ⟨0, 0, Nat.zero_le _, rfl, rfl, rfl⟩
    case round =>
      obtain ⟨j, m0, hj, rfl, ha, hwr⟩ := hrel
      have HA := Lib.hid ha
      have k1 : FS .f32 wr a n c X := hwr ▸ FS.drewN h
      have k2 : FS .f32 wr a2 n c2 Y := hwr ▸ FS.drewN h2
      have HW := Lib.hid hwr
      clear ha hwr
      by_cases hlt : j < n
      · obtain ⟨b, off, rfl, hbl, hc, hfv⟩ := k1.at hlt
        obtain ⟨b2, off2, rfl, hbl2, hc2, hfv2⟩ := k2.at hlt
        clear hbl h hbl2 h2 k1 k2
        have hcall : ∀ W, Calls Try.prog 92 #[.float .f32 (X j), .float .f32 (Y j)] W fun e w' => e = .returned (.bool (sameAt X Y j)) ∧ W = w' := fun W => implSameNumber_any _ hfv.2 _ hfv2.2 W
        have hd2 : decide ((j : Int) < (n : Int)) = true := decide_eq_true (by omega)
        cases hs : sameAt X Y j with
        | true =>
          have HF := Lib.hid (sameTo_succ HA.out hs)
          rw [hs] at hcall
          clear hs
          go_wp2_with (go_at_call 92; refine (hcall _).mono ?_; rintro e w' ⟨rfl, rfl⟩)
          go_roundw
          case rel => exact ⟨j + 1, _, by omega, by go_num, HF.out, by first | exact HW.out | rw [HW.out, World.drewN_drewN]⟩
          case measure => simp [intOf]; omega
        | false =>
          have HN := Lib.hid (sameTo_no hlt hs)
          rw [hs] at hcall
          clear hs
          go_wp2_with (go_at_call 92; refine (hcall _).mono ?_; rintro e w' ⟨rfl, rfl⟩)
          go_ret
          exact ⟨by rw [HN.out]; rfl, _, by first | exact HW.out | rw [HW.out, World.drewN_drewN]⟩
      · obtain rfl : j = n := by omega
        have hd2 : decide ((j : Int) < (j : Int)) = false := decide_eq_false (by omega)
        go_wp2
        go_ret
        exact ⟨by rw [HA.out]; rfl, _, HW.out⟩
  · rw [decide_eq_false he, Bool.false_and]
    have hd : ((n : Int) != (n2 : Int)) = true := by simp; omega
    go_enter Try.func91, Try.ntmps91
    go_wp2
    go_ret
    exact ⟨rfl, 0, rfl⟩
def sameC (n n2 : Nat) (X Y : Nat → Nat) (l l2 : Nat) (X2 Y2 : Nat → Nat) : Bool := (decide (n = n2) && sameTo X Y n) && (decide (l = l2) && sameTo X2 Y2 l)
set_option maxRecDepth 100000 in
set_option maxHeartbeats 2000000 in
theorem implSameChain_any (a a2 : Option Addr) (n c n2 c2 : Nat) (X Y : Nat → Nat) (p p2 : Option Addr) (l d l2 d2 : Nat) (X2 Y2 : Nat → Nat) (w : World) (hn : n ≤ 1048576) (hm : n2 ≤ 1048576) (hl : l ≤ 1048576) (hl2 : l2 ≤ 1048576)
    (h : FS .f32 w a n c X) (h2 : FS .f32 w a2 n2 c2 Y) (k : FS .f32 w p l d X2) (k2 : FS .f32 w p2 l2 d2 Y2) :
    Calls Try.prog 46 #[.agg #[.slice a n c, .slice p l d], .agg #[.slice a2 n2 c2, .slice p2 l2 d2]] w (BoolBel (sameC n n2 X Y l l2 X2 Y2) w) := by
  have e1 := fun W q1 q2 => equalFunc_any a a2 n c n2 c2 X Y W hn hm q1 q2
  have e2 := fun W q1 q2 => equalFunc_any p p2 l d l2 d2 X2 Y2 W hl hl2 q1 q2
  unfold sameC
  generalize (decide (n = n2) && sameTo X Y n) = u at e1 ⊢
  generalize (decide (l = l2) && sameTo X2 Y2 l) = v at e2 ⊢
  cases u
  · go_enter Try.func46, Try.ntmps46
    go_wp2_with fail
    go_at_call 91
    refine (e1 _ (h.below (by repeat first | (with_reducible exact Below.refl _ _) | (with_reducible refine Below.setCell ?_ (by first | exact Nat.le_refl _ | (simp; done) | (simp; omega) | omega) _) | (with_reducible refine Below.alloc ?_ (by first | exact Nat.le_refl _ | (simp; done) | (simp; omega) | omega) _) | (with_reducible refine below_drewN ?_ _) | (with_reducible refine Below.drew ?_)) (Nat.le_refl _)) (h2.below (by repeat first | (with_reducible exact Below.refl _ _) | (with_reducible refine Below.setCell ?_ (by first | exact Nat.le_refl _ | (simp; done) | (simp; omega) | omega) _) | (with_reducible refine Below.alloc ?_ (by first | exact Nat.le_refl _ | (simp; done) | (simp; omega) | omega) _) | (with_reducible refine below_drewN ?_ _) | (with_reducible refine Below.drew ?_)) (Nat.le_refl _))).mono ?_
    rintro e w1 ⟨rfl, m1, rfl⟩
    go_wp2_with fail
    go_ret
    exact ⟨rfl, (by repeat first | (with_reducible exact Below.refl _ _) | (with_reducible refine Below.setCell ?_ (by first | exact Nat.le_refl _ | (simp; done) | (simp; omega) | omega) _) | (with_reducible refine Below.alloc ?_ (by first | exact Nat.le_refl _ | (simp; done) | (simp; omega) | omega) _) | (with_reducible refine below_drewN ?_ _) | (with_reducible refine Below.drew ?_))⟩
  · go_enter Try.func46, Try.ntmps46
    go_wp2_with fail
    go_at_call 91
    refine (e1 _ (h.below (by repeat first | (with_reducible exact Below.refl _ _) | (with_reducible refine Below.setCell ?_ (by first | exact Nat.le_refl _ | (simp; done) | (simp; omega) | omega) _) | (with_reducible refine Below.alloc ?_ (by first | exact Nat.le_refl _ | (simp; done) | (simp; omega) | omega) _) | (with_reducible refine below_drewN ?_ _) | (with_reducible refine Below.drew ?_)) (Nat.le_refl _)) (h2.below (by repeat first | (with_reducible exact Below.refl _ _) | (with_reducible refine Below.setCell ?_ (by first | exact Nat.le_refl _ | (simp; done) | (simp; omega) | omega) _) | (with_reducible refine Below.alloc ?_ (by first | exact Nat.le_refl _ | (simp; done) | (simp; omega) | omega) _) | (with_reducible refine below_drewN ?_ _) | (with_reducible refine Below.drew ?_)) (Nat.le_refl _))).mono ?_
    rintro e w1 ⟨rfl, m1, rfl⟩
    go_wp2_with fail
    go_at_call 91
    refine (e2 _ (k.below (by repeat first | (with_reducible exact Below.refl _ _) | (with_reducible refine Below.setCell ?_ (by first | exact Nat.le_refl _ | (simp; done) | (simp; omega) | omega) _) | (with_reducible refine Below.alloc ?_ (by first | exact Nat.le_refl _ | (simp; done) | (simp; omega) | omega) _) | (with_reducible refine below_drewN ?_ _) | (with_reducible refine Below.drew ?_)) (Nat.le_refl _)) (k2.below (by repeat first | (with_reducible exact Below.refl _ _) | (with_reducible refine Below.setCell ?_ (by first | exact Nat.le_refl _ | (simp; done) | (simp; omega) | omega) _) | (with_reducible refine Below.alloc ?_ (by first | exact Nat.le_refl _ | (simp; done) | (simp; omega) | omega) _) | (with_reducible refine below_drewN ?_ _) | (with_reducible refine Below.drew ?_)) (Nat.le_refl _))).mono ?_
    rintro e w2 ⟨rfl, m2, rfl⟩
    go_wp2_with fail
    go_ret
    exact ⟨rfl, (by repeat first | (with_reducible exact Below.refl _ _) | (with_reducible refine Below.setCell ?_ (by first | exact Nat.le_refl _ | (simp; done) | (simp; omega) | omega) _) | (with_reducible refine Below.alloc ?_ (by first | exact Nat.le_refl _ | (simp; done) | (simp; omega) | omega) _) | (with_reducible refine below_drewN ?_ _) | (with_reducible refine Below.drew ?_))⟩
set_option maxRecDepth 100000 in
set_option maxHeartbeats 2000000 in
theorem l04Same_any (b b2 : Nat) (a a2 : Option Addr) (n c n2 c2 : Nat) (X Y : Nat → Nat) (p p2 : Option Addr) (l d l2 d2 : Nat) (X2 Y2 : Nat → Nat) (w : World) (hn : n ≤ 1048576) (hm : n2 ≤ 1048576) (hl : l ≤ 1048576) (hl2 : l2 ≤ 1048576)
    (hb : BoxC w b a n c p l d) (hb2 : BoxC w b2 a2 n2 c2 p2 l2 d2)
    (h : FS .f32 w a n c X) (h2 : FS .f32 w a2 n2 c2 Y) (k : FS .f32 w p l d X2) (k2 : FS .f32 w p2 l2 d2 Y2) :
    Calls Try.prog 90 #[.pointer (some ⟨b, 0, none⟩), .pointer (some ⟨b2, 0, none⟩)] w fun e w' => e = .returned (.bool (sameC n n2 X Y l l2 X2 Y2)) ∧ ∃ m, w' = w.drewN m := by
  obtain ⟨x0, x1⟩ := hb
  obtain ⟨y0, y1⟩ := hb2
  unfold sameC
  have e1 : ∀ m, Calls Try.prog 111 #[.slice a n c, .slice a2 n2 c2] (w.drewN m) fun e w' => e = .returned (.bool (decide (n = n2) && sameTo X Y n)) ∧ ∃ k, w' = (w.drewN m).drewN k := fun m => specSameAll_any a a2 n c n2 c2 X Y _ hn hm (FS.drewN h) (FS.drewN h2)
  have e2 : ∀ m, Calls Try.prog 111 #[.slice p l d, .slice p2 l2 d2] (w.drewN m) fun e w' => e = .returned (.bool (decide (l = l2) && sameTo X2 Y2 l)) ∧ ∃ k, w' = (w.drewN m).drewN k := fun m => specSameAll_any p p2 l d l2 d2 X2 Y2 _ hl hl2 (FS.drewN k) (FS.drewN k2)
  generalize (decide (n = n2) && sameTo X Y n) = u at e1 ⊢
  generalize (decide (l = l2) && sameTo X2 Y2 l) = v at e2 ⊢
  cases u
  · go_enter Try.func90, Try.ntmps90
    go_wp2
    go_quiet ((go_at_call 111; exact Calls.quiet_of (e1 _)))
    go_wp2
    go_ret
    exact ⟨rfl, _, rfl⟩
  · go_enter Try.func90, Try.ntmps90
    go_wp2
    go_quiet (first | (go_at_call 111; with_reducible exact Calls.quiet_of (e1 _)) | (go_at_call 111; with_reducible exact Calls.quiet_of (e2 _)))
    go_wp2
    go_ret
    exact ⟨rfl, _, rfl⟩
set_option maxRecDepth 100000 in
set_option maxHeartbeats 2000000 in
theorem keySameChain (n0 : Nat) (Z0 : Nat → Nat) (l0 : Nat) (Y0 : Nat → Nat) (n1 : Nat) (Z1 : Nat → Nat) (l1 : Nat) (Y1 : Nat → Nat) (hn0 : n0 ≤ 1048576) (hl0 : l0 ≤ 1048576) (hn1 : n1 ≤ 1048576) (hl1 : l1 ≤ 1048576) : ∃ ok : Bool,
    (∀ a c p d a2 c2 p2 d2 W, FS .f32 W a n0 c Z0 → FS .f32 W p l0 d Y0 → FS .f32 W a2 n1 c2 Z1 → FS .f32 W p2 l1 d2 Y1 → Calls Try.prog 45 #[.agg #[.slice a n0 c, .slice p l0 d], .agg #[.slice a2 n1 c2, .slice p2 l1 d2]] W (BoolBel ok W)) ∧
    (∀ a c p d a2 c2 p2 d2 W, FS .f32 W a n0 c Z0 → FS .f32 W p l0 d Y0 → FS .f32 W a2 n1 c2 Z1 → FS .f32 W p2 l1 d2 Y1 → Calls Try.prog 46 #[.agg #[.slice a n0 c, .slice p l0 d], .agg #[.slice a2 n1 c2, .slice p2 l1 d2]] W (BoolBel ok W)) := by
  refine ⟨sameC n0 n1 Z0 Z1 l0 l1 Y0 Y1, fun a c p d a2 c2 p2 d2 w h k h2 k2 => ?_, fun a c p d a2 c2 p2 d2 w h k h2 k2 => implSameChain_any a a2 n0 c n1 c2 Z0 Z1 p p2 l0 d l1 d2 Y0 Y1 w hn0 hn1 hl0 hl1 h h2 k k2⟩
  go_enter Try.func45, Try.ntmps45
  go_wp2_with fail
  go_at_call 90
  refine (l04Same_any _ _ a a2 n0 c n1 c2 Z0 Z1 p p2 l0 d l1 d2 Y0 Y1 _ hn0 hn1 hl0 hl1 (by refine ⟨?_, ?_⟩ <;> simp [go_sem]) (by refine ⟨?_, ?_⟩ <;> simp [go_sem]) (h.below (by repeat first | (with_reducible exact Below.refl _ _) | (with_reducible refine Below.setCell ?_ (by first | exact Nat.le_refl _ | (simp; done) | (simp; omega) | omega) _) | (with_reducible refine Below.alloc ?_ (by first | exact Nat.le_refl _ | (simp; done) | (simp; omega) | omega) _) | (with_reducible refine below_drewN ?_ _) | (with_reducible refine Below.drew ?_)) (Nat.le_refl _)) (h2.below (by repeat first | (with_reducible exact Below.refl _ _) | (with_reducible refine Below.setCell ?_ (by first | exact Nat.le_refl _ | (simp; done) | (simp; omega) | omega) _) | (with_reducible refine Below.alloc ?_ (by first | exact Nat.le_refl _ | (simp; done) | (simp; omega) | omega) _) | (with_reducible refine below_drewN ?_ _) | (with_reducible refine Below.drew ?_)) (Nat.le_refl _)) (k.below (by repeat first | (with_reducible exact Below.refl _ _) | (with_reducible refine Below.setCell ?_ (by first | exact Nat.le_refl _ | (simp; done) | (simp; omega) | omega) _) | (with_reducible refine Below.alloc ?_ (by first | exact Nat.le_refl _ | (simp; done) | (simp; omega) | omega) _) | (with_reducible refine below_drewN ?_ _) | (with_reducible refine Below.drew ?_)) (Nat.le_refl _)) (k2.below (by repeat first | (with_reducible exact Below.refl _ _) | (with_reducible refine Below.setCell ?_ (by first | exact Nat.le_refl _ | (simp; done) | (simp; omega) | omega) _) | (with_reducible refine Below.alloc ?_ (by first | exact Nat.le_refl _ | (simp; done) | (simp; omega) | omega) _) | (with_reducible refine below_drewN ?_ _) | (with_reducible refine Below.drew ?_)) (Nat.le_refl _))).mono ?_
  rintro e w1 ⟨rfl, m1, rfl⟩
  go_wp2_with fail
  go_ret
  exact ⟨rfl, (by repeat first | (with_reducible exact Below.refl _ _) | (with_reducible refine Below.setCell ?_ (by first | exact Nat.le_refl _ | (simp; done) | (simp; omega) | omega) _) | (with_reducible refine Below.alloc ?_ (by first | exact Nat.le_refl _ | (simp; done) | (simp; omega) | omega) _) | (with_reducible refine below_drewN ?_ _) | (with_reducible refine Below.drew ?_))⟩
end Go.Proofs.Ytcldaafmbmmhiab
