/- Helper: whether two chains are the same, of the program and of its reference. Conditions: none. -/
import Derived.Test.YtmddhhmgfhljiabSameKey
import Derived.Test.YtmddhhmgfhljiabChainKey
set_option linter.unusedVariables false
set_option linter.unusedSimpArgs false
namespace Go.Proofs.Ytmddhhmgfhljiab
open Go.RowKit

set_option maxRecDepth 100000 in
set_option maxHeartbeats 2000000 in
theorem equalFunc_any (a a2 : Option Addr) (n c n2 c2 : Nat) (X Y : Nat → Nat) (w : World) (hn : n ≤ 1048576) (hm : n2 ≤ 1048576) (h : FS .f32 w a n c X) (h2 : FS .f32 w a2 n2 c2 Y) :
    Calls Try.prog 44 #[.slice a n c, .slice a2 n2 c2, .func (.func 45) #[] #[]] w fun e w' => e = .returned (.bool (decide (n = n2) && sameTo X Y n)) ∧ ∃ m, w' = w.drewN m := by
  by_cases he : n = n2
  · subst he
    rw [decide_eq_true rfl, Bool.true_and]
    have hd : ((n : Int) != (n : Int)) = false := by simp
    go_enter Try.func44, Try.ntmps44
    go_wp2
    go_loopw [17] (fun i wr => ∃ j m : Nat, j ≤ n ∧ i = .int .i64 j ∧ sameTo X Y j = true ∧ wr = w.drewN m) (fun i _ => n - (intOf i).toNat)
    case atStart => exact ⟨0, 0, Nat.zero_le _, rfl, rfl, rfl⟩
    case round =>
      obtain ⟨j, m0, hj, rfl, ha, hwr⟩ := hrel
      have HA := Lib.hid ha
      have k1 : FS .f32 wr a n c X := hwr ▸ FS.drewN h
      have k2 : FS .f32 wr a2 n c2 Y := hwr ▸ FS.drewN h2
      have HW := Lib.hid hwr
      clear ha hwr
      by_cases hlt : j < n
      · obtain ⟨b, off, rfl, hbl, hc, hfv⟩ := k1.at hlt
        obtain ⟨b2, off2, rfl, hbl2, hc2, hfv2⟩ := k2.at hlt
        clear hbl h hbl2 h2 k1 k2
        have hcall : ∀ W, Calls Try.prog 45 #[.float .f32 (X j), .float .f32 (Y j)] W fun e w' => e = .returned (.bool (sameAt X Y j)) ∧ W = w' := fun W => implSameNumber_any _ hfv.2 _ hfv2.2 W
        have hd2 : decide ((j : Int) < (n : Int)) = true := decide_eq_true (by omega)
        cases hs : sameAt X Y j with
        | true =>
          have HF := Lib.hid (sameTo_succ HA.out hs)
          rw [hs] at hcall
          clear hs
          go_wp2_with (go_at_call 45; refine (hcall _).mono ?_; rintro e w' ⟨rfl, rfl⟩)
          go_roundw
          case rel => exact ⟨j + 1, _, by omega, by go_num, HF.out, by first | exact HW.out | rw [HW.out, World.drewN_drewN]⟩
          case measure => simp [intOf]; omega
        | false =>
          have HN := Lib.hid (sameTo_no hlt hs)
          rw [hs] at hcall
          clear hs
          go_wp2_with (go_at_call 45; refine (hcall _).mono ?_; rintro e w' ⟨rfl, rfl⟩)
          go_ret
          exact ⟨by rw [HN.out]; rfl, _, by first | exact HW.out | rw [HW.out, World.drewN_drewN]⟩
      · obtain rfl : j = n := by omega
        have hd2 : decide ((j : Int) < (j : Int)) = false := decide_eq_false (by omega)
        go_wp2
        go_ret
        exact ⟨by rw [HA.out]; rfl, _, HW.out⟩
  · rw [decide_eq_false he, Bool.false_and]
    have hd : ((n : Int) != (n2 : Int)) = true := by simp; omega
    go_enter Try.func44, Try.ntmps44
    go_wp2
    go_ret
    exact ⟨rfl, 0, rfl⟩
def sameC (n n2 : Nat) (X Y : Nat → Nat) (l l2 : Nat) (X2 Y2 : Nat → Nat) : Bool := (decide (n = n2) && sameTo X Y n) && (decide (l = l2) && sameTo X2 Y2 l)
set_option maxRecDepth 100000 in
set_option maxHeartbeats 2000000 in
theorem implSameChain_any (a a2 : Option Addr) (n c n2 c2 : Nat) (X Y : Nat → Nat) (p p2 : Option Addr) (l d l2 d2 : Nat) (X2 Y2 : Nat → Nat) (w : World) (hn : n ≤ 1048576) (hm : n2 ≤ 1048576) (hl : l ≤ 1048576) (hl2 : l2 ≤ 1048576)
    (h : FS .f32 w a n c X) (h2 : FS .f32 w a2 n2 c2 Y) (k : FS .f32 w p l d X2) (k2 : FS .f32 w p2 l2 d2 Y2) :
    Calls Try.prog 47 #[.agg #[.slice a n c, .slice p l d], .agg #[.slice a2 n2 c2, .slice p2 l2 d2]] w (BoolBel (sameC n n2 X Y l l2 X2 Y2) w) := by
  have e1 := fun W q1 q2 => equalFunc_any a a2 n c n2 c2 X Y W hn hm q1 q2
  have e2 := fun W q1 q2 => equalFunc_any p p2 l d l2 d2 X2 Y2 W hl hl2 q1 q2
  unfold sameC
  generalize (decide (n = n2) && sameTo X Y n) = u at e1 ⊢
  generalize (decide (l = l2) && sameTo X2 Y2 l) = v at e2 ⊢
  cases u
  · go_enter Try.func47, Try.ntmps47
    go_wp2_with fail
    go_at_call 44
    refine (e1 _ (h.below (by repeat first | (with_reducible exact Below.refl _ _) | (with_reducible refine Below.setCell ?_ (by first | exact Nat.le_refl _ | (simp; done) | (simp; omega) | omega) _) | (with_reducible refine Below.alloc ?_ (by first | exact Nat.le_refl _ | (simp; done) | (simp; omega) | omega) _) | (with_reducible refine below_drewN ?_ _) | (with_reducible refine Below.drew ?_)) (Nat.le_refl _)) (h2.below (by repeat first | (with_reducible exact Below.refl _ _) | (with_reducible refine Below.setCell ?_ (by first | exact Nat.le_refl _ | (simp; done) | (simp; omega) | omega) _) | (with_reducible refine Below.alloc ?_ (by first | exact Nat.le_refl _ | (simp; done) | (simp; omega) | omega) _) | (with_reducible refine below_drewN ?_ _) | (with_reducible refine Below.drew ?_)) (Nat.le_refl _))).mono ?_
    rintro e w1 ⟨rfl, m1, rfl⟩
    go_wp2_with fail
    go_ret
    exact ⟨rfl, (by repeat first | (with_reducible exact Below.refl _ _) | (with_reducible refine Below.setCell ?_ (by first | exact Nat.le_refl _ | (simp; done) | (simp; omega) | omega) _) | (with_reducible refine Below.alloc ?_ (by first | exact Nat.le_refl _ | (simp; done) | (simp; omega) | omega) _) | (with_reducible refine below_drewN ?_ _) | (with_reducible refine Below.drew ?_))⟩
  · go_enter Try.func47, Try.ntmps47
    go_wp2_with fail
    go_at_call 44
    refine (e1 _ (h.below (by repeat first | (with_reducible exact Below.refl _ _) | (with_reducible refine Below.setCell ?_ (by first | exact Nat.le_refl _ | (simp; done) | (simp; omega) | omega) _) | (with_reducible refine Below.alloc ?_ (by first | exact Nat.le_refl _ | (simp; done) | (simp; omega) | omega) _) | (with_reducible refine below_drewN ?_ _) | (with_reducible refine Below.drew ?_)) (Nat.le_refl _)) (h2.below (by repeat first | (with_reducible exact Below.refl _ _) | (with_reducible refine Below.setCell ?_ (by first | exact Nat.le_refl _ | (simp; done) | (simp; omega) | omega) _) | (with_reducible refine Below.alloc ?_ (by first | exact Nat.le_refl _ | (simp; done) | (simp; omega) | omega) _) | (with_reducible refine below_drewN ?_ _) | (with_reducible refine Below.drew ?_)) (Nat.le_refl _))).mono ?_
    rintro e w1 ⟨rfl, m1, rfl⟩
    go_wp2_with fail
    go_at_call 44
    refine (e2 _ (k.below (by repeat first | (with_reducible exact Below.refl _ _) | (with_reducible refine Below.setCell ?_ (by first | exact Nat.le_refl _ | (simp; done) | (simp; omega) | omega) _) | (with_reducible refine Below.alloc ?_ (by first | exact Nat.le_refl _ | (simp; done) | (simp; omega) | omega) _) | (with_reducible refine below_drewN ?_ _) | (with_reducible refine Below.drew ?_)) (Nat.le_refl _)) (k2.below (by repeat first | (with_reducible exact Below.refl _ _) | (with_reducible refine Below.setCell ?_ (by first | exact Nat.le_refl _ | (simp; done) | (simp; omega) | omega) _) | (with_reducible refine Below.alloc ?_ (by first | exact Nat.le_refl _ | (simp; done) | (simp; omega) | omega) _) | (with_reducible refine below_drewN ?_ _) | (with_reducible refine Below.drew ?_)) (Nat.le_refl _))).mono ?_
    rintro e w2 ⟨rfl, m2, rfl⟩
    go_wp2_with fail
    go_ret
    exact ⟨rfl, (by repeat first | (with_reducible exact Below.refl _ _) | (with_reducible refine Below.setCell ?_ (by first | exact Nat.le_refl _ | (simp; done) | (simp; omega) | omega) _) | (with_reducible refine Below.alloc ?_ (by first | exact Nat.le_refl _ | (simp; done) | (simp; omega) | omega) _) | (with_reducible refine below_drewN ?_ _) | (with_reducible refine Below.drew ?_))⟩
end Go.Proofs.Ytmddhhmgfhljiab
