/- Helper: walks of the reference's angle, and the law of AngleTurns. Conditions: none. -/
import Derived.Test.YtbhndehndfnhiadAngleWalks
set_option linter.unusedVariables false
namespace Go.Proofs.Ytbhndehndfnhiad
open Go.RowKit

set_option maxHeartbeats 4000000 in
theorem specAngle_core (y x : Nat) {Y X : Option Nat} (fy : FV .f64 y Y) (fx : FV .f64 x X) (w : World) (hY : finite .f64 Y = true) (hX : finite .f64 X = true) (z1 z2 : Bool)
    (hz1 : (ford .f64 Y (some 0) == some .eq) = z1) (hz2 : (ford .f64 X (some 0) == some .eq) = z2) (hz : (z2 && z1) = false) (b1 b2 b3 : Bool)
    (hb1 : (ford .f64 (fabs Y) (fabs X) == some .gt) = b1) (hb2 : (ford .f64 X (some 0) == some .lt) = b2) (hb3 : (ford .f64 Y (some 0) == some .lt) = b3) :
    Calls Try.prog 63 #[.float .f64 y, .float .f64 x] w fun e w' => ∃ r, e = .returned (.float .f64 r) ∧ FV .f64 r (angP b1 b2 b3 Y X) ∧ ∃ n, w' = w.drewN n := by
  have c0 : cn .f64 0 = some 0 := cn_of (by decide +kernel)
  have hy1 := fy.1
  have hx1 := fx.1
  have sy : (ford .f64 (fop .sub .f64 Y Y) (some 0) != some .eq) = false := by
    have := sub_self_zero64 fy.clean
    rw [hY] at this
    show (!(ford .f64 (fop .sub .f64 Y Y) (some 0) == some .eq)) = false
    rw [this]; rfl
  have sx : (ford .f64 (fop .sub .f64 X X) (some 0) != some .eq) = false := by
    have := sub_self_zero64 fx.clean
    rw [hX] at this
    show (!(ford .f64 (fop .sub .f64 X X) (some 0) == some .eq)) = false
    rw [this]; rfl
  have neg : ∀ r Z, FV .f64 r Z → FV .f64 (Op.negFloat .f64 r) (fneg .f64 Z) := fun r Z h => h.neg
  have hT : ∃ T, (if b1 then fop .quo .f64 (fabs X) (fabs Y) else fop .quo .f64 (fabs Y) (fabs X)) = T := ⟨_, rfl⟩
  obtain ⟨T, hT⟩ := hT
  have hang : angP b1 b2 b3 Y X = (let g0 := if b1 then fop .sub .f64 (some 4598175219545276416) (smallP T) else smallP T
      let g1 := if b2 then fop .sub .f64 (some 4602678819172646912) g0 else g0
      if b3 then fneg .f64 g1 else g1) := by
    subst hT
    cases b1 <;> rfl
  rw [hang]
  clear hang
  cases b1 <;> cases z2
  all_goals (try (have hz1' : z1 = false := by simpa using hz)); (try subst hz1')
  all_goals clear hz
  all_goals
    have HT := Lib.hid hT
    clear hT
    go_enter Try.func63, Try.ntmps63
    go_wp2_with (first | (go_at_call 41; refine (abs_any _ (by assumption) _).mono ?_; rintro e w' ⟨r, rfl, hr, rfl⟩; have hr1 := hr.1) | (refine wpList_farith rfl _ _ _ _ _ rfl rfl _ _ _ rfl rfl (by first | assumption | (with_reducible exact FV.ofInt _ _) | exact FV.lit (by kernel_rfl) (by kernel_rfl)) (by first | assumption | (with_reducible exact FV.ofInt _ _) | exact FV.lit (by kernel_rfl) (by kernel_rfl)) ?_; intro r m hr; have hr1 := hr.1))
    go_loopw [8, 9] (fun t i w' => ∃ j n r : Nat, j ≤ 3 ∧ i = .int .i64 j ∧ t = .float .f64 r ∧ FV .f64 r (halfN j T) ∧ w' = w.drewN n) (fun _ i _ => 3 - (intOf i).toNat)
    case atStart => exact ⟨0, _, _, by omega, rfl, rfl, by rw [← HT.out]; assumption, rfl⟩
    case round =>
      obtain ⟨j, n, r0, hj, rfl, rfl, h0, rfl⟩ := hrel
      by_cases hlt : j < 3
      · go_wp2_with (first | (refine wpList_farith rfl _ _ _ _ _ rfl rfl _ _ _ rfl rfl (by first | assumption | (with_reducible exact FV.ofInt _ _) | exact FV.lit (by kernel_rfl) (by kernel_rfl)) (by first | assumption | (with_reducible exact FV.ofInt _ _) | exact FV.lit (by kernel_rfl) (by kernel_rfl)) ?_; intro r m hr) | (go_at_call 64; refine (sqrt_any _ (by assumption) _).mono ?_; rintro e w' ⟨r, rfl, hr, n, rfl⟩))
        go_roundw
        case rel => exact ⟨j + 1, _, _, by omega, by go_num, rfl, by assumption, rfl⟩
        case measure => simp [intOf]; omega
      · obtain rfl : j = 3 := by omega
        go_wp2_with (first | (refine wpList_farith rfl _ _ _ _ _ rfl rfl _ _ _ rfl rfl (by first | assumption | (with_reducible exact FV.ofInt _ _) | exact FV.lit (by kernel_rfl) (by kernel_rfl)) (by first | assumption | (with_reducible exact FV.ofInt _ _) | exact FV.lit (by kernel_rfl) (by kernel_rfl)) ?_; intro r m hr))
        go_loopw [11, 12] (fun p k w' => ∃ j n r : Nat, j ≤ 8 ∧ k = .int .i64 (15 - 2 * j) ∧ p = .float .f64 r ∧ FV .f64 r (polyP (fop .mul .f64 (halfN 3 T) (halfN 3 T)) j) ∧ w' = w.drewN n) (fun _ k _ => (intOf k + 1).toNat)
        case atStart => exact ⟨0, _, 0, by omega, rfl, rfl, FV.lit (by kernel_rfl) (by kernel_rfl), rfl⟩
        case round =>
          obtain ⟨j, n, r1, hj, rfl, rfl, h1, rfl⟩ := hrel
          by_cases hlt : j < 8
          · go_wp2_with (first | (refine wpList_farith rfl _ _ _ _ _ rfl rfl _ _ _ rfl rfl (by first | assumption | (with_reducible exact FV.ofInt _ _) | exact FV.lit (by kernel_rfl) (by kernel_rfl)) (by first | assumption | (with_reducible exact FV.ofInt _ _) | exact FV.lit (by kernel_rfl) (by kernel_rfl)) ?_; intro r m hr))
            go_roundw
            case rel => exact ⟨j + 1, _, _, by omega, by congr 1; omega, rfl, by assumption, rfl⟩
            case measure => simp [intOf]; omega
          · obtain rfl : j = 8 := by omega
            cases b2 <;> cases b3
            all_goals
              go_wp2_with (first | (refine wpList_farith rfl _ _ _ _ _ rfl rfl _ _ _ rfl rfl (by first | assumption | (with_reducible exact FV.ofInt _ _) | exact FV.lit (by kernel_rfl) (by kernel_rfl)) (by first | assumption | (with_reducible exact FV.ofInt _ _) | exact FV.lit (by kernel_rfl) (by kernel_rfl)) ?_; intro r m hr))
              go_ret
              exact ⟨_, rfl, by first | assumption | (apply neg; assumption), _, rfl⟩
theorem specAngle_any (y x : Nat) {Y X : Option Nat} (fy : FV .f64 y Y) (fx : FV .f64 x X) (w : World) :
    Calls Try.prog 63 #[.float .f64 y, .float .f64 x] w fun e w' => ∃ r, e = .returned (.float .f64 r) ∧ FV .f64 r (angleP Y X) ∧ ∃ n, w' = w.drewN n := by
  have c0 : cn .f64 0 = some 0 := cn_of (by decide +kernel)
  have hy1 := fy.1
  have hx1 := fx.1
  have sy0 := sub_self_zero64 fy.clean
  have sx0 := sub_self_zero64 fx.clean
  have sy : (ford .f64 (fop .sub .f64 Y Y) (some 0) != some .eq) = !finite .f64 Y := by rw [← sy0]; rfl
  have sx : (ford .f64 (fop .sub .f64 X X) (some 0) != some .eq) = !finite .f64 X := by rw [← sx0]; rfl
  clear sy0 sx0
  by_cases hfin : (finite .f64 Y && finite .f64 X) = true
  · obtain ⟨hfy, hfx⟩ := (Bool.and_eq_true _ _).mp hfin
    by_cases hz : (ford .f64 X (some 0) == some .eq && ford .f64 Y (some 0) == some .eq) = true
    · have hang : angleP Y X = some 0 := by
        unfold angleP
        rw [hfin, if_pos rfl, if_pos hz]
      have HA := Lib.hid hang
      obtain ⟨hzx, hzy⟩ := (Bool.and_eq_true _ _).mp hz
      rw [hfy] at sy
      rw [hfx] at sx
      have sy' : (ford .f64 (fop .sub .f64 Y Y) (some 0) != some .eq) = false := sy
      have sx' : (ford .f64 (fop .sub .f64 X X) (some 0) != some .eq) = false := sx
      clear hang hfin hz sy sx
      go_enter Try.func63, Try.ntmps63
      go_wp2_with (refine wpList_farith rfl _ _ _ _ _ rfl rfl _ _ _ rfl rfl (by first | assumption | (with_reducible exact FV.ofInt _ _) | exact FV.lit (by kernel_rfl) (by kernel_rfl)) (by first | assumption | (with_reducible exact FV.ofInt _ _) | exact FV.lit (by kernel_rfl) (by kernel_rfl)) ?_; intro r m hr; have hr1 := hr.1)
      go_ret
      exact ⟨_, rfl, by rw [HA.out]; exact FV.lit (by kernel_rfl) (by kernel_rfl), _, rfl⟩
    · have hang : angleP Y X = angP (ford .f64 (fabs Y) (fabs X) == some .gt) (ford .f64 X (some 0) == some .lt) (ford .f64 Y (some 0) == some .lt) Y X := by
        unfold angleP
        rw [hfin, if_pos rfl, if_neg hz]
      rw [hang]
      exact specAngle_core y x fy fx w hfy hfx _ _ rfl rfl (by simpa using hz) _ _ _ rfl rfl rfl
  · have hang : angleP Y X = none := by
      unfold angleP
      rw [if_neg hfin]
    have HA := Lib.hid hang
    clear hang
    cases hfy : finite .f64 Y with
    | false =>
      rw [hfy] at sy
      have sy' : (ford .f64 (fop .sub .f64 Y Y) (some 0) != some .eq) = true := sy
      clear hfin sy sx
      go_enter Try.func63, Try.ntmps63
      go_wp2_with (first | (refine wpList_farith rfl _ _ _ _ _ rfl rfl _ _ _ rfl rfl (by first | assumption | (with_reducible exact FV.ofInt _ _) | exact FV.lit (by kernel_rfl) (by kernel_rfl)) (by first | assumption | (with_reducible exact FV.ofInt _ _) | exact FV.lit (by kernel_rfl) (by kernel_rfl)) ?_; intro r m hr; have hr1 := hr.1) | (go_at_call 61; refine (nan_any _).mono ?_; rintro e w' ⟨r, rfl, hr, rfl⟩))
      go_ret
      exact ⟨_, rfl, by rw [HA.out]; assumption, _, rfl⟩
    | true =>
      have hfx : finite .f64 X = false := by
        rw [hfy] at hfin
        simpa using hfin
      rw [hfy] at sy
      rw [hfx] at sx
      have sy' : (ford .f64 (fop .sub .f64 Y Y) (some 0) != some .eq) = false := sy
      have sx' : (ford .f64 (fop .sub .f64 X X) (some 0) != some .eq) = true := sx
      clear hfin sy sx
      go_enter Try.func63, Try.ntmps63
      go_wp2_with (first | (refine wpList_farith rfl _ _ _ _ _ rfl rfl _ _ _ rfl rfl (by first | assumption | (with_reducible exact FV.ofInt _ _) | exact FV.lit (by kernel_rfl) (by kernel_rfl)) (by first | assumption | (with_reducible exact FV.ofInt _ _) | exact FV.lit (by kernel_rfl) (by kernel_rfl)) ?_; intro r m hr; have hr1 := hr.1) | (go_at_call 61; refine (nan_any _).mono ?_; rintro e w' ⟨r, rfl, hr, rfl⟩))
      go_ret
      exact ⟨_, rfl, by rw [HA.out]; assumption, _, rfl⟩
theorem specAngle32_any (y x : Nat) {Y X : Option Nat} (fy : FV .f32 y Y) (fx : FV .f32 x X) (w : World) :
    Calls Try.prog 39 #[.float .f32 y, .float .f32 x] w fun e w' => ∃ r, e = .returned (.float .f32 r) ∧ FV .f32 r (narrow (angleP (widen Y) (widen X))) ∧ ∃ n, w' = w.drewN n := by
  have hfit := fits_angle (widen Y) (widen X)
  go_enter Try.func39, Try.ntmps39
  go_wp2_with (first | (refine wpList_widen rfl _ _ _ rfl _ rfl (by kernel_rfl) Try.underlying25 (by assumption) ?_; intro r m hr) | (go_at_call 63; refine (specAngle_any _ _ (by assumption) (by assumption) _).mono ?_; rintro e w' ⟨r, rfl, hr, n, rfl⟩) | (go_at_call 57; refine (specNarrow_any _ (by assumption) hfit _).mono ?_; rintro e w' ⟨r, rfl, hr, n, rfl⟩))
  go_ret
  exact ⟨_, rfl, by assumption, _, rfl⟩
theorem law_FnExactAngleTurns (y : Nat) (hy : (Lit.float .f32 y).wf = true) (x : Nat) (hx : (Lit.float .f32 x).wf = true) (w : World) :
    Calls Try.prog 5 #[.float .f32 y, .float .f32 x] w fun e w' => e = .returned (.bool true) ∧ Below w.heap.size w w' := by
  have fy := FV.mk' hy
  have fx := FV.mk' hx
  generalize cn .f32 y = Y at fy
  generalize cn .f32 x = X at fx
  have hs : ∀ w, Calls Try.prog 16 #[.float .f32 y, .float .f32 x] w fun e w' => ∃ r, e = .returned (.float .f32 r) ∧ FV .f32 r (narrow (angleP (widen Y) (widen X))) ∧ ∃ n, w' = w.drewN n := by
    intro w
    go_enter Try.func16, Try.ntmps16
    go_wp2_with (go_at_call 39; refine (specAngle32_any _ _ fy fx _).mono ?_; rintro e w' ⟨r, rfl, hr, n, rfl⟩)
    go_ret
    exact ⟨_, rfl, by assumption, _, rfl⟩
  have hi := fun w => implAngle_any _ _ fy fx w
  generalize narrow (angleP (widen Y) (widen X)) = Z at *
  clear fy fx
  go_enter Try.func5, Try.ntmps5
  go_wp2_with (first | (go_at_call 16; refine (hs _).mono ?_; rintro e w' ⟨r, rfl, hr, n, rfl⟩) | (go_at_call 17; refine (hi _).mono ?_; rintro e w' ⟨r, rfl, hr, n, rfl⟩) | (refine wpList_widen rfl _ _ _ rfl _ rfl (by kernel_rfl) Try.underlying25 (by assumption) ?_; intro r m hr) | (go_at_call 13; refine (sameFloat_any _ _ (by assumption) (by assumption) _).mono ?_; rintro e w' ⟨rfl, n, rfl⟩))
  go_ret
  exact ⟨rfl, below_drewN (Below.refl _ _) _⟩
end Go.Proofs.Ytbhndehndfnhiad
