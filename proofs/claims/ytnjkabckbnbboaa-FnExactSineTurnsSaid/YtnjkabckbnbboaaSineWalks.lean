/- Helper: walks of the sine of turns, of the program and of its reference. Conditions: none. -/
import Derived.Test.YtnjkabckbnbboaaRootWalks
import Derived.Test.YtnjkabckbnbboaaSineFacts
import Derived.Lib.Hide
set_option linter.unusedVariables false
namespace Go.Proofs.Ytnjkabckbnbboaa
open Go.RowKit

def k8Of (v : Value) : Nat := match v with | .float _ b => k8Idx b | _ => 0
theorem FV.k8 (j : Nat) : FV .f64 (k8 j) (some (k8 j)) := FV.ofInt _ _

theorem nanS_any (w : World) : Calls Try.prog 47 #[] w fun e w' => ∃ r, e = .returned (.float .f64 r) ∧ FV .f64 r none ∧ w = w' := by
  have hn : FV .f64 9221120237041090561 none := ⟨cn_nan (by decide +kernel), by decide +kernel⟩
  go_enter Try.func47, Try.ntmps47
  go_wp2
  go_ret
  exact ⟨_, rfl, hn, rfl⟩
theorem noNumberS_any (w : World) : Calls Try.prog 27 #[] w fun e w' => ∃ r, e = .returned (.float .f32 r) ∧ FV .f32 r none ∧ ∃ n, w' = w.drewN n := by
  have hf : fits none := by intro x hx; cases hx
  go_enter Try.func27, Try.ntmps27
  go_wp2_with (first | (go_at_call 47; refine (nanS_any _).mono ?_; rintro e w' ⟨r, rfl, hr, rfl⟩) | (refine wpList_narrow rfl _ _ _ rfl _ rfl (by kernel_rfl) Try.underlying28 (by assumption) (by assumption) ?_; intro r m hr))
  go_ret
  exact ⟨_, rfl, by assumption, _, rfl⟩

theorem conv_whole {X : Option Nat} {x : Nat} (fx : FV .f64 x X) (hb : Lt2 52 X) (W : World) : (convert 27 2 (.float .f64 x)).run Try.prog W = .ok (.int .i64 (wholeI X)) W := by
  obtain ⟨y, s, m, e, rfl, hx, hl, -⟩ := hb
  obtain rfl := fx.eq
  exact run_convert_float_int W _ _ .f64 .i64 x _ (by kernel_rfl) Try.underlying2 (toInt_whole hx (by omega) (by omega) hl).1

theorem partOfTurn_any (x : Nat) {X : Option Nat} (fx : FV .f64 x X) (hb : Lt2 52 X) (w : World) :
    Calls Try.prog 29 #[.float .f64 x] w fun e w' => ∃ r, e = .returned (.float .f64 r) ∧ FV .f64 r (partP X) ∧ ∃ n, w' = w.drewN n := by
  have hcv := conv_whole fx hb
  have c0 : cn .f64 0 = some 0 := cn_of (by decide +kernel)
  have hD : fop .sub .f64 X (some (floatOfInt .f64 (wholeI X))) = partD X := rfl
  cases hlt : (ford .f64 (partD X) (some 0) == some .lt) with
  | true =>
    have hp : partP X = fop .add .f64 (partD X) (some 4607182418800017408) := by unfold partP; rw [if_pos hlt]
    rw [hp]
    go_enter Try.func29, Try.ntmps29
    go_wp2_with (first | (refine wpList_farith rfl .sub _ _ _ _ rfl rfl .f64 x _ rfl rfl fx (FV.ofInt _ _) ?_; intro r m hr; have hr1 : cn .f64 r = partD X := hr.1; have hrD : FV .f64 r (partD X) := hr; clear hr) | (refine wpList_farith rfl _ _ _ _ _ rfl rfl _ _ _ rfl rfl (by first | assumption | (with_reducible exact FV.ofInt _ _) | exact FV.lit (by kernel_rfl) (by kernel_rfl)) (by first | assumption | (with_reducible exact FV.ofInt _ _) | exact FV.lit (by kernel_rfl) (by kernel_rfl)) ?_; intro r m hr))
    go_ret
    exact ⟨_, rfl, by assumption, _, rfl⟩
  | false =>
    have hp : partP X = partD X := by unfold partP; rw [if_neg (by rw [hlt]; decide)]
    rw [hp]
    go_enter Try.func29, Try.ntmps29
    go_wp2_with (first | (refine wpList_farith rfl .sub _ _ _ _ rfl rfl .f64 x _ rfl rfl fx (FV.ofInt _ _) ?_; intro r m hr; have hr1 : cn .f64 r = partD X := hr.1; have hrD : FV .f64 r (partD X) := hr; clear hr) | (refine wpList_farith rfl _ _ _ _ _ rfl rfl _ _ _ rfl rfl (by first | assumption | (with_reducible exact FV.ofInt _ _) | exact FV.lit (by kernel_rfl) (by kernel_rfl)) (by first | assumption | (with_reducible exact FV.ofInt _ _) | exact FV.lit (by kernel_rfl) (by kernel_rfl)) ?_; intro r m hr))
    go_ret
    exact ⟨_, rfl, by assumption, _, rfl⟩

set_option maxHeartbeats 1000000 in
theorem implSine_hq (x : Nat) {F : Option Nat} (hp : ∀ w, Calls Try.prog 29 #[.float .f64 x] w fun e w' => ∃ r, e = .returned (.float .f64 r) ∧ FV .f64 r F ∧ ∃ n, w' = w.drewN n)
    (hh : (ford .f64 F (some 4602678819172646912) == some .gt || ford .f64 F (some 4602678819172646912) == some .eq) = true) (hq : (ford .f64 (fop .sub .f64 F (some 4602678819172646912)) (some 4598175219545276416) == some .gt) = true) (w : World) :
    Calls Try.prog 30 #[.float .f64 x] w fun e w' => ∃ r, e = .returned (.float .f64 r) ∧ FV .f64 r (fneg .f64 (fop .mul .f64 (fop .mul .f64 (fop .sub .f64 (some 4602678819172646912) (fop .sub .f64 F (some 4602678819172646912))) (some 4618760256179416344)) (polyS (fop .mul .f64 (fop .mul .f64 (fop .sub .f64 (some 4602678819172646912) (fop .sub .f64 F (some 4602678819172646912))) (some 4618760256179416344)) (fop .mul .f64 (fop .sub .f64 (some 4602678819172646912) (fop .sub .f64 F (some 4602678819172646912))) (some 4618760256179416344))) 8))) ∧ ∃ n, w' = w.drewN n := by
  have c0 : cn .f64 0 = some 0 := cn_of (by decide +kernel)
  have cH : cn .f64 4602678819172646912 = some 4602678819172646912 := cn_of (by decide +kernel)
  have cQ : cn .f64 4598175219545276416 = some 4598175219545276416 := cn_of (by decide +kernel)
  have c1 : cn .f64 4607182418800017408 = some 4607182418800017408 := cn_of (by decide +kernel)
  go_enter Try.func30, Try.ntmps30
  go_wp2_with (first | (go_at_call 29; refine (hp _).mono ?_; rintro e w' ⟨r, rfl, hr, n, rfl⟩; have hr1 := hr.1) | (refine wpList_farith rfl _ _ _ _ _ rfl rfl _ _ _ rfl rfl (by first | assumption | (with_reducible exact FV.ofInt _ _) | exact FV.lit (by kernel_rfl) (by kernel_rfl)) (by first | assumption | (with_reducible exact FV.ofInt _ _) | exact FV.lit (by kernel_rfl) (by kernel_rfl)) ?_; intro r m hr; have hr1 := hr.1))
  go_loopw [7, 8] (fun p k w' => ∃ j n r : Nat, j ≤ 8 ∧ k = .float .f64 (k8 j) ∧ p = .float .f64 r ∧ FV .f64 r (polyS (fop .mul .f64 (fop .mul .f64 (fop .sub .f64 (some 4602678819172646912) (fop .sub .f64 F (some 4602678819172646912))) (some 4618760256179416344)) (fop .mul .f64 (fop .sub .f64 (some 4602678819172646912) (fop .sub .f64 F (some 4602678819172646912))) (some 4618760256179416344))) j) ∧ w' = w.drewN n) (fun _ k _ => k8Of k)
  case atStart => exact ⟨0, _, _, by omega, by rw [k8_start], rfl, FV.lit (by kernel_rfl) (by kernel_rfl), rfl⟩
  case round =>
    obtain ⟨j3, n3, r3, hj3, rfl, rfl, h03, rfl⟩ := hrel
    clear hh hq
    have ck := cn_k8 j3
    have fk := FV.k8 j3
    by_cases hlt3 : j3 < 8
    · have hge := k8_ge j3 hlt3
      have HN := Lib.hid (k8_next j3 hlt3)
      have HD := Lib.hid (k8_d j3 hlt3)
      have HM := Lib.hid (k8Idx_k8 j3 (by omega))
      have HM2 := Lib.hid (k8Idx_k8 (j3 + 1) (by omega))
      go_wp2_with (first | (refine wpList_farith rfl .sub _ _ _ _ rfl rfl .f64 (k8 j3) _ rfl rfl fk (FV.lit (by kernel_rfl) (by kernel_rfl)) ?_; intro r m hr; rw [HN.out] at hr; obtain rfl := hr.eq; clear hr) | (refine wpList_farith rfl _ _ _ _ _ rfl rfl _ _ _ rfl rfl (by first | assumption | (with_reducible exact FV.ofInt _ _) | exact FV.lit (by kernel_rfl) (by kernel_rfl)) (by first | assumption | (with_reducible exact FV.ofInt _ _) | exact FV.lit (by kernel_rfl) (by kernel_rfl)) ?_; intro r m hr))
      go_roundw
      case rel => exact ⟨j3 + 1, _, _, by omega, rfl, rfl, FV.of_eq (by assumption) (by rw [HD.out]; exact polyS_succ _ _), rfl⟩
      case measure => simp [k8Of, HM.out, HM2.out]; omega
    · obtain rfl : j3 = 8 := by omega
      have hge := k8_end
      go_wp2_with (first | (refine wpList_farith rfl _ _ _ _ _ rfl rfl _ _ _ rfl rfl (by first | assumption | (with_reducible exact FV.ofInt _ _) | exact FV.lit (by kernel_rfl) (by kernel_rfl)) (by first | assumption | (with_reducible exact FV.ofInt _ _) | exact FV.lit (by kernel_rfl) (by kernel_rfl)) ?_; intro r m hr))
      go_ret
      exact ⟨_, rfl, FV.neg (by assumption), _, rfl⟩

set_option maxHeartbeats 1000000 in
theorem implSine_hn (x : Nat) {F : Option Nat} (hp : ∀ w, Calls Try.prog 29 #[.float .f64 x] w fun e w' => ∃ r, e = .returned (.float .f64 r) ∧ FV .f64 r F ∧ ∃ n, w' = w.drewN n)
    (hh : (ford .f64 F (some 4602678819172646912) == some .gt || ford .f64 F (some 4602678819172646912) == some .eq) = true) (hq : (ford .f64 (fop .sub .f64 F (some 4602678819172646912)) (some 4598175219545276416) == some .gt) = false) (w : World) :
    Calls Try.prog 30 #[.float .f64 x] w fun e w' => ∃ r, e = .returned (.float .f64 r) ∧ FV .f64 r (fneg .f64 (fop .mul .f64 (fop .mul .f64 (fop .sub .f64 F (some 4602678819172646912)) (some 4618760256179416344)) (polyS (fop .mul .f64 (fop .mul .f64 (fop .sub .f64 F (some 4602678819172646912)) (some 4618760256179416344)) (fop .mul .f64 (fop .sub .f64 F (some 4602678819172646912)) (some 4618760256179416344))) 8))) ∧ ∃ n, w' = w.drewN n := by
  have c0 : cn .f64 0 = some 0 := cn_of (by decide +kernel)
  have cH : cn .f64 4602678819172646912 = some 4602678819172646912 := cn_of (by decide +kernel)
  have cQ : cn .f64 4598175219545276416 = some 4598175219545276416 := cn_of (by decide +kernel)
  have c1 : cn .f64 4607182418800017408 = some 4607182418800017408 := cn_of (by decide +kernel)
  go_enter Try.func30, Try.ntmps30
  go_wp2_with (first | (go_at_call 29; refine (hp _).mono ?_; rintro e w' ⟨r, rfl, hr, n, rfl⟩; have hr1 := hr.1) | (refine wpList_farith rfl _ _ _ _ _ rfl rfl _ _ _ rfl rfl (by first | assumption | (with_reducible exact FV.ofInt _ _) | exact FV.lit (by kernel_rfl) (by kernel_rfl)) (by first | assumption | (with_reducible exact FV.ofInt _ _) | exact FV.lit (by kernel_rfl) (by kernel_rfl)) ?_; intro r m hr; have hr1 := hr.1))
  go_loopw [7, 8] (fun p k w' => ∃ j n r : Nat, j ≤ 8 ∧ k = .float .f64 (k8 j) ∧ p = .float .f64 r ∧ FV .f64 r (polyS (fop .mul .f64 (fop .mul .f64 (fop .sub .f64 F (some 4602678819172646912)) (some 4618760256179416344)) (fop .mul .f64 (fop .sub .f64 F (some 4602678819172646912)) (some 4618760256179416344))) j) ∧ w' = w.drewN n) (fun _ k _ => k8Of k)
  case atStart => exact ⟨0, _, _, by omega, by rw [k8_start], rfl, FV.lit (by kernel_rfl) (by kernel_rfl), rfl⟩
  case round =>
    obtain ⟨j3, n3, r3, hj3, rfl, rfl, h03, rfl⟩ := hrel
    clear hh hq
    have ck := cn_k8 j3
    have fk := FV.k8 j3
    by_cases hlt3 : j3 < 8
    · have hge := k8_ge j3 hlt3
      have HN := Lib.hid (k8_next j3 hlt3)
      have HD := Lib.hid (k8_d j3 hlt3)
      have HM := Lib.hid (k8Idx_k8 j3 (by omega))
      have HM2 := Lib.hid (k8Idx_k8 (j3 + 1) (by omega))
      go_wp2_with (first | (refine wpList_farith rfl .sub _ _ _ _ rfl rfl .f64 (k8 j3) _ rfl rfl fk (FV.lit (by kernel_rfl) (by kernel_rfl)) ?_; intro r m hr; rw [HN.out] at hr; obtain rfl := hr.eq; clear hr) | (refine wpList_farith rfl _ _ _ _ _ rfl rfl _ _ _ rfl rfl (by first | assumption | (with_reducible exact FV.ofInt _ _) | exact FV.lit (by kernel_rfl) (by kernel_rfl)) (by first | assumption | (with_reducible exact FV.ofInt _ _) | exact FV.lit (by kernel_rfl) (by kernel_rfl)) ?_; intro r m hr))
      go_roundw
      case rel => exact ⟨j3 + 1, _, _, by omega, rfl, rfl, FV.of_eq (by assumption) (by rw [HD.out]; exact polyS_succ _ _), rfl⟩
      case measure => simp [k8Of, HM.out, HM2.out]; omega
    · obtain rfl : j3 = 8 := by omega
      have hge := k8_end
      go_wp2_with (first | (refine wpList_farith rfl _ _ _ _ _ rfl rfl _ _ _ rfl rfl (by first | assumption | (with_reducible exact FV.ofInt _ _) | exact FV.lit (by kernel_rfl) (by kernel_rfl)) (by first | assumption | (with_reducible exact FV.ofInt _ _) | exact FV.lit (by kernel_rfl) (by kernel_rfl)) ?_; intro r m hr))
      go_ret
      exact ⟨_, rfl, FV.neg (by assumption), _, rfl⟩

set_option maxHeartbeats 1000000 in
theorem implSine_nq (x : Nat) {F : Option Nat} (hp : ∀ w, Calls Try.prog 29 #[.float .f64 x] w fun e w' => ∃ r, e = .returned (.float .f64 r) ∧ FV .f64 r F ∧ ∃ n, w' = w.drewN n)
    (hh : (ford .f64 F (some 4602678819172646912) == some .gt || ford .f64 F (some 4602678819172646912) == some .eq) = false) (hq : (ford .f64 F (some 4598175219545276416) == some .gt) = true) (w : World) :
    Calls Try.prog 30 #[.float .f64 x] w fun e w' => ∃ r, e = .returned (.float .f64 r) ∧ FV .f64 r (fop .mul .f64 (fop .mul .f64 (fop .sub .f64 (some 4602678819172646912) F) (some 4618760256179416344)) (polyS (fop .mul .f64 (fop .mul .f64 (fop .sub .f64 (some 4602678819172646912) F) (some 4618760256179416344)) (fop .mul .f64 (fop .sub .f64 (some 4602678819172646912) F) (some 4618760256179416344))) 8)) ∧ ∃ n, w' = w.drewN n := by
  have c0 : cn .f64 0 = some 0 := cn_of (by decide +kernel)
  have cH : cn .f64 4602678819172646912 = some 4602678819172646912 := cn_of (by decide +kernel)
  have cQ : cn .f64 4598175219545276416 = some 4598175219545276416 := cn_of (by decide +kernel)
  have c1 : cn .f64 4607182418800017408 = some 4607182418800017408 := cn_of (by decide +kernel)
  go_enter Try.func30, Try.ntmps30
  go_wp2_with (first | (go_at_call 29; refine (hp _).mono ?_; rintro e w' ⟨r, rfl, hr, n, rfl⟩; have hr1 := hr.1) | (refine wpList_farith rfl _ _ _ _ _ rfl rfl _ _ _ rfl rfl (by first | assumption | (with_reducible exact FV.ofInt _ _) | exact FV.lit (by kernel_rfl) (by kernel_rfl)) (by first | assumption | (with_reducible exact FV.ofInt _ _) | exact FV.lit (by kernel_rfl) (by kernel_rfl)) ?_; intro r m hr; have hr1 := hr.1))
  go_loopw [7, 8] (fun p k w' => ∃ j n r : Nat, j ≤ 8 ∧ k = .float .f64 (k8 j) ∧ p = .float .f64 r ∧ FV .f64 r (polyS (fop .mul .f64 (fop .mul .f64 (fop .sub .f64 (some 4602678819172646912) F) (some 4618760256179416344)) (fop .mul .f64 (fop .sub .f64 (some 4602678819172646912) F) (some 4618760256179416344))) j) ∧ w' = w.drewN n) (fun _ k _ => k8Of k)
  case atStart => exact ⟨0, _, _, by omega, by rw [k8_start], rfl, FV.lit (by kernel_rfl) (by kernel_rfl), rfl⟩
  case round =>
    obtain ⟨j3, n3, r3, hj3, rfl, rfl, h03, rfl⟩ := hrel
    clear hh hq
    have ck := cn_k8 j3
    have fk := FV.k8 j3
    by_cases hlt3 : j3 < 8
    · have hge := k8_ge j3 hlt3
      have HN := Lib.hid (k8_next j3 hlt3)
      have HD := Lib.hid (k8_d j3 hlt3)
      have HM := Lib.hid (k8Idx_k8 j3 (by omega))
      have HM2 := Lib.hid (k8Idx_k8 (j3 + 1) (by omega))
      go_wp2_with (first | (refine wpList_farith rfl .sub _ _ _ _ rfl rfl .f64 (k8 j3) _ rfl rfl fk (FV.lit (by kernel_rfl) (by kernel_rfl)) ?_; intro r m hr; rw [HN.out] at hr; obtain rfl := hr.eq; clear hr) | (refine wpList_farith rfl _ _ _ _ _ rfl rfl _ _ _ rfl rfl (by first | assumption | (with_reducible exact FV.ofInt _ _) | exact FV.lit (by kernel_rfl) (by kernel_rfl)) (by first | assumption | (with_reducible exact FV.ofInt _ _) | exact FV.lit (by kernel_rfl) (by kernel_rfl)) ?_; intro r m hr))
      go_roundw
      case rel => exact ⟨j3 + 1, _, _, by omega, rfl, rfl, FV.of_eq (by assumption) (by rw [HD.out]; exact polyS_succ _ _), rfl⟩
      case measure => simp [k8Of, HM.out, HM2.out]; omega
    · obtain rfl : j3 = 8 := by omega
      have hge := k8_end
      go_wp2_with (first | (refine wpList_farith rfl _ _ _ _ _ rfl rfl _ _ _ rfl rfl (by first | assumption | (with_reducible exact FV.ofInt _ _) | exact FV.lit (by kernel_rfl) (by kernel_rfl)) (by first | assumption | (with_reducible exact FV.ofInt _ _) | exact FV.lit (by kernel_rfl) (by kernel_rfl)) ?_; intro r m hr))
      go_ret
      exact ⟨_, rfl, by assumption, _, rfl⟩

set_option maxHeartbeats 1000000 in
theorem implSine_nn (x : Nat) {F : Option Nat} (hp : ∀ w, Calls Try.prog 29 #[.float .f64 x] w fun e w' => ∃ r, e = .returned (.float .f64 r) ∧ FV .f64 r F ∧ ∃ n, w' = w.drewN n)
    (hh : (ford .f64 F (some 4602678819172646912) == some .gt || ford .f64 F (some 4602678819172646912) == some .eq) = false) (hq : (ford .f64 F (some 4598175219545276416) == some .gt) = false) (w : World) :
    Calls Try.prog 30 #[.float .f64 x] w fun e w' => ∃ r, e = .returned (.float .f64 r) ∧ FV .f64 r (fop .mul .f64 (fop .mul .f64 F (some 4618760256179416344)) (polyS (fop .mul .f64 (fop .mul .f64 F (some 4618760256179416344)) (fop .mul .f64 F (some 4618760256179416344))) 8)) ∧ ∃ n, w' = w.drewN n := by
  have c0 : cn .f64 0 = some 0 := cn_of (by decide +kernel)
  have cH : cn .f64 4602678819172646912 = some 4602678819172646912 := cn_of (by decide +kernel)
  have cQ : cn .f64 4598175219545276416 = some 4598175219545276416 := cn_of (by decide +kernel)
  have c1 : cn .f64 4607182418800017408 = some 4607182418800017408 := cn_of (by decide +kernel)
  go_enter Try.func30, Try.ntmps30
  go_wp2_with (first | (go_at_call 29; refine (hp _).mono ?_; rintro e w' ⟨r, rfl, hr, n, rfl⟩; have hr1 := hr.1) | (refine wpList_farith rfl _ _ _ _ _ rfl rfl _ _ _ rfl rfl (by first | assumption | (with_reducible exact FV.ofInt _ _) | exact FV.lit (by kernel_rfl) (by kernel_rfl)) (by first | assumption | (with_reducible exact FV.ofInt _ _) | exact FV.lit (by kernel_rfl) (by kernel_rfl)) ?_; intro r m hr; have hr1 := hr.1))
  go_loopw [7, 8] (fun p k w' => ∃ j n r : Nat, j ≤ 8 ∧ k = .float .f64 (k8 j) ∧ p = .float .f64 r ∧ FV .f64 r (polyS (fop .mul .f64 (fop .mul .f64 F (some 4618760256179416344)) (fop .mul .f64 F (some 4618760256179416344))) j) ∧ w' = w.drewN n) (fun _ k _ => k8Of k)
  case atStart => exact ⟨0, _, _, by omega, by rw [k8_start], rfl, FV.lit (by kernel_rfl) (by kernel_rfl), rfl⟩
  case round =>
    obtain ⟨j3, n3, r3, hj3, rfl, rfl, h03, rfl⟩ := hrel
    clear hh hq
    have ck := cn_k8 j3
    have fk := FV.k8 j3
    by_cases hlt3 : j3 < 8
    · have hge := k8_ge j3 hlt3
      have HN := Lib.hid (k8_next j3 hlt3)
      have HD := Lib.hid (k8_d j3 hlt3)
      have HM := Lib.hid (k8Idx_k8 j3 (by omega))
      have HM2 := Lib.hid (k8Idx_k8 (j3 + 1) (by omega))
      go_wp2_with (first | (refine wpList_farith rfl .sub _ _ _ _ rfl rfl .f64 (k8 j3) _ rfl rfl fk (FV.lit (by kernel_rfl) (by kernel_rfl)) ?_; intro r m hr; rw [HN.out] at hr; obtain rfl := hr.eq; clear hr) | (refine wpList_farith rfl _ _ _ _ _ rfl rfl _ _ _ rfl rfl (by first | assumption | (with_reducible exact FV.ofInt _ _) | exact FV.lit (by kernel_rfl) (by kernel_rfl)) (by first | assumption | (with_reducible exact FV.ofInt _ _) | exact FV.lit (by kernel_rfl) (by kernel_rfl)) ?_; intro r m hr))
      go_roundw
      case rel => exact ⟨j3 + 1, _, _, by omega, rfl, rfl, FV.of_eq (by assumption) (by rw [HD.out]; exact polyS_succ _ _), rfl⟩
      case measure => simp [k8Of, HM.out, HM2.out]; omega
    · obtain rfl : j3 = 8 := by omega
      have hge := k8_end
      go_wp2_with (first | (refine wpList_farith rfl _ _ _ _ _ rfl rfl _ _ _ rfl rfl (by first | assumption | (with_reducible exact FV.ofInt _ _) | exact FV.lit (by kernel_rfl) (by kernel_rfl)) (by first | assumption | (with_reducible exact FV.ofInt _ _) | exact FV.lit (by kernel_rfl) (by kernel_rfl)) ?_; intro r m hr))
      go_ret
      exact ⟨_, rfl, by assumption, _, rfl⟩

theorem implSine_any (x : Nat) {X : Option Nat} (fx : FV .f64 x X) (hb : Lt2 52 X) (w : World) :
    Calls Try.prog 30 #[.float .f64 x] w fun e w' => ∃ r, e = .returned (.float .f64 r) ∧ FV .f64 r (sineP X) ∧ ∃ n, w' = w.drewN n := by
  have hp := partOfTurn_any x fx hb
  unfold sineP sineU sineZ sineF2 sineF1
  generalize partP X = F at hp
  cases hh : isHalf F with
  | true =>
    simp only [if_true]
    cases hq : (ford .f64 (fop .sub .f64 F half) quarter == some .gt) with
    | true => simp only [if_true]; exact implSine_hq x hp hh hq w
    | false => simp only [Bool.false_eq_true, if_false]; exact implSine_hn x hp hh hq w
  | false =>
    simp only [Bool.false_eq_true, if_false]
    cases hq : (ford .f64 F quarter == some .gt) with
    | true => simp only [if_true]; exact implSine_nq x hp hh hq w
    | false => simp only [Bool.false_eq_true, if_false]; exact implSine_nn x hp hh hq w
end Go.Proofs.Ytnjkabckbnbboaa
