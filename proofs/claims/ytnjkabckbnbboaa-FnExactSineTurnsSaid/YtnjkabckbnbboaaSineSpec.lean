/- Helper: walks of the reference's sine of turns. Conditions: none. -/
import Derived.Test.YtnjkabckbnbboaaSineWalks
set_option linter.unusedVariables false
namespace Go.Proofs.Ytnjkabckbnbboaa
open Go.RowKit

theorem d8_wrap : ∀ j : Nat, j < 8 → floatOfInt .f64 (wrap64 (2 * (8 - (j : Int)) * (2 * (8 - (j : Int)) + 1))) = d8 j := by decide +kernel

set_option maxHeartbeats 1000000 in
theorem specSine_hql (x : Nat) {X F : Option Nat} (fx : FV .f64 x X) (hb : Lt2 52 X) (hs1 : (ford .f64 (fop .sub .f64 X X) (some 0) == some .eq) = true) (hm1 : (ford .f64 X (some 4841369599423283200) == some .gt || ford .f64 X (some 4841369599423283200) == some .eq) = false) (hm2 : (ford .f64 X (some 14064741636278059008) == some .lt || ford .f64 X (some 14064741636278059008) == some .eq) = false)
    (hlt : (ford .f64 (partD X) (some 0) == some .lt) = true) (hF : F = fop .add .f64 (partD X) (some 4607182418800017408))
    (hh : (ford .f64 F (some 4602678819172646912) == some .gt || ford .f64 F (some 4602678819172646912) == some .eq) = true) (hq : (ford .f64 (fop .sub .f64 F (some 4602678819172646912)) (some 4598175219545276416) == some .gt) = true) (w : World) :
    Calls Try.prog 55 #[.float .f64 x] w fun e w' => ∃ r, e = .returned (.float .f64 r) ∧ FV .f64 r (fneg .f64 (fop .mul .f64 (fop .mul .f64 (fop .sub .f64 (some 4602678819172646912) (fop .sub .f64 F (some 4602678819172646912))) (some 4618760256179416344)) (polyS (fop .mul .f64 (fop .mul .f64 (fop .sub .f64 (some 4602678819172646912) (fop .sub .f64 F (some 4602678819172646912))) (some 4618760256179416344)) (fop .mul .f64 (fop .sub .f64 (some 4602678819172646912) (fop .sub .f64 F (some 4602678819172646912))) (some 4618760256179416344))) 8))) ∧ ∃ n, w' = w.drewN n := by
  have c0 : cn .f64 0 = some 0 := cn_of (by decide +kernel)
  have cH : cn .f64 4602678819172646912 = some 4602678819172646912 := cn_of (by decide +kernel)
  have cQ : cn .f64 4598175219545276416 = some 4598175219545276416 := cn_of (by decide +kernel)
  have c1 : cn .f64 4607182418800017408 = some 4607182418800017408 := cn_of (by decide +kernel)
  have cN : cn .f64 4841369599423283200 = some 4841369599423283200 := cn_of (by decide +kernel)
  have cM : cn .f64 14064741636278059008 = some 14064741636278059008 := cn_of (by decide +kernel)
  have hcv := conv_whole fx hb
  have fx1 := fx.1
  have hs2 : (ford .f64 (fop .sub .f64 X X) (some 0) != some .eq) = false := by unfold bne; rw [hs1]; rfl
  clear hb
  have HF := Lib.hid hF
  clear hF
  go_enter Try.func55, Try.ntmps55
  go_wp2_with (first | (refine wpList_farith rfl .sub _ _ _ _ rfl rfl .f64 x x rfl rfl fx fx ?_; intro r m hr; have hr1 := hr.1; clear hr) | (refine wpList_farith rfl .sub _ _ _ _ rfl rfl .f64 x _ rfl rfl fx (FV.ofInt _ _) ?_; intro r m hr; have hr1 : cn .f64 r = partD X := hr.1; have hrD : FV .f64 r (partD X) := hr; clear hr) | (refine wpList_farith rfl .add _ _ _ _ rfl rfl .f64 _ 4607182418800017408 rfl rfl (by first | (with_reducible assumption)) (FV.lit (by kernel_rfl) (by kernel_rfl)) ?_; intro r m hr; have hrF : FV .f64 r F := FV.of_eq hr HF.out.symm; have hr2 := hrF.1; clear hr) | (refine wpList_farith rfl _ _ _ _ _ rfl rfl _ _ _ rfl rfl (by first | assumption | (with_reducible exact FV.ofInt _ _) | exact FV.lit (by kernel_rfl) (by kernel_rfl)) (by first | assumption | (with_reducible exact FV.ofInt _ _) | exact FV.lit (by kernel_rfl) (by kernel_rfl)) ?_; intro r m hr; have hr1 := hr.1))
  go_loopw [7, 8] (fun p k w' => ∃ j n r : Nat, j ≤ 8 ∧ k = .int .i64 (8 - j) ∧ p = .float .f64 r ∧ FV .f64 r (polyS (fop .mul .f64 (fop .mul .f64 (fop .sub .f64 (some 4602678819172646912) (fop .sub .f64 F (some 4602678819172646912))) (some 4618760256179416344)) (fop .mul .f64 (fop .sub .f64 (some 4602678819172646912) (fop .sub .f64 F (some 4602678819172646912))) (some 4618760256179416344))) j) ∧ w' = w.drewN n) (fun _ k _ => (intOf k + 1).toNat)
  case atStart => exact ⟨0, _, _, by omega, rfl, rfl, FV.lit (by kernel_rfl) (by kernel_rfl), rfl⟩
  case round =>
    obtain ⟨j3, n3, r3, hj3, rfl, rfl, h03, rfl⟩ := hrel
    clear hh hq
    by_cases hlt3 : j3 < 8
    · have HD := Lib.hid (d8_wrap j3 hlt3)
      go_wp2_with (first | (refine wpList_farith rfl _ _ _ _ _ rfl rfl _ _ _ rfl rfl (by first | assumption | (with_reducible exact FV.ofInt _ _) | exact FV.lit (by kernel_rfl) (by kernel_rfl)) (by first | assumption | (with_reducible exact FV.ofInt _ _) | exact FV.lit (by kernel_rfl) (by kernel_rfl)) ?_; intro r m hr))
      go_roundw
      case rel => exact ⟨j3 + 1, _, _, by omega, by congr 1; omega, rfl, FV.of_eq hr (by rw [HD.out]; exact polyS_succ _ _), rfl⟩
      case measure => simp [intOf]; omega
    · obtain rfl : j3 = 8 := by omega
      go_wp2_with (first | (refine wpList_farith rfl _ _ _ _ _ rfl rfl _ _ _ rfl rfl (by first | assumption | (with_reducible exact FV.ofInt _ _) | exact FV.lit (by kernel_rfl) (by kernel_rfl)) (by first | assumption | (with_reducible exact FV.ofInt _ _) | exact FV.lit (by kernel_rfl) (by kernel_rfl)) ?_; intro r m hr))
      go_ret
      exact ⟨_, rfl, FV.neg (by assumption), _, rfl⟩

set_option maxHeartbeats 1000000 in
theorem specSine_hqg (x : Nat) {X F : Option Nat} (fx : FV .f64 x X) (hb : Lt2 52 X) (hs1 : (ford .f64 (fop .sub .f64 X X) (some 0) == some .eq) = true) (hm1 : (ford .f64 X (some 4841369599423283200) == some .gt || ford .f64 X (some 4841369599423283200) == some .eq) = false) (hm2 : (ford .f64 X (some 14064741636278059008) == some .lt || ford .f64 X (some 14064741636278059008) == some .eq) = false)
    (hlt : (ford .f64 (partD X) (some 0) == some .lt) = false) (hF : F = partD X)
    (hh : (ford .f64 F (some 4602678819172646912) == some .gt || ford .f64 F (some 4602678819172646912) == some .eq) = true) (hq : (ford .f64 (fop .sub .f64 F (some 4602678819172646912)) (some 4598175219545276416) == some .gt) = true) (w : World) :
    Calls Try.prog 55 #[.float .f64 x] w fun e w' => ∃ r, e = .returned (.float .f64 r) ∧ FV .f64 r (fneg .f64 (fop .mul .f64 (fop .mul .f64 (fop .sub .f64 (some 4602678819172646912) (fop .sub .f64 F (some 4602678819172646912))) (some 4618760256179416344)) (polyS (fop .mul .f64 (fop .mul .f64 (fop .sub .f64 (some 4602678819172646912) (fop .sub .f64 F (some 4602678819172646912))) (some 4618760256179416344)) (fop .mul .f64 (fop .sub .f64 (some 4602678819172646912) (fop .sub .f64 F (some 4602678819172646912))) (some 4618760256179416344))) 8))) ∧ ∃ n, w' = w.drewN n := by
  have c0 : cn .f64 0 = some 0 := cn_of (by decide +kernel)
  have cH : cn .f64 4602678819172646912 = some 4602678819172646912 := cn_of (by decide +kernel)
  have cQ : cn .f64 4598175219545276416 = some 4598175219545276416 := cn_of (by decide +kernel)
  have c1 : cn .f64 4607182418800017408 = some 4607182418800017408 := cn_of (by decide +kernel)
  have cN : cn .f64 4841369599423283200 = some 4841369599423283200 := cn_of (by decide +kernel)
  have cM : cn .f64 14064741636278059008 = some 14064741636278059008 := cn_of (by decide +kernel)
  have hcv := conv_whole fx hb
  have fx1 := fx.1
  have hs2 : (ford .f64 (fop .sub .f64 X X) (some 0) != some .eq) = false := by unfold bne; rw [hs1]; rfl
  clear hb
  have HF := Lib.hid hF
  clear hF
  go_enter Try.func55, Try.ntmps55
  go_wp2_with (first | (refine wpList_farith rfl .sub _ _ _ _ rfl rfl .f64 x x rfl rfl fx fx ?_; intro r m hr; have hr1 := hr.1; clear hr) | (refine wpList_farith rfl .sub _ _ _ _ rfl rfl .f64 x _ rfl rfl fx (FV.ofInt _ _) ?_; intro r m hr; have hr1 : cn .f64 r = partD X := hr.1; have hrD : FV .f64 r (partD X) := hr; clear hr; have hrF : FV .f64 r F := FV.of_eq hrD HF.out.symm; have hr2 := hrF.1; clear hr1 hrD; have hltF : (ford .f64 F (some 0) == some .lt) = false := by rw [HF.out]; exact hlt) | (refine wpList_farith rfl _ _ _ _ _ rfl rfl _ _ _ rfl rfl (by first | assumption | (with_reducible exact FV.ofInt _ _) | exact FV.lit (by kernel_rfl) (by kernel_rfl)) (by first | assumption | (with_reducible exact FV.ofInt _ _) | exact FV.lit (by kernel_rfl) (by kernel_rfl)) ?_; intro r m hr; have hr1 := hr.1))
  go_loopw [7, 8] (fun p k w' => ∃ j n r : Nat, j ≤ 8 ∧ k = .int .i64 (8 - j) ∧ p = .float .f64 r ∧ FV .f64 r (polyS (fop .mul .f64 (fop .mul .f64 (fop .sub .f64 (some 4602678819172646912) (fop .sub .f64 F (some 4602678819172646912))) (some 4618760256179416344)) (fop .mul .f64 (fop .sub .f64 (some 4602678819172646912) (fop .sub .f64 F (some 4602678819172646912))) (some 4618760256179416344))) j) ∧ w' = w.drewN n) (fun _ k _ => (intOf k + 1).toNat)
  case atStart => exact ⟨0, _, _, by omega, rfl, rfl, FV.lit (by kernel_rfl) (by kernel_rfl), rfl⟩
  case round =>
    obtain ⟨j3, n3, r3, hj3, rfl, rfl, h03, rfl⟩ := hrel
    clear hh hq
    by_cases hlt3 : j3 < 8
    · have HD := Lib.hid (d8_wrap j3 hlt3)
      go_wp2_with (first | (refine wpList_farith rfl _ _ _ _ _ rfl rfl _ _ _ rfl rfl (by first | assumption | (with_reducible exact FV.ofInt _ _) | exact FV.lit (by kernel_rfl) (by kernel_rfl)) (by first | assumption | (with_reducible exact FV.ofInt _ _) | exact FV.lit (by kernel_rfl) (by kernel_rfl)) ?_; intro r m hr))
      go_roundw
      case rel => exact ⟨j3 + 1, _, _, by omega, by congr 1; omega, rfl, FV.of_eq hr (by rw [HD.out]; exact polyS_succ _ _), rfl⟩
      case measure => simp [intOf]; omega
    · obtain rfl : j3 = 8 := by omega
      go_wp2_with (first | (refine wpList_farith rfl _ _ _ _ _ rfl rfl _ _ _ rfl rfl (by first | assumption | (with_reducible exact FV.ofInt _ _) | exact FV.lit (by kernel_rfl) (by kernel_rfl)) (by first | assumption | (with_reducible exact FV.ofInt _ _) | exact FV.lit (by kernel_rfl) (by kernel_rfl)) ?_; intro r m hr))
      go_ret
      exact ⟨_, rfl, FV.neg (by assumption), _, rfl⟩

set_option maxHeartbeats 1000000 in
theorem specSine_hnl (x : Nat) {X F : Option Nat} (fx : FV .f64 x X) (hb : Lt2 52 X) (hs1 : (ford .f64 (fop .sub .f64 X X) (some 0) == some .eq) = true) (hm1 : (ford .f64 X (some 4841369599423283200) == some .gt || ford .f64 X (some 4841369599423283200) == some .eq) = false) (hm2 : (ford .f64 X (some 14064741636278059008) == some .lt || ford .f64 X (some 14064741636278059008) == some .eq) = false)
    (hlt : (ford .f64 (partD X) (some 0) == some .lt) = true) (hF : F = fop .add .f64 (partD X) (some 4607182418800017408))
    (hh : (ford .f64 F (some 4602678819172646912) == some .gt || ford .f64 F (some 4602678819172646912) == some .eq) = true) (hq : (ford .f64 (fop .sub .f64 F (some 4602678819172646912)) (some 4598175219545276416) == some .gt) = false) (w : World) :
    Calls Try.prog 55 #[.float .f64 x] w fun e w' => ∃ r, e = .returned (.float .f64 r) ∧ FV .f64 r (fneg .f64 (fop .mul .f64 (fop .mul .f64 (fop .sub .f64 F (some 4602678819172646912)) (some 4618760256179416344)) (polyS (fop .mul .f64 (fop .mul .f64 (fop .sub .f64 F (some 4602678819172646912)) (some 4618760256179416344)) (fop .mul .f64 (fop .sub .f64 F (some 4602678819172646912)) (some 4618760256179416344))) 8))) ∧ ∃ n, w' = w.drewN n := by
  have c0 : cn .f64 0 = some 0 := cn_of (by decide +kernel)
  have cH : cn .f64 4602678819172646912 = some 4602678819172646912 := cn_of (by decide +kernel)
  have cQ : cn .f64 4598175219545276416 = some 4598175219545276416 := cn_of (by decide +kernel)
  have c1 : cn .f64 4607182418800017408 = some 4607182418800017408 := cn_of (by decide +kernel)
  have cN : cn .f64 4841369599423283200 = some 4841369599423283200 := cn_of (by decide +kernel)
  have cM : cn .f64 14064741636278059008 = some 14064741636278059008 := cn_of (by decide +kernel)
  have hcv := conv_whole fx hb
  have fx1 := fx.1
  have hs2 : (ford .f64 (fop .sub .f64 X X) (some 0) != some .eq) = false := by unfold bne; rw [hs1]; rfl
  clear hb
  have HF := Lib.hid hF
  clear hF
  go_enter Try.func55, Try.ntmps55
  go_wp2_with (first | (refine wpList_farith rfl .sub _ _ _ _ rfl rfl .f64 x x rfl rfl fx fx ?_; intro r m hr; have hr1 := hr.1; clear hr) | (refine wpList_farith rfl .sub _ _ _ _ rfl rfl .f64 x _ rfl rfl fx (FV.ofInt _ _) ?_; intro r m hr; have hr1 : cn .f64 r = partD X := hr.1; have hrD : FV .f64 r (partD X) := hr; clear hr) | (refine wpList_farith rfl .add _ _ _ _ rfl rfl .f64 _ 4607182418800017408 rfl rfl (by first | (with_reducible assumption)) (FV.lit (by kernel_rfl) (by kernel_rfl)) ?_; intro r m hr; have hrF : FV .f64 r F := FV.of_eq hr HF.out.symm; have hr2 := hrF.1; clear hr) | (refine wpList_farith rfl _ _ _ _ _ rfl rfl _ _ _ rfl rfl (by first | assumption | (with_reducible exact FV.ofInt _ _) | exact FV.lit (by kernel_rfl) (by kernel_rfl)) (by first | assumption | (with_reducible exact FV.ofInt _ _) | exact FV.lit (by kernel_rfl) (by kernel_rfl)) ?_; intro r m hr; have hr1 := hr.1))
  go_loopw [7, 8] (fun p k w' => ∃ j n r : Nat, j ≤ 8 ∧ k = .int .i64 (8 - j) ∧ p = .float .f64 r ∧ FV .f64 r (polyS (fop .mul .f64 (fop .mul .f64 (fop .sub .f64 F (some 4602678819172646912)) (some 4618760256179416344)) (fop .mul .f64 (fop .sub .f64 F (some 4602678819172646912)) (some 4618760256179416344))) j) ∧ w' = w.drewN n) (fun _ k _ => (intOf k + 1).toNat)
  case atStart => exact ⟨0, _, _, by omega, rfl, rfl, FV.lit (by kernel_rfl) (by kernel_rfl), rfl⟩
  case round =>
    obtain ⟨j3, n3, r3, hj3, rfl, rfl, h03, rfl⟩ := hrel
    clear hh hq
    by_cases hlt3 : j3 < 8
    · have HD := Lib.hid (d8_wrap j3 hlt3)
      go_wp2_with (first | (refine wpList_farith rfl _ _ _ _ _ rfl rfl _ _ _ rfl rfl (by first | assumption | (with_reducible exact FV.ofInt _ _) | exact FV.lit (by kernel_rfl) (by kernel_rfl)) (by first | assumption | (with_reducible exact FV.ofInt _ _) | exact FV.lit (by kernel_rfl) (by kernel_rfl)) ?_; intro r m hr))
      go_roundw
      case rel => exact ⟨j3 + 1, _, _, by omega, by congr 1; omega, rfl, FV.of_eq hr (by rw [HD.out]; exact polyS_succ _ _), rfl⟩
      case measure => simp [intOf]; omega
    · obtain rfl : j3 = 8 := by omega
      go_wp2_with (first | (refine wpList_farith rfl _ _ _ _ _ rfl rfl _ _ _ rfl rfl (by first | assumption | (with_reducible exact FV.ofInt _ _) | exact FV.lit (by kernel_rfl) (by kernel_rfl)) (by first | assumption | (with_reducible exact FV.ofInt _ _) | exact FV.lit (by kernel_rfl) (by kernel_rfl)) ?_; intro r m hr))
      go_ret
      exact ⟨_, rfl, FV.neg (by assumption), _, rfl⟩

set_option maxHeartbeats 1000000 in
theorem specSine_hng (x : Nat) {X F : Option Nat} (fx : FV .f64 x X) (hb : Lt2 52 X) (hs1 : (ford .f64 (fop .sub .f64 X X) (some 0) == some .eq) = true) (hm1 : (ford .f64 X (some 4841369599423283200) == some .gt || ford .f64 X (some 4841369599423283200) == some .eq) = false) (hm2 : (ford .f64 X (some 14064741636278059008) == some .lt || ford .f64 X (some 14064741636278059008) == some .eq) = false)
    (hlt : (ford .f64 (partD X) (some 0) == some .lt) = false) (hF : F = partD X)
    (hh : (ford .f64 F (some 4602678819172646912) == some .gt || ford .f64 F (some 4602678819172646912) == some .eq) = true) (hq : (ford .f64 (fop .sub .f64 F (some 4602678819172646912)) (some 4598175219545276416) == some .gt) = false) (w : World) :
    Calls Try.prog 55 #[.float .f64 x] w fun e w' => ∃ r, e = .returned (.float .f64 r) ∧ FV .f64 r (fneg .f64 (fop .mul .f64 (fop .mul .f64 (fop .sub .f64 F (some 4602678819172646912)) (some 4618760256179416344)) (polyS (fop .mul .f64 (fop .mul .f64 (fop .sub .f64 F (some 4602678819172646912)) (some 4618760256179416344)) (fop .mul .f64 (fop .sub .f64 F (some 4602678819172646912)) (some 4618760256179416344))) 8))) ∧ ∃ n, w' = w.drewN n := by
  have c0 : cn .f64 0 = some 0 := cn_of (by decide +kernel)
  have cH : cn .f64 4602678819172646912 = some 4602678819172646912 := cn_of (by decide +kernel)
  have cQ : cn .f64 4598175219545276416 = some 4598175219545276416 := cn_of (by decide +kernel)
  have c1 : cn .f64 4607182418800017408 = some 4607182418800017408 := cn_of (by decide +kernel)
  have cN : cn .f64 4841369599423283200 = some 4841369599423283200 := cn_of (by decide +kernel)
  have cM : cn .f64 14064741636278059008 = some 14064741636278059008 := cn_of (by decide +kernel)
  have hcv := conv_whole fx hb
  have fx1 := fx.1
  have hs2 : (ford .f64 (fop .sub .f64 X X) (some 0) != some .eq) = false := by unfold bne; rw [hs1]; rfl
  clear hb
  have HF := Lib.hid hF
  clear hF
  go_enter Try.func55, Try.ntmps55
  go_wp2_with (first | (refine wpList_farith rfl .sub _ _ _ _ rfl rfl .f64 x x rfl rfl fx fx ?_; intro r m hr; have hr1 := hr.1; clear hr) | (refine wpList_farith rfl .sub _ _ _ _ rfl rfl .f64 x _ rfl rfl fx (FV.ofInt _ _) ?_; intro r m hr; have hr1 : cn .f64 r = partD X := hr.1; have hrD : FV .f64 r (partD X) := hr; clear hr; have hrF : FV .f64 r F := FV.of_eq hrD HF.out.symm; have hr2 := hrF.1; clear hr1 hrD; have hltF : (ford .f64 F (some 0) == some .lt) = false := by rw [HF.out]; exact hlt) | (refine wpList_farith rfl _ _ _ _ _ rfl rfl _ _ _ rfl rfl (by first | assumption | (with_reducible exact FV.ofInt _ _) | exact FV.lit (by kernel_rfl) (by kernel_rfl)) (by first | assumption | (with_reducible exact FV.ofInt _ _) | exact FV.lit (by kernel_rfl) (by kernel_rfl)) ?_; intro r m hr; have hr1 := hr.1))
  go_loopw [7, 8] (fun p k w' => ∃ j n r : Nat, j ≤ 8 ∧ k = .int .i64 (8 - j) ∧ p = .float .f64 r ∧ FV .f64 r (polyS (fop .mul .f64 (fop .mul .f64 (fop .sub .f64 F (some 4602678819172646912)) (some 4618760256179416344)) (fop .mul .f64 (fop .sub .f64 F (some 4602678819172646912)) (some 4618760256179416344))) j) ∧ w' = w.drewN n) (fun _ k _ => (intOf k + 1).toNat)
  case atStart => exact ⟨0, _, _, by omega, rfl, rfl, FV.lit (by kernel_rfl) (by kernel_rfl), rfl⟩
  case round =>
    obtain ⟨j3, n3, r3, hj3, rfl, rfl, h03, rfl⟩ := hrel
    clear hh hq
    by_cases hlt3 : j3 < 8
    · have HD := Lib.hid (d8_wrap j3 hlt3)
      go_wp2_with (first | (refine wpList_farith rfl _ _ _ _ _ rfl rfl _ _ _ rfl rfl (by first | assumption | (with_reducible exact FV.ofInt _ _) | exact FV.lit (by kernel_rfl) (by kernel_rfl)) (by first | assumption | (with_reducible exact FV.ofInt _ _) | exact FV.lit (by kernel_rfl) (by kernel_rfl)) ?_; intro r m hr))
      go_roundw
      case rel => exact ⟨j3 + 1, _, _, by omega, by congr 1; omega, rfl, FV.of_eq hr (by rw [HD.out]; exact polyS_succ _ _), rfl⟩
      case measure => simp [intOf]; omega
    · obtain rfl : j3 = 8 := by omega
      go_wp2_with (first | (refine wpList_farith rfl _ _ _ _ _ rfl rfl _ _ _ rfl rfl (by first | assumption | (with_reducible exact FV.ofInt _ _) | exact FV.lit (by kernel_rfl) (by kernel_rfl)) (by first | assumption | (with_reducible exact FV.ofInt _ _) | exact FV.lit (by kernel_rfl) (by kernel_rfl)) ?_; intro r m hr))
      go_ret
      exact ⟨_, rfl, FV.neg (by assumption), _, rfl⟩

set_option maxHeartbeats 1000000 in
theorem specSine_nql (x : Nat) {X F : Option Nat} (fx : FV .f64 x X) (hb : Lt2 52 X) (hs1 : (ford .f64 (fop .sub .f64 X X) (some 0) == some .eq) = true) (hm1 : (ford .f64 X (some 4841369599423283200) == some .gt || ford .f64 X (some 4841369599423283200) == some .eq) = false) (hm2 : (ford .f64 X (some 14064741636278059008) == some .lt || ford .f64 X (some 14064741636278059008) == some .eq) = false)
    (hlt : (ford .f64 (partD X) (some 0) == some .lt) = true) (hF : F = fop .add .f64 (partD X) (some 4607182418800017408))
    (hh : (ford .f64 F (some 4602678819172646912) == some .gt || ford .f64 F (some 4602678819172646912) == some .eq) = false) (hq : (ford .f64 F (some 4598175219545276416) == some .gt) = true) (w : World) :
    Calls Try.prog 55 #[.float .f64 x] w fun e w' => ∃ r, e = .returned (.float .f64 r) ∧ FV .f64 r (fop .mul .f64 (fop .mul .f64 (fop .sub .f64 (some 4602678819172646912) F) (some 4618760256179416344)) (polyS (fop .mul .f64 (fop .mul .f64 (fop .sub .f64 (some 4602678819172646912) F) (some 4618760256179416344)) (fop .mul .f64 (fop .sub .f64 (some 4602678819172646912) F) (some 4618760256179416344))) 8)) ∧ ∃ n, w' = w.drewN n := by
  have c0 : cn .f64 0 = some 0 := cn_of (by decide +kernel)
  have cH : cn .f64 4602678819172646912 = some 4602678819172646912 := cn_of (by decide +kernel)
  have cQ : cn .f64 4598175219545276416 = some 4598175219545276416 := cn_of (by decide +kernel)
  have c1 : cn .f64 4607182418800017408 = some 4607182418800017408 := cn_of (by decide +kernel)
  have cN : cn .f64 4841369599423283200 = some 4841369599423283200 := cn_of (by decide +kernel)
  have cM : cn .f64 14064741636278059008 = some 14064741636278059008 := cn_of (by decide +kernel)
  have hcv := conv_whole fx hb
  have fx1 := fx.1
  have hs2 : (ford .f64 (fop .sub .f64 X X) (some 0) != some .eq) = false := by unfold bne; rw [hs1]; rfl
  clear hb
  have HF := Lib.hid hF
  clear hF
  go_enter Try.func55, Try.ntmps55
  go_wp2_with (first | (refine wpList_farith rfl .sub _ _ _ _ rfl rfl .f64 x x rfl rfl fx fx ?_; intro r m hr; have hr1 := hr.1; clear hr) | (refine wpList_farith rfl .sub _ _ _ _ rfl rfl .f64 x _ rfl rfl fx (FV.ofInt _ _) ?_; intro r m hr; have hr1 : cn .f64 r = partD X := hr.1; have hrD : FV .f64 r (partD X) := hr; clear hr) | (refine wpList_farith rfl .add _ _ _ _ rfl rfl .f64 _ 4607182418800017408 rfl rfl (by first | (with_reducible assumption)) (FV.lit (by kernel_rfl) (by kernel_rfl)) ?_; intro r m hr; have hrF : FV .f64 r F := FV.of_eq hr HF.out.symm; have hr2 := hrF.1; clear hr) | (refine wpList_farith rfl _ _ _ _ _ rfl rfl _ _ _ rfl rfl (by first | assumption | (with_reducible exact FV.ofInt _ _) | exact FV.lit (by kernel_rfl) (by kernel_rfl)) (by first | assumption | (with_reducible exact FV.ofInt _ _) | exact FV.lit (by kernel_rfl) (by kernel_rfl)) ?_; intro r m hr; have hr1 := hr.1))
  go_loopw [7, 8] (fun p k w' => ∃ j n r : Nat, j ≤ 8 ∧ k = .int .i64 (8 - j) ∧ p = .float .f64 r ∧ FV .f64 r (polyS (fop .mul .f64 (fop .mul .f64 (fop .sub .f64 (some 4602678819172646912) F) (some 4618760256179416344)) (fop .mul .f64 (fop .sub .f64 (some 4602678819172646912) F) (some 4618760256179416344))) j) ∧ w' = w.drewN n) (fun _ k _ => (intOf k + 1).toNat)
  case atStart => exact ⟨0, _, _, by omega, rfl, rfl, FV.lit (by kernel_rfl) (by kernel_rfl), rfl⟩
  case round =>
    obtain ⟨j3, n3, r3, hj3, rfl, rfl, h03, rfl⟩ := hrel
    clear hh hq
    by_cases hlt3 : j3 < 8
    · have HD := Lib.hid (d8_wrap j3 hlt3)
      go_wp2_with (first | (refine wpList_farith rfl _ _ _ _ _ rfl rfl _ _ _ rfl rfl (by first | assumption | (with_reducible exact FV.ofInt _ _) | exact FV.lit (by kernel_rfl) (by kernel_rfl)) (by first | assumption | (with_reducible exact FV.ofInt _ _) | exact FV.lit (by kernel_rfl) (by kernel_rfl)) ?_; intro r m hr))
      go_roundw
      case rel => exact ⟨j3 + 1, _, _, by omega, by congr 1; omega, rfl, FV.of_eq hr (by rw [HD.out]; exact polyS_succ _ _), rfl⟩
      case measure => simp [intOf]; omega
    · obtain rfl : j3 = 8 := by omega
      go_wp2_with (first | (refine wpList_farith rfl _ _ _ _ _ rfl rfl _ _ _ rfl rfl (by first | assumption | (with_reducible exact FV.ofInt _ _) | exact FV.lit (by kernel_rfl) (by kernel_rfl)) (by first | assumption | (with_reducible exact FV.ofInt _ _) | exact FV.lit (by kernel_rfl) (by kernel_rfl)) ?_; intro r m hr))
      go_ret
      exact ⟨_, rfl, by assumption, _, rfl⟩

set_option maxHeartbeats 1000000 in
theorem specSine_nqg (x : Nat) {X F : Option Nat} (fx : FV .f64 x X) (hb : Lt2 52 X) (hs1 : (ford .f64 (fop .sub .f64 X X) (some 0) == some .eq) = true) (hm1 : (ford .f64 X (some 4841369599423283200) == some .gt || ford .f64 X (some 4841369599423283200) == some .eq) = false) (hm2 : (ford .f64 X (some 14064741636278059008) == some .lt || ford .f64 X (some 14064741636278059008) == some .eq) = false)
    (hlt : (ford .f64 (partD X) (some 0) == some .lt) = false) (hF : F = partD X)
    (hh : (ford .f64 F (some 4602678819172646912) == some .gt || ford .f64 F (some 4602678819172646912) == some .eq) = false) (hq : (ford .f64 F (some 4598175219545276416) == some .gt) = true) (w : World) :
    Calls Try.prog 55 #[.float .f64 x] w fun e w' => ∃ r, e = .returned (.float .f64 r) ∧ FV .f64 r (fop .mul .f64 (fop .mul .f64 (fop .sub .f64 (some 4602678819172646912) F) (some 4618760256179416344)) (polyS (fop .mul .f64 (fop .mul .f64 (fop .sub .f64 (some 4602678819172646912) F) (some 4618760256179416344)) (fop .mul .f64 (fop .sub .f64 (some 4602678819172646912) F) (some 4618760256179416344))) 8)) ∧ ∃ n, w' = w.drewN n := by
  have c0 : cn .f64 0 = some 0 := cn_of (by decide +kernel)
  have cH : cn .f64 4602678819172646912 = some 4602678819172646912 := cn_of (by decide +kernel)
  have cQ : cn .f64 4598175219545276416 = some 4598175219545276416 := cn_of (by decide +kernel)
  have c1 : cn .f64 4607182418800017408 = some 4607182418800017408 := cn_of (by decide +kernel)
  have cN : cn .f64 4841369599423283200 = some 4841369599423283200 := cn_of (by decide +kernel)
  have cM : cn .f64 14064741636278059008 = some 14064741636278059008 := cn_of (by decide +kernel)
  have hcv := conv_whole fx hb
  have fx1 := fx.1
  have hs2 : (ford .f64 (fop .sub .f64 X X) (some 0) != some .eq) = false := by unfold bne; rw [hs1]; rfl
  clear hb
  have HF := Lib.hid hF
  clear hF
  go_enter Try.func55, Try.ntmps55
  go_wp2_with (first | (refine wpList_farith rfl .sub _ _ _ _ rfl rfl .f64 x x rfl rfl fx fx ?_; intro r m hr; have hr1 := hr.1; clear hr) | (refine wpList_farith rfl .sub _ _ _ _ rfl rfl .f64 x _ rfl rfl fx (FV.ofInt _ _) ?_; intro r m hr; have hr1 : cn .f64 r = partD X := hr.1; have hrD : FV .f64 r (partD X) := hr; clear hr; have hrF : FV .f64 r F := FV.of_eq hrD HF.out.symm; have hr2 := hrF.1; clear hr1 hrD; have hltF : (ford .f64 F (some 0) == some .lt) = false := by rw [HF.out]; exact hlt) | (refine wpList_farith rfl _ _ _ _ _ rfl rfl _ _ _ rfl rfl (by first | assumption | (with_reducible exact FV.ofInt _ _) | exact FV.lit (by kernel_rfl) (by kernel_rfl)) (by first | assumption | (with_reducible exact FV.ofInt _ _) | exact FV.lit (by kernel_rfl) (by kernel_rfl)) ?_; intro r m hr; have hr1 := hr.1))
  go_loopw [7, 8] (fun p k w' => ∃ j n r : Nat, j ≤ 8 ∧ k = .int .i64 (8 - j) ∧ p = .float .f64 r ∧ FV .f64 r (polyS (fop .mul .f64 (fop .mul .f64 (fop .sub .f64 (some 4602678819172646912) F) (some 4618760256179416344)) (fop .mul .f64 (fop .sub .f64 (some 4602678819172646912) F) (some 4618760256179416344))) j) ∧ w' = w.drewN n) (fun _ k _ => (intOf k + 1).toNat)
  case atStart => exact ⟨0, _, _, by omega, rfl, rfl, FV.lit (by kernel_rfl) (by kernel_rfl), rfl⟩
  case round =>
    obtain ⟨j3, n3, r3, hj3, rfl, rfl, h03, rfl⟩ := hrel
    clear hh hq
    by_cases hlt3 : j3 < 8
    · have HD := Lib.hid (d8_wrap j3 hlt3)
      go_wp2_with (first | (refine wpList_farith rfl _ _ _ _ _ rfl rfl _ _ _ rfl rfl (by first | assumption | (with_reducible exact FV.ofInt _ _) | exact FV.lit (by kernel_rfl) (by kernel_rfl)) (by first | assumption | (with_reducible exact FV.ofInt _ _) | exact FV.lit (by kernel_rfl) (by kernel_rfl)) ?_; intro r m hr))
      go_roundw
      case rel => exact ⟨j3 + 1, _, _, by omega, by congr 1; omega, rfl, FV.of_eq hr (by rw [HD.out]; exact polyS_succ _ _), rfl⟩
      case measure => simp [intOf]; omega
    · obtain rfl : j3 = 8 := by omega
      go_wp2_with (first | (refine wpList_farith rfl _ _ _ _ _ rfl rfl _ _ _ rfl rfl (by first | assumption | (with_reducible exact FV.ofInt _ _) | exact FV.lit (by kernel_rfl) (by kernel_rfl)) (by first | assumption | (with_reducible exact FV.ofInt _ _) | exact FV.lit (by kernel_rfl) (by kernel_rfl)) ?_; intro r m hr))
      go_ret
      exact ⟨_, rfl, by assumption, _, rfl⟩

set_option maxHeartbeats 1000000 in
theorem specSine_nnl (x : Nat) {X F : Option Nat} (fx : FV .f64 x X) (hb : Lt2 52 X) (hs1 : (ford .f64 (fop .sub .f64 X X) (some 0) == some .eq) = true) (hm1 : (ford .f64 X (some 4841369599423283200) == some .gt || ford .f64 X (some 4841369599423283200) == some .eq) = false) (hm2 : (ford .f64 X (some 14064741636278059008) == some .lt || ford .f64 X (some 14064741636278059008) == some .eq) = false)
    (hlt : (ford .f64 (partD X) (some 0) == some .lt) = true) (hF : F = fop .add .f64 (partD X) (some 4607182418800017408))
    (hh : (ford .f64 F (some 4602678819172646912) == some .gt || ford .f64 F (some 4602678819172646912) == some .eq) = false) (hq : (ford .f64 F (some 4598175219545276416) == some .gt) = false) (w : World) :
    Calls Try.prog 55 #[.float .f64 x] w fun e w' => ∃ r, e = .returned (.float .f64 r) ∧ FV .f64 r (fop .mul .f64 (fop .mul .f64 F (some 4618760256179416344)) (polyS (fop .mul .f64 (fop .mul .f64 F (some 4618760256179416344)) (fop .mul .f64 F (some 4618760256179416344))) 8)) ∧ ∃ n, w' = w.drewN n := by
  have c0 : cn .f64 0 = some 0 := cn_of (by decide +kernel)
  have cH : cn .f64 4602678819172646912 = some 4602678819172646912 := cn_of (by decide +kernel)
  have cQ : cn .f64 4598175219545276416 = some 4598175219545276416 := cn_of (by decide +kernel)
  have c1 : cn .f64 4607182418800017408 = some 4607182418800017408 := cn_of (by decide +kernel)
  have cN : cn .f64 4841369599423283200 = some 4841369599423283200 := cn_of (by decide +kernel)
  have cM : cn .f64 14064741636278059008 = some 14064741636278059008 := cn_of (by decide +kernel)
  have hcv := conv_whole fx hb
  have fx1 := fx.1
  have hs2 : (ford .f64 (fop .sub .f64 X X) (some 0) != some .eq) = false := by unfold bne; rw [hs1]; rfl
  clear hb
  have HF := Lib.hid hF
  clear hF
  go_enter Try.func55, Try.ntmps55
  go_wp2_with (first | (refine wpList_farith rfl .sub _ _ _ _ rfl rfl .f64 x x rfl rfl fx fx ?_; intro r m hr; have hr1 := hr.1; clear hr) | (refine wpList_farith rfl .sub _ _ _ _ rfl rfl .f64 x _ rfl rfl fx (FV.ofInt _ _) ?_; intro r m hr; have hr1 : cn .f64 r = partD X := hr.1; have hrD : FV .f64 r (partD X) := hr; clear hr) | (refine wpList_farith rfl .add _ _ _ _ rfl rfl .f64 _ 4607182418800017408 rfl rfl (by first | (with_reducible assumption)) (FV.lit (by kernel_rfl) (by kernel_rfl)) ?_; intro r m hr; have hrF : FV .f64 r F := FV.of_eq hr HF.out.symm; have hr2 := hrF.1; clear hr) | (refine wpList_farith rfl _ _ _ _ _ rfl rfl _ _ _ rfl rfl (by first | assumption | (with_reducible exact FV.ofInt _ _) | exact FV.lit (by kernel_rfl) (by kernel_rfl)) (by first | assumption | (with_reducible exact FV.ofInt _ _) | exact FV.lit (by kernel_rfl) (by kernel_rfl)) ?_; intro r m hr; have hr1 := hr.1))
  go_loopw [7, 8] (fun p k w' => ∃ j n r : Nat, j ≤ 8 ∧ k = .int .i64 (8 - j) ∧ p = .float .f64 r ∧ FV .f64 r (polyS (fop .mul .f64 (fop .mul .f64 F (some 4618760256179416344)) (fop .mul .f64 F (some 4618760256179416344))) j) ∧ w' = w.drewN n) (fun _ k _ => (intOf k + 1).toNat)
  case atStart => exact ⟨0, _, _, by omega, rfl, rfl, FV.lit (by kernel_rfl) (by kernel_rfl), rfl⟩
  case round =>
    obtain ⟨j3, n3, r3, hj3, rfl, rfl, h03, rfl⟩ := hrel
    clear hh hq
    by_cases hlt3 : j3 < 8
    · have HD := Lib.hid (d8_wrap j3 hlt3)
      go_wp2_with (first | (refine wpList_farith rfl _ _ _ _ _ rfl rfl _ _ _ rfl rfl (by first | assumption | (with_reducible exact FV.ofInt _ _) | exact FV.lit (by kernel_rfl) (by kernel_rfl)) (by first | assumption | (with_reducible exact FV.ofInt _ _) | exact FV.lit (by kernel_rfl) (by kernel_rfl)) ?_; intro r m hr))
      go_roundw
      case rel => exact ⟨j3 + 1, _, _, by omega, by congr 1; omega, rfl, FV.of_eq hr (by rw [HD.out]; exact polyS_succ _ _), rfl⟩
      case measure => simp [intOf]; omega
    · obtain rfl : j3 = 8 := by omega
      go_wp2_with (first | (refine wpList_farith rfl _ _ _ _ _ rfl rfl _ _ _ rfl rfl (by first | assumption | (with_reducible exact FV.ofInt _ _) | exact FV.lit (by kernel_rfl) (by kernel_rfl)) (by first | assumption | (with_reducible exact FV.ofInt _ _) | exact FV.lit (by kernel_rfl) (by kernel_rfl)) ?_; intro r m hr))
      go_ret
      exact ⟨_, rfl, by assumption, _, rfl⟩

set_option maxHeartbeats 1000000 in
theorem specSine_nng (x : Nat) {X F : Option Nat} (fx : FV .f64 x X) (hb : Lt2 52 X) (hs1 : (ford .f64 (fop .sub .f64 X X) (some 0) == some .eq) = true) (hm1 : (ford .f64 X (some 4841369599423283200) == some .gt || ford .f64 X (some 4841369599423283200) == some .eq) = false) (hm2 : (ford .f64 X (some 14064741636278059008) == some .lt || ford .f64 X (some 14064741636278059008) == some .eq) = false)
    (hlt : (ford .f64 (partD X) (some 0) == some .lt) = false) (hF : F = partD X)
    (hh : (ford .f64 F (some 4602678819172646912) == some .gt || ford .f64 F (some 4602678819172646912) == some .eq) = false) (hq : (ford .f64 F (some 4598175219545276416) == some .gt) = false) (w : World) :
    Calls Try.prog 55 #[.float .f64 x] w fun e w' => ∃ r, e = .returned (.float .f64 r) ∧ FV .f64 r (fop .mul .f64 (fop .mul .f64 F (some 4618760256179416344)) (polyS (fop .mul .f64 (fop .mul .f64 F (some 4618760256179416344)) (fop .mul .f64 F (some 4618760256179416344))) 8)) ∧ ∃ n, w' = w.drewN n := by
  have c0 : cn .f64 0 = some 0 := cn_of (by decide +kernel)
  have cH : cn .f64 4602678819172646912 = some 4602678819172646912 := cn_of (by decide +kernel)
  have cQ : cn .f64 4598175219545276416 = some 4598175219545276416 := cn_of (by decide +kernel)
  have c1 : cn .f64 4607182418800017408 = some 4607182418800017408 := cn_of (by decide +kernel)
  have cN : cn .f64 4841369599423283200 = some 4841369599423283200 := cn_of (by decide +kernel)
  have cM : cn .f64 14064741636278059008 = some 14064741636278059008 := cn_of (by decide +kernel)
  have hcv := conv_whole fx hb
  have fx1 := fx.1
  have hs2 : (ford .f64 (fop .sub .f64 X X) (some 0) != some .eq) = false := by unfold bne; rw [hs1]; rfl
  clear hb
  have HF := Lib.hid hF
  clear hF
  go_enter Try.func55, Try.ntmps55
  go_wp2_with (first | (refine wpList_farith rfl .sub _ _ _ _ rfl rfl .f64 x x rfl rfl fx fx ?_; intro r m hr; have hr1 := hr.1; clear hr) | (refine wpList_farith rfl .sub _ _ _ _ rfl rfl .f64 x _ rfl rfl fx (FV.ofInt _ _) ?_; intro r m hr; have hr1 : cn .f64 r = partD X := hr.1; have hrD : FV .f64 r (partD X) := hr; clear hr; have hrF : FV .f64 r F := FV.of_eq hrD HF.out.symm; have hr2 := hrF.1; clear hr1 hrD; have hltF : (ford .f64 F (some 0) == some .lt) = false := by rw [HF.out]; exact hlt) | (refine wpList_farith rfl _ _ _ _ _ rfl rfl _ _ _ rfl rfl (by first | assumption | (with_reducible exact FV.ofInt _ _) | exact FV.lit (by kernel_rfl) (by kernel_rfl)) (by first | assumption | (with_reducible exact FV.ofInt _ _) | exact FV.lit (by kernel_rfl) (by kernel_rfl)) ?_; intro r m hr; have hr1 := hr.1))
  go_loopw [7, 8] (fun p k w' => ∃ j n r : Nat, j ≤ 8 ∧ k = .int .i64 (8 - j) ∧ p = .float .f64 r ∧ FV .f64 r (polyS (fop .mul .f64 (fop .mul .f64 F (some 4618760256179416344)) (fop .mul .f64 F (some 4618760256179416344))) j) ∧ w' = w.drewN n) (fun _ k _ => (intOf k + 1).toNat)
  case atStart => exact ⟨0, _, _, by omega, rfl, rfl, FV.lit (by kernel_rfl) (by kernel_rfl), rfl⟩
  case round =>
    obtain ⟨j3, n3, r3, hj3, rfl, rfl, h03, rfl⟩ := hrel
    clear hh hq
    by_cases hlt3 : j3 < 8
    · have HD := Lib.hid (d8_wrap j3 hlt3)
      go_wp2_with (first | (refine wpList_farith rfl _ _ _ _ _ rfl rfl _ _ _ rfl rfl (by first | assumption | (with_reducible exact FV.ofInt _ _) | exact FV.lit (by kernel_rfl) (by kernel_rfl)) (by first | assumption | (with_reducible exact FV.ofInt _ _) | exact FV.lit (by kernel_rfl) (by kernel_rfl)) ?_; intro r m hr))
      go_roundw
      case rel => exact ⟨j3 + 1, _, _, by omega, by congr 1; omega, rfl, FV.of_eq hr (by rw [HD.out]; exact polyS_succ _ _), rfl⟩
      case measure => simp [intOf]; omega
    · obtain rfl : j3 = 8 := by omega
      go_wp2_with (first | (refine wpList_farith rfl _ _ _ _ _ rfl rfl _ _ _ rfl rfl (by first | assumption | (with_reducible exact FV.ofInt _ _) | exact FV.lit (by kernel_rfl) (by kernel_rfl)) (by first | assumption | (with_reducible exact FV.ofInt _ _) | exact FV.lit (by kernel_rfl) (by kernel_rfl)) ?_; intro r m hr))
      go_ret
      exact ⟨_, rfl, by assumption, _, rfl⟩

theorem specSine_any (x : Nat) {X : Option Nat} (fx : FV .f64 x X) (hf : finite .f64 X = true) (hm : many X = false) (w : World) :
    Calls Try.prog 55 #[.float .f64 x] w fun e w' => ∃ r, e = .returned (.float .f64 r) ∧ FV .f64 r (sineP X) ∧ ∃ n, w' = w.drewN n := by
  have hb := few_lt2 hf hm
  have hs1 := (sub_self_zero64 fx.clean).trans hf
  have hmm := (many_two fx.clean).symm.trans hm
  obtain ⟨hm1, hm2⟩ := Bool.or_eq_false_iff.1 hmm
  cases hlt : (ford .f64 (partD X) (some 0) == some .lt) with
  | true =>
    have hF : partP X = fop .add .f64 (partD X) (some 4607182418800017408) := by unfold partP; rw [if_pos hlt]
    unfold sineP sineU sineZ sineF2 sineF1
    generalize partP X = F at hF
    cases hh : isHalf F with
    | true =>
      simp only [if_true]
      cases hq : (ford .f64 (fop .sub .f64 F half) quarter == some .gt) with
      | true => simp only [if_true]; exact specSine_hql x fx hb hs1 hm1 hm2 hlt hF hh hq w
      | false => simp only [Bool.false_eq_true, if_false]; exact specSine_hnl x fx hb hs1 hm1 hm2 hlt hF hh hq w
    | false =>
      simp only [Bool.false_eq_true, if_false]
      cases hq : (ford .f64 F quarter == some .gt) with
      | true => simp only [if_true]; exact specSine_nql x fx hb hs1 hm1 hm2 hlt hF hh hq w
      | false => simp only [Bool.false_eq_true, if_false]; exact specSine_nnl x fx hb hs1 hm1 hm2 hlt hF hh hq w
  | false =>
    have hF : partP X = partD X := by unfold partP; rw [if_neg (by rw [hlt]; decide)]
    unfold sineP sineU sineZ sineF2 sineF1
    generalize partP X = F at hF
    cases hh : isHalf F with
    | true =>
      simp only [if_true]
      cases hq : (ford .f64 (fop .sub .f64 F half) quarter == some .gt) with
      | true => simp only [if_true]; exact specSine_hqg x fx hb hs1 hm1 hm2 hlt hF hh hq w
      | false => simp only [Bool.false_eq_true, if_false]; exact specSine_hng x fx hb hs1 hm1 hm2 hlt hF hh hq w
    | false =>
      simp only [Bool.false_eq_true, if_false]
      cases hq : (ford .f64 F quarter == some .gt) with
      | true => simp only [if_true]; exact specSine_nqg x fx hb hs1 hm1 hm2 hlt hF hh hq w
      | false => simp only [Bool.false_eq_true, if_false]; exact specSine_nng x fx hb hs1 hm1 hm2 hlt hF hh hq w

end Go.Proofs.Ytnjkabckbnbboaa
