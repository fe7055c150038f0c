/- Helper: walks of the reference's logarithm. Conditions: none. -/
import Derived.Test.YtnjkabckbnbboaaLogWalks
set_option linter.unusedVariables false
namespace Go.Proofs.Ytnjkabckbnbboaa
open Go.RowKit

theorem zero_gen {x mm : Nat} {f p : Int} {z : Nat} (hx : Ieee.double.read x = .number false mm f) (hz : Ieee.double.read z = .number false 0 p) (h : mm ≠ 0) : ford .f64 (some x) (some z) = some .gt := by
  have e : ford .f64 (some x) (some z) = (Ieee.double.read x).order (Ieee.double.read z) := rfl
  rw [e, hx, hz, order_zero2 .f64, if_neg h]
  rfl
theorem gt_gen {x c m n : Nat} {f g : Int} (hx : Ieee.double.read x = .number false m f) (hc : Ieee.double.read c = .number false n g)
    (h1 : 4503599627370496 ≤ m) (h2 : m < 9007199254740992) (k1 : 4503599627370496 ≤ n) (k2 : n < 9007199254740992) (h : f < g) :
    (ford .f64 (some x) (some c) == some .gt) = false := by
  have e : ford .f64 (some x) (some c) = (Ieee.double.read x).order (Ieee.double.read c) := rfl
  rw [e, hx, hc, order_canon h1 h2 k1 k2, if_pos h]
  rfl
theorem zero_read : Ieee.double.read 0 = .number false 0 (-1074) := by decide +kernel
theorem max_read : Ieee.double.read 9218868437227405311 = .number false 9007199254740991 971 := by decide +kernel
theorem W_zero {mm : Nat} {f : Int} (h1 : 4503599627370496 ≤ mm) (h2 : mm < 9007199254740992) (h3 : -1074 ≤ f) (h4 : f ≤ 900) : ford .f64 (some (W mm f)) (some 0) = some .gt :=
  zero_gen (readW h1 h2 h3 h4) zero_read (by omega)
theorem W_max {mm : Nat} {f : Int} (h1 : 4503599627370496 ≤ mm) (h2 : mm < 9007199254740992) (h3 : -1074 ≤ f) (h4 : f ≤ 900) : (ford .f64 (some (W mm f)) (some 9218868437227405311) == some .gt) = false :=
  gt_gen (readW h1 h2 h3 h4) max_read h1 h2 (by decide) (by decide) (by omega)

theorem isInf1_any (x : Nat) {X : Option Nat} (fx : FV .f64 x X) (w : World) :
    Calls Try.prog 45 #[.float .f64 x, .int .i64 1] w fun e w' => e = .returned (.bool (ford .f64 X (some 9218868437227405311) == some .gt)) ∧ w = w' := by
  have h1 := fx.1
  have c1 : cn .f64 9218868437227405311 = some 9218868437227405311 := cn_of (by decide +kernel)
  go_enter Try.func45, Try.ntmps45
  go_wp2
  go_ret
  exact ⟨rfl, rfl⟩
theorem inf_any (w : World) : Calls Try.prog 40 #[.int .i64 (-1)] w fun e w' => e = .returned (.float .f64 18442240474082181120) ∧ w = w' := by
  go_enter Try.func40, Try.ntmps40
  go_wp2
  go_ret
  exact ⟨rfl, rfl⟩
theorem nanL_any (w : World) : Calls Try.prog 47 #[] w fun e w' => ∃ r, e = .returned (.float .f64 r) ∧ FV .f64 r none ∧ w = w' := by
  have hn : FV .f64 9221120237041090561 none := ⟨cn_nan (by decide +kernel), by decide +kernel⟩
  go_enter Try.func47, Try.ntmps47
  go_wp2
  go_ret
  exact ⟨_, rfl, hn, rfl⟩
theorem noNumberL_any (w : World) : Calls Try.prog 27 #[] w fun e w' => ∃ r, e = .returned (.float .f32 r) ∧ FV .f32 r none ∧ ∃ n, w' = w.drewN n := by
  have hf : fits none := by intro x hx; cases hx
  go_enter Try.func27, Try.ntmps27
  go_wp2_with (first | (go_at_call 47; refine (nanL_any _).mono ?_; rintro e w' ⟨r, rfl, hr, rfl⟩) | (refine wpList_narrow rfl _ _ _ rfl _ rfl (by kernel_rfl) Try.underlying28 (by assumption) (by assumption) ?_; intro r m hr))
  go_ret
  exact ⟨_, rfl, by assumption, _, rfl⟩
set_option maxHeartbeats 1000000 in
theorem specLog_any {mm : Nat} {f : Int} (h1 : 4503599627370496 ≤ mm) (h2 : mm < 9007199254740992) (h3 : -201 ≤ f) (h4 : f ≤ 75) (w : World) :
    Calls Try.prog 57 #[.float .f64 (W mm f)] w fun e w' => ∃ r, e = .returned (.float .f64 r) ∧ FV .f64 r (logB mm (f - red mm)) ∧ ∃ n, w' = w.drewN n := by
  have hred := red_cases mm
  have hred1 : -53 ≤ red mm := by omega
  have hred2 : red mm ≤ -52 := by omega
  have c0 : cn .f64 0 = some 0 := cn_of (by decide +kernel)
  have c15 : cn .f64 4609434218613702656 = some 4609434218613702656 := cn_of (by decide +kernel)
  have c75 : cn .f64 4604930618986332160 = some 4604930618986332160 := cn_of (by decide +kernel)
  have c1 : cn .f64 4607182418800017408 = some 4607182418800017408 := cn_of (by decide +kernel)
  clear hred
  have fw0 := FV.ofW h1 h2 (f := f) (by omega) (by omega)
  have cw0 := fw0.1
  have hself : ford .f64 (some (W mm f)) (some (W mm f)) = some .eq := ford_self' fw0.clean
  have hzero := W_zero h1 h2 (f := f) (by omega) (by omega)
  have hmax := W_max h1 h2 (f := f) (by omega) (by omega)
  go_enter Try.func57, Try.ntmps57
  go_wp2_with (go_at_call 45; refine (isInf1_any _ fw0 _).mono ?_; rintro e w' ⟨rfl, rfl⟩)
  clear fw0 cw0 hself hzero hmax
  go_loopw [0, 3] (fun x e w' => ∃ j n : Nat, x = .float .f64 (W mm (f - j)) ∧ e = .int .i64 j ∧ (red mm ≤ f - j ∨ j = 0) ∧ w' = w.drewN n) (fun x _ _ => fBits x)
  case atStart => exact ⟨0, 0, by simp, rfl, .inr rfl, rfl⟩
  case round =>
    obtain ⟨j, n, rfl, rfl, hj, rfl⟩ := hrel
    have hjb : (j : Int) ≤ 128 := by omega
    have fw := FV.ofW h1 h2 (f := f - j) (by omega) (by omega)
    have cw := fw.1
    have hg := ge15 h1 h2 (f := f - j) (by omega) (by omega)
    by_cases hlt : red mm < f - j
    · rw [decide_eq_true hlt] at hg
      have HA := Lib.hid (halfW h1 h2 (f := f - j) (by omega) (by omega))
      have HL := Lib.hid (W_lt (m := mm) (f := f - j) (by omega))
      have e1 : f - (j : Int) - 1 = f - ((j + 1 : Nat) : Int) := by push_cast; omega
      rw [e1] at HA HL
      clear e1
      go_wp2_with (first | (refine wpList_farith rfl .quo _ _ _ _ rfl rfl .f64 (W mm (f - j)) _ rfl rfl fw (FV.lit (by kernel_rfl) (by kernel_rfl)) ?_; intro r m' hr; rw [HA.out] at hr; obtain rfl := hr.eq; clear hr))
      go_roundw
      case rel => exact ⟨j + 1, _, rfl, by go_num, .inl (by push_cast; omega), rfl⟩
      case measure => exact HL.out
    · rw [decide_eq_false hlt] at hg
      go_wp2
      go_loopw [0, 3] (fun x e w' => ∃ (c : Int) (n : Nat), x = .float .f64 (W mm (f - c)) ∧ e = .int .i64 c ∧ f - c ≤ red mm ∧ (c ≤ 0 ∨ f - c = red mm) ∧ -299 ≤ c ∧ c ≤ 299 ∧ w' = w.drewN n) (fun x _ _ => 9223372036854775808 - fBits x)
      case atStart => exact ⟨j, _, rfl, rfl, by omega, by omega, by omega, by omega, rfl⟩
      case round =>
        clear hg hlt cw fw hj hjb
        obtain ⟨c, n2, rfl, rfl, hc1, hc2, hc3, hc4, rfl⟩ := hrel
        have hc5 : -201 ≤ f - c := by omega
        have fw := FV.ofW h1 h2 (f := f - c) (by omega) (by omega)
        have cw := fw.1
        have hg := lt75 h1 h2 (f := f - c) (by omega) (by omega)
        by_cases hlt : f - c < red mm
        · rw [decide_eq_true hlt] at hg
          have HA := Lib.hid (doubleW h1 h2 (f := f - c) (by omega) (by omega))
          have HL := Lib.hid (W_lt (m := mm) (f := f - c + 1) (by omega))
          have HL2 := Lib.hid (W_le (m := mm) (f := f - c + 1) h2 (by omega))
          have e0 : f - c + 1 - 1 = f - c := by omega
          have e1 : f - c + 1 = f - (c - 1) := by omega
          rw [e0] at HL
          rw [e1] at HA HL HL2
          clear e0 e1
          go_wp2_with (first | (refine wpList_farith rfl .mul _ _ _ _ rfl rfl .f64 (W mm (f - c)) _ rfl rfl fw (FV.lit (by kernel_rfl) (by kernel_rfl)) ?_; intro r m' hr; rw [HA.out] at hr; obtain rfl := hr.eq; clear hr))
          go_roundw
          case rel => exact ⟨c - 1, _, rfl, rfl, by omega, by omega, by omega, by omega, rfl⟩
          case measure =>
            have a1 := HL.out
            have a2 := HL2.out
            show 9223372036854775808 - W mm (f - (c - 1)) < 9223372036854775808 - W mm (f - c)
            omega
        · rw [decide_eq_false hlt] at hg
          obtain rfl : c = f - red mm := by omega
          have e2 : f - (f - red mm) = red mm := by omega
          rw [e2] at fw cw hg ⊢
          clear e2
          go_wp2_with (first | (refine wpList_farith rfl _ _ _ _ _ rfl rfl _ _ _ rfl rfl (by first | assumption | (with_reducible exact FV.ofInt _ _) | exact FV.lit (by kernel_rfl) (by kernel_rfl)) (by first | assumption | (with_reducible exact FV.ofInt _ _) | exact FV.lit (by kernel_rfl) (by kernel_rfl)) ?_; intro r m hr))
          go_loopw [6, 7] (fun p k w' => ∃ j n r : Nat, j ≤ 13 ∧ k = .int .i64 (25 - 2 * j) ∧ p = .float .f64 r ∧ FV .f64 r (polyQ (fop .mul .f64 (sP mm) (sP mm)) j) ∧ w' = w.drewN n) (fun _ k _ => (intOf k + 1).toNat)
          case atStart => exact ⟨0, _, 0, by omega, rfl, rfl, FV.lit (by kernel_rfl) (by kernel_rfl), rfl⟩
          case round =>
            clear hg
            obtain ⟨j3, n3, r3, hj3, rfl, rfl, h03, rfl⟩ := hrel
            by_cases hlt3 : j3 < 13
            · go_wp2_with (first | (refine wpList_farith rfl _ _ _ _ _ rfl rfl _ _ _ rfl rfl (by first | assumption | (with_reducible exact FV.ofInt _ _) | exact FV.lit (by kernel_rfl) (by kernel_rfl)) (by first | assumption | (with_reducible exact FV.ofInt _ _) | exact FV.lit (by kernel_rfl) (by kernel_rfl)) ?_; intro r m hr))
              go_roundw
              case rel => exact ⟨j3 + 1, _, _, by omega, by congr 1; omega, rfl, FV.of_eq hr (polyQ_succ _ _), rfl⟩
              case measure => simp [intOf]; omega
            · obtain rfl : j3 = 13 := by omega
              go_wp2_with (first | (refine wpList_farith rfl _ _ _ _ _ rfl rfl _ _ _ rfl rfl (by first | assumption | (with_reducible exact FV.ofInt _ _) | exact FV.lit (by kernel_rfl) (by kernel_rfl)) (by first | assumption | (with_reducible exact FV.ofInt _ _) | exact FV.lit (by kernel_rfl) (by kernel_rfl)) ?_; intro r m hr))
              go_ret
              exact ⟨_, rfl, FV.of_eq hr (logB_is _ _), _, rfl⟩
end Go.Proofs.Ytnjkabckbnbboaa
