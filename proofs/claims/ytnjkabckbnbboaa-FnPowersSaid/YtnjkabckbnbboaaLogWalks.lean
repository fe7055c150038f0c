/- Helper: walks of the logarithm, of the program and of its reference. Conditions: none. -/
import Derived.Test.YtnjkabckbnbboaaRootWalks
import Derived.Test.YtnjkabckbnbboaaLogFacts
import Derived.Lib.Hide
set_option linter.unusedVariables false
namespace Go.Proofs.Ytnjkabckbnbboaa
open Go.RowKit

theorem FV.ofW {m : Nat} {f : Int} (h1 : 4503599627370496 ≤ m) (h2 : m < 9007199254740992) (h3 : -1074 ≤ f) (h4 : f ≤ 900) : FV .f64 (W m f) (some (W m f)) := by
  refine FV.lit ?_ ?_
  · show (Ieee.double.read (W m f)).isNaN = false
    rw [readW h1 h2 h3 h4]; rfl
  · have : W m f < 18446744073709551616 := by unfold W; omega
    simpa [Lit.wf] using this

theorem W_lt {m : Nat} {f : Int} (h1 : -1073 ≤ f) : W m (f - 1) < W m f := by unfold W; omega
theorem W_le {m : Nat} {f : Int} (h2 : m < 9007199254740992) (h : f ≤ 900) : W m f < 9223372036854775808 := by unfold W; omega
def fBits (v : Value) : Nat := match v with | .float _ b => b | _ => 0

def fi (c : Int) : Nat := floatOfInt .f64 c
theorem fi0 : fi 0 = 0 := by decide +kernel
theorem fi_succ : ∀ j : Nat, j < 300 → fop .add .f64 (some (fi j)) (some 4607182418800017408) = some (fi ((j + 1 : Nat) : Int)) := by decide +kernel
theorem fi_pred' : ∀ j : Nat, j < 300 → fop .sub .f64 (some (fi (-(j : Int)))) (some 4607182418800017408) = some (fi (-(j : Int) - 1)) := by decide +kernel
theorem fi_pred (c : Int) (h1 : -299 ≤ c) (h2 : c ≤ 0) : fop .sub .f64 (some (fi c)) (some 4607182418800017408) = some (fi (c - 1)) := by
  have := fi_pred' (-c).toNat (by omega)
  rw [Int.toNat_of_nonneg (by omega), Int.neg_neg] at this
  exact this
theorem FV.fi (c : Int) : FV .f64 (fi c) (some (fi c)) := FV.ofInt _ _

theorem k2_ge : ∀ j : Nat, j < 13 → (ford .f64 (some (k2 j)) (some 4607182418800017408) == some .gt || ford .f64 (some (k2 j)) (some 4607182418800017408) == some .eq) = true := by decide +kernel
theorem k2_end : (ford .f64 (some (k2 13)) (some 4607182418800017408) == some .gt || ford .f64 (some (k2 13)) (some 4607182418800017408) == some .eq) = false := by decide +kernel
theorem k2_next : ∀ j : Nat, j < 13 → fop .sub .f64 (some (k2 j)) (some 4611686018427387904) = some (k2 (j + 1)) := by decide +kernel
theorem k2_start : k2 0 = 4627730092099895296 := by decide +kernel
theorem cn_k2 (j : Nat) : cn .f64 (k2 j) = some (k2 j) := cn_number .f64 _ _ _
def k2Idx (b : Nat) : Nat := 14 - (List.range 14).findIdx (fun j => k2 j == b)
theorem k2Idx_k2 : ∀ j : Nat, j < 14 → k2Idx (k2 j) = 14 - j := by decide +kernel
def k2Of (v : Value) : Nat := match v with | .float _ b => k2Idx b | _ => 0

theorem polyQ_succ (u : Option Nat) (j : Nat) : fop .add .f64 (fop .quo .f64 (some 4607182418800017408) (some (k2 j))) (fop .mul .f64 u (polyQ u j)) = polyQ u (j + 1) := rfl
theorem logB_is (m : Nat) (c : Int) : fop .add .f64 (fop .mul .f64 (some 4611686018427387904) (fop .mul .f64 (sP m) (polyQ (fop .mul .f64 (sP m) (sP m)) 13))) (fop .mul .f64 (some (fi c)) (some 4604418534313441775)) = logB m c := rfl

set_option maxHeartbeats 1000000 in
theorem implLog_any {mm : Nat} {f : Int} (h1 : 4503599627370496 ≤ mm) (h2 : mm < 9007199254740992) (h3 : -201 ≤ f) (h4 : f ≤ 75) (w : World) :
    Calls Try.prog 37 #[.float .f64 (W mm f)] w fun e w' => ∃ r, e = .returned (.float .f64 r) ∧ FV .f64 r (logB mm (f - red mm)) ∧ ∃ n, w' = w.drewN n := by
  have hred := red_cases mm
  have hred1 : -53 ≤ red mm := by omega
  have hred2 : red mm ≤ -52 := by omega
  have c15 : cn .f64 4609434218613702656 = some 4609434218613702656 := cn_of (by decide +kernel)
  have c75 : cn .f64 4604930618986332160 = some 4604930618986332160 := cn_of (by decide +kernel)
  have c1 : cn .f64 4607182418800017408 = some 4607182418800017408 := cn_of (by decide +kernel)
  clear hred
  go_enter Try.func37, Try.ntmps37
  go_wp2
  go_loopw [0, 3] (fun x e w' => ∃ j n : Nat, x = .float .f64 (W mm (f - j)) ∧ e = .float .f64 (fi j) ∧ (red mm ≤ f - j ∨ j = 0) ∧ w' = w.drewN n) (fun x _ _ => fBits x)
  case atStart => exact ⟨0, 0, by simp, by rw [show ((0 : Nat) : Int) = 0 from rfl, fi0], .inr rfl, rfl⟩
  case round =>
    obtain ⟨j, n, rfl, rfl, hj, rfl⟩ := hrel
    have hjb : (j : Int) ≤ 128 := by omega
    have fw := FV.ofW h1 h2 (f := f - j) (by omega) (by omega)
    have cw := fw.1
    have hg := ge15 h1 h2 (f := f - j) (by omega) (by omega)
    by_cases hlt : red mm < f - j
    · rw [decide_eq_true hlt] at hg
      have HA := Lib.hid (halfW h1 h2 (f := f - j) (by omega) (by omega))
      have HB := Lib.hid (fi_succ j (by omega))
      have fe := FV.fi j
      have HL := Lib.hid (W_lt (m := mm) (f := f - j) (by omega))
      have e1 : f - (j : Int) - 1 = f - ((j + 1 : Nat) : Int) := by push_cast; omega
      rw [e1] at HA HL
      have E1 := Lib.hid e1
      clear e1
      go_wp2_with (first | (refine wpList_farith rfl .quo _ _ _ _ rfl rfl .f64 (W mm (f - j)) _ rfl rfl fw (FV.lit (by kernel_rfl) (by kernel_rfl)) ?_; intro r m' hr; rw [HA.out] at hr; obtain rfl := hr.eq; clear hr) | (refine wpList_farith rfl .add _ _ _ _ rfl rfl .f64 (fi j) _ rfl rfl fe (FV.lit (by kernel_rfl) (by kernel_rfl)) ?_; intro r m' hr; rw [HB.out] at hr; obtain rfl := hr.eq; clear hr))
      go_roundw
      case rel => exact ⟨j + 1, _, rfl, rfl, .inl (by push_cast; omega), rfl⟩
      case measure => exact HL.out
    · rw [decide_eq_false hlt] at hg
      go_wp2
      go_loopw [0, 3] (fun x e w' => ∃ (c : Int) (n : Nat), x = .float .f64 (W mm (f - c)) ∧ e = .float .f64 (fi c) ∧ f - c ≤ red mm ∧ (c ≤ 0 ∨ f - c = red mm) ∧ -299 ≤ c ∧ c ≤ 299 ∧ w' = w.drewN n) (fun x _ _ => 9223372036854775808 - fBits x)
      case atStart => exact ⟨j, _, rfl, rfl, by omega, by omega, by omega, by omega, rfl⟩
      case round =>
        clear hg hlt cw fw hj hjb
        obtain ⟨c, n2, rfl, rfl, hc1, hc2, hc3, hc4, rfl⟩ := hrel
        have hc5 : -201 ≤ f - c := by omega
        have fw := FV.ofW h1 h2 (f := f - c) (by omega) (by omega)
        have cw := fw.1
        have hg := lt75 h1 h2 (f := f - c) (by omega) (by omega)
        by_cases hlt : f - c < red mm
        · rw [decide_eq_true hlt] at hg
          have HA := Lib.hid (doubleW h1 h2 (f := f - c) (by omega) (by omega))
          have HB := Lib.hid (fi_pred c (by omega) (by omega))
          have fe := FV.fi c
          have HL := Lib.hid (W_lt (m := mm) (f := f - c + 1) (by omega))
          have HL2 := Lib.hid (W_le (m := mm) (f := f - c + 1) h2 (by omega))
          have e0 : f - c + 1 - 1 = f - c := by omega
          have e1 : f - c + 1 = f - (c - 1) := by omega
          rw [e0] at HL
          rw [e1] at HA HL HL2
          clear e0 e1
          go_wp2_with (first | (refine wpList_farith rfl .mul _ _ _ _ rfl rfl .f64 (W mm (f - c)) _ rfl rfl fw (FV.lit (by kernel_rfl) (by kernel_rfl)) ?_; intro r m' hr; rw [HA.out] at hr; obtain rfl := hr.eq; clear hr) | (refine wpList_farith rfl .sub _ _ _ _ rfl rfl .f64 (fi c) _ rfl rfl fe (FV.lit (by kernel_rfl) (by kernel_rfl)) ?_; intro r m' hr; rw [HB.out] at hr; obtain rfl := hr.eq; clear hr))
          go_roundw
          case rel => exact ⟨c - 1, _, rfl, rfl, by omega, by omega, by omega, by omega, rfl⟩
          case measure =>
            have a1 := HL.out
            have a2 := HL2.out
            show 9223372036854775808 - W mm (f - (c - 1)) < 9223372036854775808 - W mm (f - c)
            omega
        · rw [decide_eq_false hlt] at hg
          obtain rfl : c = f - red mm := by omega
          have e2 : f - (f - red mm) = red mm := by omega
          rw [e2] at fw cw hg ⊢
          have fe := FV.fi (f - red mm)
          clear e2
          have c25 : cn .f64 4627730092099895296 = some (k2 0) := by rw [← k2_start]; exact cn_k2 0
          go_wp2_with (first | (refine wpList_farith rfl _ _ _ _ _ rfl rfl _ _ _ rfl rfl (by first | assumption | (with_reducible exact FV.ofInt _ _) | exact FV.lit (by kernel_rfl) (by kernel_rfl)) (by first | assumption | (with_reducible exact FV.ofInt _ _) | exact FV.lit (by kernel_rfl) (by kernel_rfl)) ?_; intro r m hr))
          go_loopw [6, 7] (fun p k w' => ∃ j n r : Nat, j ≤ 13 ∧ k = .float .f64 (k2 j) ∧ p = .float .f64 r ∧ FV .f64 r (polyQ (fop .mul .f64 (sP mm) (sP mm)) j) ∧ w' = w.drewN n) (fun _ k _ => k2Of k)
          case atStart => exact ⟨0, _, 0, by omega, by rw [k2_start], rfl, FV.lit (by kernel_rfl) (by kernel_rfl), rfl⟩
          case round =>
            clear hg
            obtain ⟨j3, n3, r3, hj3, rfl, rfl, h03, rfl⟩ := hrel
            have ck := cn_k2 j3
            have fk : FV .f64 (k2 j3) (some (k2 j3)) := FV.ofInt _ _
            by_cases hlt3 : j3 < 13
            · have hge := k2_ge j3 hlt3
              have HN := Lib.hid (k2_next j3 hlt3)
              have HM := Lib.hid (k2Idx_k2 j3 (by omega))
              have HM2 := Lib.hid (k2Idx_k2 (j3 + 1) (by omega))
              go_wp2_with (first | (refine wpList_farith rfl .sub _ _ _ _ rfl rfl .f64 (k2 j3) _ rfl rfl fk (FV.lit (by kernel_rfl) (by kernel_rfl)) ?_; intro r m' hr; rw [HN.out] at hr; obtain rfl := hr.eq; clear hr) | (refine wpList_farith rfl _ _ _ _ _ rfl rfl _ _ _ rfl rfl (by first | assumption | (with_reducible exact FV.ofInt _ _) | exact FV.lit (by kernel_rfl) (by kernel_rfl)) (by first | assumption | (with_reducible exact FV.ofInt _ _) | exact FV.lit (by kernel_rfl) (by kernel_rfl)) ?_; intro r m hr))
              go_roundw
              case rel => exact ⟨j3 + 1, _, _, by omega, rfl, rfl, FV.of_eq hr (polyQ_succ _ _), rfl⟩
              case measure => simp [k2Of, HM.out, HM2.out]; omega
            · obtain rfl : j3 = 13 := by omega
              have hge := k2_end
              go_wp2_with (first | (refine wpList_farith rfl _ _ _ _ _ rfl rfl _ _ _ rfl rfl (by first | assumption | (with_reducible exact FV.ofInt _ _) | exact FV.lit (by kernel_rfl) (by kernel_rfl)) (by first | assumption | (with_reducible exact FV.ofInt _ _) | exact FV.lit (by kernel_rfl) (by kernel_rfl)) ?_; intro r m hr))
              go_ret
              exact ⟨_, rfl, FV.of_eq hr (logB_is _ _), _, rfl⟩
end Go.Proofs.Ytnjkabckbnbboaa
