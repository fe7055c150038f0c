/- Helper: walks of powers and logarithms of eighths, and of the law on them. Conditions: none. -/
import Derived.Test.YtnjkabckbnbboaaLogSpec
import Derived.Test.YtnjkabckbnbboaaDrawWalks
set_option linter.unusedVariables false
namespace Go.Proofs.Ytnjkabckbnbboaa
open Go.RowKit

/-- The steps of the power: the number that is divided by, the sum, the squares. -/
def k12 (j : Nat) : Nat := floatOfInt .f64 (12 - j)
def expQ (u : Option Nat) : Nat → Option Nat
  | 0 => some 4607182418800017408
  | j + 1 => fop .add .f64 (some 4607182418800017408) (fop .quo .f64 (fop .mul .f64 u (expQ u j)) (some (k12 j)))
def sqQ (p : Option Nat) : Nat → Option Nat
  | 0 => p
  | j + 1 => fop .mul .f64 (sqQ p j) (sqQ p j)
def expP (X : Option Nat) : Option Nat := sqQ (expQ (fop .quo .f64 X (some 4643211215818981376)) 12) 8

theorem k12_ge : ∀ j : Nat, j < 12 → (ford .f64 (some (k12 j)) (some 4607182418800017408) == some .gt || ford .f64 (some (k12 j)) (some 4607182418800017408) == some .eq) = true := by decide +kernel
theorem k12_end : (ford .f64 (some (k12 12)) (some 4607182418800017408) == some .gt || ford .f64 (some (k12 12)) (some 4607182418800017408) == some .eq) = false := by decide +kernel
theorem k12_next : ∀ j : Nat, j < 12 → fop .sub .f64 (some (k12 j)) (some 4607182418800017408) = some (k12 (j + 1)) := by decide +kernel
theorem k12_start : k12 0 = 4622945017495814144 := by decide +kernel
theorem cn_k12 (j : Nat) : cn .f64 (k12 j) = some (k12 j) := cn_number .f64 _ _ _
def k12Idx (b : Nat) : Nat := 13 - (List.range 13).findIdx (fun j => k12 j == b)
theorem k12Idx_k12 : ∀ j : Nat, j < 13 → k12Idx (k12 j) = 13 - j := by decide +kernel
def k12Of (v : Value) : Nat := match v with | .float _ b => k12Idx b | _ => 0
theorem FV.k12 (j : Nat) : FV .f64 (k12 j) (some (k12 j)) := FV.ofInt _ _
theorem expQ_succ (u : Option Nat) (j : Nat) : fop .add .f64 (some 4607182418800017408) (fop .quo .f64 (fop .mul .f64 u (expQ u j)) (some (k12 j))) = expQ u (j + 1) := rfl
theorem sqQ_succ (p : Option Nat) (j : Nat) : fop .mul .f64 (sqQ p j) (sqQ p j) = sqQ p (j + 1) := rfl

set_option maxHeartbeats 1000000 in
theorem implExp_any (x : Nat) {X : Option Nat} (fx : FV .f32 x X) (h1 : (ford .f32 X (some 1128792064) == some .gt) = false) (h2 : (ford .f32 X (some 3276275712) == some .lt) = false) (hf : fits (expP (widen X))) (w : World) :
    Calls Try.prog 18 #[.float .f32 x] w fun e w' => ∃ r, e = .returned (.float .f32 r) ∧ FV .f32 r (narrow (expP (widen X))) ∧ ∃ n, w' = w.drewN n := by
  have c200 : cn .f32 1128792064 = some 1128792064 := cn_of (by decide +kernel)
  have c201 : cn .f32 3276275712 = some 3276275712 := cn_of (by decide +kernel)
  have c1 : cn .f64 4607182418800017408 = some 4607182418800017408 := cn_of (by decide +kernel)
  have fx1 := fx.1
  go_enter Try.func18, Try.ntmps18
  go_wp2_with (first | (refine wpList_widen rfl _ _ _ rfl _ rfl (by kernel_rfl) Try.underlying27 (by assumption) ?_; intro r m hr) | (refine wpList_farith rfl _ _ _ _ _ rfl rfl _ _ _ rfl rfl (by first | assumption | (with_reducible exact FV.ofInt _ _) | exact FV.lit (by kernel_rfl) (by kernel_rfl)) (by first | assumption | (with_reducible exact FV.ofInt _ _) | exact FV.lit (by kernel_rfl) (by kernel_rfl)) ?_; intro r m hr))
  go_loopw [4, 5] (fun p k w' => ∃ j n r : Nat, j ≤ 12 ∧ k = .float .f64 (k12 j) ∧ p = .float .f64 r ∧ FV .f64 r (expQ (fop .quo .f64 (widen X) (some 4643211215818981376)) j) ∧ w' = w.drewN n) (fun _ k _ => k12Of k)
  case atStart => exact ⟨0, _, _, by omega, by rw [k12_start], rfl, FV.lit (by kernel_rfl) (by kernel_rfl), rfl⟩
  case round =>
    obtain ⟨j3, n3, r3, hj3, rfl, rfl, h03, rfl⟩ := hrel
    have ck := cn_k12 j3
    have fk := FV.k12 j3
    by_cases hlt3 : j3 < 12
    · have hge := k12_ge j3 hlt3
      have HN := Lib.hid (k12_next j3 hlt3)
      have HM := Lib.hid (k12Idx_k12 j3 (by omega))
      have HM2 := Lib.hid (k12Idx_k12 (j3 + 1) (by omega))
      go_wp2_with (first | (refine wpList_farith rfl .sub _ _ _ _ rfl rfl .f64 (k12 j3) _ rfl rfl fk (FV.lit (by kernel_rfl) (by kernel_rfl)) ?_; intro r m hr; rw [HN.out] at hr; obtain rfl := hr.eq; clear hr) | (refine wpList_farith rfl _ _ _ _ _ rfl rfl _ _ _ rfl rfl (by first | assumption | (with_reducible exact FV.ofInt _ _) | exact FV.lit (by kernel_rfl) (by kernel_rfl)) (by first | assumption | (with_reducible exact FV.ofInt _ _) | exact FV.lit (by kernel_rfl) (by kernel_rfl)) ?_; intro r m hr))
      go_roundw
      case rel => exact ⟨j3 + 1, _, _, by omega, rfl, rfl, FV.of_eq hr (expQ_succ _ _), rfl⟩
      case measure => simp [k12Of, HM.out, HM2.out]; omega
    · obtain rfl : j3 = 12 := by omega
      have hge := k12_end
      go_wp2_with (first | (refine wpList_farith rfl _ _ _ _ _ rfl rfl _ _ _ rfl rfl (by first | assumption | (with_reducible exact FV.ofInt _ _) | exact FV.lit (by kernel_rfl) (by kernel_rfl)) (by first | assumption | (with_reducible exact FV.ofInt _ _) | exact FV.lit (by kernel_rfl) (by kernel_rfl)) ?_; intro r m hr))
      go_loopw [4, 25] (fun p k w' => ∃ j n r : Nat, j ≤ 8 ∧ k = .int .i64 j ∧ p = .float .f64 r ∧ FV .f64 r (sqQ (expQ (fop .quo .f64 (widen X) (some 4643211215818981376)) 12) j) ∧ w' = w.drewN n) (fun _ k _ => 8 - (intOf k).toNat)
      case atStart => exact ⟨0, _, _, by omega, rfl, rfl, h03, rfl⟩
      case round =>
        clear hge h03
        obtain ⟨j4, n4, r4, hj4, rfl, rfl, h04, rfl⟩ := hrel
        by_cases hlt4 : j4 < 8
        · go_wp2_with (first | (refine wpList_farith rfl _ _ _ _ _ rfl rfl _ _ _ rfl rfl (by first | assumption | (with_reducible exact FV.ofInt _ _) | exact FV.lit (by kernel_rfl) (by kernel_rfl)) (by first | assumption | (with_reducible exact FV.ofInt _ _) | exact FV.lit (by kernel_rfl) (by kernel_rfl)) ?_; intro r m hr))
          go_roundw
          case rel => exact ⟨j4 + 1, _, _, by omega, by go_num, rfl, FV.of_eq hr (sqQ_succ _ _), rfl⟩
          case measure => simp [intOf]; omega
        · obtain rfl : j4 = 8 := by omega
          go_wp2_with (first | (go_at_call 33; refine (implNarrow_any _ h04 hf _).mono ?_; rintro e w' ⟨r, rfl, hr, n, rfl⟩))
          go_ret
          exact ⟨_, rfl, by assumption, _, rfl⟩

/-- The logarithm of a 64-bit number that is greater than 0. -/
def logN (u : Option Nat) : Option Nat := match u with
  | some x => match Ieee.double.read x with
    | .number _ m e => logB m (e - red m)
    | _ => none
  | none => none

theorem logN_of {x : Nat} {s : Bool} {m : Nat} {e : Int} (hx : Ieee.double.read x = .number s m e) : logN (some x) = logB m (e - red m) := by
  unfold logN
  simp only [hx]

theorem implLogN_any (x : Nat) {X : Option Nat} (fx : FV .f32 x X) (hfin : finite .f32 X = true) (hlt : (ford .f32 X (some 0) == some .lt) = false) (heq : (ford .f32 X (some 0) == some .eq) = false) (w : World) :
    Calls Try.prog 19 #[.float .f32 x] w fun e w' => ∃ r, e = .returned (.float .f32 r) ∧ FV .f32 r (narrow (logN (widen X))) ∧ ∃ n, w' = w.drewN n := by
  obtain ⟨mm, f, hwm, m1, m2, m3, m4⟩ := widen_normal hfin (by simpa using heq) (by simpa using hlt)
  have hfit := fits_of_lt2 ((logB_bound m1 m2 (f - red mm) (by have := red_cases mm; omega) (by have := red_cases mm; omega)).mono (by omega))
  have hres : logN (widen X) = logB mm (f - red mm) := hwm ▸ logN_of (readW m1 m2 (show -1074 ≤ f by omega) (show f ≤ 900 by omega))
  rw [hres]
  have HW := Lib.hid hwm
  have c0 : cn .f32 0 = some 0 := cn_of (by decide +kernel)
  have fx1 := fx.1
  have hself : ford .f32 X X = some .eq := by
    rw [ford_self' fx.clean]
    cases X with
    | none => cases hfin
    | some x => rfl
  clear hwm hres
  go_enter Try.func19, Try.ntmps19
  go_wp2_with (first | (go_at_call 36; refine (implIsFinite_any _ fx _).mono ?_; rintro e w' ⟨rfl, n, rfl⟩) | (refine wpList_widen rfl _ _ _ rfl _ rfl (by kernel_rfl) Try.underlying27 fx ?_; intro r m hr; rw [HW.out] at hr; obtain rfl := hr.eq; clear hr) | (go_at_call 37; refine (implLog_any m1 m2 m3 m4 _).mono ?_; rintro e w' ⟨r, rfl, hr, n, rfl⟩) | (go_at_call 33; refine (implNarrow_any _ (by assumption) hfit _).mono ?_; rintro e w' ⟨r, rfl, hr, n, rfl⟩))
  go_ret
  exact ⟨_, rfl, by assumption, _, rfl⟩

end Go.Proofs.Ytnjkabckbnbboaa
