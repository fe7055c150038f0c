/- Helper: the numbers of a turn, of the program and of its reference. Conditions: none. -/
import Derived.Test.YtmjlhmbnaifhaaaAbsAll
import Derived.Test.YtmjlhmbnaifhaaaTri
set_option linter.unusedVariables false
set_option linter.unusedSimpArgs false
namespace Go.Proofs.Ytmjlhmbnaifhaaa
open Go.RowKit

/-- The root of a 32-bit number. -/
def rt (X : Option Nat) : Option Nat := narrow (fsqrt (widen X))
/-- What leads to c and s. -/
def cosT (H : Option Nat) : Option Nat :=
  if ford .f32 H (some 0) == some .lt then fneg .f32 (fop .quo .f32 (some 1065353216) (fop .add .f32 (fsize H) (rt (fop .add .f32 (fop .mul .f32 H H) (some 1065353216)))))
  else fop .quo .f32 (some 1065353216) (fop .add .f32 (fsize H) (rt (fop .add .f32 (fop .mul .f32 H H) (some 1065353216))))
def cosC (H : Option Nat) : Option Nat := fop .quo .f32 (some 1065353216) (rt (fop .add .f32 (fop .mul .f32 (cosT H) (cosT H)) (some 1065353216)))
def cosS (H : Option Nat) : Option Nat := fop .mul .f32 (cosT H) (cosC H)
/-- Two numbers are told. -/
def TwoNum (C S : Option Nat) (w : World) (e : Ending) (w' : World) : Prop :=
  ∃ rc rs, e = .returned (.tuple #[.float .f32 rc, .float .f32 rs]) ∧ FV .f32 rc C ∧ FV .f32 rs S ∧ ∃ m, w' = w.drewN m
/-- The quotient that tells a turn. -/
def turnH (A Z : Option Nat) : Option Nat := fop .quo .f32 A (fop .mul .f32 (some 1073741824) Z)
def turnC (A Z : Option Nat) : Option Nat := if isZero Z then some 1065353216 else cosC (turnH A Z)
def turnS (A Z : Option Nat) : Option Nat := if isZero Z then some 0 else cosS (turnH A Z)

set_option maxHeartbeats 1000000 in
theorem turnTo_any (a z : Nat) {A Z : Option Nat} (ha : FV .f32 a A) (hz : FV .f32 z Z) (w : World) :
    Calls Try.prog 83 #[.float .f32 a, .float .f32 z] w (TwoNum (turnC A Z) (turnS A Z) w) := by
  have c0 : cn .f32 0 = some 0 := by kernel_rfl
  have hzc := hz.1
  have habs := fun (r : Nat) (X : Option Nat) (h : FV .f32 r X) (W : World) => implAbs_all r h W
  have hroot : ∀ (r : Nat) (X : Option Nat), FV .f32 r X → ∀ W, Calls Try.prog 38 #[.float .f32 r] W fun e w' => ∃ r2, e = .returned (.float .f32 r2) ∧ FV .f32 r2 (rt X) ∧ ∃ m, w' = W.drewN m := fun r X h W => implRoot_any r h W
  have n0 : FV .f32 0 (some 0) := FV.lit (by kernel_rfl) (by kernel_rfl)
  have n1 : FV .f32 1065353216 (some 1065353216) := FV.lit (by kernel_rfl) (by kernel_rfl)
  have n2 : FV .f32 1073741824 (some 1073741824) := FV.lit (by kernel_rfl) (by kernel_rfl)
  unfold turnC turnS
  cases hZ : isZero Z with
  | true =>
    have hz' : (ford .f32 Z (some 0) == some .eq) = true := hZ
    clear hZ
    go_enter Try.func83, Try.ntmps83
    go_wp2
    go_ret2
    exact ⟨_, _, rfl, n1, n0, 0, rfl⟩
  | false =>
    have hz' : (ford .f32 Z (some 0) == some .eq) = false := hZ
    clear hZ
    cases hlt : (ford .f32 (turnH A Z) (some 0) == some .lt)
    all_goals
      have hT : Hid (cosT (turnH A Z) = _) := Lib.hid (by unfold cosT; rw [hlt])
      have hlt' : (ford .f32 (fop .quo .f32 A (fop .mul .f32 (some 1073741824) Z)) (some 0) == some .lt) = _ := hlt
      clear hlt
      go_enter Try.func83, Try.ntmps83
      go_wp2_with (first | (go_at_call 103; refine (habs _ _ (by assumption) _).mono ?_; rintro e w' ⟨ra, rfl, hra, q1, rfl⟩) | (go_at_call 38; refine (hroot _ _ (by assumption) _).mono ?_; rintro e w' ⟨rb, rfl, hrb, q2, rfl⟩) | (refine wpList_farith rfl _ _ _ _ _ rfl rfl _ _ _ rfl rfl (by first | assumption | (with_reducible exact FV.ofInt _ _) | (with_reducible exact FV.neg (by assumption)) | exact FV.lit (by kernel_rfl) (by kernel_rfl)) (by first | assumption | (with_reducible exact FV.ofInt _ _) | (with_reducible exact FV.neg (by assumption)) | exact FV.lit (by kernel_rfl) (by kernel_rfl)) ?_; intro r m hr; have hr1 := hr.1))
      go_ret2
      simp only [Bool.false_eq_true, if_false, if_true]
      refine ⟨_, _, rfl, ?_, ?_, _, rfl⟩
      · unfold cosC
        rw [hT.out]
        first | assumption | (simp only [Bool.false_eq_true, if_false, if_true]; assumption)
      · unfold cosS cosC
        rw [hT.out]
        first | assumption | (simp only [Bool.false_eq_true, if_false, if_true]; assumption)
set_option maxHeartbeats 1000000 in
theorem l04Cosine_any (h : Nat) {H : Option Nat} (hh : FV .f32 h H) (w : World) :
    Calls Try.prog 79 #[.float .f32 h] w (TwoNum (cosC H) (cosS H) w) := by
  have c0 : cn .f32 0 = some 0 := by kernel_rfl
  have hhc := hh.1
  have habs := fun (r : Nat) (X : Option Nat) (h : FV .f32 r X) (W : World) => specSize_all r h W
  have hroot : ∀ (r : Nat) (X : Option Nat), FV .f32 r X → ∀ W, Calls Try.prog 47 #[.float .f32 r] W fun e w' => ∃ r2, e = .returned (.float .f32 r2) ∧ FV .f32 r2 (rt X) ∧ ∃ m, w' = W.drewN m := fun r X h W => specRoot_any r h W
  have n1 : FV .f32 1065353216 (some 1065353216) := FV.lit (by kernel_rfl) (by kernel_rfl)
  cases hlt : (ford .f32 H (some 0) == some .lt)
  all_goals
    have hT : Hid (cosT H = _) := Lib.hid (by unfold cosT; rw [hlt])
    go_enter Try.func79, Try.ntmps79
    go_wp2_with (first | (go_at_call 101; refine (habs _ _ (by assumption) _).mono ?_; rintro e w' ⟨ra, rfl, hra, q1, rfl⟩) | (go_at_call 47; refine (hroot _ _ (by assumption) _).mono ?_; rintro e w' ⟨rb, rfl, hrb, q2, rfl⟩) | (refine wpList_farith rfl _ _ _ _ _ rfl rfl _ _ _ rfl rfl (by first | assumption | (with_reducible exact FV.ofInt _ _) | (with_reducible exact FV.neg (by assumption)) | exact FV.lit (by kernel_rfl) (by kernel_rfl)) (by first | assumption | (with_reducible exact FV.ofInt _ _) | (with_reducible exact FV.neg (by assumption)) | exact FV.lit (by kernel_rfl) (by kernel_rfl)) ?_; intro r m hr; have hr1 := hr.1))
    go_ret2
    refine ⟨_, _, rfl, ?_, ?_, _, rfl⟩
    · unfold cosC
      rw [hT.out]
      first | assumption | (simp only [Bool.false_eq_true, if_false, if_true]; assumption)
    · unfold cosS cosC
      rw [hT.out]
      first | assumption | (simp only [Bool.false_eq_true, if_false, if_true]; assumption)
end Go.Proofs.Ytmjlhmbnaifhaaa
