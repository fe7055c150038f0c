/- Helper: the walk of the law FnExactGcdOf. Conditions: none. -/
import Derived.Test.YtinekdfpgkmbnaaGcdKey
set_option linter.unusedVariables false
set_option linter.unusedSimpArgs false
namespace Go.Proofs.Ytinekdfpgkmbnaa
open Go.RowKit

def gcdOk (a b : Int) : Bool := inB a (-1000000) 1000000 && inB b (-1000000) 1000000
def gcdVal (a b : Int) : Int := if gcdOk a b = true then (Int.gcd a b : Int) else 0
theorem fit_in {a : Int} (h : inB a (-1000000) 1000000 = true) : Fit a := by
  unfold inB at h
  simp only [Bool.and_eq_true, decide_eq_true_eq] at h
  unfold Fit; omega

set_option maxHeartbeats 1000000 in
theorem specGcdOf_any (a b : Int) (w : World) :
    Calls Try.prog 9 #[.int .i64 a, .int .i64 b] w fun e w' => e = .returned (.tuple #[.int .i64 (gcdVal a b), .bool (gcdOk a b)]) ∧ Below w.heap.size w w' := by
  have hA := fun W => l00In_any a (-1000000) 1000000 W
  have hB := fun W => l00In_any b (-1000000) 1000000 W
  cases h1 : inB a (-1000000) 1000000 with
  | false =>
    have HO : Hid (gcdOk a b = false) := Lib.hid (by unfold gcdOk; rw [h1]; rfl)
    have HV : Hid (gcdVal a b = 0) := Lib.hid (by unfold gcdVal; rw [HO.out]; rfl)
    rw [h1] at hA
    clear h1
    go_enter Try.func9, Try.ntmps9
    go_wp2_with (go_at_call 24; (with_reducible refine (hA _).mono ?_); rintro e w' ⟨rfl, rfl⟩)
    go_ret2
    exact ⟨by rw [HO.out, HV.out]; rfl, (by repeat first | (with_reducible exact Below.refl _ _) | (with_reducible refine Below.setCell ?_ (by first | exact Nat.le_refl _ | (simp; done) | (simp; omega) | omega) _) | (with_reducible refine Below.alloc ?_ (by first | exact Nat.le_refl _ | (simp; done) | (simp; omega) | omega) _) | (with_reducible refine below_drewN ?_ _) | (with_reducible refine Below.drew ?_))⟩
  | true =>
    cases h2 : inB b (-1000000) 1000000 with
    | false =>
      have HO : Hid (gcdOk a b = false) := Lib.hid (by unfold gcdOk; rw [h2]; simp)
      have HV : Hid (gcdVal a b = 0) := Lib.hid (by unfold gcdVal; rw [HO.out]; rfl)
      rw [h1] at hA
      rw [h2] at hB
      clear h1 h2
      go_enter Try.func9, Try.ntmps9
      go_wp2_with (go_at_call 24; (first | (with_reducible refine (hA _).mono ?_) | (with_reducible refine (hB _).mono ?_)); rintro e w' ⟨rfl, rfl⟩)
      go_ret2
      exact ⟨by rw [HO.out, HV.out]; rfl, (by repeat first | (with_reducible exact Below.refl _ _) | (with_reducible refine Below.setCell ?_ (by first | exact Nat.le_refl _ | (simp; done) | (simp; omega) | omega) _) | (with_reducible refine Below.alloc ?_ (by first | exact Nat.le_refl _ | (simp; done) | (simp; omega) | omega) _) | (with_reducible refine below_drewN ?_ _) | (with_reducible refine Below.drew ?_))⟩
    | true =>
      have HO : Hid (gcdOk a b = true) := Lib.hid (by unfold gcdOk; rw [h1, h2]; rfl)
      have HV : Hid (gcdVal a b = (Int.gcd a b : Int)) := Lib.hid (by unfold gcdVal; rw [if_pos HO.out])
      have hg := fun W => specGcd_any a b W (fit_in h1) (fit_in h2)
      rw [h1] at hA
      rw [h2] at hB
      clear h1 h2
      go_enter Try.func9, Try.ntmps9
      go_wp2_with (first | (go_at_call 24; (first | (with_reducible refine (hA _).mono ?_) | (with_reducible refine (hB _).mono ?_)); rintro e w' ⟨rfl, rfl⟩) | (go_at_call 25; refine (hg _).mono ?_; rintro e w' ⟨rfl, rfl⟩))
      go_ret2
      exact ⟨by rw [HO.out, HV.out]; rfl, (by repeat first | (with_reducible exact Below.refl _ _) | (with_reducible refine Below.setCell ?_ (by first | exact Nat.le_refl _ | (simp; done) | (simp; omega) | omega) _) | (with_reducible refine Below.alloc ?_ (by first | exact Nat.le_refl _ | (simp; done) | (simp; omega) | omega) _) | (with_reducible refine below_drewN ?_ _) | (with_reducible refine Below.drew ?_))⟩
def twoZ (a b : Int) (i : Nat) : Int := if i = 0 then a else b
theorem with_two (a b : Int) : withB 1000000 (twoZ a b) 2 = gcdOk a b := by
  unfold gcdOk withB withB withB twoZ
  rfl
set_option maxHeartbeats 1000000 in
theorem implGcdOf_any (a b : Int) (w : World) (wa : (Lit.int .i64 a).wf = true) (wb : (Lit.int .i64 b).wf = true) :
    Calls Try.prog 10 #[.int .i64 a, .int .i64 b] w fun e w' => e = .returned (.tuple #[.int .i64 (gcdVal a b), .bool (gcdOk a b)]) ∧ Below w.heap.size w w' := by
  have hw2 := with_two a b
  have hW : ∀ W A, IS .i64 W A 2 2 (twoZ a b) → Calls Try.prog 26 #[.slice A 2 2, .int .i64 1000000] W fun e w' => e = .returned (.bool (gcdOk a b)) ∧ W = w' := fun W A h => by
    have := areWithin_any 1000000 A 2 2 (twoZ a b) W (by omega) (by omega) h
    exact this.mono fun _ _ ⟨h1, h2⟩ => ⟨h1.trans (by rw [← hw2]; rfl), h2⟩
  clear hw2
  have hI : ∀ W q, W.cell? ⟨q, 0, none⟩ = some (.int .i64 a) → W.cell? ⟨q, 1, none⟩ = some (.int .i64 b) → q < W.heap.size → IS .i64 W (some ⟨q, 0, none⟩) 2 2 (twoZ a b) := by
    intro W q h0 h1 hq
    refine ⟨Nat.le_refl _, by unfold maxLen; omega, fun i hi => ⟨q, 0, rfl, hq, ?_, ?_⟩⟩
    · rcases i with _ | _ | i
      · exact h0
      · exact h1
      · omega
    · rcases i with _ | _ | i
      · exact wa
      · exact wb
      · omega
  cases ho : gcdOk a b with
  | false =>
    have HV : Hid (gcdVal a b = 0) := Lib.hid (by unfold gcdVal; rw [ho]; rfl)
    rw [ho] at hW
    clear ho
    go_enter Try.func10, Try.ntmps10
    go_wp2_with (go_at_call 26; refine (hW _ _ (hI _ _ (by simp [go_sem]) (by simp [go_sem]) (by simp))).mono ?_; rintro e w' ⟨rfl, rfl⟩)
    go_ret2
    exact ⟨by rw [HV.out]; rfl, (by repeat first | (with_reducible exact Below.refl _ _) | (with_reducible refine Below.setCell ?_ (by first | exact Nat.le_refl _ | (simp; done) | (simp; omega) | omega) _) | (with_reducible refine Below.alloc ?_ (by first | exact Nat.le_refl _ | (simp; done) | (simp; omega) | omega) _) | (with_reducible refine below_drewN ?_ _) | (with_reducible refine Below.drew ?_))⟩
  | true =>
    have HV : Hid (gcdVal a b = (Int.gcd a b : Int)) := Lib.hid (by unfold gcdVal; rw [if_pos ho])
    have ho' := ho
    unfold gcdOk at ho'
    simp only [Bool.and_eq_true] at ho'
    have hg := fun W => implGcd_any a b W (fit_in ho'.1) (fit_in ho'.2)
    rw [ho] at hW
    clear ho ho'
    go_enter Try.func10, Try.ntmps10
    go_wp2_with (first | (go_at_call 26; refine (hW _ _ (hI _ _ (by simp [go_sem]) (by simp [go_sem]) (by simp))).mono ?_; rintro e w' ⟨rfl, rfl⟩) | (go_at_call 27; refine (hg _).mono ?_; rintro e w' ⟨rfl, q, rfl⟩))
    go_ret2
    exact ⟨by rw [HV.out]; rfl, (by repeat first | (with_reducible exact Below.refl _ _) | (with_reducible refine Below.setCell ?_ (by first | exact Nat.le_refl _ | (simp; done) | (simp; omega) | omega) _) | (with_reducible refine Below.alloc ?_ (by first | exact Nat.le_refl _ | (simp; done) | (simp; omega) | omega) _) | (with_reducible refine below_drewN ?_ _) | (with_reducible refine Below.drew ?_))⟩
theorem law_FnExactGcdOf (w : World) (a : Int) (wa : (Lit.int .i64 a).wf = true) (b : Int) (wb : (Lit.int .i64 b).wf = true) :
    Calls Try.prog 3 #[.int .i64 a, .int .i64 b] w fun e w' => e = .returned (.bool true) ∧ Below w.heap.size w w' := by
  have k1 := fun W => specGcdOf_any a b W
  have k2 := fun W => implGcdOf_any a b W wa wb
  cases h : gcdOk a b
  all_goals
    rw [h] at k1 k2
    clear h
    generalize gcdVal a b = v at k1 k2
    go_enter Try.func3, Try.ntmps3
    go_wp2_with fail
    go_at_call 9
    refine (k1 _).mono ?_
    rintro e w1 ⟨rfl, b1⟩
    go_wp2_with fail
    go_at_call 10
    refine (k2 _).mono ?_
    rintro e w2 ⟨rfl, b2⟩
    have B2 := Lib.hid (b1.trans (b2.mono b1.size))
    clear b1 b2
    go_wp2_with fail
    go_ret
    exact ⟨rfl, B2.out⟩
end Go.Proofs.Ytinekdfpgkmbnaa
