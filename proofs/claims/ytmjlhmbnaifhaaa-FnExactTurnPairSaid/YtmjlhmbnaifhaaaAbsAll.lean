/- Helper: absolute values of all 32-bit numbers, of the program and of its reference. Conditions: none. -/
import Derived.Test.YtmjlhmbnaifhaaaVecSums
import Derived.Test.YtmjlhmbnaifhaaaRootWalks
import Derived.Test.YtmjlhmbnaifhaaaSizeFacts
set_option linter.unusedVariables false
set_option linter.unusedSimpArgs false
namespace Go.Proofs.Ytmjlhmbnaifhaaa
open Go.RowKit
section
open Ieee

theorem read_inf_single {x : Nat} {s : Bool} (h : single.read x = .infinity s) : x % 2147483648 = 2139095040 ∧ (x / 2147483648 % 2 == 1) = s := by
  obtain ⟨e1, e2, e3, e4⟩ := single_consts
  unfold Format.read at h
  simp only [e1, e2, e3, e4] at h
  generalize x % 2147483648 = q at *
  split at h
  · cases h
  · split at h
    · cases h
    · split at h
      · rename_i hq
        simp only [Datum.infinity.injEq] at h
        exact ⟨hq, h⟩
      · cases h
/-- Never a not-a-number of bits. -/
def plainW (X : Option Nat) : Prop := ∀ x, X = some x → (single.read x).isNaN = false ∧ x < 4294967296
theorem FV.plain {r : Nat} {X : Option Nat} (h : FV .f32 r X) : plainW X := by
  intro x hx
  obtain ⟨h1, h2⟩ := h
  unfold cn at h1
  split at h1
  · rw [← h1] at hx; cases hx
  · rename_i hn
    rw [← h1] at hx
    obtain rfl : r = x := Option.some.inj hx
    refine ⟨?_, by simpa [Lit.wf] using h2⟩
    have hn' : ¬ (single.read r).isNaN = true := hn
    cases h3 : (single.read r).isNaN with
    | false => rfl
    | true => exact absurd h3 hn'
theorem plain_cases {X : Option Nat} (h : plainW X) : X = none ∨ finite .f32 X = true ∨ ∃ x s, X = some x ∧ single.read x = .infinity s ∧ x < 4294967296 := by
  cases X with
  | none => exact .inl rfl
  | some x =>
    obtain ⟨h1, h2⟩ := h x rfl
    rcases read_single x with ⟨s, hr⟩ | ⟨s, t, hr⟩ | ⟨s, m, e, hr, _⟩
    · exact .inr (.inr ⟨x, s, rfl, hr, h2⟩)
    · rw [hr] at h1; cases h1
    · refine .inr (.inl ?_)
      unfold finite
      simp only
      have hr' : FloatKind.f32.decode x = .number s m e := hr
      rw [hr']
theorem abs_inf {x : Nat} {s : Bool} (hr : single.read x = .infinity s) : narrow (fabs (widen (some x))) = some 2139095040 ∧ fits (fabs (widen (some x))) := by
  have e1 : narrow (fabs (widen (some x))) = some (single.write (double.read (double.write (single.read x) % 9223372036854775808))) := rfl
  have e2 : fabs (widen (some x)) = some (double.write (single.read x) % 9223372036854775808) := rfl
  refine ⟨?_, ?_⟩
  · rw [e1, hr]
    cases s <;> decide +kernel
  · intro y hy
    left
    rw [e2, hr] at hy
    obtain rfl := Option.some.inj hy
    cases s <;> decide +kernel
theorem abs_all {X : Option Nat} (h : plainW X) : narrow (fabs (widen X)) = fsize X ∧ fits (fabs (widen X)) := by
  rcases plain_cases h with rfl | hf | ⟨x, s, rfl, hr, _⟩
  · exact ⟨rfl, fun y hy => by cases hy⟩
  · exact ⟨abs_size hf, fits_size hf⟩
  · obtain ⟨h1, h2⟩ := abs_inf hr
    refine ⟨?_, h2⟩
    rw [h1]
    show some 2139095040 = some (x % 2147483648)
    rw [(read_inf_single hr).1]
theorem neg_all {X : Option Nat} (h : plainW X) : (if leZero X then fop .sub .f32 (some 0) X else X) = fsize X := by
  rcases plain_cases h with rfl | hf | ⟨x, s, rfl, hr, hx⟩
  · rfl
  · exact neg_size hf (fun x hx => (h x hx).2)
  · obtain ⟨h1, h2⟩ := read_inf_single hr
    have e0 : single.read 0 = .number false 0 (-149) := by decide +kernel
    have ho : ford .f32 (some x) (some 0) = (single.read x).order (single.read 0) := rfl
    have es : fop .sub .f32 (some 0) (some x) = ((single.read 0).sum (single.read x).opposite).map single.write := rfl
    rw [hr, e0] at ho es
    cases s with
    | true =>
      have hl : leZero (some x) = true := by unfold leZero; rw [ho]; rfl
      rw [if_pos hl, es]
      show some (single.write (.infinity false)) = some (x % 2147483648)
      rw [h1]
      decide +kernel
    | false =>
      have hl : leZero (some x) = false := by unfold leZero; rw [ho]; rfl
      rw [if_neg (by rw [hl]; decide)]
      show some x = some (x % 2147483648)
      congr 1
      have : x / 2147483648 % 2 ≠ 1 := by intro h; rw [h] at h2; cases h2
      omega

end
set_option maxRecDepth 20000 in
theorem implAbs_all (x : Nat) {X : Option Nat} (fx : FV .f32 x X) (w : World) :
    Calls Try.prog 103 #[.float .f32 x] w fun e w' => ∃ r, e = .returned (.float .f32 r) ∧ FV .f32 r (fsize X) ∧ ∃ n, w' = w.drewN n := by
  have hf := (abs_all fx.plain).2
  have hE := Lib.hid (abs_all fx.plain).1
  go_enter Try.func103, Try.ntmps103
  go_wp2_with (first | (refine wpList_widen rfl _ _ _ rfl _ rfl (by kernel_rfl) Try.underlying37 (by assumption) ?_; intro r m hr) | (go_at_call 106; refine (abs_any _ (by assumption) _).mono ?_; rintro e w' ⟨r, rfl, hr, rfl⟩) | (refine wpList_narrow rfl _ _ _ rfl _ rfl (by kernel_rfl) Try.underlying33 (by assumption) (by assumption) ?_; intro r m hr))
  go_ret
  exact ⟨_, rfl, FV.of_eq (by assumption) hE.out, _, rfl⟩
set_option maxRecDepth 20000 in
theorem specSize_all (x : Nat) {X : Option Nat} (fx : FV .f32 x X) (w : World) :
    Calls Try.prog 101 #[.float .f32 x] w fun e w' => ∃ r, e = .returned (.float .f32 r) ∧ FV .f32 r (fsize X) ∧ ∃ n, w' = w.drewN n := by
  have hE := Lib.hid (neg_all fx.plain)
  have h1 := fx.1
  have c0 : cn .f32 0 = some 0 := cn_of (by decide +kernel)
  cases ho : ford .f32 X (some 0) with
  | none =>
    have hL : Hid (leZero X = false) := Lib.hid (by unfold leZero; rw [ho]; rfl)
    go_enter Try.func101, Try.ntmps101
    go_wp2_with (first | (refine wpList_farith rfl _ _ _ _ _ rfl rfl _ _ _ rfl rfl (by first | assumption | (with_reducible exact FV.ofInt _ _) | (with_reducible exact FV.neg (by assumption)) | exact FV.lit (by kernel_rfl) (by kernel_rfl)) (by first | assumption | (with_reducible exact FV.ofInt _ _) | (with_reducible exact FV.neg (by assumption)) | exact FV.lit (by kernel_rfl) (by kernel_rfl)) ?_; intro r m hr))
    go_ret
    refine ⟨_, rfl, ?_, by first | exact ⟨_, rfl⟩ | exact ⟨0, rfl⟩⟩
    have hE' := hE.out
    rw [hL.out] at hE'
    exact FV.of_eq (by assumption) hE'
  | some o =>
    cases o
    all_goals
      have hL : Hid (leZero X = _) := Lib.hid (by unfold leZero; rw [ho])
      go_enter Try.func101, Try.ntmps101
      go_wp2_with (first | (refine wpList_farith rfl _ _ _ _ _ rfl rfl _ _ _ rfl rfl (by first | assumption | (with_reducible exact FV.ofInt _ _) | (with_reducible exact FV.neg (by assumption)) | exact FV.lit (by kernel_rfl) (by kernel_rfl)) (by first | assumption | (with_reducible exact FV.ofInt _ _) | (with_reducible exact FV.neg (by assumption)) | exact FV.lit (by kernel_rfl) (by kernel_rfl)) ?_; intro r m hr))
      go_ret
      refine ⟨_, rfl, ?_, by first | exact ⟨_, rfl⟩ | exact ⟨0, rfl⟩⟩
      have hE' := hE.out
      rw [hL.out] at hE'
      first | exact FV.of_eq (by assumption) hE'
end Go.Proofs.Ytmjlhmbnaifhaaa
