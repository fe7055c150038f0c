/- Helper: walks of RootNumber, of the program and of its reference. Conditions: none. -/
import Derived.Test.YtmjlhmbnaifhaacSmallWalks
import Derived.Test.YtmjlhmbnaifhaacFloatRoots
set_option linter.unusedVariables false
set_option linter.unusedSimpArgs false
namespace Go.Proofs.Ytmjlhmbnaifhaac
open Go.RowKit

theorem fits_root {X : Option Nat} (h : clean .f32 X) : fits (fsqrt (widen X)) := by
  cases X with
  | none => intro x hx; cases hx
  | some x =>
    have hx : (Ieee.single.read x).isNaN = false := h x rfl
    have hw : widen (some x) = some (Ieee.double.write (Ieee.single.read x)) := rfl
    rcases read_single x with ⟨s, h⟩ | ⟨s, t, h⟩ | ⟨s, m, e, h, hm, h1, h2⟩
    · rw [hw, h]
      cases s
      · intro y hy
        have : fsqrt (some (Ieee.double.write (.infinity false))) = some (Ieee.double.write (.infinity false)) := by decide +kernel
        rw [this] at hy
        obtain rfl : _ = y := by simpa using hy
        left
        decide +kernel
      · have : fsqrt (some (Ieee.double.write (.infinity true))) = none := by decide +kernel
        rw [this]
        intro y hy; cases hy
    · rw [h] at hx; cases hx
    · obtain ⟨m', e', hr⟩ := widen_number s m e hm h1 h2
      have hl : Lt2 129 (widen (some x)) := widen_lt2 (by show (match Ieee.single.read x with | .number .. => true | _ => false) = true; rw [h])
      by_cases hz : s = true ∧ m' ≠ 0
      · have : fsqrt (widen (some x)) = none := by
          rw [hw, h]
          show ((Ieee.double.read (Ieee.double.write (.number s m e))).root 54).map Ieee.double.write = none
          rw [hr]
          simp [Ieee.Datum.root, hz.1, hz.2]
        rw [this]
        intro y hy; cases hy
      · refine fits_of_lt2 ((Lt2.sqrt (i := 65) (hl.mono (by omega)) ?_ (by omega) (by omega)).mono (by omega))
        intro y m2 e2 hy hy2
        rw [hw, h] at hy
        obtain rfl : _ = y := by simpa using hy
        rw [hr] at hy2
        cases hy2
        by_cases h0 : m' = 0
        · exact h0
        · exact absurd ⟨rfl, h0⟩ hz

end Go.Proofs.Ytmjlhmbnaifhaac
