/- Helper: walks of RootNumber, of the program and of its reference. Conditions: none. -/
import Derived.Test.YtcibjkadlndejaaSmallWalks
import Derived.Test.YtcibjkadlndejaaFloatRoots
set_option linter.unusedVariables false
set_option linter.unusedSimpArgs false
namespace Go.Proofs.Ytcibjkadlndejaa
open Go.RowKit

theorem fits_root {X : Option Nat} (h : clean .f32 X) : fits (fsqrt (widen X)) := by
  cases X with
  | none => intro x hx; cases hx
  | some x =>
    have hx : (Ieee.single.read x).isNaN = false := h x rfl
    have hw : widen (some x) = some (Ieee.double.write (Ieee.single.read x)) := rfl
    rcases read_single x with ⟨s, h⟩ | ⟨s, t, h⟩ | ⟨s, m, e, h, hm, h1, h2⟩
    · rw [hw, h]
      cases s
      · intro y hy
        have : fsqrt (some (Ieee.double.write (.infinity false))) = some (Ieee.double.write (.infinity false)) := by decide +kernel
        rw [this] at hy
        obtain rfl : _ = y := by simpa using hy
        left
        decide +kernel
      · have : fsqrt (some (Ieee.double.write (.infinity true))) = none := by decide +kernel
        rw [this]
        intro y hy; cases hy
    · rw [h] at hx; cases hx
    · obtain ⟨m', e', hr⟩ := widen_number s m e hm h1 h2
      have hl : Lt2 129 (widen (some x)) := widen_lt2 (by show (match Ieee.single.read x with | .number .. => true | _ => false) = true; rw [h])
      by_cases hz : s = true ∧ m' ≠ 0
      · have : fsqrt (widen (some x)) = none := by
          rw [hw, h]
          show ((Ieee.double.read (Ieee.double.write (.number s m e))).root 54).map Ieee.double.write = none
          rw [hr]
          simp [Ieee.Datum.root, hz.1, hz.2]
        rw [this]
        intro y hy; cases hy
      · refine fits_of_lt2 ((Lt2.sqrt (i := 65) (hl.mono (by omega)) ?_ (by omega) (by omega)).mono (by omega))
        intro y m2 e2 hy hy2
        rw [hw, h] at hy
        obtain rfl : _ = y := by simpa using hy
        rw [hr] at hy2
        cases hy2
        by_cases h0 : m' = 0
        · exact h0
        · exact absurd ⟨rfl, h0⟩ hz

theorem sqrt_any (x : Nat) {X : Option Nat} (fx : FV .f64 x X) (w : World) :
    Calls Try.prog 85 #[.float .f64 x] w fun e w' => ∃ r, e = .returned (.float .f64 r) ∧ FV .f64 r (fsqrt X) ∧ ∃ n, w' = w.drewN n := by
  have hx : ∀ W, (callFunc 96 #[.float .f64 x]).run Try.prog W = ((Extern.MathSqrt.sqrt #[.float .f64 x]).run Try.prog W).andThen fun v w' => .ok (.value v) w' := fun W =>
    run_callFunc_extern (e := Extern.MathSqrt.sqrt) Try.func96 (by kernel_rfl) (by kernel_rfl) (by kernel_rfl) (by kernel_rfl) _ _
  have hu : Extern.MathSqrt.sqrt #[.float .f64 x] = (match FloatKind.f64.format.sqrt x with | some r => pure (.float .f64 r) | none => (choose (.nanBits .f64 x x)) >>= fun b => pure (.float .f64 b)) := rfl
  cases h : Ieee.double.sqrt x with
  | some r =>
    have hf := fsqrt_some h
    rw [fx.1] at hf
    have hrun : ∀ W, (callFunc 96 #[.float .f64 x]).run Try.prog W = .ok (.value (.float .f64 r)) W := by
      intro W
      have h' : FloatKind.f64.format.sqrt x = some r := h
      rw [hx W, hu, h']
      rfl
    clear hx h fx hu
    go_enter Try.func85, Try.ntmps85
    go_wp2
    go_ret
    exact ⟨_, rfl, hf, 0, rfl⟩
  | none =>
    have hf := fsqrt_none h
    rw [fx.1] at hf
    have hrun : ∀ W, (callFunc 96 #[.float .f64 x]).run Try.prog W = .ok (.value (.float .f64 ((Question.nanBits .f64 x x).cut (W.tape W.drawn (.nanBits .f64 x x))))) W.drew := by
      intro W
      have h' : FloatKind.f64.format.sqrt x = none := h
      have hq : (Question.nanBits .f64 x x).forced = false := rfl
      rw [hx W, hu, h']
      simp [choose, Sem.run, hq]
    have hn := nan_bits .f64 x x (w.tape w.drawn (.nanBits .f64 x x))
    clear hx h fx hu
    go_enter Try.func85, Try.ntmps85
    go_wp2
    go_ret
    exact ⟨_, rfl, ⟨(cn_nan hn.1).trans hf.symm, hn.2⟩, 1, rfl⟩

theorem implNarrow_any (x : Nat) {X : Option Nat} (fx : FV .f64 x X) (hf : fits X) (w : World) :
    Calls Try.prog 84 #[.float .f64 x] w fun e w' => ∃ r, e = .returned (.float .f32 r) ∧ FV .f32 r (narrow X) ∧ ∃ n, w' = w.drewN n := by
  go_enter Try.func84, Try.ntmps84
  go_wp2_with (refine wpList_narrow rfl _ _ _ rfl _ rfl (by kernel_rfl) Try.underlying41 fx hf ?_; intro r m hr)
  go_ret
  exact ⟨_, rfl, hr, _, rfl⟩
theorem specNarrow_any (x : Nat) {X : Option Nat} (fx : FV .f64 x X) (hf : fits X) (w : World) :
    Calls Try.prog 91 #[.float .f64 x] w fun e w' => ∃ r, e = .returned (.float .f32 r) ∧ FV .f32 r (narrow X) ∧ ∃ n, w' = w.drewN n := by
  go_enter Try.func91, Try.ntmps91
  go_wp2_with (refine wpList_narrow rfl _ _ _ rfl _ rfl (by kernel_rfl) Try.underlying41 fx hf ?_; intro r m hr)
  go_ret
  exact ⟨_, rfl, hr, _, rfl⟩
theorem implRoot_any (x : Nat) {X : Option Nat} (fx : FV .f32 x X) (w : World) :
    Calls Try.prog 45 #[.float .f32 x] w fun e w' => ∃ r, e = .returned (.float .f32 r) ∧ FV .f32 r (narrow (fsqrt (widen X))) ∧ ∃ n, w' = w.drewN n := by
  have hf := fits_root fx.clean
  go_enter Try.func45, Try.ntmps45
  go_wp2_with (first | (refine wpList_widen rfl _ _ _ rfl _ rfl (by kernel_rfl) Try.underlying71 fx ?_; intro r m hr) | (go_at_call 85; refine (sqrt_any _ (by assumption) _).mono ?_; rintro e w' ⟨r, rfl, hr, n, rfl⟩) | (go_at_call 84; refine (implNarrow_any _ (by assumption) hf _).mono ?_; rintro e w' ⟨r, rfl, hr, n, rfl⟩))
  go_ret
  exact ⟨_, rfl, by assumption, _, rfl⟩
theorem specRoot_any (x : Nat) {X : Option Nat} (fx : FV .f32 x X) (w : World) :
    Calls Try.prog 53 #[.float .f32 x] w fun e w' => ∃ r, e = .returned (.float .f32 r) ∧ FV .f32 r (narrow (fsqrt (widen X))) ∧ ∃ n, w' = w.drewN n := by
  have hf := fits_root fx.clean
  go_enter Try.func53, Try.ntmps53
  go_wp2_with (first | (refine wpList_widen rfl _ _ _ rfl _ rfl (by kernel_rfl) Try.underlying71 fx ?_; intro r m hr) | (go_at_call 85; refine (sqrt_any _ (by assumption) _).mono ?_; rintro e w' ⟨r, rfl, hr, n, rfl⟩) | (go_at_call 91; refine (specNarrow_any _ (by assumption) hf _).mono ?_; rintro e w' ⟨r, rfl, hr, n, rfl⟩))
  go_ret
  exact ⟨_, rfl, by assumption, _, rfl⟩
end Go.Proofs.Ytcibjkadlndejaa
