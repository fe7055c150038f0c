/- Helper: the law of the sine of turns. Conditions: none. -/
import Derived.Test.YtnjkabckbnbboaaSineSpec
import Derived.WalkSmall
set_option linter.unusedVariables false
namespace Go.Proofs.Ytnjkabckbnbboaa
open Go.RowKit

theorem fop_wf {op : BinOp} {k : FloatKind} {u v : Option Nat} {r : Nat} (h : fop op k u v = some r) : (Lit.float k r).wf = true := by
  cases u with
  | none => cases h
  | some x =>
    cases v with
    | none => cases h
    | some y => exact floatBits_wf h

theorem sineP_bound {X : Option Nat} (h : Lt2 52 X) : Lt2 127 (sineP X) := by
  have hu := sineU_bound h
  unfold sineP
  split
  · refine (hu.neg (fun x hx => ?_)).lt.mono (by omega)
    have := fop_wf (op := .mul) (k := .f64) hx
    simpa [Lit.wf] using this
  · exact hu.lt.mono (by omega)

theorem manyTurns_any (x : Nat) {X : Option Nat} (fx : FV .f64 x X) (w : World) :
    Calls Try.prog 28 #[.float .f64 x] w fun e w' => e = .returned (.bool (many X)) ∧ w = w' := by
  have cN : cn .f64 4841369599423283200 = some 4841369599423283200 := cn_of (by decide +kernel)
  have hm : (ford .f64 (fabs X) (some 4841369599423283200) == some .gt || ford .f64 (fabs X) (some 4841369599423283200) == some .eq) = many X := rfl
  go_enter Try.func28, Try.ntmps28
  go_wp2_with (go_at_call 48; refine (abs_any _ fx _).mono ?_; rintro e w' ⟨r, rfl, hr, rfl⟩; have hr1 := hr.1)
  go_ret
  exact ⟨rfl, rfl⟩

set_option maxHeartbeats 1000000 in
theorem law_FnExactSineTurns (a : Nat) (ha : (Lit.float .f32 a).wf = true) (w : World) :
    Calls Try.prog 7 #[.float .f32 a] w fun e w' => e = .returned (.bool true) ∧ Below w.heap.size w w' := by
  have fa := FV.mk' ha
  generalize cn .f32 a = X at fa
  have c064 : cn .f64 0 = some 0 := cn_of (by decide +kernel)
  have hwf := widen_finite fa.clean
  have key : ∃ Z, (∀ w, Calls Try.prog 44 #[.float .f32 a] w fun e w' => ∃ r, e = .returned (.float .f32 r) ∧ FV .f32 r Z ∧ ∃ n, w' = w.drewN n) ∧
      (∀ w, Calls Try.prog 24 #[.float .f32 a] w fun e w' => ∃ r, e = .returned (.float .f32 r) ∧ FV .f32 r Z ∧ ∃ n, w' = w.drewN n) := by
    generalize hV : widen X = V at hwf
    have HV := Lib.hid hV
    clear hV
    cases hfin : finite .f32 X with
    | false =>
      rw [hfin] at hwf
      refine ⟨none, fun w => ?_, fun w => ?_⟩
      · have hw : ∀ r, FV .f64 r V → ∀ w, Calls Try.prog 55 #[.float .f64 r] w fun e w' => ∃ r, e = .returned (.float .f64 r) ∧ FV .f64 r none ∧ ∃ n, w' = w.drewN n := by
          intro r hr w
          have h0 := (sub_self_zero64 hr.clean).trans hwf
          have h1 : (ford .f64 (fop .sub .f64 V V) (some 0) != some .eq) = true := by unfold bne; rw [h0]; rfl
          go_enter Try.func55, Try.ntmps55
          go_wp2_with (first | (go_at_call 47; refine (nanS_any _).mono ?_; rintro e w' ⟨r, rfl, hr, rfl⟩) | (refine wpList_farith rfl _ _ _ _ _ rfl rfl _ _ _ rfl rfl (by first | assumption | (with_reducible exact FV.ofInt _ _) | exact FV.lit (by kernel_rfl) (by kernel_rfl)) (by first | assumption | (with_reducible exact FV.ofInt _ _) | exact FV.lit (by kernel_rfl) (by kernel_rfl)) ?_; intro r m hr; have hr1 := hr.1))
          go_ret
          exact ⟨_, rfl, by assumption, _, rfl⟩
        have hf : fits none := by intro x hx; cases hx
        go_enter Try.func44, Try.ntmps44
        go_wp2_with (first | (refine wpList_widen rfl _ _ _ rfl _ rfl (by kernel_rfl) Try.underlying27 fa ?_; intro r m hr; rw [HV.out] at hr) | (go_at_call 55; refine (hw _ (by assumption) _).mono ?_; rintro e w' ⟨r, rfl, hr, n, rfl⟩) | (go_at_call 56; refine (specNarrow_any _ (by assumption) hf _).mono ?_; rintro e w' ⟨r, rfl, hr, n, rfl⟩))
        go_ret
        exact ⟨_, rfl, by assumption, _, rfl⟩
      · go_enter Try.func24, Try.ntmps24
        go_wp2_with (first | (refine wpList_widen rfl _ _ _ rfl _ rfl (by kernel_rfl) Try.underlying27 fa ?_; intro r m hr; rw [HV.out] at hr) | (go_at_call 26; refine (isFiniteLong_any _ (by assumption) _).mono ?_; rintro e w' ⟨rfl, rfl⟩) | (go_at_call 27; refine (noNumberS_any _).mono ?_; rintro e w' ⟨r, rfl, hr, n, rfl⟩))
        go_ret
        exact ⟨_, rfl, by assumption, _, rfl⟩
    | true =>
      rw [hfin] at hwf
      cases hmany : many V with
      | true =>
        have hnar : narrow (some 0) = some 0 := by decide +kernel
        have HN := Lib.hid hnar
        have f0 : FV .f64 0 (some 0) := FV.lit (by kernel_rfl) (by kernel_rfl)
        have hf : fits (some 0) := by
          intro x hx
          obtain rfl : _ = x := by simpa using hx
          right
          decide +kernel
        clear hnar
        refine ⟨some 0, fun w => ?_, fun w => ?_⟩
        · have hw : ∀ r, FV .f64 r V → ∀ w, Calls Try.prog 55 #[.float .f64 r] w fun e w' => e = .returned (.float .f64 0) ∧ ∃ n, w' = w.drewN n := by
            intro r hr w
            have hr1 := hr.1
            have h0 := (sub_self_zero64 hr.clean).trans hwf
            have h1 : (ford .f64 (fop .sub .f64 V V) (some 0) != some .eq) = false := by unfold bne; rw [h0]; rfl
            have hmm := (many_two hr.clean).symm.trans hmany
            have cN : cn .f64 4841369599423283200 = some 4841369599423283200 := cn_of (by decide +kernel)
            have cM : cn .f64 14064741636278059008 = some 14064741636278059008 := cn_of (by decide +kernel)
            cases hm1 : (ford .f64 V (some 4841369599423283200) == some .gt || ford .f64 V (some 4841369599423283200) == some .eq) with
            | true =>
              clear hmm
              go_enter Try.func55, Try.ntmps55
              go_wp2_with (first | (refine wpList_farith rfl _ _ _ _ _ rfl rfl _ _ _ rfl rfl (by first | assumption | (with_reducible exact FV.ofInt _ _) | exact FV.lit (by kernel_rfl) (by kernel_rfl)) (by first | assumption | (with_reducible exact FV.ofInt _ _) | exact FV.lit (by kernel_rfl) (by kernel_rfl)) ?_; intro r m hr; have hr1 := hr.1))
              go_ret
              exact ⟨rfl, _, rfl⟩
            | false =>
              rw [hm1, Bool.false_or] at hmm
              go_enter Try.func55, Try.ntmps55
              go_wp2_with (first | (refine wpList_farith rfl _ _ _ _ _ rfl rfl _ _ _ rfl rfl (by first | assumption | (with_reducible exact FV.ofInt _ _) | exact FV.lit (by kernel_rfl) (by kernel_rfl)) (by first | assumption | (with_reducible exact FV.ofInt _ _) | exact FV.lit (by kernel_rfl) (by kernel_rfl)) ?_; intro r m hr; have hr1 := hr.1))
              go_ret
              exact ⟨rfl, _, rfl⟩
          go_enter Try.func44, Try.ntmps44
          go_wp2_with (first | (refine wpList_widen rfl _ _ _ rfl _ rfl (by kernel_rfl) Try.underlying27 fa ?_; intro r m hr; rw [HV.out] at hr) | (go_at_call 55; refine (hw _ (by assumption) _).mono ?_; rintro e w' ⟨rfl, n, rfl⟩) | (go_at_call 56; refine (specNarrow_any _ f0 hf _).mono ?_; rintro e w' ⟨r, rfl, hr, n, rfl⟩))
          go_ret
          exact ⟨_, rfl, by rw [← HN.out]; assumption, _, rfl⟩
        · have f032 : FV .f32 0 (some 0) := FV.lit (by kernel_rfl) (by kernel_rfl)
          go_enter Try.func24, Try.ntmps24
          go_wp2_with (first | (refine wpList_widen rfl _ _ _ rfl _ rfl (by kernel_rfl) Try.underlying27 fa ?_; intro r m hr; rw [HV.out] at hr) | (go_at_call 26; refine (isFiniteLong_any _ (by assumption) _).mono ?_; rintro e w' ⟨rfl, rfl⟩) | (go_at_call 28; refine (manyTurns_any _ (by assumption) _).mono ?_; rintro e w' ⟨rfl, rfl⟩))
          go_ret
          exact ⟨_, rfl, f032, _, rfl⟩
      | false =>
        have hb := few_lt2 hwf hmany
        have hfit := fits_of_lt2 (sineP_bound hb)
        refine ⟨narrow (sineP V), fun w => ?_, fun w => ?_⟩
        · go_enter Try.func44, Try.ntmps44
          go_wp2_with (first | (refine wpList_widen rfl _ _ _ rfl _ rfl (by kernel_rfl) Try.underlying27 fa ?_; intro r m hr; rw [HV.out] at hr) | (go_at_call 55; refine (specSine_any _ (by assumption) hwf hmany _).mono ?_; rintro e w' ⟨r, rfl, hr, n, rfl⟩) | (go_at_call 56; refine (specNarrow_any _ (by assumption) hfit _).mono ?_; rintro e w' ⟨r, rfl, hr, n, rfl⟩))
          go_ret
          exact ⟨_, rfl, by assumption, _, rfl⟩
        · go_enter Try.func24, Try.ntmps24
          go_wp2_with (first | (refine wpList_widen rfl _ _ _ rfl _ rfl (by kernel_rfl) Try.underlying27 fa ?_; intro r m hr; rw [HV.out] at hr) | (go_at_call 26; refine (isFiniteLong_any _ (by assumption) _).mono ?_; rintro e w' ⟨rfl, rfl⟩) | (go_at_call 28; refine (manyTurns_any _ (by assumption) _).mono ?_; rintro e w' ⟨rfl, rfl⟩) | (go_at_call 30; refine (implSine_any _ (by assumption) hb _).mono ?_; rintro e w' ⟨r, rfl, hr, n, rfl⟩) | (go_at_call 33; refine (implNarrow_any _ (by assumption) hfit _).mono ?_; rintro e w' ⟨r, rfl, hr, n, rfl⟩))
          go_ret
          exact ⟨_, rfl, by assumption, _, rfl⟩
  obtain ⟨Z, hs0, hi⟩ := key
  have hs : ∀ w, Calls Try.prog 23 #[.float .f32 a] w fun e w' => ∃ r, e = .returned (.float .f32 r) ∧ FV .f32 r Z ∧ ∃ n, w' = w.drewN n := by
    intro w
    go_enter Try.func23, Try.ntmps23
    go_wp2_with (go_at_call 44; refine (hs0 _).mono ?_; rintro e w' ⟨r, rfl, hr, n, rfl⟩)
    go_ret
    exact ⟨_, rfl, by assumption, _, rfl⟩
  clear fa hs0 hwf
  go_enter Try.func7, Try.ntmps7
  go_wp2_with (first | (go_at_call 23; refine (hs _).mono ?_; rintro e w' ⟨r, rfl, hr, n, rfl⟩) | (go_at_call 24; refine (hi _).mono ?_; rintro e w' ⟨r, rfl, hr, n, rfl⟩) | (refine wpList_widen rfl _ _ _ rfl _ rfl (by kernel_rfl) Try.underlying27 (by assumption) ?_; intro r m hr) | (go_at_call 25; refine (sameFloat_any _ _ (by assumption) (by assumption) _).mono ?_; rintro e w' ⟨rfl, q1, rfl⟩))
  go_ret
  exact ⟨rfl, below_drewN (Below.refl _ _) _⟩
end Go.Proofs.Ytnjkabckbnbboaa
