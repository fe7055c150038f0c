/- Helper: walks of the reference's logarithm. Conditions: none. -/
import Derived.Test.YtbhndehndfnhiadLogWalks
set_option linter.unusedVariables false
namespace Go.Proofs.Ytbhndehndfnhiad
open Go.RowKit

theorem zero_gen {x mm : Nat} {f p : Int} {z : Nat} (hx : Ieee.double.read x = .number false mm f) (hz : Ieee.double.read z = .number false 0 p) (h : mm ≠ 0) : ford .f64 (some x) (some z) = some .gt := by
  have e : ford .f64 (some x) (some z) = (Ieee.double.read x).order (Ieee.double.read z) := rfl
  rw [e, hx, hz, order_zero2 .f64, if_neg h]
  rfl
theorem gt_gen {x c m n : Nat} {f g : Int} (hx : Ieee.double.read x = .number false m f) (hc : Ieee.double.read c = .number false n g)
    (h1 : 4503599627370496 ≤ m) (h2 : m < 9007199254740992) (k1 : 4503599627370496 ≤ n) (k2 : n < 9007199254740992) (h : f < g) :
    (ford .f64 (some x) (some c) == some .gt) = false := by
  have e : ford .f64 (some x) (some c) = (Ieee.double.read x).order (Ieee.double.read c) := rfl
  rw [e, hx, hc, order_canon h1 h2 k1 k2, if_pos h]
  rfl
theorem zero_read : Ieee.double.read 0 = .number false 0 (-1074) := by decide +kernel
theorem max_read : Ieee.double.read 9218868437227405311 = .number false 9007199254740991 971 := by decide +kernel
theorem W_zero {mm : Nat} {f : Int} (h1 : 4503599627370496 ≤ mm) (h2 : mm < 9007199254740992) (h3 : -1074 ≤ f) (h4 : f ≤ 900) : ford .f64 (some (W mm f)) (some 0) = some .gt :=
  zero_gen (readW h1 h2 h3 h4) zero_read (by omega)
theorem W_max {mm : Nat} {f : Int} (h1 : 4503599627370496 ≤ mm) (h2 : mm < 9007199254740992) (h3 : -1074 ≤ f) (h4 : f ≤ 900) : (ford .f64 (some (W mm f)) (some 9218868437227405311) == some .gt) = false :=
  gt_gen (readW h1 h2 h3 h4) max_read h1 h2 (by decide) (by decide) (by omega)

theorem isInf1_any (x : Nat) {X : Option Nat} (fx : FV .f64 x X) (w : World) :
    Calls Try.prog 59 #[.float .f64 x, .int .i64 1] w fun e w' => e = .returned (.bool (ford .f64 X (some 9218868437227405311) == some .gt)) ∧ w = w' := by
  have h1 := fx.1
  have c1 : cn .f64 9218868437227405311 = some 9218868437227405311 := cn_of (by decide +kernel)
  go_enter Try.func59, Try.ntmps59
  go_wp2
  go_ret
  exact ⟨rfl, rfl⟩
theorem inf_any (w : World) : Calls Try.prog 50 #[.int .i64 (-1)] w fun e w' => e = .returned (.float .f64 18442240474082181120) ∧ w = w' := by
  go_enter Try.func50, Try.ntmps50
  go_wp2
  go_ret
  exact ⟨rfl, rfl⟩
theorem nanL_any (w : World) : Calls Try.prog 61 #[] w fun e w' => ∃ r, e = .returned (.float .f64 r) ∧ FV .f64 r none ∧ w = w' := by
  have hn : FV .f64 9221120237041090561 none := ⟨cn_nan (by decide +kernel), by decide +kernel⟩
  go_enter Try.func61, Try.ntmps61
  go_wp2
  go_ret
  exact ⟨_, rfl, hn, rfl⟩
theorem noNumberL_any (w : World) : Calls Try.prog 35 #[] w fun e w' => ∃ r, e = .returned (.float .f32 r) ∧ FV .f32 r none ∧ ∃ n, w' = w.drewN n := by
  have hf : fits none := by intro x hx; cases hx
  go_enter Try.func35, Try.ntmps35
  go_wp2_with (first | (go_at_call 61; refine (nanL_any _).mono ?_; rintro e w' ⟨r, rfl, hr, rfl⟩) | (refine wpList_narrow rfl _ _ _ rfl _ rfl (by kernel_rfl) Try.underlying22 (by assumption) (by assumption) ?_; intro r m hr))
  go_ret
  exact ⟨_, rfl, by assumption, _, rfl⟩
set_option maxHeartbeats 1000000 in
theorem specLog_any {mm : Nat} {f : Int} (h1 : 4503599627370496 ≤ mm) (h2 : mm < 9007199254740992) (h3 : -201 ≤ f) (h4 : f ≤ 75) (w : World) :
    Calls Try.prog 69 #[.float .f64 (W mm f)] w fun e w' => ∃ r, e = .returned (.float .f64 r) ∧ FV .f64 r (logB mm (f - red mm)) ∧ ∃ n, w' = w.drewN n := by
  have hred := red_cases mm
  have hred1 : -53 ≤ red mm := by omega
  have hred2 : red mm ≤ -52 := by omega
  have c0 : cn .f64 0 = some 0 := cn_of (by decide +kernel)
  have c15 : cn .f64 4609434218613702656 = some 4609434218613702656 := cn_of (by decide +kernel)
  have c75 : cn .f64 4604930618986332160 = some 4604930618986332160 := cn_of (by decide +kernel)
  have c1 : cn .f64 4607182418800017408 = some 4607182418800017408 := cn_of (by decide +kernel)
  clear hred
  have fw0 := FV.ofW h1 h2 (f := f) (by omega) (by omega)
  have cw0 := fw0.1
  have hself : ford .f64 (some (W mm f)) (some (W mm f)) = some .eq := ford_self' fw0.clean
  have hzero := W_zero h1 h2 (f := f) (by omega) (by omega)
  have hmax := W_max h1 h2 (f := f) (by omega) (by omega)
  go_enter Try.func69, Try.ntmps69
  go_wp2_with (go_at_call 59; refine (isInf1_any _ fw0 _).mono ?_; rintro e w' ⟨rfl, rfl⟩)
  clear fw0 cw0 hself hzero hmax
  go_loopw [0, 3] (fun x e w' => ∃ j n : Nat, x = .float .f64 (W mm (f - j)) ∧ e = .int .i64 j ∧ (red mm ≤ f - j ∨ j = 0) ∧ w' = w.drewN n) (fun x _ _ => fBits x)
  case atStart => exact ⟨0, 0, by simp, rfl, .inr rfl, rfl⟩
  case round =>
    obtain ⟨j, n, rfl, rfl, hj, rfl⟩ := hrel
    have hjb : (j : Int) ≤ 128 := by omega
    have fw := FV.ofW h1 h2 (f := f - j) (by omega) (by omega)
    have cw := fw.1
    have hg := ge15 h1 h2 (f := f - j) (by omega) (by omega)
    by_cases hlt : red mm < f - j
    · rw [decide_eq_true hlt] at hg
      have HA := Lib.hid (halfW h1 h2 (f := f - j) (by omega) (by omega))
      have HL := Lib.hid (W_lt (m := mm) (f := f - j) (by omega))
      have e1 : f - (j : Int) - 1 = f - ((j + 1 : Nat) : Int) := by push_cast; omega
      rw [e1] at HA HL
      clear e1
      go_wp2_with (first | (refine wpList_farith rfl .quo _ _ _ _ rfl rfl .f64 (W mm (f - j)) _ rfl rfl fw (FV.lit (by kernel_rfl) (by kernel_rfl)) ?_; intro r m' hr; rw [HA.out] at hr; obtain rfl := hr.eq; clear hr))
      go_roundw
      case rel => exact ⟨j + 1, _, rfl, by go_num, .inl (by push_cast; omega), rfl⟩
      case measure => exact HL.out
    · rw [decide_eq_false hlt] at hg
      go_wp2
      go_loopw [0, 3] (fun x e w' => ∃ (c : Int) (n : Nat), x = .float .f64 (W mm (f - c)) ∧ e = .int .i64 c ∧ f - c ≤ red mm ∧ (c ≤ 0 ∨ f - c = red mm) ∧ -299 ≤ c ∧ c ≤ 299 ∧ w' = w.drewN n) (fun x _ _ => 9223372036854775808 - fBits x)
      case atStart => exact ⟨j, _, rfl, rfl, by omega, by omega, by omega, by omega, rfl⟩
      case round =>
        clear hg hlt cw fw hj hjb
        obtain ⟨c, n2, rfl, rfl, hc1, hc2, hc3, hc4, rfl⟩ := hrel
        have hc5 : -201 ≤ f - c := by omega
        have fw := FV.ofW h1 h2 (f := f - c) (by omega) (by omega)
        have cw := fw.1
        have hg := lt75 h1 h2 (f := f - c) (by omega) (by omega)
        by_cases hlt : f - c < red mm
        · rw [decide_eq_true hlt] at hg
          have HA := Lib.hid (doubleW h1 h2 (f := f - c) (by omega) (by omega))
          have HL := Lib.hid (W_lt (m := mm) (f := f - c + 1) (by omega))
          have HL2 := Lib.hid (W_le (m := mm) (f := f - c + 1) h2 (by omega))
          have e0 : f - c + 1 - 1 = f - c := by omega
          have e1 : f - c + 1 = f - (c - 1) := by omega
          rw [e0] at HL
          rw [e1] at HA HL HL2
          clear e0 e1
          go_wp2_with (first | (refine wpList_farith rfl .mul _ _ _ _ rfl rfl .f64 (W mm (f - c)) _ rfl rfl fw (FV.lit (by kernel_rfl) (by kernel_rfl)) ?_; intro r m' hr; rw [HA.out] at hr; obtain rfl := hr.eq; clear hr))
          go_roundw
          case rel => exact ⟨c - 1, _, rfl, rfl, by omega, by omega, by omega, by omega, rfl⟩
          case measure =>
            have a1 := HL.out
            have a2 := HL2.out
            show 9223372036854775808 - W mm (f - (c - 1)) < 9223372036854775808 - W mm (f - c)
            omega
        · rw [decide_eq_false hlt] at hg
          obtain rfl : c = f - red mm := by omega
          have e2 : f - (f - red mm) = red mm := by omega
          rw [e2] at fw cw hg ⊢
          clear e2
          go_wp2_with (first | (refine wpList_farith rfl _ _ _ _ _ rfl rfl _ _ _ rfl rfl (by first | assumption | (with_reducible exact FV.ofInt _ _) | exact FV.lit (by kernel_rfl) (by kernel_rfl)) (by first | assumption | (with_reducible exact FV.ofInt _ _) | exact FV.lit (by kernel_rfl) (by kernel_rfl)) ?_; intro r m hr))
          go_loopw [6, 7] (fun p k w' => ∃ j n r : Nat, j ≤ 13 ∧ k = .int .i64 (25 - 2 * j) ∧ p = .float .f64 r ∧ FV .f64 r (polyQ (fop .mul .f64 (sP mm) (sP mm)) j) ∧ w' = w.drewN n) (fun _ k _ => (intOf k + 1).toNat)
          case atStart => exact ⟨0, _, 0, by omega, rfl, rfl, FV.lit (by kernel_rfl) (by kernel_rfl), rfl⟩
          case round =>
            clear hg
            obtain ⟨j3, n3, r3, hj3, rfl, rfl, h03, rfl⟩ := hrel
            by_cases hlt3 : j3 < 13
            · go_wp2_with (first | (refine wpList_farith rfl _ _ _ _ _ rfl rfl _ _ _ rfl rfl (by first | assumption | (with_reducible exact FV.ofInt _ _) | exact FV.lit (by kernel_rfl) (by kernel_rfl)) (by first | assumption | (with_reducible exact FV.ofInt _ _) | exact FV.lit (by kernel_rfl) (by kernel_rfl)) ?_; intro r m hr))
              go_roundw
              case rel => exact ⟨j3 + 1, _, _, by omega, by congr 1; omega, rfl, FV.of_eq hr (polyQ_succ _ _), rfl⟩
              case measure => simp [intOf]; omega
            · obtain rfl : j3 = 13 := by omega
              go_wp2_with (first | (refine wpList_farith rfl _ _ _ _ _ rfl rfl _ _ _ rfl rfl (by first | assumption | (with_reducible exact FV.ofInt _ _) | exact FV.lit (by kernel_rfl) (by kernel_rfl)) (by first | assumption | (with_reducible exact FV.ofInt _ _) | exact FV.lit (by kernel_rfl) (by kernel_rfl)) ?_; intro r m hr))
              go_ret
              exact ⟨_, rfl, FV.of_eq hr (logB_is _ _), _, rfl⟩
theorem FV.lt32b {r : Nat} {u : Option Nat} (h : FV .f32 r u) : ∀ x, u = some x → x < 4294967296 := by
  intro x hx
  subst hx
  obtain rfl := h.eq
  have := h.2
  simpa [Lit.wf] using this

theorem inf32_of {X : Option Nat} (hc : clean .f32 X) (hl : ∀ x, X = some x → x < 4294967296) (hn : ¬ X = none) (h : finite .f32 X = false) (hlt : ¬ ford .f32 X (some 0) = some .lt) : X = some 2139095040 := by
  cases X with
  | none => exact absurd rfl hn
  | some x =>
    have hx : (Ieee.single.read x).isNaN = false := hc x rfl
    have hx2 := hl x rfl
    have h2 : finite .f32 (some x) = (match Ieee.single.read x with | .number .. => true | _ => false) := rfl
    have h32 : Ieee.single.read 0 = .number false 0 (-149) := by decide +kernel
    have ho : ford .f32 (some x) (some 0) = (Ieee.single.read x).order (Ieee.single.read 0) := rfl
    rw [h2] at h
    rw [ho, h32] at hlt
    rw [read_single_q] at hx h hlt
    by_cases q1 : x % 2147483648 < 8388608
    · rw [if_pos q1] at h; cases h
    · rw [if_neg q1] at h hx hlt
      by_cases q2 : x % 2147483648 < 2139095040
      · rw [if_pos q2] at h; cases h
      · rw [if_neg q2] at h hx hlt
        by_cases q3 : x % 2147483648 = 2139095040
        · rw [if_pos q3] at hlt
          have hs : (x / 2147483648 % 2 == 1) = false := by
            cases hb : (x / 2147483648 % 2 == 1) with
            | false => rfl
            | true => rw [hb] at hlt; exact absurd rfl hlt
          have hne : ¬ x / 2147483648 % 2 = 1 := beq_eq_false_iff_ne.1 hs
          congr 1
          omega
        · rw [if_neg q3] at hx; cases hx

theorem law_FnExactLogNumber (a : Nat) (ha : (Lit.float .f32 a).wf = true) (w : World) :
    Calls Try.prog 10 #[.float .f32 a] w fun e w' => e = .returned (.bool true) ∧ Below w.heap.size w w' := by
  have fa := FV.mk' ha
  generalize cn .f32 a = X at fa
  have c0 : cn .f32 0 = some 0 := cn_of (by decide +kernel)
  have c064 : cn .f64 0 = some 0 := cn_of (by decide +kernel)
  have key : ∃ Z, (∀ w, Calls Try.prog 51 #[.float .f32 a] w fun e w' => ∃ r, e = .returned (.float .f32 r) ∧ FV .f32 r Z ∧ ∃ n, w' = w.drewN n) ∧
      (∀ w, Calls Try.prog 29 #[.float .f32 a] w fun e w' => ∃ r, e = .returned (.float .f32 r) ∧ FV .f32 r Z ∧ ∃ n, w' = w.drewN n) := by
    have ha1 := fa.1
    have zx := widen_zero2 fa.clean
    by_cases hnn : X = none
    · subst hnn
      refine ⟨none, fun w => ?_, fun w => ?_⟩
      · have hw : ∀ r, FV .f64 r none → ∀ w, Calls Try.prog 69 #[.float .f64 r] w fun e w' => ∃ r, e = .returned (.float .f64 r) ∧ FV .f64 r none ∧ w = w' := by
          intro r hr w
          have h1 := hr.1
          have hf : ford .f64 none none = none := rfl
          go_enter Try.func69, Try.ntmps69
          go_wp2_with (go_at_call 61; refine (nanL_any _).mono ?_; rintro e w' ⟨r, rfl, hr, rfl⟩)
          go_ret
          exact ⟨_, rfl, by assumption, rfl⟩
        have hf : fits none := by intro x hx; cases hx
        have hwn : widen none = none := rfl
        go_enter Try.func51, Try.ntmps51
        go_wp2_with (first | (refine wpList_widen rfl _ _ _ rfl _ rfl (by kernel_rfl) Try.underlying25 fa ?_; intro r m hr; rw [hwn] at hr) | (go_at_call 69; refine (hw _ (by assumption) _).mono ?_; rintro e w' ⟨r, rfl, hr, rfl⟩) | (go_at_call 57; refine (specNarrow_any _ (by assumption) hf _).mono ?_; rintro e w' ⟨r, rfl, hr, n, rfl⟩))
        go_ret
        exact ⟨_, rfl, by assumption, _, rfl⟩
      · have hf : ford .f32 none none = none := rfl
        go_enter Try.func29, Try.ntmps29
        go_wp2_with (go_at_call 35; refine (noNumberL_any _).mono ?_; rintro e w' ⟨r, rfl, hr, n, rfl⟩)
        go_ret
        exact ⟨_, rfl, by assumption, _, rfl⟩
    · have hself : ford .f32 X X = some .eq := by
        rw [ford_self' fa.clean]
        cases X with
        | none => exact absurd rfl hnn
        | some x => rfl
      have hwself : ∀ r, FV .f64 r (widen X) → ford .f64 (widen X) (widen X) = some .eq := by
        intro r hr
        rw [ford_self' hr.clean]
        cases X with
        | none => exact absurd rfl hnn
        | some x => rfl
      by_cases hlt : ford .f32 X (some 0) = some .lt
      · rw [hlt] at zx
        refine ⟨none, fun w => ?_, fun w => ?_⟩
        · have hw : ∀ r, FV .f64 r (widen X) → ∀ w, Calls Try.prog 69 #[.float .f64 r] w fun e w' => ∃ r, e = .returned (.float .f64 r) ∧ FV .f64 r none ∧ w = w' := by
            intro r hr w
            have h1 := hr.1
            have hs2 := hwself r hr
            clear hself hwself hlt fa ha ha1
            generalize widen X = V at *
            go_enter Try.func69, Try.ntmps69
            go_wp2_with (go_at_call 61; refine (nanL_any _).mono ?_; rintro e w' ⟨r, rfl, hr, rfl⟩)
            go_ret
            exact ⟨_, rfl, by assumption, rfl⟩
          have hf : fits none := by intro x hx; cases hx
          clear hwself
          go_enter Try.func51, Try.ntmps51
          go_wp2_with (first | (refine wpList_widen rfl _ _ _ rfl _ rfl (by kernel_rfl) Try.underlying25 (by assumption) ?_; intro r m hr) | (go_at_call 69; refine (hw _ (by assumption) _).mono ?_; rintro e w' ⟨r, rfl, hr, rfl⟩) | (go_at_call 57; refine (specNarrow_any _ (by assumption) hf _).mono ?_; rintro e w' ⟨r, rfl, hr, n, rfl⟩))
          go_ret
          exact ⟨_, rfl, by assumption, _, rfl⟩
        · clear hwself zx
          go_enter Try.func29, Try.ntmps29
          go_wp2_with (go_at_call 35; refine (noNumberL_any _).mono ?_; rintro e w' ⟨r, rfl, hr, n, rfl⟩)
          go_ret
          exact ⟨_, rfl, by assumption, _, rfl⟩
      · by_cases heq : ford .f32 X (some 0) = some .eq
        · rw [heq] at zx
          have fninf : FV .f64 18442240474082181120 (some 18442240474082181120) := FV.lit (by kernel_rfl) (by kernel_rfl)
          have hnar : narrow (some 18442240474082181120) = some 4286578688 := by decide +kernel
          have HN := Lib.hid hnar
          have hf : fits (some 18442240474082181120) := by
            intro x hx
            obtain rfl : _ = x := by simpa using hx
            left
            decide +kernel
          clear hnar
          refine ⟨some 4286578688, fun w => ?_, fun w => ?_⟩
          · have hw : ∀ r, FV .f64 r (widen X) → ∀ w, Calls Try.prog 69 #[.float .f64 r] w fun e w' => e = .returned (.float .f64 18442240474082181120) ∧ w = w' := by
              intro r hr w
              have h1 := hr.1
              have hs2 := hwself r hr
              clear hself hwself hlt heq fa ha ha1
              generalize widen X = V at *
              go_enter Try.func69, Try.ntmps69
              go_wp2_with (go_at_call 50; refine (inf_any _).mono ?_; rintro e w' ⟨rfl, rfl⟩)
              go_ret
              exact ⟨rfl, rfl⟩
            clear hwself
            go_enter Try.func51, Try.ntmps51
            go_wp2_with (first | (refine wpList_widen rfl _ _ _ rfl _ rfl (by kernel_rfl) Try.underlying25 (by assumption) ?_; intro r m hr) | (go_at_call 69; refine (hw _ (by assumption) _).mono ?_; rintro e w' ⟨rfl, rfl⟩) | (go_at_call 57; refine (specNarrow_any _ fninf hf _).mono ?_; rintro e w' ⟨r, rfl, hr, n, rfl⟩))
            go_ret
            exact ⟨_, rfl, by rw [← HN.out]; assumption, _, rfl⟩
          · clear hwself zx
            go_enter Try.func29, Try.ntmps29
            go_wp2_with (first | (go_at_call 50; refine (inf_any _).mono ?_; rintro e w' ⟨rfl, rfl⟩) | (refine wpList_narrow rfl _ _ _ rfl _ rfl (by kernel_rfl) Try.underlying22 fninf hf ?_; intro r m hr))
            go_ret
            exact ⟨_, rfl, by rw [← HN.out]; assumption, _, rfl⟩
        · cases hfin : finite .f32 X with
          | false =>
            obtain rfl := inf32_of fa.clean fa.lt32b hnn hfin hlt
            obtain rfl := fa.eq
            have hwi : widen (some 2139095040) = some 9218868437227405312 := by decide +kernel
            have HW := Lib.hid hwi
            have hnar : narrow (some 9218868437227405312) = some 2139095040 := by decide +kernel
            have HN := Lib.hid hnar
            have hf : fits (some 9218868437227405312) := by
              intro x hx
              obtain rfl : _ = x := by simpa using hx
              left
              decide +kernel
            have hgt : ford .f32 (some 2139095040) (some 0) = some .gt := by decide +kernel
            have hgt64 : ford .f64 (some 9218868437227405312) (some 0) = some .gt := by decide +kernel
            have hmax : (ford .f64 (some 9218868437227405312) (some 9218868437227405311) == some .gt) = true := by decide +kernel
            have hs64 : ford .f64 (some 9218868437227405312) (some 9218868437227405312) = some .eq := by decide +kernel
            clear hnar hwi zx hwself heq hlt hnn
            refine ⟨some 2139095040, fun w => ?_, fun w => ?_⟩
            · have hw : ∀ r, FV .f64 r (some 9218868437227405312) → ∀ w, Calls Try.prog 69 #[.float .f64 r] w fun e w' => e = .returned (.float .f64 r) ∧ w = w' := by
                intro r hr w
                have h1 := hr.1
                go_enter Try.func69, Try.ntmps69
                go_wp2_with (go_at_call 59; refine (isInf1_any _ hr _).mono ?_; rintro e w' ⟨rfl, rfl⟩)
                go_ret
                exact ⟨rfl, rfl⟩
              go_enter Try.func51, Try.ntmps51
              go_wp2_with (first | (refine wpList_widen rfl _ _ _ rfl _ rfl (by kernel_rfl) Try.underlying25 fa ?_; intro r m hr; rw [HW.out] at hr) | (go_at_call 69; refine (hw _ (by assumption) _).mono ?_; rintro e w' ⟨rfl, rfl⟩) | (go_at_call 57; refine (specNarrow_any _ (by assumption) hf _).mono ?_; rintro e w' ⟨r, rfl, hr, n, rfl⟩))
              go_ret
              exact ⟨_, rfl, by rw [← HN.out]; assumption, _, rfl⟩
            · go_enter Try.func29, Try.ntmps29
              go_wp2_with (first | (go_at_call 40; refine (implIsFinite_any _ (by assumption) _).mono ?_; rintro e w' ⟨rfl, n, rfl⟩))
              go_ret
              exact ⟨_, rfl, fa, _, rfl⟩
          | true =>
            obtain ⟨mm, f, hwm, m1, m2, m3, m4⟩ := widen_normal hfin heq hlt
            have hfit := fits_of_lt2 ((logB_bound m1 m2 (f - red mm) (by have := red_cases mm; omega) (by have := red_cases mm; omega)).mono (by omega))
            have HW := Lib.hid hwm
            have hb1 : (ford .f32 X (some 0) == some .lt) = false := by simpa using hlt
            have hb2 : (ford .f32 X (some 0) == some .eq) = false := by simpa using heq
            clear hwm zx hwself
            refine ⟨narrow (logB mm (f - red mm)), fun w => ?_, fun w => ?_⟩
            · go_enter Try.func51, Try.ntmps51
              go_wp2_with (first | (refine wpList_widen rfl _ _ _ rfl _ rfl (by kernel_rfl) Try.underlying25 fa ?_; intro r m hr; rw [HW.out] at hr; obtain rfl := hr.eq; clear hr) | (go_at_call 69; refine (specLog_any m1 m2 m3 m4 _).mono ?_; rintro e w' ⟨r, rfl, hr, n, rfl⟩) | (go_at_call 57; refine (specNarrow_any _ (by assumption) hfit _).mono ?_; rintro e w' ⟨r, rfl, hr, n, rfl⟩))
              go_ret
              exact ⟨_, rfl, by assumption, _, rfl⟩
            · go_enter Try.func29, Try.ntmps29
              go_wp2_with (first | (go_at_call 40; refine (implIsFinite_any _ (by assumption) _).mono ?_; rintro e w' ⟨rfl, n, rfl⟩) | (refine wpList_widen rfl _ _ _ rfl _ rfl (by kernel_rfl) Try.underlying25 fa ?_; intro r m hr; rw [HW.out] at hr; obtain rfl := hr.eq; clear hr) | (go_at_call 52; refine (implLog_any m1 m2 m3 m4 _).mono ?_; rintro e w' ⟨r, rfl, hr, n, rfl⟩) | (go_at_call 37; refine (implNarrow_any _ (by assumption) hfit _).mono ?_; rintro e w' ⟨r, rfl, hr, n, rfl⟩))
              go_ret
              exact ⟨_, rfl, by assumption, _, rfl⟩
  obtain ⟨Z, hs0, hi⟩ := key
  have hs : ∀ w, Calls Try.prog 28 #[.float .f32 a] w fun e w' => ∃ r, e = .returned (.float .f32 r) ∧ FV .f32 r Z ∧ ∃ n, w' = w.drewN n := by
    intro w
    go_enter Try.func28, Try.ntmps28
    go_wp2_with (go_at_call 51; refine (hs0 _).mono ?_; rintro e w' ⟨r, rfl, hr, n, rfl⟩)
    go_ret
    exact ⟨_, rfl, by assumption, _, rfl⟩
  clear fa hs0
  go_enter Try.func10, Try.ntmps10
  go_wp2_with (first | (go_at_call 28; refine (hs _).mono ?_; rintro e w' ⟨r, rfl, hr, n, rfl⟩) | (go_at_call 29; refine (hi _).mono ?_; rintro e w' ⟨r, rfl, hr, n, rfl⟩) | (refine wpList_widen rfl _ _ _ rfl _ rfl (by kernel_rfl) Try.underlying25 (by assumption) ?_; intro r m hr) | (go_at_call 13; refine (sameFloat_any _ _ (by assumption) (by assumption) _).mono ?_; rintro e w' ⟨rfl, n, rfl⟩))
  go_ret
  exact ⟨rfl, below_drewN (Below.refl _ _) _⟩
end Go.Proofs.Ytbhndehndfnhiad
