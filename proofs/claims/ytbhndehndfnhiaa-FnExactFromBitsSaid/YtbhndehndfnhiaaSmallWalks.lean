/- Helper: walks of the smallest functions of chapter 1, of the program and of its reference. Conditions: none. -/
import Derived.Test.YtbhndehndfnhiaaChecked
import Derived.Test.YtbhndehndfnhiaaFloatFacts
import Derived.WalkSmall
import Derived.Deep.QuietTactic
import Derived.BigQuiet
set_option linter.unusedVariables false
namespace Go.Proofs.Ytbhndehndfnhiaa
open Go.RowKit

/-- The bits of a number, all not-a-numbers having the same. -/
def bitsP (u : Option Nat) : Int := match u with | some x => x | none => 2143289344

theorem order_refl (d : Ieee.Datum) (h : d.isNaN = false) : d.order d = some .eq := by
  cases d with
  | nan s t => cases h
  | infinity s => cases s <;> rfl
  | number s m e => simp [Ieee.Datum.order]

theorem ford_self (k : FloatKind) (b : Nat) : ford k (cn k b) (cn k b) = (cn k b).map fun _ => .eq := by
  unfold cn
  split
  · rfl
  · rename_i h
    have h' : (k.decode b).isNaN = false := by simpa using h
    exact order_refl _ h'

theorem lt32 {b : Nat} (hb : (Lit.float .f32 b).wf = true) : (b : Int) < 4294967296 := by
  have : b < 4294967296 := by simpa [Lit.wf] using hb
  omega

theorem cn_some {k : FloatKind} {b x : Nat} (h : cn k b = some x) : x = b := by
  unfold cn at h; split at h <;> simp_all

@[go_sem] theorem run_bits32 (b : Nat) (w : World) : (callFunc 62 #[.float .f32 b]).run Try.prog w = .ok (.value (.int .u32 b)) w := by
  rw [run_callFunc_extern (e := Extern.MathFloatBits.float32bits) Try.func62 (by kernel_rfl) (by kernel_rfl) (by kernel_rfl) (by kernel_rfl) _ _]; rfl
@[go_sem] theorem run_frombits32 (n : Int) (w : World) : (callFunc 65 #[.int .u32 n]).run Try.prog w = .ok (.value (.float .f32 n.toNat)) w := by
  rw [run_callFunc_extern (e := Extern.MathFloatBits.float32frombits) Try.func65 (by kernel_rfl) (by kernel_rfl) (by kernel_rfl) (by kernel_rfl) _ _]; rfl
@[go_sem] theorem run_bits64 (b : Nat) (w : World) : (callFunc 81 #[.float .f64 b]).run Try.prog w = .ok (.value (.int .u64 b)) w := by
  rw [run_callFunc_extern (e := Extern.MathFloatBits.float64bits) Try.func81 (by kernel_rfl) (by kernel_rfl) (by kernel_rfl) (by kernel_rfl) _ _]; rfl
@[go_sem] theorem run_frombits64 (n : Int) (w : World) : (callFunc 80 #[.int .u64 n]).run Try.prog w = .ok (.value (.float .f64 n.toNat)) w := by
  rw [run_callFunc_extern (e := Extern.MathFloatBits.float64frombits) Try.func80 (by kernel_rfl) (by kernel_rfl) (by kernel_rfl) (by kernel_rfl) _ _]; rfl

theorem implBits_any (b : Nat) (hb : (Lit.float .f32 b).wf = true) (w : World) :
    Calls Try.prog 35 #[.float .f32 b] w fun e w' => e = .returned (.int .i64 (bitsP (cn .f32 b))) ∧ w = w' := by
  have h1 := lt32 hb
  have hs := ford_self .f32 b
  cases hc : cn .f32 b with
  | none =>
    rw [hc] at hs
    clear hb h1
    go_enter Try.func35, Try.ntmps35
    go_wp2
    go_ret
    exact ⟨rfl, rfl⟩
  | some x =>
    obtain rfl := cn_some hc
    rw [hc] at hs
    clear hb
    go_enter Try.func35, Try.ntmps35
    go_wp2
    go_ret
    exact ⟨rfl, rfl⟩
theorem specBits_any (b : Nat) (hb : (Lit.float .f32 b).wf = true) (w : World) :
    Calls Try.prog 61 #[.float .f32 b] w fun e w' => e = .returned (.int .i64 (bitsP (cn .f32 b))) ∧ w = w' := by
  have h1 := lt32 hb
  have hs := ford_self .f32 b
  cases hc : cn .f32 b with
  | none =>
    rw [hc] at hs
    clear hb h1
    go_enter Try.func61, Try.ntmps61
    go_wp2
    go_ret
    exact ⟨rfl, rfl⟩
  | some x =>
    obtain rfl := cn_some hc
    rw [hc] at hs
    clear hb
    go_enter Try.func61, Try.ntmps61
    go_wp2
    go_ret
    exact ⟨rfl, rfl⟩
theorem law_FnExactBitsOf (b : Nat) (hb : (Lit.float .f32 b).wf = true) (w : World) :
    Calls Try.prog 8 #[.float .f32 b] w fun e w' => e = .returned (.bool true) ∧ Below w.heap.size w w' := by
  have hsb : Calls Try.prog 34 #[.float .f32 b] w fun e w' => e = .returned (.int .i64 (bitsP (cn .f32 b))) ∧ w = w' := by
    go_enter Try.func34, Try.ntmps34
    go_wp2_with (go_at_call 61; refine (specBits_any b hb _).mono ?_; rintro e w' ⟨rfl, rfl⟩)
    go_ret
    exact ⟨rfl, rfl⟩
  go_enter Try.func8, Try.ntmps8
  go_wp2_with (first | (go_at_call 34; refine hsb.mono ?_; rintro e w' ⟨rfl, rfl⟩) | (go_at_call 35; refine (implBits_any b hb _).mono ?_; rintro e w' ⟨rfl, rfl⟩))
  go_ret
  exact ⟨rfl, Below.refl _ _⟩

theorem sameFloat_any (a b : Nat) {X : Option Nat} (fa : FV .f64 a X) (fb : FV .f64 b X) (w : World) :
    Calls Try.prog 38 #[.float .f64 a, .float .f64 b] w fun e w' => e = .returned (.bool true) ∧ ∃ n, w' = w.drewN n := by
  cases X with
  | none =>
    have ha := fa.1
    have hb := fb.1
    have hn : ford .f64 none none = none := rfl
    clear fa fb
    go_enter Try.func38, Try.ntmps38
    go_wp2
    go_ret
    exact ⟨rfl, 0, rfl⟩
  | some x =>
    obtain rfl := fa.eq
    obtain rfl := fb.eq
    have ha := fa.1
    have hs : ford .f64 (some b) (some b) = some .eq := by have := ford_self .f64 b; rw [ha] at this; exact this
    have fone : FV .f64 4607182418800017408 (some 4607182418800017408) := FV.lit (by kernel_rfl) (by kernel_rfl)
    have c0 : cn .f64 0 = some 0 := cn_of (by kernel_rfl)
    by_cases h0 : ford .f64 (some b) (some 0) = some .eq
    · go_enter Try.func38, Try.ntmps38
      go_wp2_with (refine wpList_farith rfl .quo _ _ _ _ rfl rfl .f64 _ _ rfl rfl fone fa ?_; intro r m hr; have hr1 := hr.1; clear hr)
      go_ret
      exact ⟨rfl, _, rfl⟩
    · have h1 : (ford .f64 (some b) (some 0) == some .eq) = false := by simpa using h0
      go_enter Try.func38, Try.ntmps38
      go_wp2
      go_ret
      exact ⟨rfl, 0, rfl⟩

theorem law_FnExactSameNumber (a : Nat) (ha : (Lit.float .f32 a).wf = true) (b : Nat) (hb : (Lit.float .f32 b).wf = true) (w : World) :
    Calls Try.prog 6 #[.float .f32 a, .float .f32 b] w fun e w' => e = .returned (.bool true) ∧ Below w.heap.size w w' := by
  have hss : Calls Try.prog 51 #[.float .f32 a, .float .f32 b] w fun e w' => e = .returned (.bool (bitsP (cn .f32 a) == bitsP (cn .f32 b))) ∧ w = w' := by
    go_enter Try.func51, Try.ntmps51
    go_wp2_with (go_at_call 61; refine (specBits_any _ (by assumption) _).mono ?_; rintro e w' ⟨rfl, rfl⟩)
    go_ret
    exact ⟨rfl, rfl⟩
  have hs : Calls Try.prog 19 #[.float .f32 a, .float .f32 b] w fun e w' => e = .returned (.bool (bitsP (cn .f32 a) == bitsP (cn .f32 b))) ∧ w = w' := by
    go_enter Try.func19, Try.ntmps19
    go_wp2_with (go_at_call 51; refine hss.mono ?_; rintro e w' ⟨rfl, rfl⟩)
    go_ret
    exact ⟨rfl, rfl⟩
  have hi : Calls Try.prog 31 #[.float .f32 a, .float .f32 b] w fun e w' => e = .returned (.bool (bitsP (cn .f32 a) == bitsP (cn .f32 b))) ∧ w = w' := by
    go_enter Try.func31, Try.ntmps31
    go_wp2_with (go_at_call 35; refine (implBits_any _ (by assumption) _).mono ?_; rintro e w' ⟨rfl, rfl⟩)
    go_ret
    exact ⟨rfl, rfl⟩
  generalize (bitsP (cn .f32 a) == bitsP (cn .f32 b)) = z at *
  go_enter Try.func6, Try.ntmps6
  go_wp2_with (first | (go_at_call 19; refine hs.mono ?_; rintro e w' ⟨rfl, rfl⟩) | (go_at_call 31; refine hi.mono ?_; rintro e w' ⟨rfl, rfl⟩))
  go_ret
  exact ⟨rfl, Below.refl _ _⟩
theorem andNot63 (x : Nat) (h : x < 18446744073709551616) : bits .andNot .u64 (x : Int) 9223372036854775808 = ((x % 9223372036854775808 : Nat) : Int) := by
  have e := u64_andNot_nat x 9223372036854775808 h (by decide)
  have e2 : x &&& 18446744073709551615 - 9223372036854775808 = x % 9223372036854775808 := Nat.and_two_pow_sub_one_eq_mod x 63
  rw [e2] at e
  exact e

theorem abs_any (x : Nat) {X : Option Nat} (fx : FV .f64 x X) (w : World) :
    Calls Try.prog 69 #[.float .f64 x] w fun e w' => ∃ r, e = .returned (.float .f64 r) ∧ FV .f64 r (fabs X) ∧ w = w' := by
  have hl : x < 18446744073709551616 := by have := fx.2; simpa [Lit.wf] using this
  have hf := fx.abs
  have e := andNot63 x hl
  clear fx hl
  go_enter Try.func69, Try.ntmps69
  go_wp2
  go_ret
  exact ⟨_, rfl, by simpa using hf, rfl⟩
theorem isNaN_any (x : Nat) {X : Option Nat} (fx : FV .f64 x X) (w : World) :
    Calls Try.prog 67 #[.float .f64 x] w fun e w' => e = .returned (.bool (ford .f64 X X != some .eq)) ∧ w = w' := by
  have h1 := fx.1
  go_enter Try.func67, Try.ntmps67
  go_wp2
  go_ret
  exact ⟨rfl, rfl⟩
theorem isInf_any (x : Nat) {X : Option Nat} (fx : FV .f64 x X) (w : World) :
    Calls Try.prog 66 #[.float .f64 x, .int .i64 0] w fun e w' => e = .returned (.bool (isInf .f64 X)) ∧ w = w' := by
  have h1 := fx.1
  have c1 : cn .f64 9218868437227405311 = some 9218868437227405311 := cn_of (by decide +kernel)
  have hg := gt_max X
  go_enter Try.func66, Try.ntmps66
  go_wp2_with (go_at_call 69; refine (abs_any _ fx _).mono ?_; rintro e w' ⟨r, rfl, hr, rfl⟩; have hr1 := hr.1; clear hr)
  go_ret
  exact ⟨rfl, rfl⟩
theorem isFiniteLong_any (x : Nat) {X : Option Nat} (fx : FV .f64 x X) (w : World) :
    Calls Try.prog 39 #[.float .f64 x] w fun e w' => e = .returned (.bool (finite .f64 X)) ∧ w = w' := by
  have hf := finite_of fx.clean
  cases hi : isInf .f64 X with
  | true =>
    rw [hi] at hf
    go_enter Try.func39, Try.ntmps39
    go_wp2_with (first | (go_at_call 66; refine (isInf_any _ fx _).mono ?_; rintro e w' ⟨rfl, rfl⟩) | (go_at_call 67; refine (isNaN_any _ fx _).mono ?_; rintro e w' ⟨rfl, rfl⟩))
    go_ret
    exact ⟨by rw [hf]; rfl, rfl⟩
  | false =>
    rw [hi] at hf
    go_enter Try.func39, Try.ntmps39
    go_wp2_with (first | (go_at_call 66; refine (isInf_any _ fx _).mono ?_; rintro e w' ⟨rfl, rfl⟩) | (go_at_call 67; refine (isNaN_any _ fx _).mono ?_; rintro e w' ⟨rfl, rfl⟩))
    go_ret
    exact ⟨by rw [hf]; rfl, rfl⟩
theorem implIsFinite_any (x : Nat) {X : Option Nat} (fx : FV .f32 x X) (w : World) :
    Calls Try.prog 33 #[.float .f32 x] w fun e w' => e = .returned (.bool (finite .f32 X)) ∧ ∃ n, w' = w.drewN n := by
  have hw := widen_finite fx.clean
  go_enter Try.func33, Try.ntmps33
  go_wp2_with (first | (refine wpList_widen rfl _ _ _ rfl _ rfl (by kernel_rfl) Try.underlying27 fx ?_; intro r m hr) | (go_at_call 39; refine (isFiniteLong_any _ (by assumption) _).mono ?_; rintro e w' ⟨rfl, rfl⟩))
  go_ret
  exact ⟨rfl, _, rfl⟩
theorem specFinite_any (x : Nat) {X : Option Nat} (fx : FV .f32 x X) (w : World) :
    Calls Try.prog 60 #[.float .f32 x] w fun e w' => e = .returned (.bool (finite .f32 X)) ∧ ∃ n, w' = w.drewN n := by
  have hs := sub_self_zero fx.clean
  have c0 : cn .f32 0 = some 0 := cn_of (by decide +kernel)
  go_enter Try.func60, Try.ntmps60
  go_wp2_with (refine wpList_farith rfl .sub _ _ _ _ rfl rfl .f32 _ _ rfl rfl fx fx ?_; intro r m hr; have hr1 := hr.1; clear hr)
  go_ret
  exact ⟨rfl, _, rfl⟩
theorem law_FnExactIsFinite (a : Nat) (ha : (Lit.float .f32 a).wf = true) (w : World) :
    Calls Try.prog 7 #[.float .f32 a] w fun e w' => e = .returned (.bool true) ∧ Below w.heap.size w w' := by
  have fa := FV.mk' ha
  generalize cn .f32 a = X at fa
  have hs : ∀ w, Calls Try.prog 32 #[.float .f32 a] w fun e w' => e = .returned (.bool (finite .f32 X)) ∧ ∃ n, w' = w.drewN n := by
    intro w
    go_enter Try.func32, Try.ntmps32
    go_wp2_with (go_at_call 60; refine (specFinite_any _ fa _).mono ?_; rintro e w' ⟨rfl, n, rfl⟩)
    go_ret
    exact ⟨rfl, _, rfl⟩
  go_enter Try.func7, Try.ntmps7
  go_wp2_with (first | (go_at_call 32; refine (hs _).mono ?_; rintro e w' ⟨rfl, n, rfl⟩) | (go_at_call 33; refine (implIsFinite_any _ fa _).mono ?_; rintro e w' ⟨rfl, n, rfl⟩))
  go_ret
  exact ⟨rfl, below_drewN (Below.refl _ _) _⟩
theorem law_FnExactFromBits (n : Int) (wn : (Lit.int .i64 n).wf = true) (w : World) :
    Calls Try.prog 9 #[.int .i64 n] w fun e w' => e = .returned (.bool true) ∧ Below w.heap.size w w' := by
  by_cases h : 0 ≤ n ∧ n ≤ 4294967295
  · obtain ⟨h0, h1⟩ := h
    have fx : FV .f32 n.toNat (cn .f32 n.toNat) := FV.mk' (by
      have : n.toNat < 4294967296 := by omega
      simpa [Lit.wf] using this)
    have hin : Calls Try.prog 63 #[.int .i64 n, .int .i64 0, .int .i64 4294967295] w fun e w' => e = .returned (.bool true) ∧ w = w' := by
      go_enter Try.func63, Try.ntmps63
      go_wp2
      go_ret
      exact ⟨rfl, rfl⟩
    have hfr : Calls Try.prog 64 #[.int .i64 n] w fun e w' => e = .returned (.float .f32 n.toNat) ∧ w = w' := by
      go_enter Try.func64, Try.ntmps64
      go_wp2
      go_ret
      exact ⟨rfl, rfl⟩
    have hs : Calls Try.prog 36 #[.int .i64 n] w fun e w' => e = .returned (.tuple #[.float .f32 n.toNat, .bool true]) ∧ w = w' := by
      go_enter Try.func36, Try.ntmps36
      go_wp2_with (first | (go_at_call 63; refine hin.mono ?_; rintro e w' ⟨rfl, rfl⟩) | (go_at_call 64; refine hfr.mono ?_; rintro e w' ⟨rfl, rfl⟩))
      go_ret2
      exact ⟨rfl, rfl⟩
    have hi : Calls Try.prog 37 #[.int .i64 n] w fun e w' => e = .returned (.tuple #[.float .f32 n.toNat, .bool true]) ∧ w = w' := by
      go_enter Try.func37, Try.ntmps37
      go_wp2
      go_ret2
      exact ⟨rfl, rfl⟩
    go_enter Try.func9, Try.ntmps9
    go_wp2_with (first | (go_at_call 36; refine hs.mono ?_; rintro e w' ⟨rfl, rfl⟩) | (go_at_call 37; refine hi.mono ?_; rintro e w' ⟨rfl, rfl⟩) | (refine wpList_widen rfl _ _ _ rfl _ rfl (by kernel_rfl) Try.underlying27 fx ?_; intro r m hr) | (go_at_call 38; refine (sameFloat_any _ _ (by assumption) (by assumption) _).mono ?_; rintro e w' ⟨rfl, n, rfl⟩))
    go_ret
    exact ⟨rfl, below_drewN (Below.refl _ _) _⟩
  · have fz : FV .f32 0 (some 0) := FV.lit (by decide +kernel) (by decide +kernel)
    have hin : Calls Try.prog 63 #[.int .i64 n, .int .i64 0, .int .i64 4294967295] w fun e w' => e = .returned (.bool false) ∧ w = w' := by
      by_cases h0 : n < 0
      · go_enter Try.func63, Try.ntmps63
        go_wp2
        go_ret
        exact ⟨rfl, rfl⟩
      · have h1 : 4294967295 < n := by omega
        have hd : decide (n ≤ 4294967295) = false := decide_eq_false (by omega)
        go_enter Try.func63, Try.ntmps63
        go_wp2
        go_ret
        exact ⟨rfl, rfl⟩
    have hs : Calls Try.prog 36 #[.int .i64 n] w fun e w' => e = .returned (.tuple #[.float .f32 0, .bool false]) ∧ w = w' := by
      go_enter Try.func36, Try.ntmps36
      go_wp2_with (go_at_call 63; refine hin.mono ?_; rintro e w' ⟨rfl, rfl⟩)
      go_ret2
      exact ⟨rfl, rfl⟩
    have hi : Calls Try.prog 37 #[.int .i64 n] w fun e w' => e = .returned (.tuple #[.float .f32 0, .bool false]) ∧ w = w' := by
      by_cases h0 : n < 0
      · go_enter Try.func37, Try.ntmps37
        go_wp2
        go_ret2
        exact ⟨rfl, rfl⟩
      · have h1 : 4294967295 < n := by omega
        go_enter Try.func37, Try.ntmps37
        go_wp2
        go_ret2
        exact ⟨rfl, rfl⟩
    go_enter Try.func9, Try.ntmps9
    go_wp2_with (first | (go_at_call 36; refine hs.mono ?_; rintro e w' ⟨rfl, rfl⟩) | (go_at_call 37; refine hi.mono ?_; rintro e w' ⟨rfl, rfl⟩) | (refine wpList_widen rfl _ _ _ rfl _ rfl (by kernel_rfl) Try.underlying27 fz ?_; intro r m hr) | (go_at_call 38; refine (sameFloat_any _ _ (by assumption) (by assumption) _).mono ?_; rintro e w' ⟨rfl, n, rfl⟩))
    go_ret
    exact ⟨rfl, below_drewN (Below.refl _ _) _⟩
end Go.Proofs.Ytbhndehndfnhiaa
