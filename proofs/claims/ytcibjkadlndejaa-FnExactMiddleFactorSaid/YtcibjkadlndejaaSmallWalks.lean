/- Helper: walks of the smallest functions of chapter 1, of the program and of its reference. Conditions: none. -/
import Derived.Test.YtcibjkadlndejaaChecked
import Derived.Test.YtcibjkadlndejaaFloatFacts
import Derived.WalkSmall
import Derived.Deep.QuietTactic
import Derived.BigQuiet
set_option linter.unusedVariables false
set_option linter.unusedSimpArgs false
namespace Go.Proofs.Ytcibjkadlndejaa
open Go.RowKit

/-- The bits of a number, all not-a-numbers having the same. -/
def bitsP (u : Option Nat) : Int := match u with | some x => x | none => 2143289344

theorem order_refl (d : Ieee.Datum) (h : d.isNaN = false) : d.order d = some .eq := by
  cases d with
  | nan s t => cases h
  | infinity s => cases s <;> rfl
  | number s m e => simp [Ieee.Datum.order]

theorem ford_self (k : FloatKind) (b : Nat) : ford k (cn k b) (cn k b) = (cn k b).map fun _ => .eq := by
  unfold cn
  split
  · rfl
  · rename_i h
    have h' : (k.decode b).isNaN = false := by simpa using h
    exact order_refl _ h'

theorem lt32 {b : Nat} (hb : (Lit.float .f32 b).wf = true) : (b : Int) < 4294967296 := by
  have : b < 4294967296 := by simpa [Lit.wf] using hb
  omega

theorem cn_some {k : FloatKind} {b x : Nat} (h : cn k b = some x) : x = b := by
  unfold cn at h; split at h <;> simp_all

@[go_sem] theorem run_bits64 (b : Nat) (w : World) : (callFunc 105 #[.float .f64 b]).run Try.prog w = .ok (.value (.int .u64 b)) w := by
  rw [run_callFunc_extern (e := Extern.MathFloatBits.float64bits) Try.func105 (by kernel_rfl) (by kernel_rfl) (by kernel_rfl) (by kernel_rfl) _ _]; rfl
@[go_sem] theorem run_frombits64 (n : Int) (w : World) : (callFunc 104 #[.int .u64 n]).run Try.prog w = .ok (.value (.float .f64 n.toNat)) w := by
  rw [run_callFunc_extern (e := Extern.MathFloatBits.float64frombits) Try.func104 (by kernel_rfl) (by kernel_rfl) (by kernel_rfl) (by kernel_rfl) _ _]; rfl


theorem sameFloat_any (a b : Nat) {X : Option Nat} (fa : FV .f64 a X) (fb : FV .f64 b X) (w : World) :
    Calls Try.prog 51 #[.float .f64 a, .float .f64 b] w fun e w' => e = .returned (.bool true) ∧ ∃ n, w' = w.drewN n := by
  cases X with
  | none =>
    have ha := fa.1
    have hb := fb.1
    have hn : ford .f64 none none = none := rfl
    clear fa fb
    go_enter Try.func51, Try.ntmps51
    go_wp2
    go_ret
    exact ⟨rfl, 0, rfl⟩
  | some x =>
    obtain rfl := fa.eq
    obtain rfl := fb.eq
    have ha := fa.1
    have hs : ford .f64 (some b) (some b) = some .eq := by have := ford_self .f64 b; rw [ha] at this; exact this
    have fone : FV .f64 4607182418800017408 (some 4607182418800017408) := FV.lit (by kernel_rfl) (by kernel_rfl)
    have c0 : cn .f64 0 = some 0 := cn_of (by kernel_rfl)
    by_cases h0 : ford .f64 (some b) (some 0) = some .eq
    · go_enter Try.func51, Try.ntmps51
      go_wp2_with (refine wpList_farith rfl .quo _ _ _ _ rfl rfl .f64 _ _ rfl rfl fone fa ?_; intro r m hr; have hr1 := hr.1; clear hr)
      go_ret
      exact ⟨rfl, _, rfl⟩
    · have h1 : (ford .f64 (some b) (some 0) == some .eq) = false := by simpa using h0
      go_enter Try.func51, Try.ntmps51
      go_wp2
      go_ret
      exact ⟨rfl, 0, rfl⟩

theorem andNot63 (x : Nat) (h : x < 18446744073709551616) : bits .andNot .u64 (x : Int) 9223372036854775808 = ((x % 9223372036854775808 : Nat) : Int) := by
  have e := u64_andNot_nat x 9223372036854775808 h (by decide)
  have e2 : x &&& 18446744073709551615 - 9223372036854775808 = x % 9223372036854775808 := Nat.and_two_pow_sub_one_eq_mod x 63
  rw [e2] at e
  exact e

theorem abs_any (x : Nat) {X : Option Nat} (fx : FV .f64 x X) (w : World) :
    Calls Try.prog 101 #[.float .f64 x] w fun e w' => ∃ r, e = .returned (.float .f64 r) ∧ FV .f64 r (fabs X) ∧ w = w' := by
  have hl : x < 18446744073709551616 := by have := fx.2; simpa [Lit.wf] using this
  have hf := fx.abs
  have e := andNot63 x hl
  clear fx hl
  go_enter Try.func101, Try.ntmps101
  go_wp2
  go_ret
  exact ⟨_, rfl, by simpa using hf, rfl⟩
theorem isNaN_any (x : Nat) {X : Option Nat} (fx : FV .f64 x X) (w : World) :
    Calls Try.prog 103 #[.float .f64 x] w fun e w' => e = .returned (.bool (ford .f64 X X != some .eq)) ∧ w = w' := by
  have h1 := fx.1
  go_enter Try.func103, Try.ntmps103
  go_wp2
  go_ret
  exact ⟨rfl, rfl⟩
theorem isInf_any (x : Nat) {X : Option Nat} (fx : FV .f64 x X) (w : World) :
    Calls Try.prog 102 #[.float .f64 x, .int .i64 0] w fun e w' => e = .returned (.bool (isInf .f64 X)) ∧ w = w' := by
  have h1 := fx.1
  have c1 : cn .f64 9218868437227405311 = some 9218868437227405311 := cn_of (by decide +kernel)
  have hg := gt_max X
  go_enter Try.func102, Try.ntmps102
  go_wp2_with (go_at_call 101; refine (abs_any _ fx _).mono ?_; rintro e w' ⟨r, rfl, hr, rfl⟩; have hr1 := hr.1; clear hr)
  go_ret
  exact ⟨rfl, rfl⟩
theorem isFiniteLong_any (x : Nat) {X : Option Nat} (fx : FV .f64 x X) (w : World) :
    Calls Try.prog 100 #[.float .f64 x] w fun e w' => e = .returned (.bool (finite .f64 X)) ∧ w = w' := by
  have hf := finite_of fx.clean
  cases hi : isInf .f64 X with
  | true =>
    rw [hi] at hf
    go_enter Try.func100, Try.ntmps100
    go_wp2_with (first | (go_at_call 102; refine (isInf_any _ fx _).mono ?_; rintro e w' ⟨rfl, rfl⟩) | (go_at_call 103; refine (isNaN_any _ fx _).mono ?_; rintro e w' ⟨rfl, rfl⟩))
    go_ret
    exact ⟨by rw [hf]; rfl, rfl⟩
  | false =>
    rw [hi] at hf
    go_enter Try.func100, Try.ntmps100
    go_wp2_with (first | (go_at_call 102; refine (isInf_any _ fx _).mono ?_; rintro e w' ⟨rfl, rfl⟩) | (go_at_call 103; refine (isNaN_any _ fx _).mono ?_; rintro e w' ⟨rfl, rfl⟩))
    go_ret
    exact ⟨by rw [hf]; rfl, rfl⟩
theorem implIsFinite_any (x : Nat) {X : Option Nat} (fx : FV .f32 x X) (w : World) :
    Calls Try.prog 92 #[.float .f32 x] w fun e w' => e = .returned (.bool (finite .f32 X)) ∧ ∃ n, w' = w.drewN n := by
  have hw := widen_finite fx.clean
  go_enter Try.func92, Try.ntmps92
  go_wp2_with (first | (refine wpList_widen rfl _ _ _ rfl _ rfl (by kernel_rfl) Try.underlying71 fx ?_; intro r m hr) | (go_at_call 100; refine (isFiniteLong_any _ (by assumption) _).mono ?_; rintro e w' ⟨rfl, rfl⟩))
  go_ret
  exact ⟨rfl, _, rfl⟩
theorem specFinite_any (x : Nat) {X : Option Nat} (fx : FV .f32 x X) (w : World) :
    Calls Try.prog 62 #[.float .f32 x] w fun e w' => e = .returned (.bool (finite .f32 X)) ∧ ∃ n, w' = w.drewN n := by
  have hs := sub_self_zero fx.clean
  have c0 : cn .f32 0 = some 0 := cn_of (by decide +kernel)
  go_enter Try.func62, Try.ntmps62
  go_wp2_with (refine wpList_farith rfl .sub _ _ _ _ rfl rfl .f32 _ _ rfl rfl fx fx ?_; intro r m hr; have hr1 := hr.1; clear hr)
  go_ret
  exact ⟨rfl, _, rfl⟩
end Go.Proofs.Ytcibjkadlndejaa
