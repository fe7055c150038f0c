/- Helper: walks of IsSubnormal and FlushNumber, of the program and of its reference. Conditions: none. -/
import Derived.Test.YtbhndehndfnhiadSmallWalks
import Derived.Test.YtbhndehndfnhiadSubFacts
set_option linter.unusedVariables false
namespace Go.Proofs.Ytbhndehndfnhiad
open Go.RowKit

/-- The bits of the exponent are 0. -/
def maskP (X : Option Nat) : Bool := match X with
  | none => false
  | some x => decide (x % 2147483648 < 8388608)

theorem and_mask (x : Nat) (h : x < 4294967296) : bits .and .i64 (x : Int) 2139095040 = ((x % 2147483648 / 8388608 * 8388608 : Nat) : Int) := by
  have e := nat_midmask 31 23 x (by decide)
  have e2 : (2 ^ 31 - 2 ^ 23 : Nat) = 2139095040 := by decide
  have e3 : (2 ^ 31 : Nat) = 2147483648 := by decide
  have e4 : (2 ^ 23 : Nat) = 8388608 := by decide
  rw [e2, e3, e4] at e
  rw [← e]
  have hle : x &&& 2139095040 ≤ 2139095040 := Nat.and_le_right
  have hx : (BitVec.ofInt 64 (x : Int)).toNat = x := by simp; omega
  have hm : (BitVec.ofInt 64 (2139095040 : Int)).toNat = 2139095040 := by decide
  show IntKind.i64.wrap ((BitVec.ofInt 64 (x : Int) &&& BitVec.ofInt 64 (2139095040 : Int)).toNat : Int) = _
  rw [BitVec.toNat_and, hx, hm]
  exact IntWalk.i64_in _ (by omega)

theorem mask_is (X : Option Nat) (h : ∀ x, X = some x → x < 4294967296) : (bits .and .i64 (bitsP X) 2139095040 == 0) = maskP X := by
  cases X with
  | none => decide +kernel
  | some x =>
    show (bits .and .i64 (x : Int) 2139095040 == 0) = _
    rw [and_mask x (h x rfl)]
    show _ = decide (x % 2147483648 < 8388608)
    by_cases hq : x % 2147483648 < 8388608
    · rw [decide_eq_true hq, Nat.div_eq_of_lt hq]; rfl
    · rw [decide_eq_false hq]
      have : 1 ≤ x % 2147483648 / 8388608 := by omega
      have hne : ¬ ((x % 2147483648 / 8388608 * 8388608 : Nat) : Int) = 0 := by omega
      simpa using hne

theorem FV.lt32 {r : Nat} {u : Option Nat} (h : FV .f32 r u) : ∀ x, u = some x → x < 4294967296 := by
  intro x hx
  subst hx
  obtain rfl := h.eq
  have := h.2
  simpa [Lit.wf] using this

theorem least_is {X : Option Nat} (h : clean .f32 X) : (ford .f64 (fabs (widen X)) (some 4039728865751334912) == some .lt) = maskP X := by
  cases X with
  | none => rfl
  | some x => exact least_iff (h x rfl)

/-- Subnormal. -/
def subP (X : Option Nat) : Bool := (ford .f32 X (some 0) != some .eq) && maskP X

theorem implSub_any (a : Nat) {X : Option Nat} (fa : FV .f32 a X) (w : World) :
    Calls Try.prog 31 #[.float .f32 a] w fun e w' => e = .returned (.bool (subP X)) ∧ ∃ n, w' = w.drewN n := by
  have hm := least_is fa.clean
  have h1 := fa.1
  have c0 : cn .f32 0 = some 0 := cn_of (by decide +kernel)
  have c1 : cn .f64 4039728865751334912 = some 4039728865751334912 := cn_of (by decide +kernel)
  unfold subP
  cases hz : (ford .f32 X (some 0) != some .eq) with
  | true =>
    go_enter Try.func31, Try.ntmps31
    go_wp2_with (first | (refine wpList_widen rfl _ _ _ rfl _ rfl (by kernel_rfl) Try.underlying25 fa ?_; intro r m hr) | (go_at_call 41; refine (abs_any _ (by assumption) _).mono ?_; rintro e w' ⟨r, rfl, hr, rfl⟩; have hr1 := hr.1; clear hr))
    go_ret
    exact ⟨rfl, _, rfl⟩
  | false =>
    go_enter Try.func31, Try.ntmps31
    go_wp2
    go_ret
    exact ⟨rfl, 0, rfl⟩
end Go.Proofs.Ytbhndehndfnhiad
