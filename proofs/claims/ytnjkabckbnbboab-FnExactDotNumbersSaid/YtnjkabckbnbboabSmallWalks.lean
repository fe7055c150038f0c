/- Helper: walks of the smallest functions of chapter 1, of the program and of its reference. Conditions: none. -/
import Derived.Test.YtnjkabckbnbboabChecked
import Derived.Test.YtnjkabckbnbboabFloatFacts
import Derived.WalkSmall
import Derived.Deep.QuietTactic
import Derived.BigQuiet
set_option linter.unusedVariables false
namespace Go.Proofs.Ytnjkabckbnbboab
open Go.RowKit

/-- The bits of a number, all not-a-numbers having the same. -/
def bitsP (u : Option Nat) : Int := match u with | some x => x | none => 2143289344

theorem order_refl (d : Ieee.Datum) (h : d.isNaN = false) : d.order d = some .eq := by
  cases d with
  | nan s t => cases h
  | infinity s => cases s <;> rfl
  | number s m e => simp [Ieee.Datum.order]

theorem ford_self (k : FloatKind) (b : Nat) : ford k (cn k b) (cn k b) = (cn k b).map fun _ => .eq := by
  unfold cn
  split
  · rfl
  · rename_i h
    have h' : (k.decode b).isNaN = false := by simpa using h
    exact order_refl _ h'

theorem lt32 {b : Nat} (hb : (Lit.float .f32 b).wf = true) : (b : Int) < 4294967296 := by
  have : b < 4294967296 := by simpa [Lit.wf] using hb
  omega

theorem cn_some {k : FloatKind} {b x : Nat} (h : cn k b = some x) : x = b := by
  unfold cn at h; split at h <;> simp_all

@[go_sem] theorem run_bits32 (b : Nat) (w : World) : (callFunc 28 #[.float .f32 b]).run Try.prog w = .ok (.value (.int .u32 b)) w := by
  rw [run_callFunc_extern (e := Extern.MathFloatBits.float32bits) Try.func28 (by kernel_rfl) (by kernel_rfl) (by kernel_rfl) (by kernel_rfl) _ _]; rfl

theorem implBits_any (b : Nat) (hb : (Lit.float .f32 b).wf = true) (w : World) :
    Calls Try.prog 23 #[.float .f32 b] w fun e w' => e = .returned (.int .i64 (bitsP (cn .f32 b))) ∧ w = w' := by
  have h1 := lt32 hb
  have hs := ford_self .f32 b
  cases hc : cn .f32 b with
  | none =>
    rw [hc] at hs
    clear hb h1
    go_enter Try.func23, Try.ntmps23
    go_wp2
    go_ret
    exact ⟨rfl, rfl⟩
  | some x =>
    obtain rfl := cn_some hc
    rw [hc] at hs
    clear hb
    go_enter Try.func23, Try.ntmps23
    go_wp2
    go_ret
    exact ⟨rfl, rfl⟩
theorem specBits_any (b : Nat) (hb : (Lit.float .f32 b).wf = true) (w : World) :
    Calls Try.prog 24 #[.float .f32 b] w fun e w' => e = .returned (.int .i64 (bitsP (cn .f32 b))) ∧ w = w' := by
  have h1 := lt32 hb
  have hs := ford_self .f32 b
  cases hc : cn .f32 b with
  | none =>
    rw [hc] at hs
    clear hb h1
    go_enter Try.func24, Try.ntmps24
    go_wp2
    go_ret
    exact ⟨rfl, rfl⟩
  | some x =>
    obtain rfl := cn_some hc
    rw [hc] at hs
    clear hb
    go_enter Try.func24, Try.ntmps24
    go_wp2
    go_ret
    exact ⟨rfl, rfl⟩

theorem sameFloat_any (a b : Nat) {X : Option Nat} (fa : FV .f64 a X) (fb : FV .f64 b X) (w : World) :
    Calls Try.prog 9 #[.float .f64 a, .float .f64 b] w fun e w' => e = .returned (.bool true) ∧ ∃ n, w' = w.drewN n := by
  cases X with
  | none =>
    have ha := fa.1
    have hb := fb.1
    have hn : ford .f64 none none = none := rfl
    clear fa fb
    go_enter Try.func9, Try.ntmps9
    go_wp2
    go_ret
    exact ⟨rfl, 0, rfl⟩
  | some x =>
    obtain rfl := fa.eq
    obtain rfl := fb.eq
    have ha := fa.1
    have hs : ford .f64 (some b) (some b) = some .eq := by have := ford_self .f64 b; rw [ha] at this; exact this
    have fone : FV .f64 4607182418800017408 (some 4607182418800017408) := FV.lit (by kernel_rfl) (by kernel_rfl)
    have c0 : cn .f64 0 = some 0 := cn_of (by kernel_rfl)
    by_cases h0 : ford .f64 (some b) (some 0) = some .eq
    · go_enter Try.func9, Try.ntmps9
      go_wp2_with (refine wpList_farith rfl .quo _ _ _ _ rfl rfl .f64 _ _ rfl rfl fone fa ?_; intro r m hr; have hr1 := hr.1; clear hr)
      go_ret
      exact ⟨rfl, _, rfl⟩
    · have h1 : (ford .f64 (some b) (some 0) == some .eq) = false := by simpa using h0
      go_enter Try.func9, Try.ntmps9
      go_wp2
      go_ret
      exact ⟨rfl, 0, rfl⟩

end Go.Proofs.Ytnjkabckbnbboab
