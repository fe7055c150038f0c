/- Helper: walks of the smallest functions of chapter 1, of the program and of its reference. Conditions: none. -/
import Derived.Test.YtbhndehndfnhiaaChecked
import Derived.Test.YtbhndehndfnhiaaFloatKit
import Derived.WalkSmall
import Derived.Deep.QuietTactic
import Derived.BigQuiet
namespace Go.Proofs.Ytbhndehndfnhiaa
open Go.RowKit

/-- The bits of a number, all not-a-numbers having the same. -/
def bitsP (u : Option Nat) : Int := match u with | some x => x | none => 2143289344

theorem order_refl (d : Ieee.Datum) (h : d.isNaN = false) : d.order d = some .eq := by
  cases d with
  | nan s t => cases h
  | infinity s => cases s <;> rfl
  | number s m e => simp [Ieee.Datum.order]

theorem ford_self (k : FloatKind) (b : Nat) : ford k (cn k b) (cn k b) = (cn k b).map fun _ => .eq := by
  unfold cn
  split
  · rfl
  · rename_i h
    have h' : (k.decode b).isNaN = false := by simpa using h
    exact order_refl _ h'

theorem lt32 {b : Nat} (hb : (Lit.float .f32 b).wf = true) : (b : Int) < 4294967296 := by
  have : b < 4294967296 := by simpa [Lit.wf] using hb
  omega

theorem cn_some {k : FloatKind} {b x : Nat} (h : cn k b = some x) : x = b := by
  unfold cn at h; split at h <;> simp_all

@[go_sem] theorem run_bits32 (b : Nat) (w : World) : (callFunc 62 #[.float .f32 b]).run Try.prog w = .ok (.value (.int .u32 b)) w := by
  rw [run_callFunc_extern (e := Extern.MathFloatBits.float32bits) Try.func62 (by kernel_rfl) (by kernel_rfl) (by kernel_rfl) (by kernel_rfl) _ _]; rfl
@[go_sem] theorem run_frombits32 (n : Int) (w : World) : (callFunc 65 #[.int .u32 n]).run Try.prog w = .ok (.value (.float .f32 n.toNat)) w := by
  rw [run_callFunc_extern (e := Extern.MathFloatBits.float32frombits) Try.func65 (by kernel_rfl) (by kernel_rfl) (by kernel_rfl) (by kernel_rfl) _ _]; rfl
@[go_sem] theorem run_bits64 (b : Nat) (w : World) : (callFunc 81 #[.float .f64 b]).run Try.prog w = .ok (.value (.int .u64 b)) w := by
  rw [run_callFunc_extern (e := Extern.MathFloatBits.float64bits) Try.func81 (by kernel_rfl) (by kernel_rfl) (by kernel_rfl) (by kernel_rfl) _ _]; rfl
@[go_sem] theorem run_frombits64 (n : Int) (w : World) : (callFunc 80 #[.int .u64 n]).run Try.prog w = .ok (.value (.float .f64 n.toNat)) w := by
  rw [run_callFunc_extern (e := Extern.MathFloatBits.float64frombits) Try.func80 (by kernel_rfl) (by kernel_rfl) (by kernel_rfl) (by kernel_rfl) _ _]; rfl

theorem implBits_any (b : Nat) (hb : (Lit.float .f32 b).wf = true) (w : World) :
    Calls Try.prog 35 #[.float .f32 b] w fun e w' => e = .returned (.int .i64 (bitsP (cn .f32 b))) ∧ w = w' := by
  have h1 := lt32 hb
  have hs := ford_self .f32 b
  cases hc : cn .f32 b with
  | none =>
    rw [hc] at hs
    clear hb h1
    go_enter Try.func35, Try.ntmps35
    go_wp2
    go_ret
    exact ⟨rfl, rfl⟩
  | some x =>
    obtain rfl := cn_some hc
    rw [hc] at hs
    clear hb
    go_enter Try.func35, Try.ntmps35
    go_wp2
    go_ret
    exact ⟨rfl, rfl⟩
theorem specBits_any (b : Nat) (hb : (Lit.float .f32 b).wf = true) (w : World) :
    Calls Try.prog 61 #[.float .f32 b] w fun e w' => e = .returned (.int .i64 (bitsP (cn .f32 b))) ∧ w = w' := by
  have h1 := lt32 hb
  have hs := ford_self .f32 b
  cases hc : cn .f32 b with
  | none =>
    rw [hc] at hs
    clear hb h1
    go_enter Try.func61, Try.ntmps61
    go_wp2
    go_ret
    exact ⟨rfl, rfl⟩
  | some x =>
    obtain rfl := cn_some hc
    rw [hc] at hs
    clear hb
    go_enter Try.func61, Try.ntmps61
    go_wp2
    go_ret
    exact ⟨rfl, rfl⟩
theorem law_FnExactBitsOf (b : Nat) (hb : (Lit.float .f32 b).wf = true) (w : World) :
    Calls Try.prog 8 #[.float .f32 b] w fun e w' => e = .returned (.bool true) ∧ Below w.heap.size w w' := by
  have hsb : Calls Try.prog 34 #[.float .f32 b] w fun e w' => e = .returned (.int .i64 (bitsP (cn .f32 b))) ∧ w = w' := by
    go_enter Try.func34, Try.ntmps34
    go_wp2_with (go_at_call 61; refine (specBits_any b hb _).mono ?_; rintro e w' ⟨rfl, rfl⟩)
    go_ret
    exact ⟨rfl, rfl⟩
  go_enter Try.func8, Try.ntmps8
  go_wp2_with (first | (go_at_call 34; refine hsb.mono ?_; rintro e w' ⟨rfl, rfl⟩) | (go_at_call 35; refine (implBits_any b hb _).mono ?_; rintro e w' ⟨rfl, rfl⟩))
  go_ret
  exact ⟨rfl, Below.refl _ _⟩
end Go.Proofs.Ytbhndehndfnhiaa
