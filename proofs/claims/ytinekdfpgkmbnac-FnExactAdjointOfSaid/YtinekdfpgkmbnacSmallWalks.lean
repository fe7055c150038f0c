/- Helper: walks of the smallest functions of chapter 1, of the program and of its reference. Conditions: none. -/
import Derived.Test.YtinekdfpgkmbnacChecked
import Derived.Test.YtinekdfpgkmbnacFloatFacts
import Derived.WalkSmall
import Derived.Deep.QuietTactic
import Derived.BigQuiet
set_option linter.unusedVariables false
set_option linter.unusedSimpArgs false
namespace Go.Proofs.Ytinekdfpgkmbnac
open Go.RowKit

/-- The bits of a number, all not-a-numbers having the same. -/
def bitsP (u : Option Nat) : Int := match u with | some x => x | none => 2143289344

theorem order_refl (d : Ieee.Datum) (h : d.isNaN = false) : d.order d = some .eq := by
  cases d with
  | nan s t => cases h
  | infinity s => cases s <;> rfl
  | number s m e => simp [Ieee.Datum.order]

theorem ford_self (k : FloatKind) (b : Nat) : ford k (cn k b) (cn k b) = (cn k b).map fun _ => .eq := by
  unfold cn
  split
  · rfl
  · rename_i h
    have h' : (k.decode b).isNaN = false := by simpa using h
    exact order_refl _ h'

theorem lt32 {b : Nat} (hb : (Lit.float .f32 b).wf = true) : (b : Int) < 4294967296 := by
  have : b < 4294967296 := by simpa [Lit.wf] using hb
  omega

theorem cn_some {k : FloatKind} {b x : Nat} (h : cn k b = some x) : x = b := by
  unfold cn at h; split at h <;> simp_all




end Go.Proofs.Ytinekdfpgkmbnac
