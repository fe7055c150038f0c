/- Helper: the middle of a square, what is in a list, copies of lists, results that are lists, of the program. Conditions: none. -/
import Derived.Test.YtmjlhmbnaifhaabTri
import Derived.Lib.SliceRun
set_option linter.unusedVariables false
set_option linter.unusedSimpArgs false
namespace Go.Proofs.Ytmjlhmbnaifhaab
open Go.RowKit

theorem signed_min (a b : Int) : min a b = min b a := by omega
theorem datum_swap (a b : Ieee.Datum) : b.order a = (a.order b).map Ordering.swap := by
  cases a with
  | nan s t => cases b <;> rfl
  | infinity s => cases b with
    | nan => rfl
    | infinity t => cases s <;> cases t <;> rfl
    | number => cases s <;> rfl
  | number s m i => cases b with
    | nan => rfl
    | infinity t => cases t <;> rfl
    | number t n j =>
      show some (compare (Ieee.signed t n (j - min j i).toNat) (Ieee.signed s m (i - min j i).toNat)) = some (compare (Ieee.signed s m (i - min i j).toNat) (Ieee.signed t n (j - min i j).toNat)).swap
      rw [signed_min j i]
      generalize Ieee.signed t n (j - min i j).toNat = p
      generalize Ieee.signed s m (i - min i j).toNat = q
      exact congrArg some Std.OrientedCmp.eq_swap
theorem zero_swap (X : Option Nat) : (ford .f32 (some 0) X == some .eq) = isZero X := by
  cases X with
  | none => rfl
  | some x =>
    show (FloatKind.f32.format.order 0 x == some .eq) = (FloatKind.f32.format.order x 0 == some .eq)
    have h := datum_swap (FloatKind.f32.format.read x) (FloatKind.f32.format.read 0)
    show ((FloatKind.f32.format.read 0).order (FloatKind.f32.format.read x) == some .eq) = ((FloatKind.f32.format.read x).order (FloatKind.f32.format.read 0) == some .eq)
    rw [h]
    cases (FloatKind.f32.format.read x).order (FloatKind.f32.format.read 0) with
    | none => rfl
    | some o => cases o <;> rfl


theorem vectorResult_yes (a : Option Addr) (n c : Nat) (Z : Nat → Nat) (w : World) (hn : n ≤ 1048576) (h : FS .f32 w a n c Z) (hv : vecB n (vals Z) = true) :
    Calls Try.prog 51 #[.slice a n c] w fun e w' => e = .returned (.tuple #[.slice a n c, .bool true]) ∧ ∃ m, w' = w.drewN m := by
  go_enter Try.func51, Try.ntmps51
  go_wp2_with fail
  go_at_call 70
  refine (implVector_any a n c Z _ hn h).mono ?_
  rintro e w1 ⟨rfl, q, rfl⟩
  go_wp2_with fail
  go_ret2
  exact ⟨rfl, _, rfl⟩
theorem vectorResult_no (a : Option Addr) (n c : Nat) (Z : Nat → Nat) (w : World) (hn : n ≤ 1048576) (h : FS .f32 w a n c Z) (hv : vecB n (vals Z) = false) :
    Calls Try.prog 51 #[.slice a n c] w fun e w' => e = .returned (.tuple #[.slice none 0 0, .bool false]) ∧ ∃ m, w' = w.drewN m := by
  go_enter Try.func51, Try.ntmps51
  go_wp2_with fail
  go_at_call 70
  refine (implVector_any a n c Z _ hn h).mono ?_
  rintro e w1 ⟨rfl, q, rfl⟩
  go_wp2_with fail
  go_ret2
  exact ⟨rfl, _, rfl⟩
/-- A list that fits the rows. -/
def fitsB (R : Int) (n : Nat) (V : Nat → Option Nat) : Bool := vecB n V && decide ((n : Int) = R)
end Go.Proofs.Ytmjlhmbnaifhaab
