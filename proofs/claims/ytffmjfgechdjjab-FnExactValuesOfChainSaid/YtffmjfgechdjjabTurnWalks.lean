/- Helper: the numbers of a turn, of the program and of its reference. Conditions: none. -/
import Derived.Test.YtffmjfgechdjjabAbsAll
import Derived.Test.YtffmjfgechdjjabTri
set_option linter.unusedVariables false
set_option linter.unusedSimpArgs false
namespace Go.Proofs.Ytffmjfgechdjjab
open Go.RowKit

/-- The root of a 32-bit number. -/
def rt (X : Option Nat) : Option Nat := narrow (fsqrt (widen X))
/-- What leads to c and s. -/
def cosT (H : Option Nat) : Option Nat :=
  if ford .f32 H (some 0) == some .lt then fneg .f32 (fop .quo .f32 (some 1065353216) (fop .add .f32 (fsize H) (rt (fop .add .f32 (fop .mul .f32 H H) (some 1065353216)))))
  else fop .quo .f32 (some 1065353216) (fop .add .f32 (fsize H) (rt (fop .add .f32 (fop .mul .f32 H H) (some 1065353216))))
def cosC (H : Option Nat) : Option Nat := fop .quo .f32 (some 1065353216) (rt (fop .add .f32 (fop .mul .f32 (cosT H) (cosT H)) (some 1065353216)))
def cosS (H : Option Nat) : Option Nat := fop .mul .f32 (cosT H) (cosC H)
/-- Two numbers are told. -/
def TwoNum (C S : Option Nat) (w : World) (e : Ending) (w' : World) : Prop :=
  ∃ rc rs, e = .returned (.tuple #[.float .f32 rc, .float .f32 rs]) ∧ FV .f32 rc C ∧ FV .f32 rs S ∧ ∃ m, w' = w.drewN m
/-- The quotient that tells a turn. -/
def turnH (A Z : Option Nat) : Option Nat := fop .quo .f32 A (fop .mul .f32 (some 1073741824) Z)
def turnC (A Z : Option Nat) : Option Nat := if isZero Z then some 1065353216 else cosC (turnH A Z)
def turnS (A Z : Option Nat) : Option Nat := if isZero Z then some 0 else cosS (turnH A Z)

end Go.Proofs.Ytffmjfgechdjjab
