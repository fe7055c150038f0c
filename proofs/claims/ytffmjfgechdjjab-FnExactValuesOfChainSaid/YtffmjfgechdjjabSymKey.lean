/- Helper: whether a square is symmetric, of the program and of its reference. Conditions: none. -/
import Derived.Test.YtffmjfgechdjjabFlipWalks
import Derived.Test.YtffmjfgechdjjabMid
import Derived.Test.YtffmjfgechdjjabKindSteps
set_option linter.unusedVariables false
set_option linter.unusedSimpArgs false
namespace Go.Proofs.Ytffmjfgechdjjab
open Go.RowKit

/-- Two numbers that are equal. -/
def eqN (X Y : Option Nat) : Bool := ford .f32 X Y == some .eq
theorem ford_swap (X Y : Option Nat) : ford .f32 Y X = (ford .f32 X Y).map Ordering.swap := by
  cases X with
  | none => cases Y <;> rfl
  | some x =>
    cases Y with
    | none => rfl
    | some y => exact datum_swap (FloatKind.f32.format.read x) (FloatKind.f32.format.read y)
theorem eqN_comm (X Y : Option Nat) : eqN X Y = eqN Y X := by
  unfold eqN
  rw [ford_swap X Y]
  cases ford .f32 X Y with
  | none => rfl
  | some o => cases o <;> rfl
theorem eqN_self {x : Nat} (h : finite .f32 (cn .f32 x) = true) : eqN (cn .f32 x) (cn .f32 x) = true := by
  unfold eqN
  rw [ford_self]
  unfold cn at h ⊢
  split at h
  · cases h
  · rename_i hn
    rw [if_neg hn]; rfl
/-- All numbers are equal to those with their indices exchanged. -/
def symP (c : Nat) (V : Nat → Option Nat) : Prop := ∀ i k, i < c → k < c → eqN (V (i * c + k)) (V (k * c + i)) = true
open Classical in
noncomputable def symB (R C : Int) (n : Nat) (V : Nat → Option Nat) : Bool := squareB R C n V && decide (symP R.toNat V)
theorem symB_no {R C : Int} {n : Nat} {V : Nat → Option Nat} (h : squareB R C n V = false) : symB R C n V = false := by unfold symB; rw [h]; rfl
open Classical in
theorem symB_yes {r n : Nat} {V : Nat → Option Nat} (h : squareB r r n V = true) (h2 : symP r V) : symB r r n V = true := by
  unfold symB
  rw [h, Int.toNat_natCast, decide_eq_true h2]; rfl
open Classical in
theorem symB_off {r n : Nat} {V : Nat → Option Nat} (h2 : ¬ symP r V) : symB r r n V = false := by
  unfold symB
  rw [Int.toNat_natCast, decide_eq_false h2, Bool.and_false]
theorem sym_flip {c : Nat} {Z : Nat → Nat} (hc : 0 < c) : (∀ t, t < c * c → eqN (vals Z t) (vals (flipZ c c Z) t) = true) ↔ symP c (vals Z) := by
  constructor
  · intro h i k hi hk
    have hh := h (i * c + k) (place_lt hi hk)
    obtain ⟨h1, h2⟩ := place_div (j := i) hk
    unfold vals flipZ at hh
    rw [h1, h2] at hh
    exact hh
  · intro h t ht
    have h1 : t / c < c := Nat.div_lt_of_lt_mul ht
    have h2 := Nat.mod_lt t hc
    have hh := h (t / c) (t % c) h1 h2
    rw [place_eq] at hh
    exact hh

/-- What a region keeps that reads one box beside what makes memory. -/
theorem heldB {w0 W w' : World} {b1 : Nat} {u0 u1 u2 : Value} (hs : W.cell? ⟨b1, 0, none⟩ = some u0 ∧ W.cell? ⟨b1, 1, none⟩ = some u1 ∧ W.cell? ⟨b1, 2, none⟩ = some u2 ∧ Below w0.heap.size w0 W)
    (hb : Below W.heap.size W w') (l1 : b1 < w0.heap.size) : w'.cell? ⟨b1, 0, none⟩ = some u0 ∧ w'.cell? ⟨b1, 1, none⟩ = some u1 ∧ w'.cell? ⟨b1, 2, none⟩ = some u2 ∧ Below w0.heap.size w0 w' := by
  obtain ⟨h0, h1, h2, h6⟩ := hs
  have e1 : b1 < W.heap.size := Nat.lt_of_lt_of_le l1 h6.size
  exact ⟨(hb.cell (p := ⟨b1, 0, none⟩) e1).trans h0, (hb.cell (p := ⟨b1, 1, none⟩) e1).trans h1, (hb.cell (p := ⟨b1, 2, none⟩) e1).trans h2, h6.trans (hb.mono h6.size)⟩
end Go.Proofs.Ytffmjfgechdjjab
