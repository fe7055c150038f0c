/- Helper: the turn of a pair of rows, of the program and of its reference. Conditions: none. -/
import Derived.Test.YtffmjfgechdjjabTurnWalks
import Derived.Test.YtffmjfgechdjjabSymKey
set_option linter.unusedVariables false
set_option linter.unusedSimpArgs false
namespace Go.Proofs.Ytffmjfgechdjjab
open Go.RowKit

/-- Whether a square has two rows, one behind the other. -/
noncomputable def pairB (R C : Int) (n : Nat) (V : Nat → Option Nat) (i k : Int) : Bool := symB R C n V && (decide (0 ≤ i) && (decide (i < k) && decide (k < R)))
theorem pairB_nat {R C : Int} {n : Nat} {V : Nat → Option Nat} {i k : Int} (h : pairB R C n V i k = true) :
    ∃ r x y : Nat, R = r ∧ C = r ∧ i = x ∧ k = y ∧ x < y ∧ y < r ∧ 1 ≤ r ∧ r ≤ 12 ∧ n = r * r ∧ allFin V n = true ∧ symB r r n V = true := by
  have h' := h
  unfold pairB at h
  simp only [Bool.and_eq_true, decide_eq_true_eq] at h
  obtain ⟨hs, h0, h1, h2⟩ := h
  have hsq : squareB R C n V = true := by
    cases e : squareB R C n V with
    | true => rfl
    | false => rw [symB_no e] at hs; cases hs
  obtain ⟨r, rfl, rfl, hr1, hr, hnr, hfin⟩ := square_nat hsq
  exact ⟨r, i.toNat, k.toNat, rfl, rfl, by omega, by omega, by omega, by omega, hr1, hr, hnr, hfin, hs⟩
/-- The numbers of the turn. -/
def tC (r x y : Nat) (V : Nat → Option Nat) : Option Nat := turnC (fop .sub .f32 (V (y * r + y)) (V (x * r + x))) (V (x * r + y))
def tS (r x y : Nat) (V : Nat → Option Nat) : Option Nat := turnS (fop .sub .f32 (V (y * r + y)) (V (x * r + x))) (V (x * r + y))
def tB (r x y : Nat) (V : Nat → Option Nat) : Bool := finite .f32 (tC r x y V) && finite .f32 (tS r x y V)
/-- Two numbers, and whether they are told. -/
def TwoBel (ok : Bool) (X Y : Option Nat) (w : World) (e : Ending) (w' : World) : Prop :=
  ∃ r s, e = .returned (.tuple #[.float .f32 r, .float .f32 s, .bool ok]) ∧ FV .f32 r X ∧ FV .f32 s Y ∧ Below w.heap.size w w'
def TwoIf (ok : Bool) (X Y : Option Nat) (w : World) (e : Ending) (w' : World) : Prop :=
  match ok with | true => TwoBel true X Y w e w' | false => TwoBel false (some 0) (some 0) w e w'
theorem TwoIf.yes {ok : Bool} {X Y : Option Nat} {w : World} {e : Ending} {w' : World} (h : ok = true) (p : TwoBel true X Y w e w') : TwoIf ok X Y w e w' := by subst h; exact p
theorem TwoIf.no {ok : Bool} {X Y : Option Nat} {w : World} {e : Ending} {w' : World} (h : ok = false) (p : TwoBel false (some 0) (some 0) w e w') : TwoIf ok X Y w e w' := by subst h; exact p
theorem two_no {w w' : World} (h : Below w.heap.size w w') : TwoBel false (some 0) (some 0) w (.returned (.tuple #[.float .f32 0, .float .f32 0, .bool false])) w' :=
  ⟨0, 0, rfl, FV.lit (by kernel_rfl) (by kernel_rfl), FV.lit (by kernel_rfl) (by kernel_rfl), h⟩
theorem sub_fin {x y : Nat} (hx : finite .f32 (cn .f32 x) = true) (hy : finite .f32 (cn .f32 y) = true) : ∃ r, FloatKind.f32.format.sub x y = some r ∧ FV .f32 r (fop .sub .f32 (cn .f32 x) (cn .f32 y)) := by
  obtain ⟨e1, s, m, e, h1⟩ := cn_fin hx
  obtain ⟨e2, t, n, f, h2⟩ := cn_fin hy
  have h3 : fop .sub .f32 (some x) (some y) = ((FloatKind.f32.decode x).sum (FloatKind.f32.decode y).opposite).map FloatKind.f32.encode := rfl
  rw [h1, h2] at h3
  simp only [Ieee.Datum.opposite, Ieee.Datum.sum, Option.map_some] at h3
  refine ⟨_, h3, ?_⟩
  rw [e1, e2, h3]
  exact ⟨cn_number _ _ _ _, floatBits_wf (op := .sub) (k := .f32) (x := x) (y := y) h3⟩

end Go.Proofs.Ytffmjfgechdjjab
