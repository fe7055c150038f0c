/- Helper: a matrix is given where its numbers are finite, of the program and of its reference. Conditions: none. -/
import Derived.Test.YtcibjkadlndejaaBuild
set_option linter.unusedVariables false
set_option linter.unusedSimpArgs false
namespace Go.Proofs.Ytcibjkadlndejaa
open Go.RowKit

def GiveNo (w : World) (e : Ending) (w' : World) : Prop := e = .returned (.tuple #[.agg #[.int .i64 0, .int .i64 0, .slice none 0 0], .bool false]) ∧ Below w.heap.size w w'
def GiveYes (R C : Int) (a : Option Addr) (n c : Nat) (w : World) (e : Ending) (w' : World) : Prop := e = .returned (.tuple #[.agg #[.int .i64 R, .int .i64 C, .slice a n c], .bool true]) ∧ Below w.heap.size w w'

theorem validB_nat {r c n : Nat} {V : Nat → Option Nat} (h1 : 1 ≤ r) (h2 : r ≤ 12) (h3 : 1 ≤ c) (h4 : c ≤ 12) (hn : n = r * c) : validB r c n V = allFin V n := by
  unfold validB
  rw [sideB_yes (by omega) (by omega), sideB_yes (by omega) (by omega), decide_eq_true (by rw [hn, Int.natCast_mul])]
  rfl
/-- What is told of a matrix that is given where its numbers are finite. -/
def OwnIf (ok : Bool) (R C : Int) (n : Nat) (V : Nat → Option Nat) (w : World) (e : Ending) (w' : World) : Prop :=
  match ok with | true => MatOwn true R C n V w e w' | false => MatOwn false 0 0 0 (fun _ => none) w e w'
def BelIf (ok : Bool) (R C : Int) (n : Nat) (V : Nat → Option Nat) (w : World) (e : Ending) (w' : World) : Prop :=
  match ok with | true => MatBel true R C n V w e w' | false => MatBel false 0 0 0 (fun _ => none) w e w'
theorem OwnIf.yes {ok : Bool} {R C : Int} {n : Nat} {V : Nat → Option Nat} {w : World} {e : Ending} {w' : World} (h : ok = true) (p : MatOwn true R C n V w e w') : OwnIf ok R C n V w e w' := by subst h; exact p
theorem OwnIf.no {ok : Bool} {R C : Int} {n : Nat} {V : Nat → Option Nat} {w : World} {e : Ending} {w' : World} (h : ok = false) (p : MatOwn false 0 0 0 (fun _ => none) w e w') : OwnIf ok R C n V w e w' := by subst h; exact p
theorem BelIf.yes {ok : Bool} {R C : Int} {n : Nat} {V : Nat → Option Nat} {w : World} {e : Ending} {w' : World} (h : ok = true) (p : MatBel true R C n V w e w') : BelIf ok R C n V w e w' := by subst h; exact p
theorem BelIf.no {ok : Bool} {R C : Int} {n : Nat} {V : Nat → Option Nat} {w : World} {e : Ending} {w' : World} (h : ok = false) (p : MatBel false 0 0 0 (fun _ => none) w e w') : BelIf ok R C n V w e w' := by subst h; exact p

/-- Two finite numbers have a product. -/
theorem cn_fin {x : Nat} (hx : finite .f32 (cn .f32 x) = true) : cn .f32 x = some x ∧ ∃ s m e, FloatKind.f32.decode x = .number s m e := by
  unfold cn at hx ⊢
  split at hx
  · cases hx
  · rename_i hn
    rw [if_neg hn]
    refine ⟨rfl, ?_⟩
    unfold finite at hx
    simp only at hx
    split at hx
    · rename_i s m e h; exact ⟨s, m, e, h⟩
    · cases hx
theorem mul_fin {x y : Nat} (hx : finite .f32 (cn .f32 x) = true) (hy : finite .f32 (cn .f32 y) = true) : ∃ r, FloatKind.f32.format.mul x y = some r ∧ FV .f32 r (fop .mul .f32 (cn .f32 x) (cn .f32 y)) := by
  obtain ⟨e1, s, m, e, h1⟩ := cn_fin hx
  obtain ⟨e2, t, n, f, h2⟩ := cn_fin hy
  have h3 : fop .mul .f32 (some x) (some y) = ((FloatKind.f32.decode x).product (FloatKind.f32.decode y)).map FloatKind.f32.encode := rfl
  rw [h1, h2] at h3
  have h4 : fop .mul .f32 (some x) (some y) = some (FloatKind.f32.encode (.number (s ^^ t) (m * n) (e + f))) := h3
  refine ⟨_, h4, ?_⟩
  rw [e1, e2, h4]
  exact ⟨cn_number _ _ _ _, floatBits_wf (op := .mul) (k := .f32) (x := x) (y := y) h4⟩
end Go.Proofs.Ytcibjkadlndejaa
