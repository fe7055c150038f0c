/- Helper: triangles that are solved, of the program. Conditions: none. -/
import Derived.Test.YtmjlhmbnaifhaacMid
import Derived.Test.YtmjlhmbnaifhaacPivot
set_option linter.unusedVariables false
set_option linter.unusedSimpArgs false
namespace Go.Proofs.Ytmjlhmbnaifhaac
open Go.RowKit

/-- A row of numbers that has become V, and nothing else has turned. -/
def Became (B U g n d : Nat) (V : Nat → Option Nat) (w w' : World) : Prop := ∃ X, Own 38 .f32 B U w' (some ⟨g, 0, none⟩) n d X ∧ (∀ t, t < n → vals X t = V t) ∧ w.grownBy w' (some g)
/-- The numbers of a square, by rows. -/
def sq (n : Nat) (Z : Nat → Nat) (i k : Nat) : Option Nat := vals Z (i * n + k)
theorem vals_put {X : Nat → Nat} {r q : Nat} (t : Nat) : vals (fun t => if t = q then r else X t) t = if t = q then cn .f32 r else vals X t := by
  show cn .f32 (if t = q then r else X t) = _
  by_cases e : t = q
  · rw [if_pos e, if_pos e]
  · rw [if_neg e, if_neg e]; rfl
theorem up_next {A : Nat → Nat → Option Nat} {dv : Bool} {n : Nat} {Y : Nat → Option Nat} {UU : Nat → Nat → Option Nat} {j q r : Nat} {X : Nat → Nat} {LL : Option Nat} (hU : UU = upY A dv n Y) (hq : q + (j + 1) = n) (hv : ∀ t, t < n → vals X t = UU j t)
    (hL : LL = lessG (vals X q) (fun t => A q (q + 1 + t)) (vals fun t => X (q + 1 + t)) (n - (q + 1))) (hr : FV .f32 r (divIf dv LL (A q q))) : ∀ t, t < n → vals (fun t => if t = q then r else X t) t = UU (j + 1) t := by
  intro t ht
  have e0 : n - (j + 1) = q := by omega
  rw [vals_put, hU]
  show _ = if t = n - (j + 1) then upS A dv n (upY A dv n Y j) (n - (j + 1)) else upY A dv n Y j t
  rw [e0]
  by_cases e : t = q
  · have hh : lessG (vals X q) (fun t => A q (q + 1 + t)) (vals fun t => X (q + 1 + t)) (n - (q + 1)) = lessG (upY A dv n Y j q) (fun k => A q (q + 1 + k)) (fun k => upY A dv n Y j (q + 1 + k)) (n - (q + 1)) :=
      lessG_congr (by rw [hv q (by omega), hU]) fun k hk => ⟨rfl, by show vals X (q + 1 + k) = _; rw [hv _ (by omega), hU]⟩
    rw [if_pos e, if_pos e, hr.1, hL, hh]
    rfl
  · rw [if_neg e, if_neg e, hv t ht, hU]
theorem low_next {A : Nat → Nat → Option Nat} {dv : Bool} {n : Nat} {Y : Nat → Option Nat} {UU : Nat → Nat → Option Nat} {q r : Nat} {X : Nat → Nat} {LL : Option Nat} (hU : UU = lowY A dv Y) (hq : q < n) (hv : ∀ t, t < n → vals X t = UU q t)
    (hL : LL = lessG (vals X q) (A q) (vals X) q) (hr : FV .f32 r (divIf dv LL (A q q))) : ∀ t, t < n → vals (fun t => if t = q then r else X t) t = UU (q + 1) t := by
  intro t ht
  rw [vals_put, hU]
  show _ = if t = q then lowS A dv (lowY A dv Y q) q else lowY A dv Y q t
  by_cases e : t = q
  · have hh : lessG (vals X q) (A q) (vals X) q = lessG (lowY A dv Y q q) (A q) (lowY A dv Y q) q :=
      lessG_congr (by rw [hv q hq, hU]) fun k hk => ⟨rfl, by rw [hv _ (by omega), hU]⟩
    rw [if_pos e, if_pos e, hr.1, hL, hh]
    rfl
  · rw [if_neg e, if_neg e, hv t ht, hU]
end Go.Proofs.Ytmjlhmbnaifhaac
