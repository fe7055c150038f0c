/- Helper: two lists of which each pair is turned, and a square to which a row is added. Conditions: none. -/
import Derived.Test.YtcibjkadlndejaaSquare
import Derived.Test.YtcibjkadlndejaaMid
import Derived.Test.YtcibjkadlndejaaWk
import Derived.Test.YtcibjkadlndejaaBoxes
import Derived.Test.YtcibjkadlndejaaKindSteps
import Derived.Test.YtcibjkadlndejaaRootWalks
set_option linter.unusedVariables false
set_option linter.unusedSimpArgs false
namespace Go.Proofs.Ytcibjkadlndejaa
open Go.RowKit

/-- A pair of numbers, turned. -/
def tnP (c s x y : Option Nat) : Option Nat := fop .add .f32 (fop .mul .f32 c x) (fop .mul .f32 s y)
def tnM (c s x y : Option Nat) : Option Nat := fop .sub .f32 (fop .mul .f32 c y) (fop .mul .f32 s x)
/-- Two lists, from o1 and o2 on, of which j pairs are turned. -/
def tnV (c s : Option Nat) (o1 o2 : Nat) (X Y : Nat → Option Nat) (j t : Nat) : Option Nat := if o1 ≤ t ∧ t < o1 + j then tnP c s (X t) (Y (t - o1 + o2)) else X t
def tnW (c s : Option Nat) (o1 o2 : Nat) (X Y : Nat → Option Nat) (j t : Nat) : Option Nat := if o2 ≤ t ∧ t < o2 + j then tnM c s (X (t - o2 + o1)) (Y t) else Y t
theorem tnV_zero {c s : Option Nat} {o1 o2 : Nat} {X Y : Nat → Option Nat} {t : Nat} : tnV c s o1 o2 X Y 0 t = X t := if_neg (by omega)
theorem tnW_zero {c s : Option Nat} {o1 o2 : Nat} {X Y : Nat → Option Nat} {t : Nat} : tnW c s o1 o2 X Y 0 t = Y t := if_neg (by omega)
theorem tnV_next {c s : Option Nat} {o1 o2 j : Nat} {X Y : Nat → Option Nat} : tnV c s o1 o2 X Y j (o1 + j) = X (o1 + j) := if_neg (by omega)
theorem tnW_next {c s : Option Nat} {o1 o2 j : Nat} {X Y : Nat → Option Nat} : tnW c s o1 o2 X Y j (o2 + j) = Y (o2 + j) := if_neg (by omega)
theorem tnV_put {c s : Option Nat} {o1 o2 j N : Nat} {X Y : Nat → Option Nat} {D : Nat → Nat} {v : Nat} (h : ∀ t, t < N → vals D t = tnV c s o1 o2 X Y j t) (hv : FV .f32 v (tnP c s (X (o1 + j)) (Y (o2 + j)))) :
    ∀ t, t < N → vals (fun t => if t = o1 + j then v else D t) t = tnV c s o1 o2 X Y (j + 1) t := by
  intro t ht
  show cn .f32 (if t = o1 + j then v else D t) = _
  by_cases e : t = o1 + j
  · subst e
    unfold tnV
    rw [if_pos rfl, if_pos (by omega), show o1 + j - o1 + o2 = o2 + j by omega]
    exact hv.1
  · rw [if_neg e]
    have hh := h t ht
    show vals D t = _
    rw [hh]
    unfold tnV
    by_cases e2 : o1 ≤ t ∧ t < o1 + j
    · rw [if_pos e2, if_pos (by omega)]
    · rw [if_neg e2, if_neg (by omega)]
theorem tnW_put {c s : Option Nat} {o1 o2 j N : Nat} {X Y : Nat → Option Nat} {D : Nat → Nat} {v : Nat} (h : ∀ t, t < N → vals D t = tnW c s o1 o2 X Y j t) (hv : FV .f32 v (tnM c s (X (o1 + j)) (Y (o2 + j)))) :
    ∀ t, t < N → vals (fun t => if t = o2 + j then v else D t) t = tnW c s o1 o2 X Y (j + 1) t := by
  intro t ht
  show cn .f32 (if t = o2 + j then v else D t) = _
  by_cases e : t = o2 + j
  · subst e
    unfold tnW
    rw [if_pos rfl, if_pos (by omega), show o2 + j - o2 + o1 = o1 + j by omega]
    exact hv.1
  · rw [if_neg e]
    have hh := h t ht
    show vals D t = _
    rw [hh]
    unfold tnW
    by_cases e2 : o2 ≤ t ∧ t < o2 + j
    · rw [if_pos e2, if_pos (by omega)]
    · rw [if_neg e2, if_neg (by omega)]
theorem tnV_congr {c s c' s' : Option Nat} {o1 o2 j N L : Nat} {X Y X' Y' : Nat → Option Nat} (hc : c = c') (hs : s = s') (hx : ∀ t, t < N → X t = X' t) (hy : ∀ t, t < L → Y t = Y' t) (h2 : o2 + j ≤ L) : ∀ t, t < N → tnV c s o1 o2 X Y j t = tnV c' s' o1 o2 X' Y' j t := by
  intro t ht
  subst hc hs
  unfold tnV
  rw [hx t ht]
  by_cases e : o1 ≤ t ∧ t < o1 + j
  · rw [if_pos e, if_pos e, hy _ (by omega)]
  · rw [if_neg e, if_neg e]
theorem tnW_congr {c s c' s' : Option Nat} {o1 o2 j N L : Nat} {X Y X' Y' : Nat → Option Nat} (hc : c = c') (hs : s = s') (hx : ∀ t, t < N → X t = X' t) (hy : ∀ t, t < L → Y t = Y' t) (h1 : o1 + j ≤ N) : ∀ t, t < L → tnW c s o1 o2 X Y j t = tnW c' s' o1 o2 X' Y' j t := by
  intro t ht
  subst hc hs
  unfold tnW
  rw [hy t ht]
  by_cases e : o2 ≤ t ∧ t < o2 + j
  · rw [if_pos e, if_pos e, hx _ (by omega)]
  · rw [if_neg e, if_neg e]
/-- The length of a pair of numbers. -/
def adH (a b : Option Nat) : Option Nat := narrow (fsqrt (widen (fop .add .f32 (fop .mul .f32 a a) (fop .mul .f32 b b))))
def adC (n k : Nat) (Q : (Nat → Option Nat) × (Nat → Option Nat)) : Option Nat := fop .quo .f32 (Q.1 (k * n + k)) (adH (Q.1 (k * n + k)) (Q.2 k))
def adS (n k : Nat) (Q : (Nat → Option Nat) × (Nat → Option Nat)) : Option Nat := fop .quo .f32 (Q.2 k) (adH (Q.1 (k * n + k)) (Q.2 k))
/-- A square and a row, of which k columns are done. -/
def adT (n : Nat) (P : (Nat → Option Nat) × (Nat → Option Nat)) : Nat → (Nat → Option Nat) × (Nat → Option Nat)
  | 0 => P
  | k + 1 => if (ford .f32 (adH ((adT n P k).1 (k * n + k)) ((adT n P k).2 k)) (some 0) == some .gt) = true then
      (tnV (adC n k (adT n P k)) (adS n k (adT n P k)) (k * n + k) k (adT n P k).1 (adT n P k).2 (n - k), tnW (adC n k (adT n P k)) (adS n k (adT n P k)) (k * n + k) k (adT n P k).1 (adT n P k).2 (n - k))
    else adT n P k
theorem adT_yes {n k : Nat} {P : (Nat → Option Nat) × (Nat → Option Nat)} (h : (ford .f32 (adH ((adT n P k).1 (k * n + k)) ((adT n P k).2 k)) (some 0) == some .gt) = true) :
    adT n P (k + 1) = (tnV (adC n k (adT n P k)) (adS n k (adT n P k)) (k * n + k) k (adT n P k).1 (adT n P k).2 (n - k), tnW (adC n k (adT n P k)) (adS n k (adT n P k)) (k * n + k) k (adT n P k).1 (adT n P k).2 (n - k)) := if_pos h
theorem adT_no {n k : Nat} {P : (Nat → Option Nat) × (Nat → Option Nat)} (h : (ford .f32 (adH ((adT n P k).1 (k * n + k)) ((adT n P k).2 k)) (some 0) == some .gt) = false) : adT n P (k + 1) = adT n P k := if_neg (by rw [h]; exact Bool.false_ne_true)

/-- A world in which two blocks alone may have changed. -/
structure Out2 (w w' : World) (g h : Nat) : Prop where
  os : w'.os = w.os
  tape : w'.tape = w.tape
  output : w'.output = w.output
  size : w.heap.size ≤ w'.heap.size
  block : ∀ q, q < w.heap.size → q ≠ g → q ≠ h → w'.heap[q]? = w.heap[q]?
theorem Out2.refl (w : World) (g h : Nat) : Out2 w w g h := ⟨rfl, rfl, rfl, Nat.le_refl _, fun _ _ _ _ => rfl⟩
theorem Out2.trans {a b c : World} {g h : Nat} (x : Out2 a b g h) (y : Out2 b c g h) : Out2 a c g h :=
  ⟨y.os.trans x.os, y.tape.trans x.tape, y.output.trans x.output, Nat.le_trans x.size y.size, fun q hq h1 h2 => (y.block q (Nat.lt_of_lt_of_le hq x.size) h1 h2).trans (x.block q hq h1 h2)⟩
theorem Out2.left {a b c : World} {g h : Nat} (x : Out2 a b g h) (y : b.grownBy c (some g)) : Out2 a c g h :=
  x.trans ⟨y.os, y.tape, y.output, y.size, fun q hq h1 _ => y.block q hq (fun e => h1 (Option.some.inj e))⟩
theorem Out2.right {a b c : World} {g h : Nat} (x : Out2 a b g h) (y : b.grownBy c (some h)) : Out2 a c g h :=
  x.trans ⟨y.os, y.tape, y.output, y.size, fun q hq _ h2 => y.block q hq (fun e => h2 (Option.some.inj e))⟩
theorem Out2.more {a b c : World} {g h : Nat} (x : Out2 a b g h) (y : Below b.heap.size b c) : Out2 a c g h :=
  x.trans ⟨y.os, y.tape, y.output, y.size, fun q hq _ _ => y.block q hq⟩
theorem Out2.bel {w w' : World} {g h B : Nat} (x : Out2 w w' g h) (h1 : B ≤ g) (h2 : B ≤ h) (hB : B ≤ w.heap.size) : Below B w w' :=
  ⟨x.os, x.tape, x.output, x.size, fun q hq => x.block q (by omega) (by omega) (by omega)⟩
theorem Out2.box {w w' : World} {g h p : Nat} {R C : Int} {a : Option Addr} {n c : Nat} (x : Out2 w w' g h) (b : Box w p R C a n c) (hp : p < w.heap.size) (h1 : p ≠ g) (h2 : p ≠ h) : Box w' p R C a n c := by
  obtain ⟨b0, b1, b2⟩ := b
  exact ⟨(World.cell?_of_block (a := ⟨p, 0, none⟩) (x.block p hp h1 h2)).trans b0, (World.cell?_of_block (a := ⟨p, 1, none⟩) (x.block p hp h1 h2)).trans b1, (World.cell?_of_block (a := ⟨p, 2, none⟩) (x.block p hp h1 h2)).trans b2⟩
theorem Out2.ice {w w' : World} {g h p : Nat} (x : Out2 w w' g h) (b : ∀ i, w.frozen? ⟨p, i, none⟩ = false) (hp : p < w.heap.size) (h1 : p ≠ g) (h2 : p ≠ h) : ∀ i, w'.frozen? ⟨p, i, none⟩ = false := fun i =>
  (World.frozen?_of_block (a := ⟨p, i, none⟩) (x.block p hp h1 h2)).trans (b i)
/-- A list alone in its block. -/
theorem Own.alone {T : TypeId} {k : FloatKind} {B U g : Nat} {w : World} {n c : Nat} {Z : Nat → Nat} (h : Own T k B U w (some ⟨g, 0, none⟩) n c Z) (h0 : 0 < n) : Own T k g (g + 1) w (some ⟨g, 0, none⟩) n c Z := by
  rcases h with ⟨h, _⟩ | ⟨g', xs, e, h1, hm, h2, h3, h4, ho, hx, hw⟩
  · cases h
  · simp only [Option.some.injEq, Addr.mk.injEq, and_true] at e
    subst e
    refine .inr ⟨g, xs, rfl, h1, hm, Nat.le_refl _, Nat.lt_succ_self _, by omega, ⟨ho.1, ?_⟩, hx, hw⟩
    rcases ho.2 with ⟨e1, e0⟩ | ⟨q, cap, cur, e, hbg, r⟩
    · cases e1
    · simp only [Value.slice.injEq, Option.some.injEq, Addr.mk.injEq, and_true] at e
      obtain ⟨rfl, rfl⟩ : g = q ∧ c = cap := by simpa using e
      exact .inr ⟨g, c, cur, rfl, Nat.le_refl _, r⟩

end Go.Proofs.Ytcibjkadlndejaa
