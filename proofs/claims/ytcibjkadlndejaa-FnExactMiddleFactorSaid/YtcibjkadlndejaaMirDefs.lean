/- Helper: columns made upright on one another, one after another. Conditions: none. -/
import Derived.Test.YtcibjkadlndejaaLess
import Derived.Test.YtcibjkadlndejaaAddDefs
import Derived.Test.YtcibjkadlndejaaFlipWalks
set_option linter.unusedVariables false
set_option linter.unusedSimpArgs false
namespace Go.Proofs.Ytcibjkadlndejaa
open Go.RowKit

/-- The columns, one behind another, and the upper square. -/
abbrev GS := (Nat → Option Nat) × (Nat → Option Nat)
def gsS (r k j : Nat) (P : GS) : Option Nat := dotG (fun i => P.1 (k * r + i)) (fun i => P.1 (j * r + i)) r
def gsJ (r c k : Nat) (P : GS) (j : Nat) : GS := (lsS (gsS r k j P) (k * r) (j * r) P.1 r, fun t => if t = j * c + k then fop .add .f32 (P.2 t) (gsS r k j P) else P.2 t)
def gsL (r c k : Nat) (P : GS) : Nat → GS
  | 0 => P
  | j + 1 => gsJ r c k (gsL r c k P j) j
def gsR (r c k : Nat) (P : GS) : Nat → GS
  | 0 => P
  | q + 1 => gsL r c k (gsR r c k P q) k
def gsN (r k : Nat) (P : GS) : Option Nat := narrow (fsqrt (widen (gsS r k k P)))
def gsD (r c k : Nat) (P : GS) : GS := (dvS (gsN r k P) (k * r) P.1 r, fun t => if t = k * c + k then gsN r k P else P.2 t)
def gsC (r c : Nat) (P : GS) : Nat → GS
  | 0 => P
  | k + 1 => gsD r c k (gsR r c k (gsC r c P k) 2)
def gsG (L : Option Nat) : Bool := ford .f32 L (some 0) == some .gt
def gsOk (r c : Nat) (P : GS) : Nat → Bool
  | 0 => true
  | k + 1 => gsOk r c P k && gsG (gsN r k (gsR r c k (gsC r c P k) 2))
theorem gsOk_no {r c : Nat} {P : GS} : ∀ {m k : Nat}, k < m → gsG (gsN r k (gsR r c k (gsC r c P k) 2)) = false → gsOk r c P m = false
  | 0, k, h, _ => absurd h (Nat.not_lt_zero _)
  | m + 1, k, h, e => by
    show (gsOk r c P m && _) = false
    by_cases q : k = m
    · subst q; rw [e, Bool.and_false]
    · rw [gsOk_no (by omega) e, Bool.false_and]
theorem lsS_congr {F F' : Option Nat} {p q m N : Nat} {V V' : Nat → Option Nat} (hf : F = F') (h : ∀ t, t < N → V t = V' t) (hq : q + m ≤ N) : ∀ t, t < N → lsS F p q V m t = lsS F' p q V' m t := by
  intro t ht
  subst hf
  unfold lsS
  rw [h t ht]
  by_cases e : p ≤ t ∧ t < p + m
  · rw [if_pos e, if_pos e, h _ (by omega)]
  · rw [if_neg e, if_neg e]
theorem dvS_congr {F F' : Option Nat} {p m N : Nat} {V V' : Nat → Option Nat} (hf : F = F') (h : ∀ t, t < N → V t = V' t) : ∀ t, t < N → dvS F p V m t = dvS F' p V' m t := by
  intro t ht
  subst hf
  unfold dvS
  rw [h t ht]
/-- What is told at the end. -/
def mirP (r c : Nat) (Z : Nat → Nat) : GS := (vals (flipZ r c Z), fun _ => some 0)
def mirOk (r c : Nat) (P : GS) : Bool := gsOk r c P c && (allFin (gsC r c P c).1 (c * r) && allFin (gsC r c P c).2 (c * c))
def mirB (R C : Int) (n : Nat) (V : Nat → Option Nat) : Bool := validB R C n V && decide (C ≤ R)
/-- Two matrices in memory of their own, and whether they are told. -/
def MirOwn (ok : Bool) (Ra Ca : Int) (na : Nat) (Va : Nat → Option Nat) (Rb Cb : Int) (nb : Nat) (Vb : Nat → Option Nat) (w : World) (e : Ending) (w' : World) : Prop :=
  ∃ m g1 d1 Y1 g2 d2 Y2, w.heap.size ≤ m ∧ m ≤ w'.heap.size ∧ e = .returned (.tuple #[.agg #[.int .i64 Ra, .int .i64 Ca, .slice g1 na d1], .agg #[.int .i64 Rb, .int .i64 Cb, .slice g2 nb d2], .bool ok]) ∧
    Own 41 .f32 m w'.heap.size w' g1 na d1 Y1 ∧ (∀ i, i < na → vals Y1 i = Va i) ∧ Own 41 .f32 w.heap.size m w' g2 nb d2 Y2 ∧ (∀ i, i < nb → vals Y2 i = Vb i) ∧ Below w.heap.size w w'
def MirBel (ok : Bool) (Ra Ca : Int) (na : Nat) (Va : Nat → Option Nat) (Rb Cb : Int) (nb : Nat) (Vb : Nat → Option Nat) (w : World) (e : Ending) (w' : World) : Prop :=
  ∃ g1 d1 Y1 g2 d2 Y2, e = .returned (.tuple #[.agg #[.int .i64 Ra, .int .i64 Ca, .slice g1 na d1], .agg #[.int .i64 Rb, .int .i64 Cb, .slice g2 nb d2], .bool ok]) ∧
    FS .f32 w' g1 na d1 Y1 ∧ (∀ i, i < na → vals Y1 i = Va i) ∧ FS .f32 w' g2 nb d2 Y2 ∧ (∀ i, i < nb → vals Y2 i = Vb i) ∧ Below w.heap.size w w'
def MirOwnIf (ok : Bool) (Ra Ca : Int) (na : Nat) (Va : Nat → Option Nat) (Rb Cb : Int) (nb : Nat) (Vb : Nat → Option Nat) (w : World) (e : Ending) (w' : World) : Prop :=
  match ok with
  | true => MirOwn true Ra Ca na Va Rb Cb nb Vb w e w'
  | false => MirOwn false 0 0 0 (fun _ => none) 0 0 0 (fun _ => none) w e w'
theorem MirOwn.no {w w' : World} (h : Below w.heap.size w w') : MirOwn false 0 0 0 (fun _ => none) 0 0 0 (fun _ => none) w (.returned (.tuple #[.agg #[.int .i64 0, .int .i64 0, .slice none 0 0], .agg #[.int .i64 0, .int .i64 0, .slice none 0 0], .bool false])) w' :=
  ⟨w.heap.size, none, 0, fun _ => 0, none, 0, fun _ => 0, Nat.le_refl _, h.size, rfl, .inl ⟨rfl, rfl, rfl⟩, fun i hi => absurd hi (Nat.not_lt_zero _), .inl ⟨rfl, rfl, rfl⟩, fun i hi => absurd hi (Nat.not_lt_zero _), h⟩
theorem MirOwnIf.no {ok : Bool} {Ra Ca : Int} {na : Nat} {Va : Nat → Option Nat} {Rb Cb : Int} {nb : Nat} {Vb : Nat → Option Nat} {w w' : World} {e : Ending} (h : ok = false) (p : MirOwn false 0 0 0 (fun _ => none) 0 0 0 (fun _ => none) w e w') : MirOwnIf ok Ra Ca na Va Rb Cb nb Vb w e w' := by subst h; exact p
theorem MirOwnIf.yes {ok : Bool} {Ra Ca : Int} {na : Nat} {Va : Nat → Option Nat} {Rb Cb : Int} {nb : Nat} {Vb : Nat → Option Nat} {w w' : World} {e : Ending} (h : ok = true) (p : MirOwn true Ra Ca na Va Rb Cb nb Vb w e w') : MirOwnIf ok Ra Ca na Va Rb Cb nb Vb w e w' := by subst h; exact p
theorem grownBy_set (W : World) (b o : Nat) (v : Value) : W.grownBy (W.setCell ⟨b, o, none⟩ v) (some b) :=
  ⟨rfl, rfl, rfl, (by show W.heap.size ≤ (W.heap.modify _ _).size; rw [Array.size_modify]; exact Nat.le_refl _), fun k _ hk => Below.heap_setCell _ _ _ k (fun e => hk (by rw [e]))⟩
theorem set6 {w : World} {b1 b2 : Nat} (hne : b1 ≠ b2) {u0 u1 u2 u3 u4 u5 : Value} (v0 v1 v2 v3 v4 v5 : Value) (c0 : w.cell? ⟨b1, 0, none⟩ = some u0) (c1 : w.cell? ⟨b1, 1, none⟩ = some u1) (c2 : w.cell? ⟨b1, 2, none⟩ = some u2) (c3 : w.cell? ⟨b2, 0, none⟩ = some u3) (c4 : w.cell? ⟨b2, 1, none⟩ = some u4) (c5 : w.cell? ⟨b2, 2, none⟩ = some u5) :
    ∃ W, W = ((((((w.setCell ⟨b1, 0, none⟩ v0).setCell ⟨b1, 1, none⟩ v1).setCell ⟨b1, 2, none⟩ v2).setCell ⟨b2, 0, none⟩ v3).setCell ⟨b2, 1, none⟩ v4).setCell ⟨b2, 2, none⟩ v5) ∧
      (W.cell? ⟨b1, 0, none⟩ = some v0 ∧ W.cell? ⟨b1, 1, none⟩ = some v1 ∧ W.cell? ⟨b1, 2, none⟩ = some v2) ∧ (W.cell? ⟨b2, 0, none⟩ = some v3 ∧ W.cell? ⟨b2, 1, none⟩ = some v4 ∧ W.cell? ⟨b2, 2, none⟩ = some v5) ∧ Out2 w W b1 b2 := by
  have hn2 : b2 ≠ b1 := fun e => hne e.symm
  refine ⟨_, rfl, ⟨?_, ?_, ?_⟩, ⟨?_, ?_, ?_⟩, ?_⟩
  · simp [go_sem, hne, hn2, c0]
  · simp [go_sem, hne, hn2, c1]
  · simp [go_sem, hne, hn2, c2]
  · simp [go_sem, hne, hn2, c3]
  · simp [go_sem, hne, hn2, c4]
  · simp [go_sem, hne, hn2, c5]
  · exact ((((((Out2.refl w b1 b2).left (grownBy_set _ _ _ _)).left (grownBy_set _ _ _ _)).left (grownBy_set _ _ _ _)).right (grownBy_set _ _ _ _)).right (grownBy_set _ _ _ _)).right (grownBy_set _ _ _ _)
theorem Out2.skip {a b c d : World} {g1 g2 gv : Nat} (x : Out2 a b g1 g2) (y : Out2 b c gv g2) (h : a.heap.size ≤ gv) (z : c.grownBy d (some g1)) : Out2 a d g1 g2 :=
  Out2.left ⟨y.os.trans x.os, y.tape.trans x.tape, y.output.trans x.output, Nat.le_trans x.size y.size, fun q hq h1 h2 => (y.block q (Nat.lt_of_lt_of_le hq x.size) (by omega) h2).trans (x.block q hq h1 h2)⟩ z
theorem Own.out2 {T : TypeId} {k : FloatKind} {B U g h : Nat} {w w' : World} {a : Option Addr} {n c : Nat} {Z : Nat → Nat} (x : Own T k B U w a n c Z) (o : Out2 w w' g h) (h1 : g < B ∨ U ≤ g) (h2 : h < B ∨ U ≤ h) : Own T k B U w' a n c Z := by
  have h0 := x
  rcases h0 with ⟨rfl, rfl, rfl⟩ | ⟨_, _, _, _, _, _, _, h3, _⟩
  · exact .inl ⟨rfl, rfl, rfl⟩
  · exact x.to o.size (fun q e1 e2 => o.block q (by omega) (by omega) (by omega)) (Nat.le_refl _) (Nat.le_refl _) (Nat.le_trans h3 o.size)
end Go.Proofs.Ytcibjkadlndejaa
