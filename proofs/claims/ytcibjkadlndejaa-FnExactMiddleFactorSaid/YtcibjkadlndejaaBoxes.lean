/- Helper: boxes of any cells, and worlds that changed in a range of blocks alone. Conditions: none. -/
import Derived.Test.YtcibjkadlndejaaIntLaw
import Derived.Test.YtcibjkadlndejaaKeys
set_option linter.unusedVariables false
set_option linter.unusedSimpArgs false
namespace Go.Proofs.Ytcibjkadlndejaa
open Go.RowKit

/-- A value lies cell by cell in a block. -/
def BoxL (w : World) (b : Nat) (vs : List Value) : Prop := ∀ i v, vs[i]? = some v → w.cell? ⟨b, i, none⟩ = some v
theorem BoxL.below {w w' : World} {b : Nat} {vs : List Value} (h : BoxL w b vs) (hb : Below w.heap.size w w') (hl : b < w.heap.size) : BoxL w' b vs :=
  fun i v hv => (hb.cell (p := ⟨b, i, none⟩) hl).trans (h i v hv)
theorem BoxL.drewN {w : World} {m b : Nat} {vs : List Value} (h : BoxL w b vs) : BoxL (w.drewN m) b vs := h
theorem BoxL.two {w : World} {b : Nat} {v0 v1 : Value} (h0 : w.cell? ⟨b, 0, none⟩ = some v0) (h1 : w.cell? ⟨b, 1, none⟩ = some v1) : BoxL w b [v0, v1] := by
  intro i v hv
  rcases i with _ | _ | i
  · cases hv; exact h0
  · cases hv; exact h1
  · simp at hv
theorem BoxL.three {w : World} {b : Nat} {v0 v1 v2 : Value} (h0 : w.cell? ⟨b, 0, none⟩ = some v0) (h1 : w.cell? ⟨b, 1, none⟩ = some v1) (h2 : w.cell? ⟨b, 2, none⟩ = some v2) : BoxL w b [v0, v1, v2] := by
  intro i v hv
  rcases i with _ | _ | _ | i
  · cases hv; exact h0
  · cases hv; exact h1
  · cases hv; exact h2
  · simp at hv
theorem BoxL.four {w : World} {b : Nat} {v0 v1 v2 v3 : Value} (h0 : w.cell? ⟨b, 0, none⟩ = some v0) (h1 : w.cell? ⟨b, 1, none⟩ = some v1) (h2 : w.cell? ⟨b, 2, none⟩ = some v2) (h3 : w.cell? ⟨b, 3, none⟩ = some v3) : BoxL w b [v0, v1, v2, v3] := by
  intro i v hv
  rcases i with _ | _ | _ | _ | i
  · cases hv; exact h0
  · cases hv; exact h1
  · cases hv; exact h2
  · cases hv; exact h3
  · simp at hv

/-- Only blocks from B on and below U, and new ones, changed. -/
structure Grew (B U : Nat) (w w' : World) : Prop where
  os : w'.os = w.os
  tape : w'.tape = w.tape
  output : w'.output = w.output
  size : w.heap.size ≤ w'.heap.size
  block : ∀ k, k < w.heap.size → (k < B ∨ U ≤ k) → w'.heap[k]? = w.heap[k]?
theorem Grew.of {B U : Nat} {w w' : World} {row : Option Nat} (h : w.grownBy w' row) (hr : ∀ g, row = some g → B ≤ g ∧ g < U) : Grew B U w w' :=
  ⟨h.os, h.tape, h.output, h.size, fun k hk hd => h.block k hk (fun e => by have := hr k e.symm; omega)⟩
theorem Grew.ofBelow {B U : Nat} {w w' : World} (h : Below w.heap.size w w') : Grew B U w w' := ⟨h.os, h.tape, h.output, h.size, fun k hk _ => h.block k hk⟩
theorem Grew.trans {B U : Nat} {w w1 w2 : World} (h : Grew B U w w1) (h2 : Grew B U w1 w2) : Grew B U w w2 :=
  ⟨h2.os.trans h.os, h2.tape.trans h.tape, h2.output.trans h.output, Nat.le_trans h.size h2.size, fun k hk hd => (h2.block k (Nat.lt_of_lt_of_le hk h.size) hd).trans (h.block k hk hd)⟩
theorem Grew.wide {B U B' U' : Nat} {w w' : World} (h : Grew B U w w') (hB : B' ≤ B) (hU : U ≤ U') : Grew B' U' w w' := ⟨h.os, h.tape, h.output, h.size, fun k hk hd => h.block k hk (by omega)⟩
theorem Below.over {N B U : Nat} {w0 w w' : World} (h : Below N w0 w) (g : Grew B U w w') (hN : N ≤ B) (hs : N ≤ w.heap.size) : Below N w0 w' :=
  ⟨g.os.trans h.os, g.tape.trans h.tape, g.output.trans h.output, Nat.le_trans h.size g.size, fun k hk => (g.block k (by omega) (.inl (by omega))).trans (h.block k hk)⟩
theorem BoxL.over {B U : Nat} {w w' : World} {b : Nat} {vs : List Value} (h : BoxL w b vs) (g : Grew B U w w') (hl : b < w.heap.size) (hd : b < B ∨ U ≤ b) : BoxL w' b vs := fun i v hv =>
  (World.cell?_of_block (a := ⟨b, i, none⟩) (g.block b hl hd)).trans (h i v hv)
theorem Own.over {T : TypeId} {k : FloatKind} {B' U' B U : Nat} {w w' : World} {a : Option Addr} {n c : Nat} {Z : Nat → Nat} (h : Own T k B' U' w a n c Z) (g : Grew B U w w') (hd : U' ≤ B ∨ U ≤ B') : Own T k B' U' w' a n c Z := by
  have h0 := h
  rcases h0 with ⟨rfl, rfl, rfl⟩ | ⟨_, _, _, _, _, _, _, h3, _⟩
  · exact .inl ⟨rfl, rfl, rfl⟩
  · exact h.to g.size (fun q h1 h2 => g.block q (by omega) (by omega)) (Nat.le_refl _) (Nat.le_refl _) (Nat.le_trans h3 g.size)
theorem OwnI.over {T : TypeId} {k : IntKind} {B' U' B U : Nat} {w w' : World} {a : Option Addr} {n c : Nat} {Z : Nat → Int} (h : OwnI T k B' U' w a n c Z) (g : Grew B U w w') (hd : U' ≤ B ∨ U ≤ B') : OwnI T k B' U' w' a n c Z := by
  have h0 := h
  rcases h0 with ⟨rfl, rfl, rfl⟩ | ⟨_, _, _, _, _, _, _, h3, _⟩
  · exact .inl ⟨rfl, rfl, rfl⟩
  · exact h.to g.size (fun q h1 h2 => g.block q (by omega) (by omega)) (Nat.le_refl _) (Nat.le_refl _) (Nat.le_trans h3 g.size)
theorem Marked.grew {B U : Nat} {w w' : World} (h : ∃ row, w.grownBy w' row ∧ ∀ g, row = some g → B ≤ g ∧ g < U) : Grew B U w w' := h.elim fun _ h => Grew.of h.1 h.2
end Go.Proofs.Ytcibjkadlndejaa
