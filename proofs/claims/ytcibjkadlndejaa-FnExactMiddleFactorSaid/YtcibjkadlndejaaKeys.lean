/- Helper: boxes of matrices, and what a call tells: a truth, a number, a matrix. Conditions: none. -/
import Derived.Test.YtcibjkadlndejaaMatValid
set_option linter.unusedVariables false
set_option linter.unusedSimpArgs false
namespace Go.Proofs.Ytcibjkadlndejaa
open Go.RowKit

theorem Box.below {w w' : World} {b : Nat} {R C : Int} {a : Option Addr} {n c : Nat} (h : Box w b R C a n c) (hb : Below w.heap.size w w') (hl : b < w.heap.size) : Box w' b R C a n c :=
  ⟨(hb.cell (p := ⟨b, 0, none⟩) hl).trans h.1, (hb.cell (p := ⟨b, 1, none⟩) hl).trans h.2.1, (hb.cell (p := ⟨b, 2, none⟩) hl).trans h.2.2⟩
theorem Box.drewN {w : World} {m : Nat} {b : Nat} {R C : Int} {a : Option Addr} {n c : Nat} (h : Box w b R C a n c) : Box (w.drewN m) b R C a n c := h
theorem Box.new (w : World) (T : TypeId) (R C : Int) (a : Option Addr) (n c : Nat) : Box (w.alloc (.cells #[.int .i64 R, .int .i64 C, .slice a n c] T)) w.heap.size R C a n c := by
  refine ⟨?_, ?_, ?_⟩ <;> simp [go_sem]

/-- What a region that copies beside loads keeps: two boxes. -/
theorem held2 {w0 W w' : World} {b1 b2 : Nat} {u0 u1 u2 v0 v1 v2 : Value}
    (hs : W.cell? ⟨b1, 0, none⟩ = some u0 ∧ W.cell? ⟨b1, 1, none⟩ = some u1 ∧ W.cell? ⟨b1, 2, none⟩ = some u2 ∧ W.cell? ⟨b2, 0, none⟩ = some v0 ∧ W.cell? ⟨b2, 1, none⟩ = some v1 ∧ W.cell? ⟨b2, 2, none⟩ = some v2 ∧ Below w0.heap.size w0 W)
    (hb : Below W.heap.size W w') (l1 : b1 < w0.heap.size) (l2 : b2 < w0.heap.size) :
    w'.cell? ⟨b1, 0, none⟩ = some u0 ∧ w'.cell? ⟨b1, 1, none⟩ = some u1 ∧ w'.cell? ⟨b1, 2, none⟩ = some u2 ∧ w'.cell? ⟨b2, 0, none⟩ = some v0 ∧ w'.cell? ⟨b2, 1, none⟩ = some v1 ∧ w'.cell? ⟨b2, 2, none⟩ = some v2 ∧ Below w0.heap.size w0 w' := by
  obtain ⟨h0, h1, h2, h3, h4, h5, h6⟩ := hs
  have e1 : b1 < W.heap.size := Nat.lt_of_lt_of_le l1 h6.size
  have e2 : b2 < W.heap.size := Nat.lt_of_lt_of_le l2 h6.size
  exact ⟨(hb.cell (p := ⟨b1, 0, none⟩) e1).trans h0, (hb.cell (p := ⟨b1, 1, none⟩) e1).trans h1, (hb.cell (p := ⟨b1, 2, none⟩) e1).trans h2,
    (hb.cell (p := ⟨b2, 0, none⟩) e2).trans h3, (hb.cell (p := ⟨b2, 1, none⟩) e2).trans h4, (hb.cell (p := ⟨b2, 2, none⟩) e2).trans h5, h6.trans (hb.mono h6.size)⟩

theorem Box.grown {w w' : World} {row : Option Nat} {b : Nat} {R C : Int} {a : Option Addr} {n c : Nat} (h : Box w b R C a n c) (hg : w.grownBy w' row) (hl : b < w.heap.size) (hr : ∀ g, row = some g → b ≠ g) : Box w' b R C a n c := by
  have hb : w'.heap[b]? = w.heap[b]? := hg.block b hl (fun e => hr b e.symm rfl)
  exact ⟨(World.cell?_of_block (a := ⟨b, 0, none⟩) hb).trans h.1, (World.cell?_of_block (a := ⟨b, 1, none⟩) hb).trans h.2.1, (World.cell?_of_block (a := ⟨b, 2, none⟩) hb).trans h.2.2⟩
theorem below_of_drewN {w w' : World} {m : Nat} (h : w' = w.drewN m) : Below w.heap.size w w' := by rw [h]; exact below_drewN (Below.refl _ _) _
theorem below_of_same {w w' : World} (h : w = w') : Below w.heap.size w w' := by rw [← h]; exact Below.refl _ _

/-- A truth is told. -/
def BoolBel (ok : Bool) (w : World) (e : Ending) (w' : World) : Prop := e = .returned (.bool ok) ∧ Below w.heap.size w w'
/-- A number, and whether it is told. -/
def NumBel (ok : Bool) (X : Option Nat) (w : World) (e : Ending) (w' : World) : Prop :=
  ∃ r, e = .returned (.tuple #[.float .f32 r, .bool ok]) ∧ FV .f32 r X ∧ Below w.heap.size w w'
/-- A matrix, and whether it is told. -/
def MatBel (ok : Bool) (R C : Int) (n : Nat) (V : Nat → Option Nat) (w : World) (e : Ending) (w' : World) : Prop :=
  ∃ g d Y, e = .returned (.tuple #[.agg #[.int .i64 R, .int .i64 C, .slice g n d], .bool ok]) ∧ FS .f32 w' g n d Y ∧ (∀ i, i < n → vals Y i = V i) ∧ Below w.heap.size w w'
/-- A matrix in memory of its own, and whether it is told. -/
def MatOwn (ok : Bool) (R C : Int) (n : Nat) (V : Nat → Option Nat) (w : World) (e : Ending) (w' : World) : Prop :=
  ∃ g d Y, e = .returned (.tuple #[.agg #[.int .i64 R, .int .i64 C, .slice g n d], .bool ok]) ∧ Own 41 .f32 w.heap.size w'.heap.size w' g n d Y ∧ (∀ i, i < n → vals Y i = V i) ∧ Below w.heap.size w w'
end Go.Proofs.Ytcibjkadlndejaa
