/- Helper: a box that is made among the calls of a region, and filled behind them. Conditions: none. -/
import Derived.Test.YtmddhhmgfhljiaaMatCopy
import Derived.Test.YtmddhhmgfhljiaaKeys
set_option linter.unusedVariables false
set_option linter.unusedSimpArgs false
namespace Go.Proofs.Ytmddhhmgfhljiaa
open Go.RowKit

theorem FS.made {k : FloatKind} {w : World} {o : Obj} {a : Option Addr} {n c : Nat} {Z : Nat → Nat} (h : FS k w a n c Z) : FS k (w.alloc o) a n c Z := h.below (by repeat first | (with_reducible exact Below.refl _ _) | (with_reducible refine Below.setCell ?_ (by first | exact Nat.le_refl _ | (simp; done) | (simp; omega) | omega) _) | (with_reducible refine Below.alloc ?_ (by first | exact Nat.le_refl _ | (simp; done) | (simp; omega) | omega) _) | (with_reducible refine below_drewN ?_ _) | (with_reducible refine Below.drew ?_)) (Nat.le_refl _)
theorem Below.remade {B : Nat} {w0 w : World} {o o' : Obj} (h : Below B w0 (w.alloc o)) (hB : B ≤ w.heap.size) : Below B w0 (w.alloc o') := by
  refine ⟨h.os, h.tape, h.output, by have := h.size; simpa using this, fun k hk => ?_⟩
  have hk2 : k < w.heap.size := by omega
  have b1 : Below w.heap.size w (w.alloc o) := (by repeat first | (with_reducible exact Below.refl _ _) | (with_reducible refine Below.setCell ?_ (by first | exact Nat.le_refl _ | (simp; done) | (simp; omega) | omega) _) | (with_reducible refine Below.alloc ?_ (by first | exact Nat.le_refl _ | (simp; done) | (simp; omega) | omega) _) | (with_reducible refine below_drewN ?_ _) | (with_reducible refine Below.drew ?_))
  have b2 : Below w.heap.size w (w.alloc o') := (by repeat first | (with_reducible exact Below.refl _ _) | (with_reducible refine Below.setCell ?_ (by first | exact Nat.le_refl _ | (simp; done) | (simp; omega) | omega) _) | (with_reducible refine Below.alloc ?_ (by first | exact Nat.le_refl _ | (simp; done) | (simp; omega) | omega) _) | (with_reducible refine below_drewN ?_ _) | (with_reducible refine Below.drew ?_))
  exact ((b2.block k hk2).trans (b1.block k hk2).symm).trans (h.block k hk)
/-- An empty box that a region has made. -/
def ZB (w : World) (q : Nat) : Prop := Box w q 0 0 none 0 0 ∧ (∀ i, w.frozen? ⟨q, i, none⟩ = false) ∧ q < w.heap.size
theorem ZB.new {w w' : World} {T : TypeId} (hb : Below (w.alloc (.cells #[.int .i64 0, .int .i64 0, .slice none 0 0] T)).heap.size (w.alloc (.cells #[.int .i64 0, .int .i64 0, .slice none 0 0] T)) w') : ∃ q, q = w.heap.size ∧ ZB w' q :=
  ⟨_, rfl, (Box.new w T 0 0 none 0 0).below hb (by simp), fun i => (hb.frozen (p := ⟨w.heap.size, i, none⟩) (by simp)).trans (by simp [go_sem]), by have := hb.size; simp at this; omega⟩
theorem ZB.newD {w w' : World} {T : TypeId} (hb : Below (w.alloc (.cells #[.int .i64 0, .int .i64 0, .slice none 0 0] T)).drew.heap.size (w.alloc (.cells #[.int .i64 0, .int .i64 0, .slice none 0 0] T)).drew w') : ∃ q, q = w.heap.size ∧ ZB w' q := by
  obtain ⟨x0, x1, x2⟩ := Box.new w T 0 0 none 0 0
  have hl : w.heap.size < (w.alloc (.cells #[.int .i64 0, .int .i64 0, .slice none 0 0] T)).drew.heap.size := by simp
  exact ⟨_, rfl, Box.below (w := (w.alloc (.cells #[.int .i64 0, .int .i64 0, .slice none 0 0] T)).drew) ⟨x0, x1, x2⟩ hb hl, fun i => (hb.frozen (p := ⟨w.heap.size, i, none⟩) hl).trans (by simp [go_sem]), Nat.lt_of_lt_of_le hl hb.size⟩
theorem ZB.below {w w' : World} {q : Nat} (h : ZB w q) (hb : Below w.heap.size w w') : ZB w' q :=
  ⟨h.1.below hb h.2.2, fun i => (hb.frozen (p := ⟨q, i, none⟩) h.2.2).trans (h.2.1 i), Nat.lt_of_lt_of_le h.2.2 hb.size⟩
theorem zb_on {w w' : World} {b : Nat} (h : ∃ q, q = b ∧ ZB w q) (hb : Below w.heap.size w w') : ∃ q, q = b ∧ ZB w' q := h.elim fun q h => ⟨q, h.1, h.2.below hb⟩
theorem ZB.filled {w : World} {q : Nat} (h : ZB w q) (R C : Int) (a : Option Addr) (n c : Nat) :
    Box (((w.setCell ⟨q, 0, none⟩ (.int .i64 R)).setCell ⟨q, 1, none⟩ (.int .i64 C)).setCell ⟨q, 2, none⟩ (.slice a n c)) q R C a n c := by
  obtain ⟨⟨z0, z1, z2⟩, _, _⟩ := h
  refine ⟨?_, ?_, ?_⟩
  · rw [World.cell?_setCell_other _ _ _ _ (by simp), World.cell?_setCell_other _ _ _ _ (by simp)]; exact World.cell?_setCell_same _ _ _ z0
  · rw [World.cell?_setCell_other _ _ _ _ (by simp)]; exact World.cell?_setCell_same _ _ _ (by rw [World.cell?_setCell_other _ _ _ _ (by simp)]; exact z1)
  · exact World.cell?_setCell_same _ _ _ (by rw [World.cell?_setCell_other _ _ _ _ (by simp), World.cell?_setCell_other _ _ _ _ (by simp)]; exact z2)
theorem FS.filled {w : World} {q : Nat} {a2 : Option Addr} {n2 c2 : Nat} {Z : Nat → Nat} (f : FS .f32 w a2 n2 c2 Z) (h : ZB w q) (R C : Int) (a : Option Addr) (n c : Nat) :
    FS .f32 (((w.setCell ⟨q, 0, none⟩ (.int .i64 R)).setCell ⟨q, 1, none⟩ (.int .i64 C)).setCell ⟨q, 2, none⟩ (.slice a n c)) a2 n2 c2 Z := by
  obtain ⟨⟨z0, z1, z2⟩, _, _⟩ := h
  refine ⟨f.1, f.2.1, fun i hi => ?_⟩
  obtain ⟨b, off, e, hl, hc, hw⟩ := f.2.2 i hi
  refine ⟨b, off, e, by simpa [World.setCell] using hl, ?_, hw⟩
  have h0 : (⟨b, off + i, none⟩ : Addr) ≠ ⟨q, 0, none⟩ := by intro e; rw [e, z0] at hc; cases hc
  have h1 : (⟨b, off + i, none⟩ : Addr) ≠ ⟨q, 1, none⟩ := by intro e; rw [e, z1] at hc; cases hc
  have h2 : (⟨b, off + i, none⟩ : Addr) ≠ ⟨q, 2, none⟩ := by intro e; rw [e, z2] at hc; cases hc
  rw [World.cell?_setCell_other _ _ _ _ (Ne.symm h2), World.cell?_setCell_other _ _ _ _ (Ne.symm h1), World.cell?_setCell_other _ _ _ _ (Ne.symm h0)]
  exact hc
theorem ZB.kept {w0 w : World} {q : Nat} (hb : Below w0.heap.size w0 w) (hq : w0.heap.size ≤ q) (h : ZB w q) (R C : Int) (a : Option Addr) (n c : Nat) :
    Below w0.heap.size w0 (((w.setCell ⟨q, 0, none⟩ (.int .i64 R)).setCell ⟨q, 1, none⟩ (.int .i64 C)).setCell ⟨q, 2, none⟩ (.slice a n c)) ∧ q < (((w.setCell ⟨q, 0, none⟩ (.int .i64 R)).setCell ⟨q, 1, none⟩ (.int .i64 C)).setCell ⟨q, 2, none⟩ (.slice a n c)).heap.size :=
  ⟨((hb.setCell hq _).setCell hq _).setCell hq _, by simpa [World.setCell] using h.2.2⟩
end Go.Proofs.Ytmddhhmgfhljiaa
