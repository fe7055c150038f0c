/- Helper: two matrices stored into two boxes, one after another, among calls that only read. Conditions: none. -/
import Derived.Test.YtcibjkadlndejaaMirDefs
import Derived.Test.YtcibjkadlndejaaHeavyB
set_option linter.unusedVariables false
set_option linter.unusedSimpArgs false
namespace Go.Proofs.Ytcibjkadlndejaa
open Go.RowKit

theorem heavy_skip {P : Program} {ops : Array Oper} {D : World → Prop} {C : Nat → Act → World → Prop} {hv : Nat → Option Nat} {Q : Act → Prop} {a : Act} {k : Nat} {o : Oper} {rest : List Oper} (hw : Region.wanted o (yielded ops a.tmps) = false) (hk : hv k = none)
    (h : HB.wpHeavy P ops D C hv Q rest (k + 1) (a.put o.dst undef)) : HB.wpHeavy P ops D C hv Q (o :: rest) k a := by
  unfold HB.wpHeavy
  rw [hk]
  simp only [hw]
  exact h
/-- A matrix put into a box. -/
def set3 (W : World) (b : Nat) (R C : Int) (a : Option Addr) (n c : Nat) : World :=
  ((W.setCell ⟨b, 0, none⟩ (.int .i64 R)).setCell ⟨b, 1, none⟩ (.int .i64 C)).setCell ⟨b, 2, none⟩ (.slice a n c)
theorem set3_box {W : World} {b : Nat} {R0 C0 : Int} {a0 : Option Addr} {n0 c0 : Nat} (R C : Int) (a : Option Addr) (n c : Nat) (h : Box W b R0 C0 a0 n0 c0) : Box (set3 W b R C a n c) b R C a n c := by
  obtain ⟨h0, h1, h2⟩ := h
  unfold set3
  refine ⟨?_, ?_, ?_⟩
  · simp [go_sem, h0]
  · simp [go_sem, h1]
  · simp [go_sem, h2]
theorem set3_grown (W : World) (b : Nat) (R C : Int) (a : Option Addr) (n c : Nat) : W.grownBy (set3 W b R C a n c) (some b) :=
  grownBy_trans (grownBy_trans (grownBy_set W b 0 _) (grownBy_set _ b 1 _)) (grownBy_set _ b 2 _)
theorem set3_ice {W : World} {b g : Nat} (R C : Int) (a : Option Addr) (n c : Nat) (h : ∀ i, W.frozen? ⟨g, i, none⟩ = false) : ∀ i, (set3 W b R C a n c).frozen? ⟨g, i, none⟩ = false := fun i => by
  unfold set3
  simp [go_sem, h i]
/-- How far the two boxes are filled. -/
structure MrB (w0 : World) (b1 b2 : Nat) (W : World) : Prop where
  out : Out2 w0 W b1 b2
  i1 : ∀ i, W.frozen? ⟨b1, i, none⟩ = false
  i2 : ∀ i, W.frozen? ⟨b2, i, none⟩ = false
def MrF (w0 : World) (b1 b2 : Nat) (R1 C1 : Int) (a1 : Option Addr) (n1 c1 : Nat) (R2 C2 : Int) (a2 : Option Addr) (n2 c2 : Nat) : Nat → World → Prop
  | 0, W => MrB w0 b1 b2 W ∧ Box W b1 0 0 none 0 0 ∧ Box W b2 0 0 none 0 0
  | 1, W => MrB w0 b1 b2 W ∧ Box W b1 R1 C1 a1 n1 c1 ∧ Box W b2 0 0 none 0 0
  | _ + 2, W => MrB w0 b1 b2 W ∧ Box W b1 R1 C1 a1 n1 c1 ∧ Box W b2 R2 C2 a2 n2 c2
section
variable {w0 : World} {b1 b2 : Nat} {R1 C1 : Int} {a1 : Option Addr} {n1 c1 : Nat} {R2 C2 : Int} {a2 : Option Addr} {n2 c2 : Nat}
theorem MrF.base {s : Nat} {W : World} (h : MrF w0 b1 b2 R1 C1 a1 n1 c1 R2 C2 a2 n2 c2 s W) : MrB w0 b1 b2 W := by
  match s, h with
  | 0, h => exact h.1
  | 1, h => exact h.1
  | _ + 2, h => exact h.1
theorem MrF.box1 {W : World} (h : MrF w0 b1 b2 R1 C1 a1 n1 c1 R2 C2 a2 n2 c2 0 W) : Box W b1 0 0 none 0 0 := h.2.1
theorem MrF.box2 {W : World} (h : MrF w0 b1 b2 R1 C1 a1 n1 c1 R2 C2 a2 n2 c2 1 W) : Box W b2 0 0 none 0 0 := h.2.2
theorem MrB.more {W W' : World} (l1 : b1 < w0.heap.size) (l2 : b2 < w0.heap.size) (hb : Below W.heap.size W W') (h : MrB w0 b1 b2 W) : MrB w0 b1 b2 W' := by
  have hs := h.out.size
  exact ⟨h.out.more hb, fun i => (hb.frozen (p := ⟨b1, i, none⟩) (by show b1 < W.heap.size; omega)).trans (h.i1 i), fun i => (hb.frozen (p := ⟨b2, i, none⟩) (by show b2 < W.heap.size; omega)).trans (h.i2 i)⟩
theorem MrF.more {s : Nat} {W W' : World} (l1 : b1 < w0.heap.size) (l2 : b2 < w0.heap.size) (hb : Below W.heap.size W W') (h : MrF w0 b1 b2 R1 C1 a1 n1 c1 R2 C2 a2 n2 c2 s W) : MrF w0 b1 b2 R1 C1 a1 n1 c1 R2 C2 a2 n2 c2 s W' := by
  have hs := h.base.out.size
  match s, h with
  | 0, h => exact ⟨h.1.more l1 l2 hb, h.2.1.below hb (by omega), h.2.2.below hb (by omega)⟩
  | 1, h => exact ⟨h.1.more l1 l2 hb, h.2.1.below hb (by omega), h.2.2.below hb (by omega)⟩
  | _ + 2, h => exact ⟨h.1.more l1 l2 hb, h.2.1.below hb (by omega), h.2.2.below hb (by omega)⟩
theorem MrF.put1 {W : World} (l2 : b2 < w0.heap.size) (hne : b1 ≠ b2) (h : MrF w0 b1 b2 R1 C1 a1 n1 c1 R2 C2 a2 n2 c2 0 W) : MrF w0 b1 b2 R1 C1 a1 n1 c1 R2 C2 a2 n2 c2 1 (set3 W b1 R1 C1 a1 n1 c1) := by
  obtain ⟨hB, h1, h2⟩ := h
  have hs := hB.out.size
  have hg := set3_grown W b1 R1 C1 a1 n1 c1
  exact ⟨⟨hB.out.left hg, set3_ice _ _ _ _ _ hB.i1, set3_ice _ _ _ _ _ hB.i2⟩, set3_box _ _ _ _ _ h1, h2.grown hg (by omega) (fun g hgg => by cases hgg; exact fun e => hne e.symm)⟩
theorem MrF.put2 {W : World} (l1 : b1 < w0.heap.size) (hne : b1 ≠ b2) (h : MrF w0 b1 b2 R1 C1 a1 n1 c1 R2 C2 a2 n2 c2 1 W) : MrF w0 b1 b2 R1 C1 a1 n1 c1 R2 C2 a2 n2 c2 2 (set3 W b2 R2 C2 a2 n2 c2) := by
  obtain ⟨hB, h1, h2⟩ := h
  have hs := hB.out.size
  have hg := set3_grown W b2 R2 C2 a2 n2 c2
  exact ⟨⟨hB.out.right hg, set3_ice _ _ _ _ _ hB.i1, set3_ice _ _ _ _ _ hB.i2⟩, h1.grown hg (by omega) (fun g hgg => by cases hgg; exact hne), set3_box _ _ _ _ _ h2⟩
end
end Go.Proofs.Ytcibjkadlndejaa
