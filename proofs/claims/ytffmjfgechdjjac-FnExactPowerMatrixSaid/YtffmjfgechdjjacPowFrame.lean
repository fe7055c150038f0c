/- Helper: powers of a square, of the program. Conditions: none. -/
import Derived.Test.YtffmjfgechdjjacPowDefs
set_option linter.unusedVariables false
set_option linter.unusedSimpArgs false
namespace Go.Proofs.Ytffmjfgechdjjac
open Go.RowKit

theorem Own.place {T : TypeId} {k : FloatKind} {B U : Nat} {w : World} {a : Option Addr} {n c : Nat} {Z : Nat → Nat} (h : Own T k B U w a n c Z) (h0 : 0 < n) : ∃ g, a = some ⟨g, 0, none⟩ ∧ B ≤ g ∧ g < U ∧ U ≤ w.heap.size := by
  rcases h with ⟨_, rfl, _⟩ | ⟨g, xs, rfl, _, _, h1, h2, h3, _⟩
  · omega
  · exact ⟨g, rfl, h1, h2, h3⟩
/-- A matrix is stored into a box. -/
theorem put_grown (w : World) (q : Nat) (R C : Int) (a : Option Addr) (n c : Nat) : w.grownBy (((w.setCell ⟨q, 0, none⟩ (.int .i64 R)).setCell ⟨q, 1, none⟩ (.int .i64 C)).setCell ⟨q, 2, none⟩ (.slice a n c)) (some q) :=
  ⟨rfl, rfl, rfl, by simp [World.setCell], fun k _ hk => by
    have hne : k ≠ q := fun e => hk (by rw [e])
    rw [Below.heap_setCell _ _ _ _ hne, Below.heap_setCell _ _ _ _ hne, Below.heap_setCell _ _ _ _ hne]⟩
theorem put_box {w : World} {q : Nat} {R0 C0 : Int} {a0 : Option Addr} {n0 c0 : Nat} (h : Box w q R0 C0 a0 n0 c0) (R C : Int) (a : Option Addr) (n c : Nat) :
    Box (((w.setCell ⟨q, 0, none⟩ (.int .i64 R)).setCell ⟨q, 1, none⟩ (.int .i64 C)).setCell ⟨q, 2, none⟩ (.slice a n c)) q R C a n c := by
  obtain ⟨z0, z1, z2⟩ := h
  refine ⟨?_, ?_, ?_⟩
  · rw [World.cell?_setCell_other _ _ _ _ (by simp), World.cell?_setCell_other _ _ _ _ (by simp)]; exact World.cell?_setCell_same _ _ _ z0
  · rw [World.cell?_setCell_other _ _ _ _ (by simp)]; exact World.cell?_setCell_same _ _ _ (by rw [World.cell?_setCell_other _ _ _ _ (by simp)]; exact z1)
  · exact World.cell?_setCell_same _ _ _ (by rw [World.cell?_setCell_other _ _ _ _ (by simp), World.cell?_setCell_other _ _ _ _ (by simp)]; exact z2)
theorem put_ice {w : World} {p : Nat} (h : ∀ i, w.frozen? ⟨p, i, none⟩ = false) (q : Nat) (R C : Int) (a : Option Addr) (n c : Nat) :
    ∀ i, (((w.setCell ⟨q, 0, none⟩ (.int .i64 R)).setCell ⟨q, 1, none⟩ (.int .i64 C)).setCell ⟨q, 2, none⟩ (.slice a n c)).frozen? ⟨p, i, none⟩ = false := fun i => by
  rw [World.frozen?_setCell, World.frozen?_setCell, World.frozen?_setCell]; exact h i

/-- The boxes of the program: of the argument, of what is told, of the result. -/
structure PwFrame (W0 : World) (ab rb rr : Nat) (wr : World) : Prop where
  res : Box wr rb 0 0 none 0 0
  ia : ∀ i, wr.frozen? ⟨ab, i, none⟩ = false
  ib : ∀ i, wr.frozen? ⟨rb, i, none⟩ = false
  ir : ∀ i, wr.frozen? ⟨rr, i, none⟩ = false
  bel : Below W0.heap.size W0 wr
  lo : W0.heap.size ≤ ab
  ab_rb : ab < rb
  rb_rr : rb < rr
  top : rr < wr.heap.size
theorem PwFrame.below {W0 wr w' : World} {ab rb rr : Nat} (h : PwFrame W0 ab rb rr wr) (hb : Below wr.heap.size wr w') : PwFrame W0 ab rb rr w' := by
  have h1 := h.ab_rb
  have h2 := h.rb_rr
  have h3 := h.top
  exact ⟨h.res.below hb (by omega), fun i => (hb.frozen (p := ⟨ab, i, none⟩) (by show ab < wr.heap.size; omega)).trans (h.ia i), fun i => (hb.frozen (p := ⟨rb, i, none⟩) (by show rb < wr.heap.size; omega)).trans (h.ib i), fun i => (hb.frozen (p := ⟨rr, i, none⟩) (by show rr < wr.heap.size; omega)).trans (h.ir i),
    h.bel.trans (hb.mono h.bel.size), h.lo, h1, h2, Nat.lt_of_lt_of_le h3 hb.size⟩
theorem PwFrame.put {W0 wr : World} {ab rb rr q : Nat} (h : PwFrame W0 ab rb rr wr) (hq : q = ab ∨ q = rr) (R C : Int) (a : Option Addr) (n c : Nat) :
    PwFrame W0 ab rb rr (((wr.setCell ⟨q, 0, none⟩ (.int .i64 R)).setCell ⟨q, 1, none⟩ (.int .i64 C)).setCell ⟨q, 2, none⟩ (.slice a n c)) := by
  have h1 := h.ab_rb
  have h2 := h.rb_rr
  have h3 := h.top
  have h4 := h.lo
  have g := put_grown wr q R C a n c
  exact ⟨h.res.grown g (by omega) (fun p hp => by cases hp; omega), put_ice h.ia q R C a n c, put_ice h.ib q R C a n c, put_ice h.ir q R C a n c, h.bel.grown g h.bel.size (fun p hp => by cases hp; omega), h.lo, h1, h2, Nat.lt_of_lt_of_le h3 g.size⟩
/-- A matrix that a box tells, in a row of its own or one that came in. -/
structure PwMat (ab rr q : Nat) (c n : Nat) (V : Nat → Option Nat) (wr : World) (g o d : Nat) (Z : Nat → Nat) : Prop where
  box : Box wr q c c (some ⟨g, o, none⟩) n d
  fs : FS .f32 wr (some ⟨g, o, none⟩) n d Z
  val : ∀ i, i < n → vals Z i = V i
  fin : allFin V n = true
  na : g ≠ ab
  nr : g ≠ rr
theorem PwMat.below {ab rr q c n g o d : Nat} {V : Nat → Option Nat} {wr w' : World} {Z : Nat → Nat} (h : PwMat ab rr q c n V wr g o d Z) (hb : Below wr.heap.size wr w') (hq : q < wr.heap.size) : PwMat ab rr q c n V w' g o d Z :=
  ⟨h.box.below hb hq, h.fs.below hb (Nat.le_refl _), h.val, h.fin, h.na, h.nr⟩
theorem PwMat.put {ab rr q q2 c n g o d : Nat} {V : Nat → Option Nat} {wr : World} {Z : Nat → Nat} (h : PwMat ab rr q c n V wr g o d Z) (hq : q < wr.heap.size) (hn : q ≠ q2) (h2 : q2 = ab ∨ q2 = rr) (R C : Int) (a : Option Addr) (n2 c2 : Nat) :
    PwMat ab rr q c n V (((wr.setCell ⟨q2, 0, none⟩ (.int .i64 R)).setCell ⟨q2, 1, none⟩ (.int .i64 C)).setCell ⟨q2, 2, none⟩ (.slice a n2 c2)) g o d Z := by
  have g1 := put_grown wr q2 R C a n2 c2
  have h3 := h.na
  have h4 := h.nr
  exact ⟨h.box.grown g1 hq (fun p hp => by cases hp; exact hn), FS.to h.fs g1.size (fun p hp => by
    obtain ⟨off, e⟩ := hp
    simp only [Option.some.injEq, Addr.mk.injEq] at e
    obtain ⟨rfl, _⟩ := e
    have hne : g ≠ q2 := by omega
    rw [Below.heap_setCell _ _ _ _ hne, Below.heap_setCell _ _ _ _ hne, Below.heap_setCell _ _ _ _ hne]), h.val, h.fin, h.na, h.nr⟩
/-- A new one in a box. -/
theorem PwMat.new {ab rr q c n g d : Nat} {V : Nat → Option Nat} {wr : World} {Z : Nat → Nat} {R0 C0 : Int} {a0 : Option Addr} {n0 c0 : Nat} (hb : Box wr q R0 C0 a0 n0 c0) (f : FS .f32 wr (some ⟨g, 0, none⟩) n d Z) (hv : ∀ i, i < n → vals Z i = V i) (hf : allFin V n = true) (h1 : g ≠ ab) (h2 : g ≠ rr) (h3 : q = ab ∨ q = rr) :
    PwMat ab rr q c n V (((wr.setCell ⟨q, 0, none⟩ (.int .i64 c)).setCell ⟨q, 1, none⟩ (.int .i64 c)).setCell ⟨q, 2, none⟩ (.slice (some ⟨g, 0, none⟩) n d)) g 0 d Z := by
  have g1 := put_grown wr q c c (some ⟨g, 0, none⟩) n d
  exact ⟨put_box hb _ _ _ _ _, FS.to f g1.size (fun p hp => by
    obtain ⟨off, e⟩ := hp
    simp only [Option.some.injEq, Addr.mk.injEq] at e
    obtain ⟨rfl, _⟩ := e
    have hne : g ≠ q := by omega
    rw [Below.heap_setCell _ _ _ _ hne, Below.heap_setCell _ _ _ _ hne, Below.heap_setCell _ _ _ _ hne]), hv, hf, h1, h2⟩
end Go.Proofs.Ytffmjfgechdjjac
