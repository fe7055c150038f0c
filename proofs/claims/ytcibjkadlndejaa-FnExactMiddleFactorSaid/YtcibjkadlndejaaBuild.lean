/- Helper: a matrix of the reference under way: a list that grows by one number a round. Conditions: none. -/
import Derived.Test.YtcibjkadlndejaaWork
import Derived.Deep.AppendLies
set_option linter.unusedVariables false
set_option linter.unusedSimpArgs false
namespace Go.Proofs.Ytcibjkadlndejaa
open Go.RowKit

theorem ownsRow_below {w w' : World} {base : Nat} {e : TypeId} {size : Nat} {v : Value} {n : Nat} {xs : List Value} (h : w.ownsRow base e size v n xs) (hb : Below w.heap.size w w') : w'.ownsRow base e size v n xs :=
  h.kept (below_grew hb) (by cases hv : v.ownBlock <;> simp)

/-- A list of j numbers in a box of its own, that tell V. -/
structure Build (W0 : World) (ob rb : Nat) (R C : Int) (j : Nat) (V : Nat → Option Nat) (wr : World) (a : Option Addr) (cap : Nat) (xs : List Value) : Prop where
  own : wr.ownsRow W0.heap.size 41 1 (.slice a j cap) j xs
  val : ∀ t, t < j → ∃ r, xs[t]? = some (.float .f32 r) ∧ FV .f32 r (V t)
  box : Box wr ob R C a j cap
  res : Box wr rb 0 0 none 0 0
  bel : Below W0.heap.size W0 wr
  far : ∀ q, (Value.slice a j cap).ownBlock = some q → q ≠ ob ∧ q ≠ rb
  lo : W0.heap.size ≤ rb
  mid : rb < ob
  top : ob < wr.heap.size
  ice : ∀ i, wr.frozen? ⟨rb, i, none⟩ = false
  ice2 : ∀ i, wr.frozen? ⟨ob, i, none⟩ = false

/-- One number more. -/
theorem Build.step {W0 wr wx w' : World} {ob rb : Nat} {R C : Int} {j : Nat} {V : Nat → Option Nat} {a : Option Addr} {cap : Nat} {xs : List Value} (h : Build W0 ob rb R C j V wr a cap xs)
    (hb : Below wr.heap.size wr wx) {g cap' r : Nat} (ho : w'.ownsRow W0.heap.size 41 1 (.slice (some ⟨g, 0, none⟩) (j + 1) cap') (j + 1) (xs ++ [.float .f32 r]))
    (hg : wx.grownBy w' (Value.slice a j cap).ownBlock) (hat : (Value.slice a j cap).ownBlock = some g ∨ g = wx.heap.size) (hr : FV .f32 r (V j)) :
    Build W0 ob rb R C (j + 1) V (w'.setCell ⟨ob, 2, none⟩ (.slice (some ⟨g, 0, none⟩) (j + 1) cap')) (some ⟨g, 0, none⟩) cap' (xs ++ [.float .f32 r]) := by
  have hs := hb.size
  have hl := h.lo
  have hm := h.mid
  have ht := h.top
  have hgne : g ≠ ob ∧ g ≠ rb := by
    rcases hat with e | e
    · exact h.far g e
    · omega
  have hrow : ∀ q, (Value.slice a j cap).ownBlock = some q → W0.heap.size ≤ q := fun q hq => (h.own.lt q hq).1
  have hbw : Below W0.heap.size W0 w' := (h.bel.trans (hb.mono h.bel.size)).grown hg (by have := h.bel.size; omega) hrow
  have hx : Box w' ob R C a j cap := (h.box.below hb ht).grown hg (by omega) (fun q hq e => (h.far q hq).1 e.symm)
  have hrs : Box w' rb 0 0 none 0 0 := (h.res.below hb (by omega)).grown hg (by omega) (fun q hq e => (h.far q hq).2 e.symm)
  have hlen : xs.length = j := by simpa using h.own.1
  have hsz : wx.heap.size ≤ w'.heap.size := hg.size
  refine ⟨?_, fun t htj => ?_, ?_, ?_, hbw.setCell (by show W0.heap.size ≤ ob; omega) _, fun q hq => ?_, h.lo, h.mid, ?_, fun i => ?_, fun i => ?_⟩
  · refine ho.kept (row := some ob) ⟨rfl, rfl, rfl, by simp, fun k _ hk => Below.heap_setCell _ _ _ _ (fun e => hk (by simp [e]))⟩ (.inr ?_)
    simp [Value.ownBlock]; exact hgne.1
  · by_cases e : t = j
    · subst e
      exact ⟨r, by rw [List.getElem?_append_right (by omega), hlen]; simp, hr⟩
    · obtain ⟨q, hq, hv⟩ := h.val t (by omega)
      exact ⟨q, by rw [List.getElem?_append_left (by omega)]; exact hq, hv⟩
  · obtain ⟨x0, x1, x2⟩ := hx
    refine ⟨?_, ?_, ?_⟩
    · rw [World.cell?_setCell_other _ _ _ _ (by simp)]; exact x0
    · rw [World.cell?_setCell_other _ _ _ _ (by simp)]; exact x1
    · exact World.cell?_setCell_same _ _ _ x2
  · obtain ⟨x0, x1, x2⟩ := hrs
    refine ⟨?_, ?_, ?_⟩ <;> (rw [World.cell?_setCell_other _ _ _ _ (by simp <;> omega)]; assumption)
  · simp [Value.ownBlock] at hq; subst hq; exact hgne
  · simp [World.setCell]; omega
  · rw [World.frozen?_setCell]
    exact ((World.frozen?_of_block (a := ⟨rb, i, none⟩) (hg.block rb (by omega) (fun e => (h.far rb e.symm).2 rfl))).trans (hb.frozen (p := ⟨rb, i, none⟩) (by show rb < wr.heap.size; omega))).trans (h.ice i)
  · rw [World.frozen?_setCell]
    exact ((World.frozen?_of_block (a := ⟨ob, i, none⟩) (hg.block ob (by omega) (fun e => (h.far ob e.symm).1 rfl))).trans (hb.frozen (p := ⟨ob, i, none⟩) ht)).trans (h.ice2 i)

/-- What is read behind the last round. -/
theorem Build.fs {W0 wr : World} {ob rb : Nat} {R C : Int} {j : Nat} {V : Nat → Option Nat} {a : Option Addr} {cap : Nat} {xs : List Value} (h : Build W0 ob rb R C j V wr a cap xs) :
    ∃ Y, FS .f32 wr a j cap Y ∧ ∀ i, i < j → vals Y i = V i := by
  obtain ⟨Y, hY⟩ := choose_upto (p := fun t r => xs[t]? = some (.float .f32 r) ∧ FV .f32 r (V t)) j h.val
  refine ⟨Y, ?_, fun i hi => (hY i hi).2.1⟩
  have hlen : xs.length = j := by simpa using h.own.1
  rcases h.own.2 with ⟨e, e0⟩ | ⟨g, cap', cur, e, hbg, hh, hjc, hcm, hcs, htake⟩
  · simp at e
    obtain ⟨rfl, rfl, rfl⟩ := e
    exact ⟨Nat.le_refl _, Nat.zero_le _, fun i hi => by omega⟩
  · simp only [Value.slice.injEq, true_and] at e
    obtain ⟨rfl, rfl⟩ := e
    refine ⟨hjc, hcm, fun i hi => ⟨g, 0, rfl, (Array.getElem?_eq_some_iff.1 hh).1, ?_, (hY i hi).2.2⟩⟩
    rw [Nat.zero_add, h.own.cellAt i (by omega)]
    exact (hY i hi).1
theorem Build.drewN {W0 wr : World} {ob rb m : Nat} {R C : Int} {j : Nat} {V : Nat → Option Nat} {a : Option Addr} {cap : Nat} {xs : List Value} (h : Build W0 ob rb R C j V wr a cap xs) : Build W0 ob rb R C j V (wr.drewN m) a cap xs :=
  ⟨h.own, h.val, h.box, h.res, below_drewN h.bel m, h.far, h.lo, h.mid, h.top, h.ice, h.ice2⟩
theorem Build.below {W0 wr w' : World} {ob rb : Nat} {R C : Int} {j : Nat} {V : Nat → Option Nat} {a : Option Addr} {cap : Nat} {xs : List Value} (h : Build W0 ob rb R C j V wr a cap xs) (hb : Below wr.heap.size wr w') : Build W0 ob rb R C j V w' a cap xs :=
  ⟨ownsRow_below h.own hb, h.val, h.box.below hb h.top, h.res.below hb (by have := h.mid; have := h.top; omega), h.bel.trans (hb.mono h.bel.size), h.far, h.lo, h.mid, Nat.lt_of_lt_of_le h.top hb.size,
    fun i => (hb.frozen (p := ⟨rb, i, none⟩) (by show rb < wr.heap.size; have := h.mid; have := h.top; omega)).trans (h.ice i), fun i => (hb.frozen (p := ⟨ob, i, none⟩) h.top).trans (h.ice2 i)⟩

/-- What a region keeps that reads two sides beside what makes memory. -/
theorem held1 {w0 W w' : World} {p : Nat} {u0 u1 : Value} (hs : W.cell? ⟨p, 0, none⟩ = some u0 ∧ W.cell? ⟨p, 1, none⟩ = some u1 ∧ Below w0.heap.size w0 W) (hb : Below W.heap.size W w') (l : p < w0.heap.size) :
    w'.cell? ⟨p, 0, none⟩ = some u0 ∧ w'.cell? ⟨p, 1, none⟩ = some u1 ∧ Below w0.heap.size w0 w' := by
  obtain ⟨h0, h1, h2⟩ := hs
  have e1 : p < W.heap.size := Nat.lt_of_lt_of_le l h2.size
  exact ⟨(hb.cell (p := ⟨p, 0, none⟩) e1).trans h0, (hb.cell (p := ⟨p, 1, none⟩) e1).trans h1, h2.trans (hb.mono h2.size)⟩
theorem held1b {w0 w' : World} {p : Nat} {u0 u1 : Value} (h0 : w0.cell? ⟨p, 0, none⟩ = some u0) (h1 : w0.cell? ⟨p, 1, none⟩ = some u1) (l : p < w0.heap.size) (hb : Below w0.heap.size w0 w') :
    w'.cell? ⟨p, 0, none⟩ = some u0 ∧ w'.cell? ⟨p, 1, none⟩ = some u1 ∧ Below w0.heap.size w0 w' :=
  ⟨(hb.cell (p := ⟨p, 0, none⟩) l).trans h0, (hb.cell (p := ⟨p, 1, none⟩) l).trans h1, hb⟩

/-- A slice of another block stays. -/
theorem FS.to {k : FloatKind} {w w' : World} {a : Option Addr} {n c : Nat} {Z : Nat → Nat} (h : FS k w a n c Z) (hs : w.heap.size ≤ w'.heap.size) (hk : ∀ q, (∃ off, a = some ⟨q, off, none⟩) → w'.heap[q]? = w.heap[q]?) : FS k w' a n c Z :=
  ⟨h.1, h.2.1, fun i hi => by
    obtain ⟨b, off, e, hl, hc, hw⟩ := h.2.2 i hi
    exact ⟨b, off, e, Nat.lt_of_lt_of_le hl hs, (World.cell?_of_block (a := ⟨b, off + i, none⟩) (hk b ⟨off, e⟩)).trans hc, hw⟩⟩

/-- A new matrix, to be read. -/
def NewRead (w : World) (R C : Int) (n : Nat) (V : Nat → Option Nat) (e : Ending) (w' : World) : Prop :=
  ∃ a cap Y, e = .returned (.agg #[.int .i64 R, .int .i64 C, .slice a n cap]) ∧ FS .f32 w' a n cap Y ∧ (∀ q off, a = some ⟨q, off, none⟩ → w.heap.size ≤ q) ∧ (∀ i, i < n → vals Y i = V i) ∧ Below w.heap.size w w'

/-- The start, where the box is made behind the list. -/
theorem Build.start1 {w w0 w1 : World} {g : Nat} {R C : Int} {V : Nat → Option Nat} {T1 T2 : TypeId} (h0 : w0.heap.size = w.heap.size + 1) (b1 : Below w0.heap.size w0 w1) (hz : Box w0 w.heap.size 0 0 none 0 0) (hi : ∀ i, w0.frozen? ⟨w.heap.size, i, none⟩ = false)
    (B0 : Below w.heap.size w w0) (o1 : w1.ownsRow w0.heap.size 41 1 (.slice (some ⟨g, 0, none⟩) 0 0) 0 []) :
    Build w w1.heap.size w.heap.size R C 0 V (w1.alloc (.cells #[.int .i64 R, .int .i64 C, .slice (some ⟨g, 0, none⟩) 0 0] T2)) (some ⟨g, 0, none⟩) 0 [] := by
  have s1 := b1.size
  have hl := o1.lt g rfl
  have b2 : Below w1.heap.size w1 (w1.alloc (.cells #[.int .i64 R, .int .i64 C, .slice (some ⟨g, 0, none⟩) 0 0] T2)) := (by repeat first | (with_reducible exact Below.refl _ _) | (with_reducible refine Below.setCell ?_ (by first | exact Nat.le_refl _ | (simp; done) | (simp; omega) | omega) _) | (with_reducible refine Below.alloc ?_ (by first | exact Nat.le_refl _ | (simp; done) | (simp; omega) | omega) _) | (with_reducible refine below_drewN ?_ _) | (with_reducible refine Below.drew ?_))
  have B1 := B0.trans (b1.mono B0.size)
  refine ⟨?_, fun t ht => by omega, Box.new _ _ _ _ _ _ _, (hz.below b1 (by omega)).below b2 (by omega), B1.trans (b2.mono B1.size), fun q hq => ?_, Nat.le_refl _, by omega, by simp, fun i => ?_, fun i => by simp [go_sem]⟩
  · have hh := ownsRow_below o1 b2
    refine ⟨hh.1, ?_⟩
    rcases hh.2 with hh | ⟨g', cap, cur, e, hb, r⟩
    · exact .inl hh
    · exact .inr ⟨g', cap, cur, e, by omega, r⟩
  · simp [Value.ownBlock] at hq; subst hq; omega
  · have e1 := b2.frozen (p := ⟨w.heap.size, i, none⟩) (by show w.heap.size < w1.heap.size; omega)
    have e2 := b1.frozen (p := ⟨w.heap.size, i, none⟩) (by show w.heap.size < w0.heap.size; omega)
    rw [e1, e2]; exact hi i
/-- The start, where the box is made before the list. -/
theorem Build.start2 {w w0 w1 : World} {g : Nat} {R C : Int} {V : Nat → Option Nat} (h0 : w0.heap.size = w.heap.size + 1 + 1) (b1 : Below w0.heap.size w0 w1) (hz : Box w0 w.heap.size 0 0 none 0 0) (hi : ∀ i, w0.frozen? ⟨w.heap.size, i, none⟩ = false)
    (hz2 : Box w0 (w.heap.size + 1) 0 0 none 0 0) (hi2 : ∀ i, w0.frozen? ⟨w.heap.size + 1, i, none⟩ = false)
    (B0 : Below w.heap.size w w0) (o1 : w1.ownsRow w0.heap.size 41 1 (.slice (some ⟨g, 0, none⟩) 0 0) 0 []) :
    Build w (w.heap.size + 1) w.heap.size R C 0 V (((w1.setCell ⟨w.heap.size + 1, 0, none⟩ (.int .i64 R)).setCell ⟨w.heap.size + 1, 1, none⟩ (.int .i64 C)).setCell ⟨w.heap.size + 1, 2, none⟩ (.slice (some ⟨g, 0, none⟩) 0 0)) (some ⟨g, 0, none⟩) 0 [] := by
  have s1 := b1.size
  have hl := o1.lt g rfl
  have B1 := B0.trans (b1.mono B0.size)
  obtain ⟨z0, z1, z2⟩ := hz.below b1 (by omega)
  obtain ⟨y0, y1, y2⟩ := hz2.below b1 (by omega)
  refine ⟨?_, fun t ht => by omega, ⟨?_, ?_, ?_⟩, ⟨?_, ?_, ?_⟩, (by repeat first | (with_reducible exact B1) | (with_reducible refine Below.setCell ?_ (by first | exact Nat.le_refl _ | (simp; done) | (simp; omega) | omega) _) | (with_reducible refine Below.alloc ?_ (by first | exact Nat.le_refl _ | (simp; done) | (simp; omega) | omega) _) | (with_reducible refine below_drewN ?_ _) | (with_reducible refine Below.drew ?_)), fun q hq => ?_, Nat.le_refl _, by omega, ?_, fun i => ?_, fun i => ?_⟩
  · refine ⟨o1.1, ?_⟩
    rcases o1.2 with hh | ⟨g', cap, cur, e, hb, hc, r⟩
    · exact .inl hh
    · refine .inr ⟨g', cap, cur, e, by omega, ?_, r⟩
      have hg : w.heap.size + 1 < g' := by omega
      rw [Below.heap_setCell _ _ _ _ (by simp; omega), Below.heap_setCell _ _ _ _ (by simp; omega), Below.heap_setCell _ _ _ _ (by simp; omega)]
      exact hc
  · rw [World.cell?_setCell_other _ _ _ _ (by simp), World.cell?_setCell_other _ _ _ _ (by simp)]; exact World.cell?_setCell_same _ _ _ y0
  · rw [World.cell?_setCell_other _ _ _ _ (by simp)]; exact World.cell?_setCell_same _ _ _ (by rw [World.cell?_setCell_other _ _ _ _ (by simp)]; exact y1)
  · exact World.cell?_setCell_same _ _ _ (by rw [World.cell?_setCell_other _ _ _ _ (by simp), World.cell?_setCell_other _ _ _ _ (by simp)]; exact y2)
  · rw [World.cell?_setCell_other _ _ _ _ (by simp), World.cell?_setCell_other _ _ _ _ (by simp), World.cell?_setCell_other _ _ _ _ (by simp)]; exact z0
  · rw [World.cell?_setCell_other _ _ _ _ (by simp), World.cell?_setCell_other _ _ _ _ (by simp), World.cell?_setCell_other _ _ _ _ (by simp)]; exact z1
  · rw [World.cell?_setCell_other _ _ _ _ (by simp), World.cell?_setCell_other _ _ _ _ (by simp), World.cell?_setCell_other _ _ _ _ (by simp)]; exact z2
  · simp [Value.ownBlock] at hq; subst hq; omega
  · simp [World.setCell]; omega
  · rw [World.frozen?_setCell, World.frozen?_setCell, World.frozen?_setCell]
    exact (b1.frozen (p := ⟨w.heap.size, i, none⟩) (by show w.heap.size < w0.heap.size; omega)).trans (hi i)
  · rw [World.frozen?_setCell, World.frozen?_setCell, World.frozen?_setCell]
    exact (b1.frozen (p := ⟨w.heap.size + 1, i, none⟩) (by show w.heap.size + 1 < w0.heap.size; omega)).trans (hi2 i)
end Go.Proofs.Ytcibjkadlndejaa
