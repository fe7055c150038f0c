/- Helper: a copy of a matrix under way: what stays, what is stored; copies of matrices, of the program. Conditions: none. -/
import Derived.Test.YtcibjkadlndejaaWork
import Derived.Test.YtcibjkadlndejaaMid
import Derived.Deep.RegionHeld3
set_option linter.unusedVariables false
set_option linter.unusedSimpArgs false
namespace Go.Proofs.Ytcibjkadlndejaa
open Go.RowKit

/-- A new matrix under way: its row, the box that tells it, the box of the result, and all that was there. -/
structure Wk (W0 : World) (B U g d ub rb : Nat) (R C : Int) (n : Nat) (Z : Nat → Nat) (wr : World) : Prop where
  own : Own 41 .f32 B U wr (some ⟨g, 0, none⟩) n d Z
  box : Box wr ub R C (some ⟨g, 0, none⟩) n d
  res : Box wr rb 0 0 none 0 0
  bel : Below W0.heap.size W0 wr
  lo : W0.heap.size ≤ rb
  mid : rb < B
  hi : U ≤ ub
  top : ub < wr.heap.size
  ice : ∀ i, wr.frozen? ⟨rb, i, none⟩ = false
  ice2 : ∀ i, wr.frozen? ⟨ub, i, none⟩ = false
theorem Wk.below {W0 wr w' : World} {B U g d ub rb : Nat} {R C : Int} {n : Nat} {Z : Nat → Nat} (h : Wk W0 B U g d ub rb R C n Z wr) (hb : Below wr.heap.size wr w') (hU : U ≤ wr.heap.size) (hrb : rb < wr.heap.size) : Wk W0 B U g d ub rb R C n Z w' :=
  ⟨h.own.kept (below_grew hb) (fun q hq => by cases hq), h.box.below hb h.top, h.res.below hb hrb, h.bel.trans (hb.mono h.bel.size), h.lo, h.mid, h.hi, Nat.lt_of_lt_of_le h.top hb.size, fun i => (hb.frozen (p := ⟨rb, i, none⟩) hrb).trans (h.ice i), fun i => (hb.frozen (p := ⟨ub, i, none⟩) h.top).trans (h.ice2 i)⟩
theorem Wk.same {W0 wr : World} {B U g d ub rb : Nat} {R C : Int} {n : Nat} {Z Y : Nat → Nat} (h : Wk W0 B U g d ub rb R C n Z wr) (e : ∀ j, j < n → Z j = Y j) : Wk W0 B U g d ub rb R C n Y wr :=
  ⟨h.own.same e, h.box, h.res, h.bel, h.lo, h.mid, h.hi, h.top, h.ice, h.ice2⟩
theorem Wk.facts {W0 wr : World} {B U g d ub rb : Nat} {R C : Int} {n : Nat} {Z : Nat → Nat} (h : Wk W0 B U g d ub rb R C n Z wr) (h0 : 0 < n) : B ≤ g ∧ g < U ∧ U ≤ wr.heap.size ∧ rb < wr.heap.size := by
  obtain ⟨_, _, h1, h2, h3, _⟩ := h.own.cell h0
  have := h.mid
  exact ⟨h1, h2, h3, by omega⟩
theorem Wk.stored {W0 wr : World} {B U g d ub rb : Nat} {R C : Int} {n : Nat} {Z : Nat → Nat} (h : Wk W0 B U g d ub rb R C n Z wr) {t v : Nat} (ht : t < n) (hv : (Lit.float .f32 v).wf = true) :
    Wk W0 B U g d ub rb R C n (fun j => if j = t then v else Z j) (wr.setCell ⟨g, t, none⟩ (.float .f32 v)) := by
  obtain ⟨ho, hg⟩ := h.own.stored ht hv
  obtain ⟨_, _, h1, h2, h3, _⟩ := h.own.cell ht
  have m := h.mid
  have l := h.lo
  have i := h.hi
  have tp := h.top
  exact ⟨ho, h.box.grown hg h.top (fun q hq => by cases hq; omega), h.res.grown hg (by omega) (fun q hq => by cases hq; omega), h.bel.grown hg h.bel.size (fun q hq => by cases hq; omega), h.lo, h.mid, h.hi, Nat.lt_of_lt_of_le h.top hg.size,
    fun i => (World.frozen?_of_block (a := ⟨rb, i, none⟩) (hg.block rb (by omega) (fun e => by cases e; omega))).trans (h.ice i),
    fun i => (World.frozen?_of_block (a := ⟨ub, i, none⟩) (hg.block ub h.top (fun e => by cases e; omega))).trans (h.ice2 i)⟩
theorem Wk.drewN {W0 wr : World} {B U g d ub rb m : Nat} {R C : Int} {n : Nat} {Z : Nat → Nat} (h : Wk W0 B U g d ub rb R C n Z wr) : Wk W0 B U g d ub rb R C n Z (wr.drewN m) :=
  ⟨h.own, h.box, h.res, below_drewN h.bel m, h.lo, h.mid, h.hi, h.top, h.ice, h.ice2⟩


theorem Wk.start {W0 w1 : World} {B g d n rb : Nat} {R C : Int} {Z : Nat → Nat} (T2 : TypeId) (o : Own 41 .f32 B w1.heap.size w1 (some ⟨g, 0, none⟩) n d Z) (X : Box w1 rb 0 0 none 0 0) (I : ∀ i, w1.frozen? ⟨rb, i, none⟩ = false)
    (hb : Below W0.heap.size W0 w1) (lo : W0.heap.size ≤ rb) (mid : rb < B) (hr : rb < w1.heap.size) :
    Wk W0 B w1.heap.size g d w1.heap.size rb R C n Z (w1.alloc (.cells #[.int .i64 R, .int .i64 C, .slice (some ⟨g, 0, none⟩) n d] T2)) := by
  have b2 : Below w1.heap.size w1 (w1.alloc (.cells #[.int .i64 R, .int .i64 C, .slice (some ⟨g, 0, none⟩) n d] T2)) := (by repeat first | (with_reducible exact Below.refl _ _) | (with_reducible refine Below.setCell ?_ (by first | exact Nat.le_refl _ | (simp; done) | (simp; omega) | omega) _) | (with_reducible refine Below.alloc ?_ (by first | exact Nat.le_refl _ | (simp; done) | (simp; omega) | omega) _) | (with_reducible refine below_drewN ?_ _) | (with_reducible refine Below.drew ?_))
  exact ⟨o.kept (below_grew b2) (fun q hq => by cases hq), Box.new _ _ _ _ _ _ _, X.below b2 hr, hb.trans (b2.mono hb.size), lo, mid, Nat.le_refl _, by simp,
    fun i => (b2.frozen (p := ⟨rb, i, none⟩) hr).trans (I i), fun i => by simp [go_sem]⟩
theorem heldK {w0 W w' : World} {b B : Nat} {u0 u1 u2 : Value} (hs : W.cell? ⟨b, 0, none⟩ = some u0 ∧ W.cell? ⟨b, 1, none⟩ = some u1 ∧ W.cell? ⟨b, 2, none⟩ = some u2 ∧ Below B w0 W)
    (hb : Below W.heap.size W w') (l : b < w0.heap.size) (lB : B ≤ w0.heap.size) : w'.cell? ⟨b, 0, none⟩ = some u0 ∧ w'.cell? ⟨b, 1, none⟩ = some u1 ∧ w'.cell? ⟨b, 2, none⟩ = some u2 ∧ Below B w0 w' := by
  obtain ⟨h0, h1, h2, h6⟩ := hs
  have e0 := h6.size
  have e1 : b < W.heap.size := Nat.lt_of_lt_of_le l e0
  exact ⟨(hb.cell (p := ⟨b, 0, none⟩) e1).trans h0, (hb.cell (p := ⟨b, 1, none⟩) e1).trans h1, (hb.cell (p := ⟨b, 2, none⟩) e1).trans h2, h6.trans (hb.mono (Nat.le_trans lB e0))⟩
theorem heldSetK {w0 W : World} {b B R : Nat} {u0 u1 u2 v0 v1 v2 : Value} (hs : W.cell? ⟨b, 0, none⟩ = some u0 ∧ W.cell? ⟨b, 1, none⟩ = some u1 ∧ W.cell? ⟨b, 2, none⟩ = some u2 ∧ Below B w0 W) (l : b < B) (hR : B ≤ R) :
    (((W.setCell ⟨R, 0, none⟩ v0).setCell ⟨R, 1, none⟩ v1).setCell ⟨R, 2, none⟩ v2).cell? ⟨b, 0, none⟩ = some u0 ∧ (((W.setCell ⟨R, 0, none⟩ v0).setCell ⟨R, 1, none⟩ v1).setCell ⟨R, 2, none⟩ v2).cell? ⟨b, 1, none⟩ = some u1 ∧
    (((W.setCell ⟨R, 0, none⟩ v0).setCell ⟨R, 1, none⟩ v1).setCell ⟨R, 2, none⟩ v2).cell? ⟨b, 2, none⟩ = some u2 ∧ Below B w0 (((W.setCell ⟨R, 0, none⟩ v0).setCell ⟨R, 1, none⟩ v1).setCell ⟨R, 2, none⟩ v2) := by
  obtain ⟨h0, h1, h2, h6⟩ := hs
  have hne : ∀ o q, (⟨R, o, none⟩ : Addr) ≠ ⟨b, q, none⟩ := fun o q e => by cases e; omega
  refine ⟨?_, ?_, ?_, ((h6.setCell (by exact hR) _).setCell (by exact hR) _).setCell (by exact hR) _⟩
  · rw [World.cell?_setCell_other _ _ _ _ (hne 2 0), World.cell?_setCell_other _ _ _ _ (hne 1 0), World.cell?_setCell_other _ _ _ _ (hne 0 0)]; exact h0
  · rw [World.cell?_setCell_other _ _ _ _ (hne 2 1), World.cell?_setCell_other _ _ _ _ (hne 1 1), World.cell?_setCell_other _ _ _ _ (hne 0 1)]; exact h1
  · rw [World.cell?_setCell_other _ _ _ _ (hne 2 2), World.cell?_setCell_other _ _ _ _ (hne 1 2), World.cell?_setCell_other _ _ _ _ (hne 0 2)]; exact h2
set_option maxRecDepth 20000 in
set_option maxHeartbeats 2000000 in
theorem copyOf_any (R C : Int) (b off n c : Nat) (Z : Nat → Nat) (w : World) (h0 : 0 < n) (hn : n ≤ 1048576) (h : FS .f32 w (some ⟨b, off, none⟩) n c Z) :
    Calls Try.prog 56 #[.agg #[.int .i64 R, .int .i64 C, .slice (some ⟨b, off, none⟩) n c]] w fun e w' => ∃ g d, e = .returned (.agg #[.int .i64 R, .int .i64 C, .slice (some ⟨g, 0, none⟩) n d]) ∧ Own 41 .f32 w.heap.size w'.heap.size w' (some ⟨g, 0, none⟩) n d Z ∧ Below w.heap.size w w' := by
  have XA : Box ((w.alloc (.cells #[.int .i64 R, .int .i64 C, .slice (some ⟨b, off, none⟩) n c] 26)).alloc (.cells #[.int .i64 0, .int .i64 0, .slice none 0 0] 26)) w.heap.size R C (some ⟨b, off, none⟩) n c := by refine ⟨?_, ?_, ?_⟩ <;> simp [go_sem]
  have XR : Box ((w.alloc (.cells #[.int .i64 R, .int .i64 C, .slice (some ⟨b, off, none⟩) n c] 26)).alloc (.cells #[.int .i64 0, .int .i64 0, .slice none 0 0] 26)) (w.heap.size + 1) 0 0 none 0 0 := by refine ⟨?_, ?_, ?_⟩ <;> simp [go_sem]
  have IR : ∀ i, ((w.alloc (.cells #[.int .i64 R, .int .i64 C, .slice (some ⟨b, off, none⟩) n c] 26)).alloc (.cells #[.int .i64 0, .int .i64 0, .slice none 0 0] 26)).frozen? ⟨w.heap.size + 1, i, none⟩ = false := fun i => by simp [go_sem]
  have B0 : Below w.heap.size w ((w.alloc (.cells #[.int .i64 R, .int .i64 C, .slice (some ⟨b, off, none⟩) n c] 26)).alloc (.cells #[.int .i64 0, .int .i64 0, .slice none 0 0] 26)) := (by repeat first | (with_reducible exact Below.refl _ _) | (with_reducible refine Below.setCell ?_ (by first | exact Nat.le_refl _ | (simp; done) | (simp; omega) | omega) _) | (with_reducible refine Below.alloc ?_ (by first | exact Nat.le_refl _ | (simp; done) | (simp; omega) | omega) _) | (with_reducible refine below_drewN ?_ _) | (with_reducible refine Below.drew ?_))
  have s0 : w.heap.size + 1 < ((w.alloc (.cells #[.int .i64 R, .int .i64 C, .slice (some ⟨b, off, none⟩) n c] 26)).alloc (.cells #[.int .i64 0, .int .i64 0, .slice none 0 0] 26)).heap.size := by simp
  go_enter Try.func56, Try.ntmps56
  go_wp2_with fail
  generalize (w.alloc (.cells #[.int .i64 R, .int .i64 C, .slice (some ⟨b, off, none⟩) n c] 26)).alloc (.cells #[.int .i64 0, .int .i64 0, .slice none 0 0] 26) = w0 at XA XR IR B0 s0 ⊢
  have F0 := h.below B0 (Nat.le_refl _)
  obtain ⟨x0, x1, x2⟩ := XA
  obtain ⟨z0, z1, z2⟩ := XR
  have l0 : w.heap.size < w0.heap.size := by omega
  have l2 : w.heap.size + 1 ≤ w0.heap.size := by omega
  have hF := Lib.hid (fun (W : World) (hb : Below (w.heap.size + 1) w0 W) => h.below (B0.trans (hb.mono (Nat.le_succ _))) (Nat.le_refl _))
  have HC := Lib.hid (fun (W : World) (hb : Below w0.heap.size w0 W) => (show W.cell? ⟨w.heap.size + 1, 0, none⟩ = some (.int .i64 0) ∧ W.cell? ⟨w.heap.size + 1, 1, none⟩ = some (.int .i64 0) ∧ W.cell? ⟨w.heap.size + 1, 2, none⟩ = some (.slice none 0 0) ∧ ∀ i, W.frozen? ⟨w.heap.size + 1, i, none⟩ = false from
    ⟨(hb.cell (p := ⟨w.heap.size + 1, 0, none⟩) s0).trans z0, (hb.cell (p := ⟨w.heap.size + 1, 1, none⟩) s0).trans z1, (hb.cell (p := ⟨w.heap.size + 1, 2, none⟩) s0).trans z2, fun i => (hb.frozen (p := ⟨w.heap.size + 1, i, none⟩) s0).trans (IR i)⟩))
  clear F0 h
  go_region_held3 (fun w' => w'.cell? ⟨w.heap.size, 0, none⟩ = some (.int .i64 R) ∧ w'.cell? ⟨w.heap.size, 1, none⟩ = some (.int .i64 C) ∧ w'.cell? ⟨w.heap.size, 2, none⟩ = some (.slice (some ⟨b, off, none⟩) n c) ∧ Below (w.heap.size + 1) w0 w')
    (first | exact ⟨x0, x1, x2, (by first | exact (Below.refl _ _).drew | exact (below_drewN (Below.refl _ _) _).drew)⟩ | exact heldK (by assumption) (by assumption) l0 l2 | exact heldSetK (by assumption) (Nat.lt_succ_self _) (Nat.le_refl _))
    (first
      | (go_at_call 57; refine (clone_any b off n c Z _ h0 hn (hF.out _ (by go_split_ands; assumption))).mono ?_; rintro e w1 ⟨g, d, rfl, o1, b1⟩; have bb1 : Below w0.heap.size w0 w1 := Below.trans ((Below.refl _ _).drew) (b1.mono (Nat.le_refl _)); obtain ⟨y0, y1, y2, y3⟩ := HC.out _ bb1))
  all_goals
    have B1 := B0.trans (bb1.mono B0.size)
    have s1 := bb1.size
    have o2 := Own.mono (B' := w0.heap.size) o1 (by simp <;> omega) (Nat.le_refl _) (Nat.le_refl _)
    clear bb1 b1 o1 hF HC
    go_wp2_with fail
    refine bodyPost_ret (v := .agg #[.int .i64 R, .int .i64 C, .slice (some ⟨g, 0, none⟩) n d]) (by simp [results, Try.results56, go_sem, y0, y1, y2]) rfl ?_
    refine ⟨g, d, rfl, ?_, (by repeat first | (with_reducible exact B1) | (with_reducible refine Below.setCell ?_ (by first | exact Nat.le_refl _ | (simp; done) | (simp; omega) | omega) _) | (with_reducible refine Below.alloc ?_ (by first | exact Nat.le_refl _ | (simp; done) | (simp; omega) | omega) _) | (with_reducible refine below_drewN ?_ _) | (with_reducible refine Below.drew ?_))⟩
    exact (by refine Own.to o2 (hk := fun g hg1 hg2 => by (try simp at hg1 hg2); repeat (first | rw [Below.heap_setCell _ _ _ _ (by simp; omega)] | rw [Below.heap_alloc _ _ _ (by simp [World.setCell]; omega)])) ?_ ?_ ?_ ?_ <;> (first | exact Nat.le_refl _ | omega | (simp [World.setCell]; done) | (simp [World.setCell]; omega)))
end Go.Proofs.Ytcibjkadlndejaa
