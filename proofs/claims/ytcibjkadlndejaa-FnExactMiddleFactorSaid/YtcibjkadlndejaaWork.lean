/- Helper: a new matrix whose numbers are written one after another: what stays, what is stored. Conditions: none. -/
import Derived.Test.YtcibjkadlndejaaMatWalks
set_option linter.unusedVariables false
set_option linter.unusedSimpArgs false
namespace Go.Proofs.Ytcibjkadlndejaa
open Go.RowKit

theorem place_div {c j k : Nat} (hk : k < c) : (j * c + k) / c = j ∧ (j * c + k) % c = k := by
  have hc : 0 < c := by omega
  constructor
  · rw [Nat.mul_comm, Nat.mul_add_div hc, Nat.div_eq_of_lt hk, Nat.add_zero]
  · rw [Nat.mul_comm, Nat.mul_add_mod, Nat.mod_eq_of_lt hk]
theorem place_eq {c t : Nat} : t / c * c + t % c = t := by rw [Nat.mul_comm]; exact Nat.div_add_mod t c

/-- The row's own cells. -/
theorem Own.cell {T : TypeId} {k : FloatKind} {B U g : Nat} {w : World} {n c : Nat} {Z : Nat → Nat} (h : Own T k B U w (some ⟨g, 0, none⟩) n c Z) {t : Nat} (ht : t < n) :
    w.cell? ⟨g, t, none⟩ = some (.float k (Z t)) ∧ w.frozen? ⟨g, t, none⟩ = false ∧ B ≤ g ∧ g < U ∧ U ≤ w.heap.size ∧ (Lit.float k (Z t)).wf = true := by
  rcases h with ⟨h, _⟩ | ⟨g', xs, e, hcn, hm, h1, h2, h3, ho, hx, hw⟩
  · cases h
  · simp only [Option.some.injEq, Addr.mk.injEq, and_true] at e
    subst e
    refine ⟨?_, ho.frozenAt t, h1, h2, h3, hw t ht⟩
    rw [ho.cellAt t (by omega)]; exact hx t ht
/-- A number is stored. -/
theorem Own.stored {T : TypeId} {k : FloatKind} {B U g : Nat} {w : World} {n c : Nat} {Z : Nat → Nat} (h : Own T k B U w (some ⟨g, 0, none⟩) n c Z) {t v : Nat} (ht : t < n) (hv : (Lit.float k v).wf = true) :
    Own T k B U (w.setCell ⟨g, t, none⟩ (.float k v)) (some ⟨g, 0, none⟩) n c (fun j => if j = t then v else Z j) ∧ w.grownBy (w.setCell ⟨g, t, none⟩ (.float k v)) (some g) := by
  rcases h with ⟨h, _⟩ | ⟨g', xs, e, hcn, hm, h1, h2, h3, ho, hx, hw⟩
  · cases h
  · simp only [Option.some.injEq, Addr.mk.injEq, and_true] at e
    subst e
    obtain ⟨ho1, hg1⟩ := ho.stored t (.float k v)
    have hlen : xs.length = n := by simpa using ho.1
    refine ⟨.inr ⟨g, _, rfl, hcn, hm, h1, h2, Nat.le_trans h3 hg1.size, ho1, fun j hj => ?_, fun j hj => ?_⟩, hg1⟩
    · by_cases e : j = t
      · subst e; rw [List.getElem?_set_self (by omega)]; simp
      · rw [List.getElem?_set_ne (Ne.symm e), hx j hj]; simp [e]
    · by_cases e : j = t
      · subst e; simpa using hv
      · simpa [e] using hw j hj

/-- A new matrix under way: its row, the box that tells it, the box of the result, and all that was there. -/
structure Work (W0 : World) (B U g ub rb : Nat) (R C : Int) (n : Nat) (Z : Nat → Nat) (wr : World) : Prop where
  own : Own 41 .f32 B U wr (some ⟨g, 0, none⟩) n n Z
  box : Box wr ub R C (some ⟨g, 0, none⟩) n n
  res : Box wr rb 0 0 none 0 0
  bel : Below W0.heap.size W0 wr
  lo : W0.heap.size ≤ rb
  mid : rb < B
  hi : U ≤ ub
  top : ub < wr.heap.size
  ice : ∀ i, wr.frozen? ⟨rb, i, none⟩ = false
  ice2 : ∀ i, wr.frozen? ⟨ub, i, none⟩ = false
theorem Work.below {W0 wr w' : World} {B U g ub rb : Nat} {R C : Int} {n : Nat} {Z : Nat → Nat} (h : Work W0 B U g ub rb R C n Z wr) (hb : Below wr.heap.size wr w') (hU : U ≤ wr.heap.size) (hrb : rb < wr.heap.size) : Work W0 B U g ub rb R C n Z w' :=
  ⟨h.own.kept (below_grew hb) (fun q hq => by cases hq), h.box.below hb h.top, h.res.below hb hrb, h.bel.trans (hb.mono h.bel.size), h.lo, h.mid, h.hi, Nat.lt_of_lt_of_le h.top hb.size, fun i => (hb.frozen (p := ⟨rb, i, none⟩) hrb).trans (h.ice i), fun i => (hb.frozen (p := ⟨ub, i, none⟩) h.top).trans (h.ice2 i)⟩
theorem Work.same {W0 wr : World} {B U g ub rb : Nat} {R C : Int} {n : Nat} {Z Y : Nat → Nat} (h : Work W0 B U g ub rb R C n Z wr) (e : ∀ j, j < n → Z j = Y j) : Work W0 B U g ub rb R C n Y wr :=
  ⟨h.own.same e, h.box, h.res, h.bel, h.lo, h.mid, h.hi, h.top, h.ice, h.ice2⟩
theorem Work.facts {W0 wr : World} {B U g ub rb : Nat} {R C : Int} {n : Nat} {Z : Nat → Nat} (h : Work W0 B U g ub rb R C n Z wr) (h0 : 0 < n) : B ≤ g ∧ g < U ∧ U ≤ wr.heap.size ∧ rb < wr.heap.size := by
  obtain ⟨_, _, h1, h2, h3, _⟩ := h.own.cell h0
  have := h.mid
  exact ⟨h1, h2, h3, by omega⟩
theorem Work.stored {W0 wr : World} {B U g ub rb : Nat} {R C : Int} {n : Nat} {Z : Nat → Nat} (h : Work W0 B U g ub rb R C n Z wr) {t v : Nat} (ht : t < n) (hv : (Lit.float .f32 v).wf = true) :
    Work W0 B U g ub rb R C n (fun j => if j = t then v else Z j) (wr.setCell ⟨g, t, none⟩ (.float .f32 v)) := by
  obtain ⟨ho, hg⟩ := h.own.stored ht hv
  obtain ⟨_, _, h1, h2, h3, _⟩ := h.own.cell ht
  have m := h.mid
  have l := h.lo
  have i := h.hi
  have tp := h.top
  exact ⟨ho, h.box.grown hg h.top (fun q hq => by cases hq; omega), h.res.grown hg (by omega) (fun q hq => by cases hq; omega), h.bel.grown hg h.bel.size (fun q hq => by cases hq; omega), h.lo, h.mid, h.hi, Nat.lt_of_lt_of_le h.top hg.size,
    fun i => (World.frozen?_of_block (a := ⟨rb, i, none⟩) (hg.block rb (by omega) (fun e => by cases e; omega))).trans (h.ice i),
    fun i => (World.frozen?_of_block (a := ⟨ub, i, none⟩) (hg.block ub h.top (fun e => by cases e; omega))).trans (h.ice2 i)⟩
theorem Work.drewN {W0 wr : World} {B U g ub rb m : Nat} {R C : Int} {n : Nat} {Z : Nat → Nat} (h : Work W0 B U g ub rb R C n Z wr) : Work W0 B U g ub rb R C n Z (wr.drewN m) :=
  ⟨h.own, h.box, h.res, below_drewN h.bel m, h.lo, h.mid, h.hi, h.top, h.ice, h.ice2⟩

theorem Work.start {w w1 : World} {g n : Nat} {R C : Int} {Z : Nat → Nat} (T1 T2 : TypeId) (o : Own 41 .f32 (w.heap.size + 1) w1.heap.size w1 (some ⟨g, 0, none⟩) n n Z)
    (b1 : Below (w.alloc (.cells #[.int .i64 0, .int .i64 0, .slice none 0 0] T1)).heap.size (w.alloc (.cells #[.int .i64 0, .int .i64 0, .slice none 0 0] T1)) w1) :
    Work w (w.heap.size + 1) w1.heap.size g w1.heap.size w.heap.size R C n Z (w1.alloc (.cells #[.int .i64 R, .int .i64 C, .slice (some ⟨g, 0, none⟩) n n] T2)) := by
  have s1 : w.heap.size + 1 ≤ w1.heap.size := by have := b1.size; simpa using this
  have B1 : Below w.heap.size w w1 := Below.trans (by repeat first | (with_reducible exact Below.refl _ _) | (with_reducible refine Below.setCell ?_ (by first | exact Nat.le_refl _ | (simp; done) | (simp; omega) | omega) _) | (with_reducible refine Below.alloc ?_ (by first | exact Nat.le_refl _ | (simp; done) | (simp; omega) | omega) _) | (with_reducible refine below_drewN ?_ _) | (with_reducible refine Below.drew ?_)) (b1.mono (by simp))
  have X : Box w1 w.heap.size 0 0 none 0 0 := (Box.new _ _ _ _ _ _ _).below b1 (by simp)
  have b2 : Below w1.heap.size w1 (w1.alloc (.cells #[.int .i64 R, .int .i64 C, .slice (some ⟨g, 0, none⟩) n n] T2)) := (by repeat first | (with_reducible exact Below.refl _ _) | (with_reducible refine Below.setCell ?_ (by first | exact Nat.le_refl _ | (simp; done) | (simp; omega) | omega) _) | (with_reducible refine Below.alloc ?_ (by first | exact Nat.le_refl _ | (simp; done) | (simp; omega) | omega) _) | (with_reducible refine below_drewN ?_ _) | (with_reducible refine Below.drew ?_))
  exact ⟨o.kept (below_grew b2) (fun q hq => by cases hq), Box.new _ _ _ _ _ _ _, X.below b2 (by omega), B1.trans (b2.mono B1.size), Nat.le_refl _, by omega, Nat.le_refl _, by simp,
    fun i => by
      have e1 := b2.frozen (p := ⟨w.heap.size, i, none⟩) (by show w.heap.size < w1.heap.size; omega)
      have e2 := b1.frozen (p := ⟨w.heap.size, i, none⟩) (by simp)
      rw [e1, e2]; simp [go_sem],
    fun i => by simp [go_sem]⟩

/-- A matrix of nothing. -/
def NewZero (w : World) (r c n : Nat) (e : Ending) (w' : World) : Prop :=
  ∃ g, e = .returned (.agg #[.int .i64 r, .int .i64 c, .slice (some ⟨g, 0, none⟩) n n]) ∧ Own 41 .f32 w.heap.size w'.heap.size w' (some ⟨g, 0, none⟩) n n (fun _ => 0) ∧ Below w.heap.size w w'
theorem own_zero {w w' : World} {g B U n : Nat} (h : w'.ownsRow B 41 1 (.slice (some ⟨g, 0, none⟩) n n) n (madeCells #[Value.float .f32 0] n).toList) (hB : B ≤ g) (hU : g < U) (hs : U ≤ w'.heap.size) (hn : n ≤ maxLen) : Own 41 .f32 B U w' (some ⟨g, 0, none⟩) n n (fun _ => 0) :=
  .inr ⟨g, _, rfl, Nat.le_refl _, hn, hB, hU, hs, h, fun j hj => by
    rw [toList_madeCells_one, List.getElem?_replicate, if_pos hj], fun j hj => by show (Lit.float .f32 0).wf = true; decide⟩
theorem newMatrix_any (r c n : Nat) (w : World) (hr : r ≤ 12) (hc : c ≤ 12) (hn : n = r * c) :
    Calls Try.prog 41 #[.int .i64 r, .int .i64 c] w (NewZero w r c n) := by
  obtain ⟨i0, hi, hz0, hz1, hz2⟩ := info_parts info32
  have h2 := sides_le hr hc
  have he : (r : Int) * (c : Int) = ((n : Nat) : Int) := by rw [hn, Int.natCast_mul]
  have h4 : n ≤ 144 := by omega
  have hN := Lib.hid hn
  clear hn h2
  go_enter Try.func41, Try.ntmps41
  go_wp2_with (at_make; refine wpList_make_full _ rfl _ _ 22 rfl (w.heap.size + 1) 41 i0 (.float .f32 0) 1 Try.underlying22 hi hz0 hz1 _ _ _ _ n rfl rfl rfl rfl ?b2 ?b3 (by simp) ?_)
  case b2 => rw [hz2]; omega
  case b3 => unfold maxLen; omega
  intro w0 hown0 hgrow0
  have hlt := (hown0.lt _ rfl).2
  simp at hlt
  have b0 := grew_below hgrow0
  obtain ⟨hc0, hf0⟩ := bcell b0
  have hown1 := Lib.hid hown0
  clear hown0 hgrow0
  go_wp2
  refine bodyPost_ret (v := .agg #[.int .i64 r, .int .i64 c, .slice (some ⟨w.heap.size + 1, 0, none⟩) n n]) (by simp [results, Try.results41, go_sem, hc0]) rfl ?_
  have B0 : Below w.heap.size w w0 := Below.trans (by repeat first | (with_reducible exact Below.refl _ _) | (with_reducible refine Below.setCell ?_ (by first | exact Nat.le_refl _ | (simp; done) | (simp; omega) | omega) _) | (with_reducible refine Below.alloc ?_ (by first | exact Nat.le_refl _ | (simp; done) | (simp; omega) | omega) _) | (with_reducible refine below_drewN ?_ _) | (with_reducible refine Below.drew ?_)) (b0.mono (by simp))
  have o0 := own_zero (w := w) (U := w0.heap.size) (by simpa using hown1.out) (by simp) (by omega) (Nat.le_refl _) (by unfold maxLen; omega)
  exact ⟨_, rfl, (by refine Own.to o0 (hk := fun g hg1 hg2 => by (try simp at hg1 hg2); repeat (first | rw [Below.heap_setCell _ _ _ _ (by simp; omega)] | rw [Below.heap_alloc _ _ _ (by simp [World.setCell]; omega)])) ?_ ?_ ?_ ?_ <;> (first | exact Nat.le_refl _ | omega | (simp [World.setCell]; done) | (simp [World.setCell]; omega))), (by repeat first | (with_reducible exact B0) | (with_reducible refine Below.setCell ?_ (by first | exact Nat.le_refl _ | (simp; done) | (simp; omega) | omega) _) | (with_reducible refine Below.alloc ?_ (by first | exact Nat.le_refl _ | (simp; done) | (simp; omega) | omega) _) | (with_reducible refine below_drewN ?_ _) | (with_reducible refine Below.drew ?_))⟩
theorem l02Zero_any (r c n : Nat) (w : World) (hr : r ≤ 12) (hc : c ≤ 12) (hn : n = r * c) :
    Calls Try.prog 81 #[.int .i64 r, .int .i64 c] w (NewZero w r c n) := by
  obtain ⟨i0, hi, hz0, hz1, hz2⟩ := info_parts info32
  have h2 := sides_le hr hc
  have he : (r : Int) * (c : Int) = ((n : Nat) : Int) := by rw [hn, Int.natCast_mul]
  have h4 : n ≤ 144 := by omega
  have hN := Lib.hid hn
  clear hn h2
  go_enter Try.func81, Try.ntmps81
  go_wp2_with (at_make; refine wpList_make_full _ rfl _ _ 22 rfl (w.heap.size + 1) 41 i0 (.float .f32 0) 1 Try.underlying22 hi hz0 hz1 _ _ _ _ n rfl rfl rfl rfl ?b2 ?b3 (by simp) ?_)
  case b2 => rw [hz2]; omega
  case b3 => unfold maxLen; omega
  intro w0 hown0 hgrow0
  have hlt := (hown0.lt _ rfl).2
  simp at hlt
  have b0 := grew_below hgrow0
  obtain ⟨hc0, hf0⟩ := bcell b0
  have hown1 := Lib.hid hown0
  clear hown0 hgrow0
  go_wp2
  refine bodyPost_ret (v := .agg #[.int .i64 r, .int .i64 c, .slice (some ⟨w.heap.size + 1, 0, none⟩) n n]) (by simp [results, Try.results81, go_sem, hc0]) rfl ?_
  have B0 : Below w.heap.size w w0 := Below.trans (by repeat first | (with_reducible exact Below.refl _ _) | (with_reducible refine Below.setCell ?_ (by first | exact Nat.le_refl _ | (simp; done) | (simp; omega) | omega) _) | (with_reducible refine Below.alloc ?_ (by first | exact Nat.le_refl _ | (simp; done) | (simp; omega) | omega) _) | (with_reducible refine below_drewN ?_ _) | (with_reducible refine Below.drew ?_)) (b0.mono (by simp))
  have o0 := own_zero (w := w) (U := w0.heap.size) (by simpa using hown1.out) (by simp) (by omega) (Nat.le_refl _) (by unfold maxLen; omega)
  exact ⟨_, rfl, (by refine Own.to o0 (hk := fun g hg1 hg2 => by (try simp at hg1 hg2); repeat (first | rw [Below.heap_setCell _ _ _ _ (by simp; omega)] | rw [Below.heap_alloc _ _ _ (by simp [World.setCell]; omega)])) ?_ ?_ ?_ ?_ <;> (first | exact Nat.le_refl _ | omega | (simp [World.setCell]; done) | (simp [World.setCell]; omega))), (by repeat first | (with_reducible exact B0) | (with_reducible refine Below.setCell ?_ (by first | exact Nat.le_refl _ | (simp; done) | (simp; omega) | omega) _) | (with_reducible refine Below.alloc ?_ (by first | exact Nat.le_refl _ | (simp; done) | (simp; omega) | omega) _) | (with_reducible refine below_drewN ?_ _) | (with_reducible refine Below.drew ?_))⟩
end Go.Proofs.Ytcibjkadlndejaa
