/- Helper: rows of floats that a call has made, how they stay and are marked, and matrices that came in. Conditions: none. -/
import Derived.Test.YtcibjkadlndejaaFloatRows
import Derived.Lib.SmallJoins
import Derived.WalkSmall
set_option linter.unusedVariables false
set_option linter.unusedSimpArgs false
namespace Go.Proofs.Ytcibjkadlndejaa
open Go.ChangeShapes Go.WideShapes Go.RowKit Go.Deep

/-- A row of n floats that lies alone in a block from B on and below U, and reads as Z; nil where n is 0, or not. -/
def Own (T : TypeId) (k : FloatKind) (B U : Nat) (w : World) (a : Option Addr) (n c : Nat) (Z : Nat → Nat) : Prop :=
  (a = none ∧ n = 0 ∧ c = 0) ∨
  ∃ g xs, a = some ⟨g, 0, none⟩ ∧ n ≤ c ∧ c ≤ maxLen ∧ B ≤ g ∧ g < U ∧ U ≤ w.heap.size ∧ w.ownsRow B T 1 (.slice (some ⟨g, 0, none⟩) n c) n xs ∧
    (∀ j, j < n → xs[j]? = some (.float k (Z j))) ∧ ∀ j, j < n → (Lit.float k (Z j)).wf = true

theorem Own.fs {T : TypeId} {k : FloatKind} {B U : Nat} {w : World} {a : Option Addr} {n c : Nat} {Z : Nat → Nat} (h : Own T k B U w a n c Z) : FS k w a n c Z := by
  rcases h with ⟨rfl, rfl, rfl⟩ | ⟨g, xs, rfl, hc, hm, _, _, _, ho, hx, hw⟩
  · exact ⟨Nat.le_refl _, Nat.zero_le _, fun i hi => by omega⟩
  · exact FS.owned ho hc hm hx hw

theorem Own.kept {T : TypeId} {k : FloatKind} {B U : Nat} {w w' : World} {row : Option Nat} {a : Option Addr} {n c : Nat} {Z : Nat → Nat} (h : Own T k B U w a n c Z) (hg : w.grownBy w' row)
    (hr : ∀ g, row = some g → g < B ∨ U ≤ g) : Own T k B U w' a n c Z := by
  rcases h with h | ⟨g, xs, rfl, hc, hm, h1, h2, h3, ho, hx, hw⟩
  · exact .inl h
  · refine .inr ⟨g, xs, rfl, hc, hm, h1, h2, Nat.le_trans h3 hg.size, ho.kept hg (.inr ?_), hx, hw⟩
    intro e
    rcases hr g e.symm with h | h <;> omega

theorem Own.same {T : TypeId} {k : FloatKind} {B U : Nat} {w : World} {a : Option Addr} {n c : Nat} {Z Y : Nat → Nat} (h : Own T k B U w a n c Z) (e : ∀ j, j < n → Z j = Y j) : Own T k B U w a n c Y := by
  rcases h with h | ⟨g, xs, h0, h1, hm, h2, h3, h4, ho, hx, hw⟩
  · exact .inl h
  · exact .inr ⟨g, xs, h0, h1, hm, h2, h3, h4, ho, fun j hj => by rw [hx j hj, e j hj], fun j hj => by rw [← e j hj]; exact hw j hj⟩

theorem Own.mono {T : TypeId} {k : FloatKind} {B B' U U' : Nat} {w : World} {a : Option Addr} {n c : Nat} {Z : Nat → Nat} (h : Own T k B U w a n c Z) (hB : B' ≤ B) (hU : U ≤ U') (hw' : U' ≤ w.heap.size) : Own T k B' U' w a n c Z := by
  rcases h with h | ⟨g, xs, h0, h1, hm, h2, h3, h4, ho, hx, hw⟩
  · exact .inl h
  · refine .inr ⟨g, xs, h0, h1, hm, by omega, by omega, hw', ⟨ho.1, ?_⟩, hx, hw⟩
    rcases ho.2 with ho | ⟨g', cap, cur, e, hb, r⟩
    · exact .inl ho
    · exact .inr ⟨g', cap, cur, e, by omega, r⟩

/-- A row stays where its own block stays. -/
theorem Own.to {T : TypeId} {k : FloatKind} {B B' U U' : Nat} {w w' : World} {a : Option Addr} {n c : Nat} {Z : Nat → Nat} (h : Own T k B U w a n c Z) (hs : w.heap.size ≤ w'.heap.size)
    (hk : ∀ g, B ≤ g → g < U → w'.heap[g]? = w.heap[g]?) (hB : B' ≤ B) (hU : U ≤ U') (hw' : U' ≤ w'.heap.size) : Own T k B' U' w' a n c Z := by
  rcases h with h | ⟨g, xs, h0, h1, hm, h2, h3, h4, ho, hx, hw⟩
  · exact .inl h
  · refine .inr ⟨g, xs, h0, h1, hm, by omega, by omega, hw', ⟨ho.1, ?_⟩, hx, hw⟩
    rcases ho.2 with ho | ⟨g', cap, cur, e, hb, hh, r⟩
    · exact .inl ho
    · refine .inr ⟨g', cap, cur, e, by omega, ?_, r⟩
      simp only [Value.slice.injEq, Option.some.injEq, Addr.mk.injEq] at e
      obtain ⟨⟨rfl, _⟩, _⟩ := e
      rw [hk g h2 h3]; exact hh

/-- What only makes blocks. -/
theorem below_grew {w w' : World} (h : Below w.heap.size w w') : w.grownBy w' none := ⟨h.os, h.tape, h.output, h.size, fun k hk _ => h.block k hk⟩
theorem grew_below {w w' : World} (h : w.grownBy w' none) : Below w.heap.size w w' := ⟨h.os, h.tape, h.output, h.size, fun k hk => h.block k hk (by simp)⟩
theorem grownBy_trans {w w1 w2 : World} {row : Option Nat} (h : w.grownBy w1 row) (h2 : w1.grownBy w2 row) : w.grownBy w2 row :=
  ⟨h2.os.trans h.os, h2.tape.trans h.tape, h2.output.trans h.output, Nat.le_trans h.size h2.size, fun k hk hr => (h2.block k (Nat.lt_of_lt_of_le hk h.size) hr).trans (h.block k hk hr)⟩
theorem grownBy_drewN {w w1 : World} {row : Option Nat} (h : w.grownBy w1 row) (m : Nat) : w.grownBy (w1.drewN m) row := ⟨h.os, h.tape, h.output, h.size, h.block⟩

/-- The cells of an old block read as they did. -/
theorem bcell {W w1 : World} (hb : Below W.heap.size W w1) : (∀ b o, b < W.heap.size → w1.cell? ⟨b, o, none⟩ = W.cell? ⟨b, o, none⟩) ∧ (∀ b o, b < W.heap.size → w1.frozen? ⟨b, o, none⟩ = W.frozen? ⟨b, o, none⟩) :=
  ⟨fun b o h => hb.cell (p := ⟨b, o, none⟩) h, fun b o h => hb.frozen (p := ⟨b, o, none⟩) h⟩

section
variable {H : Type} {enc : TypeId × Value → H} {P : Program} {w : World} {base : Nat} {spare : Nat → Bool} {held : Bool}
theorem open_matrix {r : Reach} {b0 : Nat} {t e : TypeId} {f0 f1 f2 : Field} {k : FloatKind} {v : Value} {d : DataW H} {p : List MemPlace} (hs : P.underlying t = some (.struct #[f0, f1, f2])) (hone : oneCellFields P #[f0, f1, f2] = true) (hC : P.cellsOf t = 3)
    (h0 : P.underlying f0.type = some (.int .i64)) (h1 : P.underlying f1.type = some (.int .i64)) (h2 : P.underlying f2.type = some (.slice e)) (he : P.underlying e = some (.float k)) (hce : P.cellsOf e = 1)
    (hv : Value.okWide P w r b0 t v) (h : DataW.Trod enc P w base spare held t v d p) :
    ∃ (R C : Int) (a : Option Addr) (n c : Nat) (Z : Nat → Nat), v = .agg #[.int .i64 R, .int .i64 C, .slice a n c] ∧ (Lit.int .i64 R).wf = true ∧ (Lit.int .i64 C).wf = true ∧ FS k w a n c Z := by
  obtain ⟨v0, v1, v2, y0, y1, y2, m, rfl, rfl, rfl, g0, g1, g2⟩ := Joins.open_agg3 hs hone hC hv h
  obtain ⟨R, e0, _, wR⟩ := DataW.trod_int h0 g0
  obtain ⟨C, e1, _, wC⟩ := DataW.trod_int h1 g1
  obtain ⟨a, n, c, e2⟩ := Joins.slice_form h2 g2
  simp only [List.cons.injEq, and_true] at e0 e1 e2
  subst e0 e1 e2
  obtain ⟨Z, hZ⟩ := open_floats (k := k) h2 he hce ⟨m, g2⟩
  exact ⟨R, C, a, n, c, Z, rfl, wR, wC, hZ⟩
end
end Go.Proofs.Ytcibjkadlndejaa
