/- Helper: slices of integers: what they read as, how one that came in is opened. Conditions: none. -/
import Derived.Test.YtcibjkadlndejaaFloatKit
import Derived.Below
import Derived.Deep.Slices
import Derived.OwnWalk
import Derived.Laws.OwnMore
import Derived.ProofKit
set_option linter.unusedVariables false
set_option linter.unusedSimpArgs false
namespace Go.Proofs.Ytcibjkadlndejaa
open Go.ChangeShapes Go.WideShapes Go.RowKit Go.Deep

/-- A slice of n integers that reads as Z. -/
def IS (k : IntKind) (w : World) (a : Option Addr) (n c : Nat) (Z : Nat → Int) : Prop :=
  n ≤ c ∧ c ≤ maxLen ∧ ∀ i, i < n → ∃ b off, a = some ⟨b, off, none⟩ ∧ b < w.heap.size ∧ w.cell? ⟨b, off + i, none⟩ = some (.int k (Z i)) ∧ (Lit.int k (Z i)).wf = true

theorem IS.below {k : IntKind} {w w' : World} {a : Option Addr} {n c B : Nat} {Z : Nat → Int} (h : IS k w a n c Z) (hb : Below B w w') (hB : w.heap.size ≤ B) : IS k w' a n c Z :=
  ⟨h.1, h.2.1, fun i hi => by
    obtain ⟨b, off, e, hl, hc, hw⟩ := h.2.2 i hi
    exact ⟨b, off, e, Nat.lt_of_lt_of_le hl hb.size, (hb.cell (p := ⟨b, off + i, none⟩) (Nat.lt_of_lt_of_le hl hB)).trans hc, hw⟩⟩

theorem IS.drewN {k : IntKind} {w : World} {a : Option Addr} {n c m : Nat} {Z : Nat → Int} (h : IS k w a n c Z) : IS k (w.drewN m) a n c Z := h

theorem IS.at {k : IntKind} {w : World} {a : Option Addr} {n c i : Nat} {Z : Nat → Int} (h : IS k w a n c Z) (hi : i < n) :
    ∃ b off, a = some ⟨b, off, none⟩ ∧ b < w.heap.size ∧ w.cell? ⟨b, off + i, none⟩ = some (.int k (Z i)) ∧ (Lit.int k (Z i)).wf = true := by
  obtain ⟨b, off, e, hl, hc, hw⟩ := h.2.2 i hi
  exact ⟨b, off, e, hl, hc, hw⟩

theorem trod_int {H : Type} {enc : TypeId × Value → H} {P : Program} {w : World} {base : Nat} {spare : Nat → Bool} {held : Bool} {t : TypeId} {k : IntKind} {fuel : Nat} {v : Value} {x : DataW H × List MemPlace}
    (ht : P.underlying t = some (.int k)) (h : DataW.trod enc P w base spare held fuel t [v] = some x) : ∃ b, v = .int k b ∧ (Lit.int k b).wf = true := by
  cases fuel with
  | zero => simp [DataW.trod] at h
  | succ n =>
    unfold DataW.trod at h
    rw [ht] at h
    split at h <;> simp_all

theorem choose_uptoI {p : Nat → Int → Prop} : ∀ n, (∀ i, i < n → ∃ z, p i z) → ∃ Z : Nat → Int, ∀ i, i < n → p i (Z i)
  | 0, _ => ⟨fun _ => 0, fun i h => by omega⟩
  | n + 1, h => by
    obtain ⟨Z, hZ⟩ := choose_uptoI n fun i hi => h i (by omega)
    obtain ⟨z, hz⟩ := h n (by omega)
    refine ⟨fun i => if i = n then z else Z i, fun i hi => ?_⟩
    by_cases e : i = n
    · subst e; simpa using hz
    · simpa [e] using hZ i (by omega)

theorem open_ints1 {H : Type} {enc : TypeId × Value → H} {P : Program} {w : World} {base : Nat} {spare : Nat → Bool} {held : Bool} {t e : TypeId} {k : IntKind} {a : Option Addr} {len cap : Nat} {d : DataW H} {ps : List MemPlace}
    (ht : P.underlying t = some (.slice e)) (he : P.underlying e = some (.int k)) (hc : P.cellsOf e = 1) (h : DataW.Trod enc P w base spare held t (.slice a len cap) d ps) :
    ∃ Z, IS k w a len cap Z := by
  obtain ⟨fuel, hf⟩ := h
  rcases Deep.open_slice1 ht hc hf with ⟨hcs, _⟩ | ⟨a', len', cap', m, n, V, D, Pl, hcs, _, hl, hm, hmm, _, hx⟩
  · simp [Value.cells] at hcs
    obtain ⟨rfl, rfl, rfl⟩ := hcs
    exact ⟨fun _ => 0, Nat.le_refl _, Nat.zero_le _, fun i hi => by omega⟩
  · simp [Value.cells] at hcs
    obtain ⟨rfl, rfl, rfl⟩ := hcs
    have hlm : len ≤ m := by rw [hmm]; split <;> omega
    obtain ⟨Z, hZ⟩ := choose_uptoI (p := fun i z => ∃ b off, a' = ⟨b, off, none⟩ ∧ b < w.heap.size ∧ w.cell? ⟨b, off + i, none⟩ = some (.int k z) ∧ (Lit.int k z).wf = true) len fun i hi => by
      obtain ⟨h1, h2⟩ := hx i (by omega)
      obtain ⟨z, hz, hw⟩ := trod_int he h2
      obtain ⟨b, off, spot⟩ := a'
      have hspot : spot = none := by simpa [Addr.add] using World.cell?_spot (hx 0 (by omega)).1
      subst hspot
      rw [add_plain, hz] at h1
      exact ⟨z, b, off, rfl, World.block_lt_of_cell? _ _ h1, h1, hw⟩
    exact ⟨Z, hl, hm, fun i hi => by
      obtain ⟨b, off, e1, r⟩ := hZ i hi
      exact ⟨b, off, by rw [e1], r⟩⟩

/-- What a row of the call's own reads as. -/
theorem IS.owned {k : IntKind} {w : World} {base g n : Nat} {e : TypeId} {xs : List Value} {Z : Nat → Int} (h : w.ownsRow base e 1 (.slice (some ⟨g, 0, none⟩) n n) n xs)
    (hm : n ≤ maxLen) (hx : ∀ j, j < n → xs[j]? = some (.int k (Z j))) (hw : ∀ j, j < n → (Lit.int k (Z j)).wf = true) : IS k w (some ⟨g, 0, none⟩) n n Z :=
  ⟨Nat.le_refl _, hm, fun i hi => ⟨g, 0, rfl, (h.lt g rfl).2, by
    rw [Nat.zero_add, h.cellAt i (by omega)]; exact hx i hi, hw i hi⟩⟩
theorem IS.ownedC {k : IntKind} {w : World} {base g n c : Nat} {e : TypeId} {xs : List Value} {Z : Nat → Int} (h : w.ownsRow base e 1 (.slice (some ⟨g, 0, none⟩) n c) n xs)
    (hc : n ≤ c) (hm : c ≤ maxLen) (hx : ∀ j, j < n → xs[j]? = some (.int k (Z j))) (hw : ∀ j, j < n → (Lit.int k (Z j)).wf = true) : IS k w (some ⟨g, 0, none⟩) n c Z :=
  ⟨hc, hm, fun i hi => ⟨g, 0, rfl, (h.lt g rfl).2, by
    rw [Nat.zero_add, h.cellAt i (by omega)]; exact hx i hi, hw i hi⟩⟩
end Go.Proofs.Ytcibjkadlndejaa
