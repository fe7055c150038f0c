/- Helper: slices of floats: what they read as, how one that came in is opened, sums from left to right. Conditions: none. -/
import Derived.Test.YtcibjkadlndejaaFloatKit
import Derived.Below
import Derived.Deep.Slices
import Derived.OwnWalk
import Derived.Laws.OwnMore
import Derived.ProofKit
set_option linter.unusedVariables false
set_option linter.unusedSimpArgs false
namespace Go.Proofs.Ytcibjkadlndejaa
open Go.ChangeShapes Go.WideShapes Go.RowKit Go.Deep

/-- A slice of n floats that reads as Z. -/
def FS (k : FloatKind) (w : World) (a : Option Addr) (n c : Nat) (Z : Nat → Nat) : Prop :=
  n ≤ c ∧ c ≤ maxLen ∧ ∀ i, i < n → ∃ b off, a = some ⟨b, off, none⟩ ∧ b < w.heap.size ∧ w.cell? ⟨b, off + i, none⟩ = some (.float k (Z i)) ∧ (Lit.float k (Z i)).wf = true

theorem FS.below {k : FloatKind} {w w' : World} {a : Option Addr} {n c B : Nat} {Z : Nat → Nat} (h : FS k w a n c Z) (hb : Below B w w') (hB : w.heap.size ≤ B) : FS k w' a n c Z :=
  ⟨h.1, h.2.1, fun i hi => by
    obtain ⟨b, off, e, hl, hc, hw⟩ := h.2.2 i hi
    exact ⟨b, off, e, Nat.lt_of_lt_of_le hl hb.size, (hb.cell (p := ⟨b, off + i, none⟩) (Nat.lt_of_lt_of_le hl hB)).trans hc, hw⟩⟩

theorem FS.drewN {k : FloatKind} {w : World} {a : Option Addr} {n c m : Nat} {Z : Nat → Nat} (h : FS k w a n c Z) : FS k (w.drewN m) a n c Z := h

theorem FS.at {k : FloatKind} {w : World} {a : Option Addr} {n c i : Nat} {Z : Nat → Nat} (h : FS k w a n c Z) (hi : i < n) :
    ∃ b off, a = some ⟨b, off, none⟩ ∧ b < w.heap.size ∧ w.cell? ⟨b, off + i, none⟩ = some (.float k (Z i)) ∧ FV k (Z i) (cn k (Z i)) := by
  obtain ⟨b, off, e, hl, hc, hw⟩ := h.2.2 i hi
  exact ⟨b, off, e, hl, hc, FV.mk' hw⟩

theorem trod_float {H : Type} {enc : TypeId × Value → H} {P : Program} {w : World} {base : Nat} {spare : Nat → Bool} {held : Bool} {t : TypeId} {k : FloatKind} {fuel : Nat} {v : Value} {x : DataW H × List MemPlace}
    (ht : P.underlying t = some (.float k)) (h : DataW.trod enc P w base spare held fuel t [v] = some x) : ∃ b, v = .float k b ∧ (Lit.float k b).wf = true := by
  cases fuel with
  | zero => simp [DataW.trod] at h
  | succ n =>
    unfold DataW.trod at h
    rw [ht] at h
    split at h <;> simp_all

theorem choose_upto {p : Nat → Nat → Prop} : ∀ n, (∀ i, i < n → ∃ z, p i z) → ∃ Z : Nat → Nat, ∀ i, i < n → p i (Z i)
  | 0, _ => ⟨fun _ => 0, fun i h => by omega⟩
  | n + 1, h => by
    obtain ⟨Z, hZ⟩ := choose_upto n fun i hi => h i (by omega)
    obtain ⟨z, hz⟩ := h n (by omega)
    refine ⟨fun i => if i = n then z else Z i, fun i hi => ?_⟩
    by_cases e : i = n
    · subst e; simpa using hz
    · simpa [e] using hZ i (by omega)

theorem open_floats {H : Type} {enc : TypeId × Value → H} {P : Program} {w : World} {base : Nat} {spare : Nat → Bool} {held : Bool} {t e : TypeId} {k : FloatKind} {a : Option Addr} {len cap : Nat} {d : DataW H} {ps : List MemPlace}
    (ht : P.underlying t = some (.slice e)) (he : P.underlying e = some (.float k)) (hc : P.cellsOf e = 1) (h : DataW.Trod enc P w base spare held t (.slice a len cap) d ps) :
    ∃ Z, FS k w a len cap Z := by
  obtain ⟨fuel, hf⟩ := h
  rcases Deep.open_slice1 ht hc hf with ⟨hcs, _⟩ | ⟨a', len', cap', m, n, V, D, Pl, hcs, _, hl, hm, hmm, _, hx⟩
  · simp [Value.cells] at hcs
    obtain ⟨rfl, rfl, rfl⟩ := hcs
    exact ⟨fun _ => 0, Nat.le_refl _, Nat.zero_le _, fun i hi => by omega⟩
  · simp [Value.cells] at hcs
    obtain ⟨rfl, rfl, rfl⟩ := hcs
    have hlm : len ≤ m := by rw [hmm]; split <;> omega
    obtain ⟨Z, hZ⟩ := choose_upto (p := fun i z => ∃ b off, a' = ⟨b, off, none⟩ ∧ b < w.heap.size ∧ w.cell? ⟨b, off + i, none⟩ = some (.float k z) ∧ (Lit.float k z).wf = true) len fun i hi => by
      obtain ⟨h1, h2⟩ := hx i (by omega)
      obtain ⟨z, hz, hw⟩ := trod_float he h2
      obtain ⟨b, off, spot⟩ := a'
      have hspot : spot = none := by simpa [Addr.add] using World.cell?_spot (hx 0 (by omega)).1
      subst hspot
      rw [add_plain, hz] at h1
      exact ⟨z, b, off, rfl, World.block_lt_of_cell? _ _ h1, h1, hw⟩
    exact ⟨Z, hl, hm, fun i hi => by
      obtain ⟨b, off, e1, r⟩ := hZ i hi
      exact ⟨b, off, by rw [e1], r⟩⟩

/-- The sum of the first numbers, from left to right. -/
def sumP (k : FloatKind) (Z : Nat → Nat) : Nat → Option Nat
  | 0 => some 0
  | i + 1 => fop .add k (sumP k Z i) (cn k (Z i))
/-- That of the products. -/
def dotP (k : FloatKind) (Z Y : Nat → Nat) : Nat → Option Nat
  | 0 => some 0
  | i + 1 => fop .add k (dotP k Z Y i) (fop .mul k (cn k (Z i)) (cn k (Y i)))

/-- What a row of the call's own reads as. -/
theorem FS.owned {k : FloatKind} {w : World} {base g n c : Nat} {e : TypeId} {xs : List Value} {Z : Nat → Nat} (h : w.ownsRow base e 1 (.slice (some ⟨g, 0, none⟩) n c) n xs)
    (hc : n ≤ c) (hm : c ≤ maxLen) (hx : ∀ j, j < n → xs[j]? = some (.float k (Z j))) (hw : ∀ j, j < n → (Lit.float k (Z j)).wf = true) : FS k w (some ⟨g, 0, none⟩) n c Z :=
  ⟨hc, hm, fun i hi => ⟨g, 0, rfl, (h.lt g rfl).2, by
    rw [Nat.zero_add, h.cellAt i (by omega)]; exact hx i hi, hw i hi⟩⟩
end Go.Proofs.Ytcibjkadlndejaa
