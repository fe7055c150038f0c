/- Helper: a list that grows by append beside blocks that change. Conditions: none. -/
import Derived.Test.YtcibjkadlndejaaAddDefs
import Derived.Test.YtcibjkadlndejaaNums
import Derived.Deep.AppendLies
set_option linter.unusedVariables false
set_option linter.unusedSimpArgs false
namespace Go.Proofs.Ytcibjkadlndejaa
open Go.RowKit

theorem fsY_fv {w : World} {a : Option Addr} {n c t : Nat} {Y : Nat → Nat} (h : FS .f32 w a n c Y) (ht : t < n) : FV .f32 (Y t) (vals Y t) := (h.at ht).elim fun _ q => q.elim fun _ q => q.2.2.2
/-- A list that grows beside blocks that change. -/
structure GrowY (W0 : World) (j : Nat) (V : Nat → Option Nat) (wr : World) (v : Value) (xs : List Value) : Prop where
  own : wr.ownsRow W0.heap.size 41 1 v j xs
  val : ∀ t, t < j → ∃ r, xs[t]? = some (.float .f32 r) ∧ FV .f32 r (V t)
  shape : ∃ g cap, v = .slice (some ⟨g, 0, none⟩) j cap ∧ W0.heap.size ≤ g
theorem GrowY.kept {W0 wr w' : World} {j g1 : Nat} {V : Nat → Option Nat} {v : Value} {xs : List Value} (h : GrowY W0 j V wr v xs) (hg : wr.grownBy w' (some g1)) (hl : g1 < W0.heap.size) : GrowY W0 j V w' v xs := by
  obtain ⟨g, cap, e, hle⟩ := h.shape
  exact ⟨h.own.kept hg (.inr (by rw [e]; simp [Value.ownBlock]; omega)), h.val, h.shape⟩
theorem GrowY.below {W0 wr w' : World} {j : Nat} {V : Nat → Option Nat} {v : Value} {xs : List Value} (h : GrowY W0 j V wr v xs) (hb : Below wr.heap.size wr w') : GrowY W0 j V w' v xs := ⟨ownsRow_below h.own hb, h.val, h.shape⟩
theorem GrowY.step {W0 wr w' : World} {j : Nat} {V : Nat → Option Nat} {v : Value} {xs : List Value} (h : GrowY W0 j V wr v xs) {g cap' r : Nat}
    (ho : w'.ownsRow W0.heap.size 41 1 (.slice (some ⟨g, 0, none⟩) (j + 1) cap') (j + 1) (xs ++ [.float .f32 r])) (hr : FV .f32 r (V j)) :
    GrowY W0 (j + 1) V w' (.slice (some ⟨g, 0, none⟩) (j + 1) cap') (xs ++ [.float .f32 r]) := by
  have hlen : xs.length = j := by simpa using h.own.1
  refine ⟨ho, fun t htj => ?_, _, _, rfl, (ho.lt g rfl).1⟩
  by_cases e : t = j
  · subst e
    exact ⟨r, by rw [List.getElem?_append_right (by omega), hlen]; simp, hr⟩
  · obtain ⟨q, h1, h2⟩ := h.val t (by omega)
    exact ⟨q, by rw [List.getElem?_append_left (by omega)]; exact h1, h2⟩
theorem GrowY.fs {W0 wr : World} {j g cap : Nat} {V : Nat → Option Nat} {xs : List Value} (h0 : 0 < j) (h : GrowY W0 j V wr (.slice (some ⟨g, 0, none⟩) j cap) xs) : ∃ Y, FS .f32 wr (some ⟨g, 0, none⟩) j cap Y ∧ ∀ i, i < j → vals Y i = V i := by
  obtain ⟨Y, hY⟩ := choose_upto (p := fun t r => xs[t]? = some (.float .f32 r) ∧ FV .f32 r (V t)) j h.val
  obtain ⟨g', c', e1, o1, _, _⟩ := own_of_row h.own h0 (fun t ht => (hY t ht).1) (fun t ht => (hY t ht).2.2)
  simp only [Value.slice.injEq, Option.some.injEq, Addr.mk.injEq, and_true, true_and] at e1
  obtain ⟨rfl, rfl⟩ := e1
  exact ⟨Y, o1.fs, fun i hi => (hY i hi).2.1⟩
/-- An append changes no block of the world before. -/
theorem Out2.appendY {W0 wr wx w' : World} {g h gb : Nat} {v : Value} (o : Out2 W0 wr g h) (hb : Below wr.heap.size wr wx) (hg : wx.grownBy w' v.ownBlock) (hv : v.ownBlock = some gb) (hl : W0.heap.size ≤ gb) : Out2 W0 w' g h := by
  have hs := o.size
  have hs2 := hb.size
  exact ⟨hg.os.trans (hb.os.trans o.os), hg.tape.trans (hb.tape.trans o.tape), hg.output.trans (hb.output.trans o.output), Nat.le_trans o.size (Nat.le_trans hb.size hg.size), fun q hq h1 h2 => (hg.block q (by omega) (by rw [hv]; exact fun e => by cases e; omega)).trans ((hb.block q (by omega)).trans (o.block q hq h1 h2))⟩
end Go.Proofs.Ytcibjkadlndejaa
