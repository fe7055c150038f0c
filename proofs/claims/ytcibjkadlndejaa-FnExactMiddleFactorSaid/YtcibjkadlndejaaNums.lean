/- Helper: lists of numbers that a call tells, a list under way, a row of a matrix. Conditions: none. -/
import Derived.Test.YtcibjkadlndejaaGive
import Derived.Test.YtcibjkadlndejaaVecSums
import Derived.Deep.RegionLaw
set_option linter.unusedVariables false
set_option linter.unusedSimpArgs false
namespace Go.Proofs.Ytcibjkadlndejaa
open Go.RowKit

def NumsBel (ok : Bool) (n : Nat) (V : Nat → Option Nat) (w : World) (e : Ending) (w' : World) : Prop :=
  ∃ g d Y, e = .returned (.tuple #[.slice g n d, .bool ok]) ∧ FS .f32 w' g n d Y ∧ (∀ i, i < n → vals Y i = V i) ∧ Below w.heap.size w w'
def NumsOwn (ok : Bool) (n : Nat) (V : Nat → Option Nat) (w : World) (e : Ending) (w' : World) : Prop :=
  ∃ g d Y, e = .returned (.tuple #[.slice g n d, .bool ok]) ∧ Own 41 .f32 w.heap.size w'.heap.size w' g n d Y ∧ (∀ i, i < n → vals Y i = V i) ∧ Below w.heap.size w w'
def NOwnIf (ok : Bool) (n : Nat) (V : Nat → Option Nat) (w : World) (e : Ending) (w' : World) : Prop :=
  match ok with | true => NumsOwn true n V w e w' | false => NumsOwn false 0 (fun _ => none) w e w'
def NBelIf (ok : Bool) (n : Nat) (V : Nat → Option Nat) (w : World) (e : Ending) (w' : World) : Prop :=
  match ok with | true => NumsBel true n V w e w' | false => NumsBel false 0 (fun _ => none) w e w'
theorem NOwnIf.yes {ok : Bool} {n : Nat} {V : Nat → Option Nat} {w : World} {e : Ending} {w' : World} (h : ok = true) (p : NumsOwn true n V w e w') : NOwnIf ok n V w e w' := by subst h; exact p
theorem NOwnIf.no {ok : Bool} {n : Nat} {V : Nat → Option Nat} {w : World} {e : Ending} {w' : World} (h : ok = false) (p : NumsOwn false 0 (fun _ => none) w e w') : NOwnIf ok n V w e w' := by subst h; exact p
theorem NBelIf.yes {ok : Bool} {n : Nat} {V : Nat → Option Nat} {w : World} {e : Ending} {w' : World} (h : ok = true) (p : NumsBel true n V w e w') : NBelIf ok n V w e w' := by subst h; exact p
theorem NBelIf.no {ok : Bool} {n : Nat} {V : Nat → Option Nat} {w : World} {e : Ending} {w' : World} (h : ok = false) (p : NumsBel false 0 (fun _ => none) w e w') : NBelIf ok n V w e w' := by subst h; exact p
/-- A row of a matrix, to be read. -/
theorem FS.row {w : World} {b off n cap r c i : Nat} {Z : Nat → Nat} (h : FS .f32 w (some ⟨b, off, none⟩) n cap Z) (hn : n = r * c) (hi : i < r) (d : Nat) (hd : c ≤ d) (hd2 : d ≤ maxLen) : FS .f32 w (some ⟨b, off + i * c, none⟩) c d (fun k => Z (i * c + k)) := by
  refine ⟨hd, hd2, fun k hk => ?_⟩
  have hp := place_lt hi hk
  rw [← hn] at hp
  obtain ⟨b', off', e, hl, hc, hw⟩ := h.2.2 _ hp
  simp only [Option.some.injEq, Addr.mk.injEq, and_true] at e
  obtain ⟨rfl, rfl⟩ := e
  exact ⟨b, off + i * c, rfl, hl, by rw [Nat.add_assoc]; exact hc, hw⟩

/-- A list of the reference under way. -/
structure Grow (W0 : World) (j : Nat) (V : Nat → Option Nat) (wr : World) (v : Value) (xs : List Value) : Prop where
  own : wr.ownsRow W0.heap.size 41 1 v j xs
  val : ∀ t, t < j → ∃ r, xs[t]? = some (.float .f32 r) ∧ FV .f32 r (V t)
  bel : Below W0.heap.size W0 wr
  shape : ∃ g cap, v = .slice (some ⟨g, 0, none⟩) j cap
theorem Grow.step {W0 wr wx w' : World} {j : Nat} {V : Nat → Option Nat} {v : Value} {xs : List Value} (h : Grow W0 j V wr v xs) (hb : Below wr.heap.size wr wx) {g cap' r : Nat}
    (ho : w'.ownsRow W0.heap.size 41 1 (.slice (some ⟨g, 0, none⟩) (j + 1) cap') (j + 1) (xs ++ [.float .f32 r])) (hg : wx.grownBy w' v.ownBlock) (hr : FV .f32 r (V j)) :
    Grow W0 (j + 1) V w' (.slice (some ⟨g, 0, none⟩) (j + 1) cap') (xs ++ [.float .f32 r]) := by
  have hs := hb.size
  have hlen : xs.length = j := by simpa using h.own.1
  refine ⟨ho, fun t htj => ?_, (h.bel.trans (hb.mono h.bel.size)).grown hg (by have := h.bel.size; omega) (fun q hq => (h.own.lt q hq).1), _, _, rfl⟩
  by_cases e : t = j
  · subst e
    exact ⟨r, by rw [List.getElem?_append_right (by omega), hlen]; simp, hr⟩
  · obtain ⟨q, hq, hv⟩ := h.val t (by omega)
    exact ⟨q, by rw [List.getElem?_append_left (by omega)]; exact hq, hv⟩
theorem Grow.fs {W0 wr : World} {j g cap : Nat} {V : Nat → Option Nat} {xs : List Value} (h : Grow W0 j V wr (.slice (some ⟨g, 0, none⟩) j cap) xs) : ∃ Y, FS .f32 wr (some ⟨g, 0, none⟩) j cap Y ∧ ∀ i, i < j → vals Y i = V i := by
  obtain ⟨Y, hY⟩ := choose_upto (p := fun t r => xs[t]? = some (.float .f32 r) ∧ FV .f32 r (V t)) j h.val
  refine ⟨Y, ?_, fun i hi => (hY i hi).2.1⟩
  rcases h.own.2 with ⟨e, e0⟩ | ⟨g', cap', cur, e, hbg, hh, hjc, hcm, hcs, htake⟩
  · simp at e
  · simp only [Value.slice.injEq, true_and] at e
    obtain ⟨e1, rfl⟩ := e
    simp only [Option.some.injEq, Addr.mk.injEq, and_true] at e1
    subst e1
    refine ⟨hjc, hcm, fun i hi => ⟨g, 0, rfl, (Array.getElem?_eq_some_iff.1 hh).1, ?_, (hY i hi).2.2⟩⟩
    rw [Nat.zero_add, h.own.cellAt i (by omega)]
    exact (hY i hi).1
end Go.Proofs.Ytcibjkadlndejaa
