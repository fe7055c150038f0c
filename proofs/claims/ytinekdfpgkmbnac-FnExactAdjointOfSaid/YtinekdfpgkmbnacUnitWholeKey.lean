/- Helper: units in integers, of the program and of its reference. Conditions: none. -/
import Derived.Test.YtinekdfpgkmbnacConcat
set_option linter.unusedVariables false
set_option linter.unusedSimpArgs false
namespace Go.Proofs.Ytinekdfpgkmbnac
open Go.RowKit

theorem cellsI_set (Z : Nat → Int) (n t : Nat) (v : Int) : (cellsOfI Z n).set t (.int .i64 v) = cellsOfI (fun j => if j = t then v else Z j) n := by
  apply List.ext_getElem?
  intro j
  by_cases hj : j < n
  · by_cases e : j = t
    · subst e
      rw [List.getElem?_set_self (by rw [cellsI_len]; exact hj), cellsI_at hj, if_pos rfl]
    · rw [List.getElem?_set_ne (Ne.symm e), cellsI_at hj, cellsI_at hj, if_neg e]
  · rw [List.getElem?_eq_none (by simp [cellsI_len]; omega), List.getElem?_eq_none (by rw [cellsI_len]; omega)]
/-- A number of a row is stored. -/
theorem Tab.stored {W0 wr : World} {G n k t g c : Nat} {v : Int} {len : Nat → Nat} {Y : Nat → Nat → Int} {V : Nat → Value} (h : Tab W0 G n len Y V wr) (hk : k < n) (hv : (Lit.int .i64 v).wf = true) (hV : V k = .slice (some ⟨g, 0, none⟩) (len k) c) :
    Tab W0 G n len (upd Y k (fun j => if j = t then v else Y k j)) V (wr.setCell ⟨g, t, none⟩ (.int .i64 v)) := by
  have ho := h.own k hk
  rw [hV] at ho
  obtain ⟨ho1, hg1⟩ := ho.stored t (.int .i64 v)
  rw [cellsI_set] at ho1
  have hb : (V k).ownBlock = some g := by rw [hV]; rfl
  have hgG : g ≠ G := fun e => h.apart k hk (by rw [hb, e])
  have hG' : (wr.setCell ⟨g, t, none⟩ (.int .i64 v)).heap[G]? = wr.heap[G]? := hg1.block G h.top (fun e => hgG (by cases e; rfl))
  refine ⟨fun i hi => (World.cell?_of_block (a := ⟨G, i, none⟩) hG').trans (h.cell i hi), fun i hi => ?_, fun i hi j hj => ?_, h.apart, h.two, fun i => (World.frozen?_of_block (a := ⟨G, i, none⟩) hG').trans (h.froz i), h.bel.grown hg1 h.bel.size (fun q hq => by cases hq; exact (ho.lt g rfl).1), h.lo, Nat.lt_of_lt_of_le h.top hg1.size⟩
  · by_cases e : i = k
    · subst e; rw [upd_same, hV]; exact ho1
    · rw [upd_other _ _ e]
      refine (h.own i hi).kept hg1 ?_
      cases hq : (V i).ownBlock with
      | none => exact .inl rfl
      | some q => exact .inr (fun e2 => h.two i k hi hk e q hq (by rw [hb]; exact e2.symm))
  · by_cases e : i = k
    · subst e
      rw [upd_same]
      show (Lit.int .i64 (if j = t then v else Y i j)).wf = true
      split
      · exact hv
      · exact h.wfs i hi j hj
    · rw [upd_other _ _ e]; exact h.wfs i hi j hj
theorem Tab.same {W0 wr : World} {G n : Nat} {len len2 : Nat → Nat} {Y Y2 : Nat → Nat → Int} {V : Nat → Value} (h : Tab W0 G n len Y V wr) (hl : ∀ i, i < n → len i = len2 i) (hY : ∀ i, i < n → ∀ j, j < len i → Y i j = Y2 i j) : Tab W0 G n len2 Y2 V wr := by
  refine ⟨h.cell, fun i hi => ?_, fun i hi j hj => ?_, h.apart, h.two, h.froz, h.bel, h.lo, h.top⟩
  · have := h.own i hi
    rw [← hl i hi]
    have e : cellsOfI (Y i) (len i) = cellsOfI (Y2 i) (len i) := by
      apply List.ext_getElem?
      intro j
      by_cases hj : j < len i
      · rw [cellsI_at hj, cellsI_at hj, hY i hi j hj]
      · rw [List.getElem?_eq_none (by rw [cellsI_len]; omega), List.getElem?_eq_none (by rw [cellsI_len]; omega)]
    rw [← e]; exact this
  · rw [← hl i hi] at hj
    rw [← hY i hi j hj]; exact h.wfs i hi j hj
theorem infoRow : (Try.prog.info? 22).map (fun i => (i.zero, i.size, i.bytes)) = some (some (.slice none 0 0), 1, 24) := by kernel_rfl
/-- A new table of empty rows. -/
theorem Tab.start {w w0 : World} {n : Nat} (hown0 : w0.ownsRow w.heap.size 22 1 (.slice (some ⟨w.heap.size, 0, none⟩) n n) n (madeCells #[Value.slice none 0 0] n).toList) (hb : Below w.heap.size w w0) (Y : Nat → Nat → Int) : Tab w w.heap.size n (fun _ => 0) Y (fun _ => .slice none 0 0) w0 := by
  refine ⟨fun i hi => ?_, fun i hi => ⟨by simp [cellsOfI], .inl ⟨rfl, rfl⟩⟩, fun i hi j hj => absurd hj (Nat.not_lt_zero _), fun i hi => by simp [Value.ownBlock], fun i k hi hk hik q hq => by simp [Value.ownBlock] at hq, fun i => hown0.frozenAt i, hb, Nat.le_refl _, (hown0.lt _ rfl).2⟩
  rw [hown0.cellAt i (by omega), toList_madeCells_one, List.getElem?_replicate, if_pos hi]
def unitY (i t : Nat) : Int := if t = i then 1 else 0
theorem unitY_le (i t : Nat) : 0 ≤ unitY i t ∧ unitY i t ≤ 1 := by unfold unitY; split <;> omega
end Go.Proofs.Ytinekdfpgkmbnac
