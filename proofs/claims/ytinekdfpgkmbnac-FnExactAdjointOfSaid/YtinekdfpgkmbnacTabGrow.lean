/- Helper: a number appended to a row of a table; the columns of a whole as rows, of the program. Conditions: none. -/
import Derived.Test.YtinekdfpgkmbnacUnitWholeKey
set_option linter.unusedVariables false
set_option linter.unusedSimpArgs false
namespace Go.Proofs.Ytinekdfpgkmbnac
open Go.RowKit

theorem cellsI_grow (Z : Nat → Int) (n : Nat) (x : Int) : cellsOfI Z n ++ [.int .i64 x] = cellsOfI (fun j => if j = n then x else Z j) (n + 1) := by
  apply List.ext_getElem?
  intro t
  by_cases h1 : t < n
  · rw [List.getElem?_append_left (by rw [cellsI_len]; exact h1), cellsI_at h1, cellsI_at (by omega), if_neg (by omega)]
  · rw [List.getElem?_append_right (by rw [cellsI_len]; omega), cellsI_len]
    by_cases h2 : t = n
    · subst h2
      rw [cellsI_at (by omega), if_pos rfl, Nat.sub_self]; rfl
    · rw [List.getElem?_eq_none (by simp; omega), List.getElem?_eq_none (by rw [cellsI_len]; omega)]
theorem Tab.grow {W0 wr wx w2 : World} {G n k gg cap : Nat} {len : Nat → Nat} {Y : Nat → Nat → Int} {V : Nat → Value} {x : Int} (h : Tab W0 G n len Y V wr) (hk : k < n) (hx : (Lit.int .i64 x).wf = true) (hb : Below wr.heap.size wr wx)
    (hown2 : w2.ownsRow W0.heap.size 2 1 (.slice (some ⟨gg, 0, none⟩) (len k + 1) cap) (len k + 1) (cellsOfI (Y k) (len k) ++ [.int .i64 x])) (hgrow2 : wx.grownBy w2 (V k).ownBlock) (hat2 : (V k).ownBlock = some gg ∨ wr.heap.size ≤ gg) :
    Tab W0 G n (upd len k (len k + 1)) (upd Y k (fun j => if j = len k then x else Y k j)) (upd V k (.slice (some ⟨gg, 0, none⟩) (len k + 1) cap)) (w2.setCell ⟨G, k, none⟩ (.slice (some ⟨gg, 0, none⟩) (len k + 1) cap)) ∧
    w2.cell? ⟨G, k, none⟩ = some (V k) ∧ w2.frozen? ⟨G, k, none⟩ = false := by
  rw [cellsI_grow] at hown2
  have hG : w2.heap[G]? = wx.heap[G]? := hgrow2.block G (h.below hb).top (fun e => h.apart k hk e.symm)
  refine ⟨h.step hb hgrow2 hk (fun q hq => hq) hown2 (fun j hj => ?_) (fun q hq => ?_), (World.cell?_of_block (a := ⟨G, k, none⟩) hG).trans ((h.below hb).cell k hk), (World.frozen?_of_block (a := ⟨G, k, none⟩) hG).trans ((h.below hb).froz k)⟩
  · show (Lit.int .i64 (if j = len k then x else Y k j)).wf = true
    split
    · exact hx
    · exact h.wfs k hk j (by omega)
  · simp [Value.ownBlock] at hq
    subst hq
    exact hat2

end Go.Proofs.Ytinekdfpgkmbnac
