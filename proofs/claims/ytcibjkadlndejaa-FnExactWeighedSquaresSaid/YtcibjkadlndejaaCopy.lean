/- Helper: a part of a row that is copied over. Conditions: none. -/
import Derived.Test.YtcibjkadlndejaaTri
import Derived.Test.YtcibjkadlndejaaWork
import Derived.Laws.CopyOwn
set_option linter.unusedVariables false
set_option linter.unusedSimpArgs false
namespace Go.Proofs.Ytcibjkadlndejaa
open Go.RowKit

/-- What a row becomes where a part of it is copied over. -/
def pasted (off m : Nat) (Y Z : Nat → Nat) (t : Nat) : Nat := if off ≤ t ∧ t < off + m then Y (t - off) else Z t
theorem Own.block {T : TypeId} {k : FloatKind} {B U g n : Nat} {w : World} {Z : Nat → Nat} (h : Own T k B U w (some ⟨g, 0, none⟩) n n Z) :
    ∃ cur : Array Value, w.heap[g]? = some (.cells cur T (0, 0)) ∧ cur.size = n ∧ ∀ t, t < n → cur.toList[t]? = some (.float k (Z t)) := by
  rcases h with ⟨h, _⟩ | ⟨g', xs, e, hcn, hm, h1, h2, h3, ho, hx, hw⟩
  · cases h
  · simp only [Option.some.injEq, Addr.mk.injEq, and_true] at e
    subst e
    rcases ho.2 with ⟨h', _⟩ | ⟨g', cap', cur, h', hb, hg, hnc, hcm, hcs, htake⟩
    · simp at h'
    · simp only [Value.slice.injEq, Option.some.injEq, Addr.mk.injEq, and_true, true_and] at h'
      obtain ⟨rfl, rfl⟩ := h'
      refine ⟨cur, hg, by simpa using hcs, fun t ht => ?_⟩
      rw [← hx t ht, ← htake, List.getElem?_take, if_pos (by omega)]
theorem Own.paste {B U g n off m : Nat} {w : World} {Z Y : Nat → Nat} (h : Own 41 .f32 B U w (some ⟨g, 0, none⟩) n n Z) (hfit : off + m ≤ n) (hY : ∀ t, t < m → (Lit.float .f32 (Y t)).wf = true)
    {cur : Array Value} (hg : w.heap[g]? = some (.cells cur 41 (0, 0))) :
    Own 41 .f32 B U (w.setRow g (cur.toList.take off ++ (cellsOf32 Y m ++ cur.toList.drop (off + m))).toArray) (some ⟨g, 0, none⟩) n n (pasted off m Y Z) ∧
      w.grownBy (w.setRow g (cur.toList.take off ++ (cellsOf32 Y m ++ cur.toList.drop (off + m))).toArray) (some g) := by
  obtain ⟨cur', hg', hsz, hval⟩ := h.block
  have hc : cur' = cur := by rw [hg] at hg'; simpa using hg'.symm
  subst hc
  have hlen : cur'.toList.length = n := by simpa using hsz
  have hL : (cur'.toList.take off ++ (cellsOf32 Y m ++ cur'.toList.drop (off + m))).length = n := by
    simp only [List.length_append, List.length_take, List.length_drop, cells32_len, hlen]; omega
  have hgrow : w.grownBy (w.setRow g (cur'.toList.take off ++ (cellsOf32 Y m ++ cur'.toList.drop (off + m))).toArray) (some g) :=
    ⟨rfl, rfl, rfl, by simp [World.setRow], fun k _ hk => setRow_other w g k _ (fun e => hk (by simp [e]))⟩
  refine ⟨?_, hgrow⟩
  rcases h with ⟨h, _⟩ | ⟨g', xs, e, hcn, hm, h1, h2, h3, ho, hx, hw⟩
  · cases h
  · simp only [Option.some.injEq, Addr.mk.injEq, and_true] at e
    subst e
    refine .inr ⟨g, _, rfl, Nat.le_refl _, hm, h1, h2, Nat.le_trans h3 hgrow.size, ⟨by rw [hL]; omega, .inr ⟨g, n, _, rfl, h1, setRow_heap w g cur' _ 41 _ hg, Nat.le_refl _, hm, by simpa using hL, ?_⟩⟩, fun j hj => ?_, fun j hj => ?_⟩
    · exact List.take_of_length_le (by rw [List.toList_toArray, hL]; omega)
    · unfold pasted
      rw [List.getElem?_append]
      have ht : (cur'.toList.take off).length = off := by rw [List.length_take, hlen]; omega
      rw [ht]
      by_cases c1 : j < off
      · rw [if_pos c1, if_neg (by omega), List.getElem?_take, if_pos c1, hval j hj]
      · rw [if_neg c1, List.getElem?_append, cells32_len]
        by_cases c2 : j - off < m
        · rw [if_pos c2, if_pos (by omega), cells32_at c2]
        · rw [if_neg c2, if_neg (by omega), List.getElem?_drop, show off + m + (j - off - m) = j by omega, hval j hj]
    · unfold pasted
      by_cases c : off ≤ j ∧ j < off + m
      · rw [if_pos c]; exact hY _ (by omega)
      · rw [if_neg c]; exact hw j hj
end Go.Proofs.Ytcibjkadlndejaa
