/- Helper: lists of integers that are copied, appended and cut. Conditions: none. -/
import Derived.Test.YtinekdfpgkmbnabIntLaw
import Derived.Test.YtinekdfpgkmbnabKeys
import Derived.Lib.SliceRun
import Derived.Deep.RegionHeld3
import Derived.Deep.RegionLaw
import Derived.IntWalk
set_option linter.unusedVariables false
set_option linter.unusedSimpArgs false
namespace Go.Proofs.Ytinekdfpgkmbnab
open Go.RowKit

/-- The cells of a list. -/
def cellsOfI (Z : Nat → Int) (n : Nat) : List Value := (List.range n).map fun t => Value.int .i64 (Z t)
theorem cellsI_len (Z : Nat → Int) (n : Nat) : (cellsOfI Z n).length = n := by simp [cellsOfI]
theorem cellsI_at {Z : Nat → Int} {n j : Nat} (hj : j < n) : (cellsOfI Z n)[j]? = some (.int .i64 (Z j)) := by
  simp [cellsOfI, List.getElem?_range hj]
theorem cellsI_one {Z : Nat → Int} {n : Nat} : ∀ u ∈ cellsOfI Z n, u.oneCell' = true := by
  intro u hu
  obtain ⟨t, _, rfl⟩ := List.mem_map.1 hu
  rfl
theorem cellsI_lt {Z : Nat → Int} {n j : Nat} {u : Value} (h : (cellsOfI Z n)[j]? = some u) : j < n ∧ u = .int .i64 (Z j) := by
  have hj : j < n := by have := (List.getElem?_eq_some_iff.1 h).1; rwa [cellsI_len] at this
  rw [cellsI_at hj] at h
  exact ⟨hj, by cases h; rfl⟩
theorem cellsI_cell {w : World} {b off n c : Nat} {Z : Nat → Int} (h : IS .i64 w (some ⟨b, off, none⟩) n c Z) : ∀ j u, (cellsOfI Z n)[j]? = some u → w.cell? ⟨b, off + j, none⟩ = some u := by
  intro j u hu
  obtain ⟨hj, rfl⟩ := cellsI_lt hu
  obtain ⟨b', off', e, _, hc, _⟩ := h.at hj
  simp only [Option.some.injEq, Addr.mk.injEq, and_true] at e
  obtain ⟨rfl, rfl⟩ := e
  exact hc
/-- What a row that may have grown reads as. -/
theorem IS.ofRow {w : World} {base n : Nat} {T : TypeId} {v : Value} {xs : List Value} {Z : Nat → Int} (h : w.ownsRow base T 1 v n xs) (hx : ∀ j, j < n → xs[j]? = some (.int .i64 (Z j))) (hw : ∀ j, j < n → (Lit.int .i64 (Z j)).wf = true) :
    ∃ a c, v = .slice a n c ∧ IS .i64 w a n c Z := by
  have h' := h
  rcases h.2 with ⟨rfl, rfl⟩ | ⟨g, cap, cur, rfl, hbg, hh, hjc, hcm, hcs, htake⟩
  · exact ⟨none, 0, rfl, Nat.le_refl _, Nat.zero_le _, fun i hi => by omega⟩
  · refine ⟨_, _, rfl, hjc, hcm, fun i hi => ⟨g, 0, rfl, (Array.getElem?_eq_some_iff.1 hh).1, ?_, hw i hi⟩⟩
    rw [Nat.zero_add, h'.cellAt i (by omega)]
    exact hx i hi
/-- A new list, to be read. -/
def ListNew (w : World) (n : Nat) (Z : Nat → Int) (e : Ending) (w' : World) : Prop :=
  ∃ a c, e = .returned (.slice a n c) ∧ IS .i64 w' a n c Z ∧ Below w.heap.size w w'
/-- A list without the number with an index. -/
def without (Z : Nat → Int) (k t : Nat) : Int := if t < k then Z t else Z (t + 1)
/-- What stands behind the first k. -/
def dropI (Z : Nat → Int) (k t : Nat) : Int := Z (k + t)
theorem IS.sub {w : World} {b off n c k : Nat} {Z : Nat → Int} (h : IS .i64 w (some ⟨b, off, none⟩) n c Z) (hk : k ≤ n) {A : Option Addr} (hA : c ≠ k → A = some ⟨b, off + k, none⟩) : IS .i64 w A (n - k) (c - k) (dropI Z k) := by
  have h1 := h.1
  have h2 := h.2.1
  refine ⟨by omega, by omega, fun i hi => ?_⟩
  obtain ⟨b', off', e, hl, hc, hw⟩ := h.at (show k + i < n by omega)
  simp only [Option.some.injEq, Addr.mk.injEq, and_true] at e
  obtain ⟨rfl, rfl⟩ := e
  exact ⟨b, off + k, hA (by omega), hl, by rw [Nat.add_assoc]; exact hc, hw⟩
theorem IS.front {w : World} {a : Option Addr} {n c k : Nat} {Z : Nat → Int} (h : IS .i64 w a n c Z) (hk : k ≤ n) : IS .i64 w a k c Z :=
  ⟨Nat.le_trans hk h.1, h.2.1, fun i hi => h.2.2 i (by omega)⟩
theorem without_cells {Z : Nat → Int} {n k j : Nat} (hk : k < n) (hj : j < n - 1) : (cellsOfI Z k ++ cellsOfI (dropI Z (k + 1)) (n - (k + 1)))[j]? = some (.int .i64 (without Z k j)) := by
  unfold without
  by_cases h : j < k
  · rw [List.getElem?_append_left (by rw [cellsI_len]; exact h), cellsI_at h, if_pos h]
  · rw [List.getElem?_append_right (by rw [cellsI_len]; omega), cellsI_len, cellsI_at (by omega), if_neg h]
    unfold dropI
    rw [show k + 1 + (j - k) = j + 1 by omega]
theorem without_wf {Z : Nat → Int} {n k : Nat} (hw : ∀ j, j < n → (Lit.int .i64 (Z j)).wf = true) : ∀ j, j < n - 1 → (Lit.int .i64 (without Z k j)).wf = true := by
  intro j hj
  unfold without
  split
  · exact hw _ (by omega)
  · exact hw _ (by omega)
theorem IS.wfs {w : World} {a : Option Addr} {n c : Nat} {Z : Nat → Int} (h : IS .i64 w a n c Z) : ∀ j, j < n → (Lit.int .i64 (Z j)).wf = true := fun j hj => (h.at hj).elim fun _ q => q.elim fun _ q => q.2.2.2

/-- A list in memory of its own, with its row. -/
def ListRow (w : World) (n : Nat) (Z : Nat → Int) (e : Ending) (w' : World) : Prop :=
  ∃ g c, e = .returned (.slice (some ⟨g, 0, none⟩) n c) ∧ w'.ownsRow w.heap.size 2 1 (.slice (some ⟨g, 0, none⟩) n c) n (cellsOfI Z n) ∧ Below w.heap.size w w'
set_option maxRecDepth 20000 in
set_option maxHeartbeats 1000000 in
theorem cloneI_any (b off n c : Nat) (Z : Nat → Int) (w : World) (h0 : 0 < n) (hn : n ≤ 1048576) (h : IS .i64 w (some ⟨b, off, none⟩) n c Z) :
    Calls Try.prog 71 #[.slice (some ⟨b, off, none⟩) n c] w (ListRow w n Z) := by
  obtain ⟨i0, hi, hz0, hz1, hz2⟩ := info_parts info64
  have hcell := Lib.hid (cellsI_cell h)
  have q22 : ∀ (w : World) (a : Option Addr) (n c n' c' : Nat), (binOp .eql 22 (.slice a n c) (.slice none n' c')).run Try.prog w = .ok (.bool a.isNone) w := fun w a n c n' c' => Lib.run_eql_slice_nil w _ _ a n c n' c' Try.underlying22
  clear h
  go_enter Try.func71, Try.ntmps71
  go_wp2_with (at_builtin; refine wpList_append_own _ rfl _ _ 22 rfl w.heap.size 2 i0 (.int .i64 0) 1 8 Try.underlying22 hi hz0 hz1 hz2 rfl (by decide) _ _ _ rfl (World.ownsRow_lit w #[] 0 (Nat.le_refl _) (Nat.zero_le _) (by simp)) ⟨b, off, none⟩ n c (cellsOfI Z n) rfl ?qc1 ?qc2 ?qc3 ?qc4 ?qc5 ?qc6 ?_)
  case qc1 => rw [cellsI_len]; omega
  case qc2 =>
    intro j u hj
    rw [Addr.add_lit]
    exact Lib.cell?_alloc_some _ (hcell.out j u hj)
  case qc3 => exact cellsI_one
  case qc4 => rw [Nat.zero_add]; unfold maxLen; omega
  case qc5 => rw [Nat.zero_add]; omega
  case qc6 => simp
  intro v' w1 hown hgrow hnil
  have hown2 : w1.ownsRow w.heap.size 2 1 v' n (cellsOfI Z n) := by simpa using hown
  have b2 : Hid (Below w.heap.size w w1) := Lib.hid (((Below.refl _ w).alloc (Nat.le_refl _) _).grown hgrow (by simp) (by intro k hk; simp [Value.ownBlock] at hk; omega))
  obtain ⟨g, cap, rfl⟩ : ∃ g cap, v' = .slice (some ⟨g, 0, none⟩) n cap := by
    rcases hown2.2 with ⟨_, e⟩ | ⟨g, cap, _, e, _⟩
    · omega
    · exact ⟨g, cap, e⟩
  have o2 := Lib.hid hown2
  clear hown hgrow hnil hown2
  go_wp2
  go_ret
  exact ⟨g, cap, rfl, o2.out, b2.out⟩
theorem below_setCellsI {B b : Nat} {a : World} (hb : B ≤ b) : ∀ (vs : List Value) (o : Nat) (w : World), Below B a w → Below B a (w.setCells b o vs)
  | [], o, w, h => h
  | v :: vs, o, w, h => below_setCellsI hb vs (o + 1) _ (h.setCell (p := ⟨b, o, none⟩) hb v)
end Go.Proofs.Ytinekdfpgkmbnab
