/- Helper: lists of integers that are copied, appended and cut. Conditions: none. -/
import Derived.Test.YtinekdfpgkmbnacIntLaw
import Derived.Test.YtinekdfpgkmbnacKeys
import Derived.Lib.SliceRun
import Derived.Deep.RegionHeld3
import Derived.Deep.RegionLaw
import Derived.IntWalk
set_option linter.unusedVariables false
set_option linter.unusedSimpArgs false
namespace Go.Proofs.Ytinekdfpgkmbnac
open Go.RowKit

/-- The cells of a list. -/
def cellsOfI (Z : Nat → Int) (n : Nat) : List Value := (List.range n).map fun t => Value.int .i64 (Z t)
theorem cellsI_len (Z : Nat → Int) (n : Nat) : (cellsOfI Z n).length = n := by simp [cellsOfI]
theorem cellsI_at {Z : Nat → Int} {n j : Nat} (hj : j < n) : (cellsOfI Z n)[j]? = some (.int .i64 (Z j)) := by
  simp [cellsOfI, List.getElem?_range hj]
theorem cellsI_one {Z : Nat → Int} {n : Nat} : ∀ u ∈ cellsOfI Z n, u.oneCell' = true := by
  intro u hu
  obtain ⟨t, _, rfl⟩ := List.mem_map.1 hu
  rfl
theorem cellsI_lt {Z : Nat → Int} {n j : Nat} {u : Value} (h : (cellsOfI Z n)[j]? = some u) : j < n ∧ u = .int .i64 (Z j) := by
  have hj : j < n := by have := (List.getElem?_eq_some_iff.1 h).1; rwa [cellsI_len] at this
  rw [cellsI_at hj] at h
  exact ⟨hj, by cases h; rfl⟩
theorem cellsI_cell {w : World} {b off n c : Nat} {Z : Nat → Int} (h : IS .i64 w (some ⟨b, off, none⟩) n c Z) : ∀ j u, (cellsOfI Z n)[j]? = some u → w.cell? ⟨b, off + j, none⟩ = some u := by
  intro j u hu
  obtain ⟨hj, rfl⟩ := cellsI_lt hu
  obtain ⟨b', off', e, _, hc, _⟩ := h.at hj
  simp only [Option.some.injEq, Addr.mk.injEq, and_true] at e
  obtain ⟨rfl, rfl⟩ := e
  exact hc
/-- What a row that may have grown reads as. -/
theorem IS.ofRow {w : World} {base n : Nat} {T : TypeId} {v : Value} {xs : List Value} {Z : Nat → Int} (h : w.ownsRow base T 1 v n xs) (hx : ∀ j, j < n → xs[j]? = some (.int .i64 (Z j))) (hw : ∀ j, j < n → (Lit.int .i64 (Z j)).wf = true) :
    ∃ a c, v = .slice a n c ∧ IS .i64 w a n c Z := by
  have h' := h
  rcases h.2 with ⟨rfl, rfl⟩ | ⟨g, cap, cur, rfl, hbg, hh, hjc, hcm, hcs, htake⟩
  · exact ⟨none, 0, rfl, Nat.le_refl _, Nat.zero_le _, fun i hi => by omega⟩
  · refine ⟨_, _, rfl, hjc, hcm, fun i hi => ⟨g, 0, rfl, (Array.getElem?_eq_some_iff.1 hh).1, ?_, hw i hi⟩⟩
    rw [Nat.zero_add, h'.cellAt i (by omega)]
    exact hx i hi
/-- A new list, to be read. -/
def ListNew (w : World) (n : Nat) (Z : Nat → Int) (e : Ending) (w' : World) : Prop :=
  ∃ a c, e = .returned (.slice a n c) ∧ IS .i64 w' a n c Z ∧ Below w.heap.size w w'
/-- A list without the number with an index. -/
def without (Z : Nat → Int) (k t : Nat) : Int := if t < k then Z t else Z (t + 1)
/-- What stands behind the first k. -/
def dropI (Z : Nat → Int) (k t : Nat) : Int := Z (k + t)
theorem IS.sub {w : World} {b off n c k : Nat} {Z : Nat → Int} (h : IS .i64 w (some ⟨b, off, none⟩) n c Z) (hk : k ≤ n) {A : Option Addr} (hA : c ≠ k → A = some ⟨b, off + k, none⟩) : IS .i64 w A (n - k) (c - k) (dropI Z k) := by
  have h1 := h.1
  have h2 := h.2.1
  refine ⟨by omega, by omega, fun i hi => ?_⟩
  obtain ⟨b', off', e, hl, hc, hw⟩ := h.at (show k + i < n by omega)
  simp only [Option.some.injEq, Addr.mk.injEq, and_true] at e
  obtain ⟨rfl, rfl⟩ := e
  exact ⟨b, off + k, hA (by omega), hl, by rw [Nat.add_assoc]; exact hc, hw⟩
theorem IS.front {w : World} {a : Option Addr} {n c k : Nat} {Z : Nat → Int} (h : IS .i64 w a n c Z) (hk : k ≤ n) : IS .i64 w a k c Z :=
  ⟨Nat.le_trans hk h.1, h.2.1, fun i hi => h.2.2 i (by omega)⟩
theorem without_cells {Z : Nat → Int} {n k j : Nat} (hk : k < n) (hj : j < n - 1) : (cellsOfI Z k ++ cellsOfI (dropI Z (k + 1)) (n - (k + 1)))[j]? = some (.int .i64 (without Z k j)) := by
  unfold without
  by_cases h : j < k
  · rw [List.getElem?_append_left (by rw [cellsI_len]; exact h), cellsI_at h, if_pos h]
  · rw [List.getElem?_append_right (by rw [cellsI_len]; omega), cellsI_len, cellsI_at (by omega), if_neg h]
    unfold dropI
    rw [show k + 1 + (j - k) = j + 1 by omega]
theorem without_wf {Z : Nat → Int} {n k : Nat} (hw : ∀ j, j < n → (Lit.int .i64 (Z j)).wf = true) : ∀ j, j < n - 1 → (Lit.int .i64 (without Z k j)).wf = true := by
  intro j hj
  unfold without
  split
  · exact hw _ (by omega)
  · exact hw _ (by omega)
theorem IS.wfs {w : World} {a : Option Addr} {n c : Nat} {Z : Nat → Int} (h : IS .i64 w a n c Z) : ∀ j, j < n → (Lit.int .i64 (Z j)).wf = true := fun j hj => (h.at hj).elim fun _ q => q.elim fun _ q => q.2.2.2

set_option maxRecDepth 20000 in
set_option maxHeartbeats 1000000 in
theorem specWithout_any (b off n c k : Nat) (Z : Nat → Int) (w : World) (hk : k < n) (hn : n ≤ 1048576) (h : IS .i64 w (some ⟨b, off, none⟩) n c Z) :
    Calls Try.prog 41 #[.slice (some ⟨b, off, none⟩) n c, .int .i64 k] w (ListNew w (n - 1) (without Z k)) := by
  obtain ⟨i0, hi, hz0, hz1, hz2⟩ := info_parts info64
  have hcap := h.1
  have hmx := h.2.1
  have hmax : c ≤ 9223372036854775807 := by unfold maxLen at hmx; omega
  have hcells := Lib.hid (cellsI_cell (h.front (k := k) (by omega)))
  have hwfs := Lib.hid (without_wf (k := k) h.wfs)
  have hb : b < w.heap.size := by obtain ⟨b', off', e, hl, _⟩ := h.at (show 0 < n by omega); simp only [Option.some.injEq, Addr.mk.injEq, and_true] at e; obtain ⟨rfl, rfl⟩ := e; exact hl
  have H := Lib.hid h
  clear h
  have hk1 : (k : Int) ≤ (n : Int) := by omega
  go_enter Try.func41, Try.ntmps41
  go_wp2_with (at_builtin; refine wpList_append_own _ rfl (.tmp 6) (.tmp 9) 22 rfl w.heap.size 2 i0 (.int .i64 0) 1 8 Try.underlying22 hi hz0 hz1 hz2 rfl (by decide) _ _ _ rfl (World.ownsRow_lit w #[] 0 (Nat.le_refl _) (Nat.zero_le _) (by simp)) ⟨b, off, none⟩ k c (cellsOfI Z k) rfl ?qc1 ?qc2 ?qc3 ?qc4 ?qc5 ?qc6 ?_)
  case qc1 => rw [cellsI_len]; omega
  case qc2 =>
    intro j u hj
    rw [Addr.add_lit]
    exact Lib.cell?_alloc_some _ (hcells.out j u hj)
  case qc3 => exact cellsI_one
  case qc4 => rw [Nat.zero_add]; unfold maxLen; omega
  case qc5 => rw [Nat.zero_add]; omega
  case qc6 => simp
  intro v' w1 hown hgrow hnil
  have hown2 : Hid (w1.ownsRow w.heap.size 2 1 v' k (cellsOfI Z k)) := Lib.hid (by simpa using hown)
  have b2 : Below w.heap.size w w1 := ((Below.refl _ w).alloc (Nat.le_refl _) _).grown hgrow (by simp) (by intro k hk; simp [Value.ownBlock] at hk; omega)
  have H1 := Lib.hid (H.out.below b2 (Nat.le_refl _))
  have B2 := Lib.hid b2
  clear hown hgrow hnil hcells b2
  -- where the rest of the list begins
  obtain ⟨A, hA, hnews⟩ : ∃ A : Addr, (if c = k + 1 then some (⟨b, off, none⟩ : Addr) else some ⟨b, off + (k + 1), none⟩) = some A ∧ Hid (∀ j u, (cellsOfI (dropI Z (k + 1)) (n - (k + 1)))[j]? = some u → w1.cell? (A.add j) = some u) := by
    by_cases e : c = k + 1
    · refine ⟨_, if_pos e, Lib.hid fun j u hu => ?_⟩
      have := (cellsI_lt hu).1
      omega
    · refine ⟨_, if_neg e, Lib.hid fun j u hu => ?_⟩
      rw [Addr.add_lit]
      exact cellsI_cell (H1.out.sub (k := k + 1) (A := some ⟨b, off + (k + 1), none⟩) (by omega) (fun _ => rfl)) j u hu
  have hwr : IntKind.i64.wrap ((k : Int) + 1) = (k : Int) + 1 := IntWalk.i64_in _ (by omega)
  have hp0 : (0 : Int) ≤ (k : Int) + 1 := by omega
  have hp1 : (k : Int) + 1 ≤ (n : Int) := by omega
  have hp2 : ((k : Int) + 1).toNat = k + 1 := by omega
  have s5 := Lib.hid B2.out.size
  go_wp2_with (at_builtin; refine wpList_append_own _ rfl (.tmp 11) (.tmp 15) 22 rfl w.heap.size 2 i0 (.int .i64 0) 1 8 Try.underlying22 hi hz0 hz1 hz2 rfl (by decide) _ _ _ rfl hown2.out A (n - (k + 1)) (c - (k + 1)) (cellsOfI (dropI Z (k + 1)) (n - (k + 1))) rfl ?rc1 ?rc2 ?rc3 ?rc4 ?rc5 ?rc6 ?_)
  case rc1 => rw [cellsI_len]; omega
  case rc2 => exact hnews.out
  case rc3 => exact cellsI_one
  case rc4 => unfold maxLen; omega
  case rc5 => omega
  case rc6 => exact s5.out
  intro v2 w2 hown hgrow hnil
  have e1 : k + (n - (k + 1)) = n - 1 := by omega
  rw [e1] at hown
  obtain ⟨a2, c2, rfl, f2⟩ := IS.ofRow (Z := without Z k) hown (fun j hj => without_cells hk hj) hwfs.out
  have F2 := Lib.hid f2
  have B3 : Hid (Below w.heap.size w w2) := Lib.hid (B2.out.grown hgrow s5.out (fun q hq => (hown2.out.lt q hq).1))
  clear hown hgrow hnil hA f2
  go_wp2
  go_ret
  exact ⟨_, _, rfl, F2.out, B3.out⟩
/-- A list in memory of its own, with its row. -/
def ListRow (w : World) (n : Nat) (Z : Nat → Int) (e : Ending) (w' : World) : Prop :=
  ∃ g c, e = .returned (.slice (some ⟨g, 0, none⟩) n c) ∧ w'.ownsRow w.heap.size 2 1 (.slice (some ⟨g, 0, none⟩) n c) n (cellsOfI Z n) ∧ Below w.heap.size w w'
set_option maxRecDepth 20000 in
set_option maxHeartbeats 1000000 in
theorem cloneI_any (b off n c : Nat) (Z : Nat → Int) (w : World) (h0 : 0 < n) (hn : n ≤ 1048576) (h : IS .i64 w (some ⟨b, off, none⟩) n c Z) :
    Calls Try.prog 55 #[.slice (some ⟨b, off, none⟩) n c] w (ListRow w n Z) := by
  obtain ⟨i0, hi, hz0, hz1, hz2⟩ := info_parts info64
  have hcell := Lib.hid (cellsI_cell h)
  have q22 : ∀ (w : World) (a : Option Addr) (n c n' c' : Nat), (binOp .eql 22 (.slice a n c) (.slice none n' c')).run Try.prog w = .ok (.bool a.isNone) w := fun w a n c n' c' => Lib.run_eql_slice_nil w _ _ a n c n' c' Try.underlying22
  clear h
  go_enter Try.func55, Try.ntmps55
  go_wp2_with (at_builtin; refine wpList_append_own _ rfl _ _ 22 rfl w.heap.size 2 i0 (.int .i64 0) 1 8 Try.underlying22 hi hz0 hz1 hz2 rfl (by decide) _ _ _ rfl (World.ownsRow_lit w #[] 0 (Nat.le_refl _) (Nat.zero_le _) (by simp)) ⟨b, off, none⟩ n c (cellsOfI Z n) rfl ?qc1 ?qc2 ?qc3 ?qc4 ?qc5 ?qc6 ?_)
  case qc1 => rw [cellsI_len]; omega
  case qc2 =>
    intro j u hj
    rw [Addr.add_lit]
    exact Lib.cell?_alloc_some _ (hcell.out j u hj)
  case qc3 => exact cellsI_one
  case qc4 => rw [Nat.zero_add]; unfold maxLen; omega
  case qc5 => rw [Nat.zero_add]; omega
  case qc6 => simp
  intro v' w1 hown hgrow hnil
  have hown2 : w1.ownsRow w.heap.size 2 1 v' n (cellsOfI Z n) := by simpa using hown
  have b2 : Hid (Below w.heap.size w w1) := Lib.hid (((Below.refl _ w).alloc (Nat.le_refl _) _).grown hgrow (by simp) (by intro k hk; simp [Value.ownBlock] at hk; omega))
  obtain ⟨g, cap, rfl⟩ : ∃ g cap, v' = .slice (some ⟨g, 0, none⟩) n cap := by
    rcases hown2.2 with ⟨_, e⟩ | ⟨g, cap, _, e, _⟩
    · omega
    · exact ⟨g, cap, e⟩
  have o2 := Lib.hid hown2
  clear hown hgrow hnil hown2
  go_wp2
  go_ret
  exact ⟨g, cap, rfl, o2.out, b2.out⟩
theorem below_setCellsI {B b : Nat} {a : World} (hb : B ≤ b) : ∀ (vs : List Value) (o : Nat) (w : World), Below B a w → Below B a (w.setCells b o vs)
  | [], o, w, h => h
  | v :: vs, o, w, h => below_setCellsI hb vs (o + 1) _ (h.setCell (p := ⟨b, o, none⟩) hb v)
/-- The cells of a list of one's own. -/
def CellsI (w : World) (b off n : Nat) (Z : Nat → Int) : Prop := (∀ t, t < n → w.cell? ⟨b, off + t, none⟩ = some (.int .i64 (Z t))) ∧ ∀ t, w.frozen? ⟨b, off + t, none⟩ = false
theorem CellsI.drew {w : World} {b off n : Nat} {Z : Nat → Int} (h : CellsI w b off n Z) : CellsI w.drew b off n Z := h
/-- What a list reads as whose end has been moved one to the left, the last number being there twice. -/
def movedI (Z : Nat → Int) (n k t : Nat) : Int := if t < k then Z t else if t + 1 < n then Z (t + 1) else Z t
theorem CellsI.moved {w : World} {b off n k : Nat} {Z : Nat → Int} (h : CellsI w b off n Z) (hk : k < n) : CellsI (w.setCells b (off + k) (cellsOfI (dropI Z (k + 1)) (n - (k + 1)))) b off n (movedI Z n k) := by
  refine ⟨fun t ht => ?_, fun t => by rw [World.frozen?_setCells]; exact h.2 t⟩
  unfold movedI
  by_cases h1 : t < k
  · rw [if_pos h1, World.cell?_setCells_out _ _ _ _ _ (fun _ _ => .inl (by show off + t < off + k; omega))]
    exact h.1 t ht
  · rw [if_neg h1]
    by_cases h2 : t + 1 < n
    · rw [if_pos h2]
      have hj : t - k < (cellsOfI (dropI Z (k + 1)) (n - (k + 1))).length := by rw [cellsI_len]; omega
      have := World.cell?_setCells_in b (cellsOfI (dropI Z (k + 1)) (n - (k + 1))) (off + k) w (fun j hj => by rw [cellsI_len] at hj; rw [Nat.add_assoc, h.1 (k + j) (by omega)]; rfl) (t - k) hj
      rw [show off + t = off + k + (t - k) by omega, this]
      have e := cellsI_at (Z := dropI Z (k + 1)) (n := n - (k + 1)) (j := t - k) (by omega)
      rw [List.getElem?_eq_getElem hj] at e
      rw [e]
      unfold dropI
      rw [show k + 1 + (t - k) = t + 1 by omega]
    · rw [if_neg h2, World.cell?_setCells_out _ _ _ _ _ (fun _ _ => .inr (by show off + k + (cellsOfI (dropI Z (k + 1)) (n - (k + 1))).length ≤ off + t; rw [cellsI_len]; omega))]
      exact h.1 t ht
theorem zeroI64 (w : World) : (zeroValue 2).run Try.prog w = .ok (.int .i64 0) w := by kernel_rfl
set_option maxHeartbeats 4000000 in
set_option maxRecDepth 1000000 in
theorem deleteI_any (b off n c k : Nat) (Z : Nat → Int) (w : World) (hk : k < n) (hn : n ≤ 1048576) (hcap : n ≤ c) (hmax : c ≤ 9223372036854775807) (hH : CellsI w b off n Z) :
    Calls Try.prog 60 #[.slice (some ⟨b, off, none⟩) n c, .int .i64 k, .int .i64 ((k : Int) + 1)] w fun e w' => e = .returned (.slice (some ⟨b, off, none⟩) (k + (n - (k + 1))) c) ∧ CellsI w' b off (n - 1) (without Z k) ∧ ∀ B a, B ≤ b → Below B a w → Below B a w' := by
  obtain ⟨i0, hi0, hz0, hz1, hz2⟩ := info_parts info64
  obtain ⟨news, hnews⟩ : ∃ news, news = cellsOfI (dropI Z (k + 1)) (n - (k + 1)) := ⟨_, rfl⟩
  have hlen : news.length = n - (k + 1) := by rw [hnews, cellsI_len]
  obtain ⟨A, hA, hsrc⟩ : ∃ A : Addr, (if c = k + 1 then some (⟨b, off, none⟩ : Addr) else some ⟨b, off + (k + 1), none⟩) = some A ∧ Hid (∀ t u, news[t]? = some u → w.drew.cell? (A.add t) = some u) := by
    by_cases h : c = k + 1
    · refine ⟨⟨b, off, none⟩, by simp [h], Lib.hid fun t u hu => ?_⟩
      rw [hnews] at hu
      have := (cellsI_lt hu).1
      omega
    · refine ⟨⟨b, off + (k + 1), none⟩, by simp [h], Lib.hid fun t u hu => ?_⟩
      rw [hnews] at hu
      obtain ⟨ht, rfl⟩ := cellsI_lt hu
      rw [Addr.add_lit, show off + (k + 1) + t = off + (k + 1 + t) by omega]
      exact hH.1 (k + 1 + t) (by omega)
  have s1 : Hid (news.length = (n - (k + 1)) * 1) := Lib.hid (by rw [Nat.mul_one]; exact hlen)
  have s2 : Hid (∀ u ∈ news, u.oneCell' = true) := Lib.hid (by rw [hnews]; exact cellsI_one)
  have s3 : Hid (∀ t, t < news.length → (w.drew.cell? ⟨b, off + k * 1 + t, none⟩).isSome = true ∧ w.drew.frozen? ⟨b, off + k * 1 + t, none⟩ = false) := Lib.hid (by
    intro t ht
    rw [hlen] at ht
    rw [Nat.mul_one, Nat.add_assoc]
    exact ⟨by show (w.cell? _).isSome = true; rw [hH.1 (k + t) (by omega)]; rfl, hH.2 (k + t)⟩)
  obtain ⟨W1, hW1⟩ : ∃ W1, W1 = w.drew.setCells b (off + k * 1) news := ⟨_, rfl⟩
  have hH1 : CellsI W1 b off n (movedI Z n k) := by
    rw [hW1, hnews, Nat.mul_one]
    exact CellsI.moved (w := w.drew) hH.drew hk
  have hcl : ∀ ty, (Builtin.clear_ #[22] ty #[.slice (some ⟨b, off + (k + (n - (k + 1))), none⟩) (n - (k + (n - (k + 1)))) (c - (k + (n - (k + 1))))]).run Try.prog W1 = .ok (.tuple #[]) (W1.setCells b (off + (k + (n - (k + 1)))) (List.replicate (n - (k + (n - (k + 1)))) (.int .i64 0))) :=
    fun ty => Lib.run_clear_slice W1 _ _ ty _ Try.underlying22 zeroI64 rfl rfl b (off + (k + (n - (k + 1)))) _ _ (by omega) (fun t ht => by rw [show off + (k + (n - (k + 1))) + t = off + (k + (n - (k + 1)) + t) by omega, hH1.1 _ (by omega)]; rfl) (fun t ht => by rw [show off + (k + (n - (k + 1))) + t = off + (k + (n - (k + 1)) + t) by omega]; exact hH1.2 _)
  have hpost : Hid (CellsI (W1.setCells b (off + (k + (n - (k + 1)))) (List.replicate (n - (k + (n - (k + 1)))) (.int .i64 0))) b off (n - 1) (without Z k)) := Lib.hid (by
    refine ⟨fun t ht => ?_, fun t => by rw [World.frozen?_setCells]; exact hH1.2 t⟩
    rw [World.cell?_setCells_out _ _ _ _ _ (fun _ _ => .inl (by show off + t < off + (k + (n - (k + 1))); omega)), hH1.1 t (by omega)]
    unfold movedI without
    by_cases h1 : t < k
    · rw [if_pos h1, if_pos h1]
    · rw [if_neg h1, if_neg h1, if_pos (by omega)])
  have hbel : Hid (∀ B a, B ≤ b → Below B a w → Below B a (W1.setCells b (off + (k + (n - (k + 1)))) (List.replicate (n - (k + (n - (k + 1)))) (.int .i64 0)))) := Lib.hid (fun B a hB h => by
    rw [hW1]
    exact below_setCellsI hB _ _ _ (below_setCellsI hB _ _ _ (Below.drew h)))
  have hW : Hid (W1 = w.drew.setCells b (off + k * 1) news) := Lib.hid hW1
  have hic : k ≤ c := by omega
  have hjc : k + 1 ≤ c := by omega
  have hjn : k + 1 ≤ n := by omega
  have e0 : ((k : Int) == (k : Int) + 1) = false := beq_eq_false_iff_ne.2 (by omega)
  have hp0 : (0 : Int) ≤ (k : Int) + 1 := by omega
  have hp1 : (k : Int) + 1 ≤ (n : Int) := by omega
  have hp3 : (k : Int) + 1 ≤ (c : Int) := by omega
  have hp2 : ((k : Int) + 1).toNat = k + 1 := by omega
  clear hW1 hH1 hH hnews hlen
  go_enter Try.func60, Try.ntmps60
  go_wp2_with fail
  go_region_law (refine step_append_room rfl (.tmp 22) (.tmp 25) 22 rfl 2 i0 1 Try.underlying22 hi0 hz1 b off k c (by simp [Act.eval, Act.put]) A (n - (k + 1)) (c - (k + 1)) news (by simp [Act.eval, Act.put]) s1.out hsrc.out s2.out (by omega) s3.out ?_; rw [← hW.out])
  go_wp2
  go_ret
  exact ⟨rfl, hpost.out, hbel.out⟩
set_option maxHeartbeats 1000000 in
theorem allBut_any (b off n c k : Nat) (Z : Nat → Int) (w : World) (hk : k < n) (hn : n ≤ 1048576) (h : IS .i64 w (some ⟨b, off, none⟩) n c Z) :
    Calls Try.prog 43 #[.slice (some ⟨b, off, none⟩) n c, .int .i64 k] w (ListNew w (n - 1) (without Z k)) := by
  have hwfs := Lib.hid (without_wf (k := k) h.wfs)
  have hcl := fun W (f : IS .i64 W (some ⟨b, off, none⟩) n c Z) => cloneI_any b off n c Z W (by omega) hn f
  have H := Lib.hid h
  clear h
  go_enter Try.func43, Try.ntmps43
  go_wp2_with fail
  go_at_call 55
  refine (hcl _ H.out).mono ?_
  rintro e w1 ⟨g, c1, rfl, o1, b1⟩
  have hcells : CellsI w1 g 0 n Z := ⟨fun t ht => by rw [Nat.zero_add, o1.cellAt t (by omega)]; exact cellsI_at ht, fun t => by rw [Nat.zero_add]; exact o1.frozenAt t⟩
  have hg := (o1.lt g rfl)
  have hcc : n ≤ c1 ∧ c1 ≤ maxLen := by
    rcases o1.2 with ⟨e, _⟩ | ⟨_, _, _, e, _, _, h3, h4, _⟩
    · cases e
    · simp only [Value.slice.injEq, true_and] at e
      obtain ⟨_, rfl⟩ := e
      exact ⟨h3, h4⟩
  have hcm : c1 ≤ 9223372036854775807 := by have := hcc.2; unfold maxLen at this; omega
  have hd := fun W (f : CellsI W g 0 n Z) => deleteI_any g 0 n c1 k Z W hk hn hcc.1 hcm f
  have HC := Lib.hid hcells
  have HB := Lib.hid b1
  have HG := Lib.hid hg
  have HCC := Lib.hid hcc
  clear hcells b1 hg o1 hcc hcl
  have hwr : IntKind.i64.wrap ((k : Int) + 1) = (k : Int) + 1 := IntWalk.i64_in _ (by omega)
  go_wp2_with fail
  go_at_call 60
  refine (hd _ HC.out).mono ?_
  rintro e w2 ⟨rfl, hc2, hb2⟩
  have B2 := Lib.hid (hb2 w.heap.size w HG.out.1 HB.out)
  have F2 : Hid (IS .i64 w2 (some ⟨g, 0, none⟩) (n - 1) c1 (without Z k)) := Lib.hid ⟨by have := HCC.out.1; omega, HCC.out.2, fun i hi => ⟨g, 0, rfl, by have h1 := hb2 0 w1 (Nat.zero_le _) (Below.refl _ _); exact Nat.lt_of_lt_of_le HG.out.2 h1.size, hc2.1 i hi, hwfs.out i hi⟩⟩
  have e1 : k + (n - (k + 1)) = n - 1 := by omega
  rw [e1]
  clear hc2 hb2 e1
  go_wp2
  go_ret
  exact ⟨_, _, rfl, F2.out, B2.out⟩
end Go.Proofs.Ytinekdfpgkmbnac
