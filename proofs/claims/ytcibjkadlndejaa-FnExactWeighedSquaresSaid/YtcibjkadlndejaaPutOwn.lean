/- Helper: a copy of a matrix, of the reference. Conditions: none. -/
import Derived.Test.YtcibjkadlndejaaPartImpl
import Derived.Deep.RegionLaw
import Derived.Deep.AppendLies
set_option linter.unusedVariables false
set_option linter.unusedSimpArgs false
namespace Go.Proofs.Ytcibjkadlndejaa
open Go.RowKit

/-- A copy, told by its row. -/
def CopyOwn (w : World) (R C : Int) (n : Nat) (Z : Nat → Nat) (e : Ending) (w' : World) : Prop :=
  ∃ g d, e = .returned (.agg #[.int .i64 R, .int .i64 C, .slice (some ⟨g, 0, none⟩) n d]) ∧ Own 41 .f32 w.heap.size w'.heap.size w' (some ⟨g, 0, none⟩) n d Z ∧ Below w.heap.size w w'
set_option maxHeartbeats 2000000 in
theorem l02Own_any (p b off n cap : Nat) (R C : Int) (Z : Nat → Nat) (w : World) (hn0 : 0 < n) (hn : n ≤ 144) (hp : p < w.heap.size) (hb : Box w p R C (some ⟨b, off, none⟩) n cap) (h : FS .f32 w (some ⟨b, off, none⟩) n cap Z) :
    Calls Try.prog 52 #[.pointer (some ⟨p, 0, none⟩)] w (CopyOwn w R C n Z) := by
  obtain ⟨x0, x1, x2⟩ := hb
  obtain ⟨i0, hi, hz0, hz1, hz2⟩ := info_parts info32
  have hne : ¬ w.heap.size = p := by omega
  have hown0 : ((w.alloc (.cells #[.int .i64 0, .int .i64 0, .slice none 0 0] 26)).alloc (.cells #[] 41)).ownsRow (w.heap.size + 1) 41 1 (.slice (some ⟨w.heap.size + 1, 0, none⟩) 0 0) 0 [] := by
    have hh := World.ownsRow_lit (base := w.heap.size + 1) (e := 41) (size := 1) (w.alloc (.cells #[.int .i64 0, .int .i64 0, .slice none 0 0] 26)) #[] 0 (by simp) (by simp) rfl
    simpa using hh
  have c0 : ((w.alloc (.cells #[.int .i64 0, .int .i64 0, .slice none 0 0] 26)).alloc (.cells #[] 41)).cell? ⟨w.heap.size, 0, none⟩ = some (.int .i64 0) := by simp [go_sem]
  have c1 : ((w.alloc (.cells #[.int .i64 0, .int .i64 0, .slice none 0 0] 26)).alloc (.cells #[] 41)).cell? ⟨w.heap.size, 1, none⟩ = some (.int .i64 0) := by simp [go_sem]
  have c2 : ((w.alloc (.cells #[.int .i64 0, .int .i64 0, .slice none 0 0] 26)).alloc (.cells #[] 41)).cell? ⟨w.heap.size, 2, none⟩ = some (.slice none 0 0) := by simp [go_sem]
  have B0 : Below w.heap.size  w ((w.alloc (.cells #[.int .i64 0, .int .i64 0, .slice none 0 0] 26)).alloc (.cells #[] 41)) := (by repeat first | (with_reducible exact Below.refl _ _) | (with_reducible refine Below.setCell ?_ (by first | exact Nat.le_refl _ | (simp; done) | (simp; omega) | omega) _) | (with_reducible refine Below.alloc ?_ (by first | exact Nat.le_refl _ | (simp; done) | (simp; omega) | omega) _) | (with_reducible refine below_drewN ?_ _) | (with_reducible refine Below.drew ?_))
  have y0 := (B0.cell (p := ⟨p, 0, none⟩) hp).trans x0
  have y1 := (B0.cell (p := ⟨p, 1, none⟩) hp).trans x1
  have y2 := (B0.cell (p := ⟨p, 2, none⟩) hp).trans x2
  have cf : ∀ i, ((w.alloc (.cells #[.int .i64 0, .int .i64 0, .slice none 0 0] 26)).alloc (.cells #[] 41)).frozen? ⟨w.heap.size, i, none⟩ = false := fun i => by simp [go_sem]
  have hF : FS .f32 ((w.alloc (.cells #[.int .i64 0, .int .i64 0, .slice none 0 0] 26)).alloc (.cells #[] 41)) (some ⟨b, off, none⟩) n cap Z := h.below B0 (Nat.le_refl _)
  have hwf : ∀ j, j < n → (Lit.float .f32 (Z j)).wf = true := fun j hj => (h.at hj).elim fun _ q => q.elim fun _ q => q.2.2.2.2
  have hs0 : ((w.alloc (.cells #[.int .i64 0, .int .i64 0, .slice none 0 0] 26)).alloc (.cells #[] 41)).heap.size = w.heap.size + 1 + 1 := by simp
  go_enter Try.func52, Try.ntmps52
  go_wp2
  go_region_law (first
      | (refine step_append_lies _ (by rfl) _ _ _ (by rfl) (w.heap.size + 1) 41 i0 _ 1 4 Try.underlying22 hi hz0 hz1 hz2 rfl (by omega) (.slice (some ⟨w.heap.size + 1, 0, none⟩) 0 0) 0 [] (by rfl) (by exact hown0) ⟨b, off, none⟩ n cap (cellsOf32 Z n) (by rfl) (by rw [cells32_len]; omega) (fun i v hv => by rw [Addr.add_lit]; exact cells32_cell hF i v hv) cells32_one (by omega) (by unfold maxLen; omega) (by omega) (by simp [World.drew] <;> omega) (w.heap.size + 1 + 1) (by simp [World.drew]) ?_
         intro gg cp2 w2 hown2 hgrow2 hat2 hlt2
         have q0 := hgrow2.cell (a := ⟨w.heap.size, 0, none⟩) (v := .int .i64 0) c0 (by simp [Value.ownBlock])
         have q1 := hgrow2.cell (a := ⟨w.heap.size, 1, none⟩) (v := .int .i64 0) c1 (by simp [Value.ownBlock])
         have q2 := hgrow2.cell (a := ⟨w.heap.size, 2, none⟩) (v := .slice none 0 0) c2 (by simp [Value.ownBlock])
         have q4 := hgrow2.cell (a := ⟨p, 0, none⟩) (v := .int .i64 R) y0 (by simp [Value.ownBlock]; omega)
         have q5 := hgrow2.cell (a := ⟨p, 1, none⟩) (v := .int .i64 C) y1 (by simp [Value.ownBlock]; omega)
         have q6 := hgrow2.cell (a := ⟨p, 2, none⟩) (v := .slice (some ⟨b, off, none⟩) n cap) y2 (by simp [Value.ownBlock]; omega)
         have q3 : ∀ i, w2.frozen? ⟨w.heap.size, i, none⟩ = false := fun i => (World.frozen?_of_block (a := ⟨w.heap.size, i, none⟩) (hgrow2.block w.heap.size (by simp [World.drew]; omega) (by simp [Value.ownBlock]))).trans (cf i)))
  all_goals
    have B2 : Below w.heap.size w w2 := (B0.drew).grown hgrow2 (by simp [World.drew] <;> omega) (by intro k hk; simp [Value.ownBlock] at hk; omega)
    obtain ⟨g', d', e, o2, _, _⟩ := own_of_row (Z := Z) hown2 (by omega) (fun j hj => by rw [List.nil_append]; exact cells32_at (by omega)) (fun j hj => hwf j (by omega))
    simp only [Value.slice.injEq, Option.some.injEq, Addr.mk.injEq, and_true, true_and] at e
    obtain ⟨e1, e2⟩ := e
    subst e1
    subst e2
    rw [Nat.zero_add] at o2
    have hg' : w.heap.size < gg := by
      rcases hat2 with e | e
      · simp [Value.ownBlock] at e; omega
      · omega
    clear hown2 hgrow2 hat2 hown0 c0 c1 c2 cf hF y0 y1 y2 q4 q5 q6 B0 hwf
    go_wp2_with fail
    refine bodyPost_ret (v := .agg #[.int .i64 R, .int .i64 C, .slice (some ⟨gg, 0, none⟩) n cp2]) (by simp [results, Try.results52, go_sem, q0, q1, q2]) rfl ?_
    exact ⟨_, _, rfl, (by refine Own.to o2 (hk := fun g hg1 hg2 => by (try simp at hg1 hg2); repeat (first | rw [Below.heap_setCell _ _ _ _ (by simp; omega)] | rw [Below.heap_alloc _ _ _ (by simp [World.setCell]; omega)])) ?_ ?_ ?_ ?_ <;> (first | exact Nat.le_refl _ | omega | (simp [World.setCell]; done) | (simp [World.setCell]; omega))), (by repeat first | (with_reducible exact B2) | (with_reducible refine Below.setCell ?_ (by first | exact Nat.le_refl _ | (simp; done) | (simp; omega) | omega) _) | (with_reducible refine Below.alloc ?_ (by first | exact Nat.le_refl _ | (simp; done) | (simp; omega) | omega) _) | (with_reducible refine below_drewN ?_ _) | (with_reducible refine Below.drew ?_))⟩
end Go.Proofs.Ytcibjkadlndejaa
