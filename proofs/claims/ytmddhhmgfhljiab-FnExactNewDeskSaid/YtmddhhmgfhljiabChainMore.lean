/- Helper: chains: copies whose two lists lie apart, and marks on both. Conditions: none. -/
import Derived.Test.YtmddhhmgfhljiabChain
import Derived.Test.YtmddhhmgfhljiabBoxes
set_option linter.unusedVariables false
set_option linter.unusedSimpArgs false
namespace Go.Proofs.Ytmddhhmgfhljiab
open Go.RowKit

/-- A new chain in memory of its own, its lists apart. -/
def SepChain (w : World) (n : Nat) (Z : Nat → Nat) (n2 : Nat) (Z2 : Nat → Nat) (e : Ending) (w' : World) : Prop :=
  ∃ a c a2 c2 M, e = .returned (.agg #[.slice a n c, .slice a2 n2 c2]) ∧ w.heap.size ≤ M ∧ M ≤ w'.heap.size ∧ Own 77 .f32 w.heap.size M w' a n c Z ∧ Own 77 .f32 M w'.heap.size w' a2 n2 c2 Z2 ∧ Below w.heap.size w w'
set_option maxHeartbeats 1000000 in
theorem toChain_sep (a : Option Addr) (n c : Nat) (Z : Nat → Nat) (a2 : Option Addr) (n2 c2 : Nat) (Z2 : Nat → Nat) (w : World) (hn : n ≤ 1048576) (hn2 : n2 ≤ 1048576) (h : FS .f32 w a n c Z) (h2 : FS .f32 w a2 n2 c2 Z2) :
    Calls Try.prog 30 #[.agg #[.slice a n c, .slice a2 n2 c2]] w (SepChain w n Z n2 Z2) := by
  go_enter Try.func30, Try.ntmps30
  go_wp2_with fail
  go_at_call 29
  refine (toFloat32S_own a n c Z _ hn (h.below (by repeat first | (with_reducible exact Below.refl _ _) | (with_reducible refine Below.setCell ?_ (by first | exact Nat.le_refl _ | (simp; done) | (simp; omega) | omega) _) | (with_reducible refine Below.alloc ?_ (by first | exact Nat.le_refl _ | (simp; done) | (simp; omega) | omega) _) | (with_reducible refine below_drewN ?_ _) | (with_reducible refine Below.drew ?_)) (Nat.le_refl _))).mono ?_
  rintro e w1 ⟨p, q, rfl, o1, b1⟩
  obtain ⟨hc, hf⟩ := bcell b1
  have hz : w.heap.size + 1 + 1 + 1 ≤ w1.heap.size := by have := b1.size; simp at this; omega
  have B1 : Below w.heap.size w w1 := (Below.trans (by repeat first | (with_reducible exact Below.refl _ _) | (with_reducible refine Below.setCell ?_ (by first | exact Nat.le_refl _ | (simp; done) | (simp; omega) | omega) _) | (with_reducible refine Below.alloc ?_ (by first | exact Nat.le_refl _ | (simp; done) | (simp; omega) | omega) _) | (with_reducible refine below_drewN ?_ _) | (with_reducible refine Below.drew ?_)) (b1.mono (by simp; omega)))
  have X1 : w1.cell? ⟨w.heap.size, 1, none⟩ = some (.slice a2 n2 c2) ∧ (w1.cell? ⟨w.heap.size + 1, 0, none⟩ = some (.slice none 0 0) ∧ w1.cell? ⟨w.heap.size + 1, 1, none⟩ = some (.slice none 0 0)) ∧ (w1.cell? ⟨w.heap.size + 1 + 1, 0, none⟩ = some (.slice none 0 0) ∧ w1.cell? ⟨w.heap.size + 1 + 1, 1, none⟩ = some (.slice none 0 0)) ∧ (∀ i, w1.frozen? ⟨w.heap.size + 1, i, none⟩ = false) ∧ (∀ i, w1.frozen? ⟨w.heap.size + 1 + 1, i, none⟩ = false) := by
    refine ⟨?_, ⟨?_, ?_⟩, ⟨?_, ?_⟩, fun i => ?_, fun i => ?_⟩
    all_goals first | rw [hc _ _ (by simp <;> omega)] | rw [hf _ _ (by simp <;> omega)]
    all_goals simp [go_sem]
  obtain ⟨x0, ⟨y0, y1⟩, ⟨z0, z1⟩, iy, iz⟩ := X1
  go_wp2_with fail
  have gs : w1.grownBy (w1.setCell ⟨w.heap.size + 1 + 1, 0, none⟩ (.slice p n q)) (some (w.heap.size + 1 + 1)) := ⟨rfl, rfl, rfl, by simp [World.setCell], fun k _ hk => Below.heap_setCell _ _ _ _ (fun e => hk (by simp [e]))⟩
  have Bs : Below w.heap.size w (w1.setCell ⟨w.heap.size + 1 + 1, 0, none⟩ (.slice p n q)) := B1.setCell (by show w.heap.size ≤ w.heap.size + 1 + 1; omega) _
  have os := o1.kept gs (fun g hg => by cases hg; left; simp)
  have y0s : (w1.setCell ⟨w.heap.size + 1 + 1, 0, none⟩ (.slice p n q)).cell? ⟨w.heap.size + 1, 0, none⟩ = some (.slice none 0 0) := by rw [World.cell?_setCell_other _ _ _ _ (by simp)]; exact y0
  have y1s : (w1.setCell ⟨w.heap.size + 1 + 1, 0, none⟩ (.slice p n q)).cell? ⟨w.heap.size + 1, 1, none⟩ = some (.slice none 0 0) := by rw [World.cell?_setCell_other _ _ _ _ (by simp)]; exact y1
  have z0s : (w1.setCell ⟨w.heap.size + 1 + 1, 0, none⟩ (.slice p n q)).cell? ⟨w.heap.size + 1 + 1, 0, none⟩ = some (.slice p n q) := World.cell?_setCell_same _ _ _ z0
  have z1s : (w1.setCell ⟨w.heap.size + 1 + 1, 0, none⟩ (.slice p n q)).cell? ⟨w.heap.size + 1 + 1, 1, none⟩ = some (.slice none 0 0) := by rw [World.cell?_setCell_other _ _ _ _ (by simp)]; exact z1
  have iys : ∀ i, (w1.setCell ⟨w.heap.size + 1 + 1, 0, none⟩ (.slice p n q)).frozen? ⟨w.heap.size + 1, i, none⟩ = false := fun i => by rw [World.frozen?_setCell]; exact iy i
  have izs : ∀ i, (w1.setCell ⟨w.heap.size + 1 + 1, 0, none⟩ (.slice p n q)).frozen? ⟨w.heap.size + 1 + 1, i, none⟩ = false := fun i => by rw [World.frozen?_setCell]; exact iz i
  have hzs : w.heap.size + 1 + 1 + 1 ≤ (w1.setCell ⟨w.heap.size + 1 + 1, 0, none⟩ (.slice p n q)).heap.size := by simpa [World.setCell] using hz
  have hUs : w1.heap.size ≤ (w1.setCell ⟨w.heap.size + 1 + 1, 0, none⟩ (.slice p n q)).heap.size := by simp [World.setCell]
  generalize w1.setCell ⟨w.heap.size + 1 + 1, 0, none⟩ (.slice p n q) = ws at gs Bs os y0s y1s z0s z1s iys izs hzs hUs ⊢
  clear gs y0 y1 z0 z1 iy iz x0 hc hf
  go_at_call 29
  refine (toFloat32S_own a2 n2 c2 Z2 _ hn2 (h2.below Bs (Nat.le_refl _))).mono ?_
  rintro e w2 ⟨p2, q2, rfl, o2, b2⟩
  have s2 := b2.size
  have B2 := Bs.trans (b2.mono Bs.size)
  have os2 := os.kept (below_grew b2) (fun g hg => by cases hg)
  have y0t := (b2.cell (p := ⟨w.heap.size + 1, 0, none⟩) (by show w.heap.size + 1 < ws.heap.size; omega)).trans y0s
  have y1t := (b2.cell (p := ⟨w.heap.size + 1, 1, none⟩) (by show w.heap.size + 1 < ws.heap.size; omega)).trans y1s
  have z0t := (b2.cell (p := ⟨w.heap.size + 1 + 1, 0, none⟩) (by show w.heap.size + 1 + 1 < ws.heap.size; omega)).trans z0s
  have z1t := (b2.cell (p := ⟨w.heap.size + 1 + 1, 1, none⟩) (by show w.heap.size + 1 + 1 < ws.heap.size; omega)).trans z1s
  have iyt : ∀ i, w2.frozen? ⟨w.heap.size + 1, i, none⟩ = false := fun i => (b2.frozen (p := ⟨w.heap.size + 1, i, none⟩) (by show w.heap.size + 1 < ws.heap.size; omega)).trans (iys i)
  have izt : ∀ i, w2.frozen? ⟨w.heap.size + 1 + 1, i, none⟩ = false := fun i => (b2.frozen (p := ⟨w.heap.size + 1 + 1, i, none⟩) (by show w.heap.size + 1 + 1 < ws.heap.size; omega)).trans (izs i)
  have hMs : w.heap.size ≤ ws.heap.size := by omega
  clear b2 y0s y1s z0s z1s iys izs os Bs o1 b1 B1
  go_wp2_with fail
  refine bodyPost_ret (v := .agg #[.slice p n q, .slice p2 n2 q2]) (by simp [results, Try.results30, go_sem, y0t, y1t, z0t, z1t]) rfl ?_
  refine ⟨_, _, _, _, ws.heap.size, rfl, hMs, by (first | omega | (simp [World.setCell]; omega)), ?_, ?_, ?_⟩
  · exact (by refine Own.to os2 (hk := fun g hg1 hg2 => by (try simp at hg1 hg2); repeat (first | rw [Below.heap_setCell _ _ _ _ (by simp; omega)] | rw [Below.heap_alloc _ _ _ (by simp [World.setCell]; omega)])) ?_ ?_ ?_ ?_ <;> (first | exact Nat.le_refl _ | omega | (simp [World.setCell]; done) | (simp [World.setCell]; omega)))
  · exact (by refine Own.to o2 (hk := fun g hg1 hg2 => by (try simp at hg1 hg2); repeat (first | rw [Below.heap_setCell _ _ _ _ (by simp; omega)] | rw [Below.heap_alloc _ _ _ (by simp [World.setCell]; omega)])) ?_ ?_ ?_ ?_ <;> (first | exact Nat.le_refl _ | omega | (simp [World.setCell]; done) | (simp [World.setCell]; omega)))
  · exact (by repeat first | (with_reducible exact B2) | (with_reducible refine Below.setCell ?_ (by first | exact Nat.le_refl _ | (simp; done) | (simp; omega) | omega) _) | (with_reducible refine Below.alloc ?_ (by first | exact Nat.le_refl _ | (simp; done) | (simp; omega) | omega) _) | (with_reducible refine below_drewN ?_ _) | (with_reducible refine Below.drew ?_))
theorem markChain_sep (B M U : Nat) (a : Option Addr) (n c : Nat) (Z : Nat → Nat) (a2 : Option Addr) (n2 c2 : Nat) (Z2 : Nat → Nat) (k : Nat) (w : World) (hn : n ≤ 1048576) (hn2 : n2 ≤ 1048576) (hk : k ≤ 2097153) (hBM : B ≤ M) (hMU : M ≤ U) (hUw : U ≤ w.heap.size) (h : Own 77 .f32 B M w a n c Z) (h2 : Own 77 .f32 M U w a2 n2 c2 Z2) :
    Calls Try.prog 51 #[.agg #[.slice a n c, .slice a2 n2 c2], .int .i64 k] w fun e w' => e = .returned (.int .i64 ((k + n + n2 : Nat) : Int)) ∧ Own 77 .f32 B M w' a n c (fun j => floatOfInt .f32 ((k + j : Nat) : Int)) ∧ Own 77 .f32 M U w' a2 n2 c2 (fun j => floatOfInt .f32 ((k + n + j : Nat) : Int)) ∧ Grew B U w w' := by
  go_enter Try.func51, Try.ntmps51
  go_wp2_with fail
  go_at_call 50
  refine (markFloat32S_more B M _ _ _ k Z _ hn (by omega) (h.kept (World.grownBy_alloc w _ none) (fun g h => by cases h))).mono ?_
  rintro e w1 ⟨rfl, o1, r1⟩
  have G1 : Grew B U w w1 := (Grew.ofBelow (by repeat first | (with_reducible exact Below.refl _ _) | (with_reducible refine Below.setCell ?_ (by first | exact Nat.le_refl _ | (simp; done) | (simp; omega) | omega) _) | (with_reducible refine Below.alloc ?_ (by first | exact Nat.le_refl _ | (simp; done) | (simp; omega) | omega) _) | (with_reducible refine below_drewN ?_ _) | (with_reducible refine Below.drew ?_))).trans ((Marked.grew r1).wide (Nat.le_refl _) hMU)
  have o2 : Own 77 .f32 M U w1 a2 n2 c2 Z2 := (h2.over (Grew.ofBelow (B := B) (U := M) (by repeat first | (with_reducible exact Below.refl _ _) | (with_reducible refine Below.setCell ?_ (by first | exact Nat.le_refl _ | (simp; done) | (simp; omega) | omega) _) | (with_reducible refine Below.alloc ?_ (by first | exact Nat.le_refl _ | (simp; done) | (simp; omega) | omega) _) | (with_reducible refine below_drewN ?_ _) | (with_reducible refine Below.drew ?_))) (.inr (Nat.le_refl _))).over (Marked.grew r1) (.inr (Nat.le_refl _))
  have X1 : BoxL w1 w.heap.size [.slice a n c, .slice a2 n2 c2] := BoxL.over (BoxL.two (by simp [go_sem]) (by simp [go_sem])) (Marked.grew r1) (by simp) (.inr (by omega))
  have hx0 := X1 0 _ rfl
  have hx1 := X1 1 _ rfl
  clear X1
  clear h h2 r1
  go_wp2_with fail
  go_at_call 50
  refine (markFloat32S_more M U _ _ _ (k + n) Z2 _ hn2 (by omega) o2).mono ?_
  rintro e w2 ⟨rfl, o3, r3⟩
  have G2 : Grew B U w w2 := G1.trans ((Marked.grew r3).wide hBM (Nat.le_refl _))
  have o4 := o1.over (Marked.grew r3) (.inl (Nat.le_refl _))
  clear o1 o2 G1 r3
  go_wp2_with fail
  go_ret
  exact ⟨rfl, o4, o3, G2⟩
end Go.Proofs.Ytmddhhmgfhljiab
