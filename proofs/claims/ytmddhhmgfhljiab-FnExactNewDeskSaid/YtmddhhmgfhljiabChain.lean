/- Helper: chains: boxes of two lists, and walks of the laws' own functions on them: copies, sizes, comparisons. Conditions: none. -/
import Derived.Test.YtmddhhmgfhljiabMatCopy
import Derived.Test.YtmddhhmgfhljiabKeys
import Derived.Test.YtmddhhmgfhljiabMarkMore
import Derived.Lib.SmallJoins
set_option linter.unusedVariables false
set_option linter.unusedSimpArgs false
namespace Go.Proofs.Ytmddhhmgfhljiab
open Go.ChangeShapes Go.WideShapes Go.RowKit Go.Deep

/-- A chain lies in a block of its own. -/
def BoxC (w : World) (b : Nat) (a : Option Addr) (n c : Nat) (a2 : Option Addr) (n2 c2 : Nat) : Prop := w.cell? ⟨b, 0, none⟩ = some (.slice a n c) ∧ w.cell? ⟨b, 1, none⟩ = some (.slice a2 n2 c2)
theorem BoxC.below {w w' : World} {b : Nat} {a : Option Addr} {n c : Nat} {a2 : Option Addr} {n2 c2 : Nat} (h : BoxC w b a n c a2 n2 c2) (hb : Below w.heap.size w w') (hl : b < w.heap.size) : BoxC w' b a n c a2 n2 c2 :=
  ⟨(hb.cell (p := ⟨b, 0, none⟩) hl).trans h.1, (hb.cell (p := ⟨b, 1, none⟩) hl).trans h.2⟩
theorem BoxC.drewN {w : World} {m : Nat} {b : Nat} {a : Option Addr} {n c : Nat} {a2 : Option Addr} {n2 c2 : Nat} (h : BoxC w b a n c a2 n2 c2) : BoxC (w.drewN m) b a n c a2 n2 c2 := h
theorem BoxC.new (w : World) (T : TypeId) (a : Option Addr) (n c : Nat) (a2 : Option Addr) (n2 c2 : Nat) : BoxC (w.alloc (.cells #[.slice a n c, .slice a2 n2 c2] T)) w.heap.size a n c a2 n2 c2 := by
  refine ⟨?_, ?_⟩ <;> simp [go_sem]
theorem BoxC.grown {w w' : World} {row : Option Nat} {b : Nat} {a : Option Addr} {n c : Nat} {a2 : Option Addr} {n2 c2 : Nat} (h : BoxC w b a n c a2 n2 c2) (hg : w.grownBy w' row) (hl : b < w.heap.size) (hr : ∀ g, row = some g → b ≠ g) : BoxC w' b a n c a2 n2 c2 := by
  have hb : w'.heap[b]? = w.heap[b]? := hg.block b hl (fun e => hr b e.symm rfl)
  exact ⟨(World.cell?_of_block (a := ⟨b, 0, none⟩) hb).trans h.1, (World.cell?_of_block (a := ⟨b, 1, none⟩) hb).trans h.2⟩
/-- What a region keeps: two boxes. -/
theorem heldC {w0 W w' : World} {b1 b2 : Nat} {u0 u1 v0 v1 : Value} (hs : W.cell? ⟨b1, 0, none⟩ = some u0 ∧ W.cell? ⟨b1, 1, none⟩ = some u1 ∧ W.cell? ⟨b2, 0, none⟩ = some v0 ∧ W.cell? ⟨b2, 1, none⟩ = some v1 ∧ Below w0.heap.size w0 W)
    (hb : Below W.heap.size W w') (l1 : b1 < w0.heap.size) (l2 : b2 < w0.heap.size) :
    w'.cell? ⟨b1, 0, none⟩ = some u0 ∧ w'.cell? ⟨b1, 1, none⟩ = some u1 ∧ w'.cell? ⟨b2, 0, none⟩ = some v0 ∧ w'.cell? ⟨b2, 1, none⟩ = some v1 ∧ Below w0.heap.size w0 w' := by
  obtain ⟨h0, h1, h3, h4, h6⟩ := hs
  have e1 : b1 < W.heap.size := Nat.lt_of_lt_of_le l1 h6.size
  have e2 : b2 < W.heap.size := Nat.lt_of_lt_of_le l2 h6.size
  exact ⟨(hb.cell (p := ⟨b1, 0, none⟩) e1).trans h0, (hb.cell (p := ⟨b1, 1, none⟩) e1).trans h1, (hb.cell (p := ⟨b2, 0, none⟩) e2).trans h3, (hb.cell (p := ⟨b2, 1, none⟩) e2).trans h4, h6.trans (hb.mono h6.size)⟩

section
variable {H : Type} {enc : TypeId × Value → H} {P : Program} {w : World} {base : Nat} {spare : Nat → Bool} {held : Bool}
theorem open_chain {r : Reach} {b0 : Nat} {t e : TypeId} {f0 f1 : Field} {k : FloatKind} {v : Value} {d : DataW H} {p : List MemPlace} (hs : P.underlying t = some (.struct #[f0, f1])) (hone : oneCellFields P #[f0, f1] = true) (hC : P.cellsOf t = 2)
    (h0 : P.underlying f0.type = some (.slice e)) (h1 : P.underlying f1.type = some (.slice e)) (he : P.underlying e = some (.float k)) (hce : P.cellsOf e = 1)
    (hv : Value.okWide P w r b0 t v) (h : DataW.Trod enc P w base spare held t v d p) :
    ∃ (a : Option Addr) (n c : Nat) (Z : Nat → Nat) (a2 : Option Addr) (n2 c2 : Nat) (Z2 : Nat → Nat), v = .agg #[.slice a n c, .slice a2 n2 c2] ∧ FS k w a n c Z ∧ FS k w a2 n2 c2 Z2 := by
  obtain ⟨v0, v1, y0, y1, m, rfl, rfl, rfl, g0, g1⟩ := Joins.open_agg2 hs hone hC hv h
  obtain ⟨a, n, c, e1⟩ := Joins.slice_form h0 g0
  obtain ⟨a2, n2, c2, e2⟩ := Joins.slice_form h1 g1
  simp only [List.cons.injEq, and_true] at e1 e2
  subst e1 e2
  obtain ⟨Z, hZ⟩ := open_floats (k := k) h0 he hce ⟨m, g0⟩
  obtain ⟨Z2, hZ2⟩ := open_floats (k := k) h1 he hce ⟨m, g1⟩
  exact ⟨a, n, c, Z, a2, n2, c2, Z2, rfl, hZ, hZ2⟩
end

theorem szChain_yes (a : Option Addr) (n c : Nat) (a2 : Option Addr) (n2 c2 : Nat) (L : Nat) (w : World) (hL : L ≤ 1048576) (hn : n ≤ L) (hn2 : n2 ≤ L - n) :
    Calls Try.prog 25 #[.agg #[.slice a n c, .slice a2 n2 c2], .int .i64 L] w fun e w' => e = .returned (.int .i64 ((L - n - n2 : Nat) : Int)) ∧ Below w.heap.size w w' := by
  have hd : decide (((L - n : Nat) : Int) < 0) = false := decide_eq_false (by omega)
  have hd2 : decide (((L - n - n2 : Nat) : Int) < 0) = false := decide_eq_false (by omega)
  go_enter Try.func25, Try.ntmps25
  go_wp2_with fail
  go_at_call 24
  refine (szFloat32S_yes _ _ _ _ _ hL hn).mono ?_
  rintro e w' ⟨rfl, rfl⟩
  go_wp2_with fail
  go_at_call 24
  refine (szFloat32S_yes _ _ _ _ _ (by omega) hn2).mono ?_
  rintro e w' ⟨rfl, rfl⟩
  go_wp2_with fail
  go_ret
  exact ⟨rfl, (by repeat first | (with_reducible exact Below.refl _ _) | (with_reducible refine Below.setCell ?_ (by first | exact Nat.le_refl _ | (simp; done) | (simp; omega) | omega) _) | (with_reducible refine Below.alloc ?_ (by first | exact Nat.le_refl _ | (simp; done) | (simp; omega) | omega) _) | (with_reducible refine below_drewN ?_ _) | (with_reducible refine Below.drew ?_))⟩
theorem szChain_no (a : Option Addr) (n c : Nat) (a2 : Option Addr) (n2 c2 : Nat) (L : Nat) (w : World) (hL : L ≤ 1048576) (hm : n ≤ 9223372036854775807) (hm2 : n2 ≤ 9223372036854775807) (hn : ¬ (n ≤ L ∧ n2 ≤ L - n)) :
    Calls Try.prog 25 #[.agg #[.slice a n c, .slice a2 n2 c2], .int .i64 L] w fun e w' => e = .returned (.int .i64 (-1)) ∧ Below w.heap.size w w' := by
  by_cases h1 : n ≤ L
  · have hd : decide (((L - n : Nat) : Int) < 0) = false := decide_eq_false (by omega)
    go_enter Try.func25, Try.ntmps25
    go_wp2_with fail
    go_at_call 24
    refine (szFloat32S_yes _ _ _ _ _ hL h1).mono ?_
    rintro e w' ⟨rfl, rfl⟩
    go_wp2_with fail
    go_at_call 24
    refine (szFloat32S_no _ _ _ _ _ (by omega) hm2 (by omega)).mono ?_
    rintro e w' ⟨rfl, rfl⟩
    go_wp2_with fail
    go_ret
    exact ⟨rfl, (by repeat first | (with_reducible exact Below.refl _ _) | (with_reducible refine Below.setCell ?_ (by first | exact Nat.le_refl _ | (simp; done) | (simp; omega) | omega) _) | (with_reducible refine Below.alloc ?_ (by first | exact Nat.le_refl _ | (simp; done) | (simp; omega) | omega) _) | (with_reducible refine below_drewN ?_ _) | (with_reducible refine Below.drew ?_))⟩
  · go_enter Try.func25, Try.ntmps25
    go_wp2_with fail
    go_at_call 24
    refine (szFloat32S_no _ _ _ _ _ hL hm (by omega)).mono ?_
    rintro e w' ⟨rfl, rfl⟩
    go_wp2_with fail
    go_ret
    exact ⟨rfl, (by repeat first | (with_reducible exact Below.refl _ _) | (with_reducible refine Below.setCell ?_ (by first | exact Nat.le_refl _ | (simp; done) | (simp; omega) | omega) _) | (with_reducible refine Below.alloc ?_ (by first | exact Nat.le_refl _ | (simp; done) | (simp; omega) | omega) _) | (with_reducible refine below_drewN ?_ _) | (with_reducible refine Below.drew ?_))⟩
/-- A new chain in memory of its own. -/
def NewChain (w : World) (n : Nat) (Z : Nat → Nat) (n2 : Nat) (Z2 : Nat → Nat) (e : Ending) (w' : World) : Prop :=
  ∃ a c a2 c2, e = .returned (.agg #[.slice a n c, .slice a2 n2 c2]) ∧ Own 77 .f32 w.heap.size w'.heap.size w' a n c Z ∧ Own 77 .f32 w.heap.size w'.heap.size w' a2 n2 c2 Z2 ∧ Below w.heap.size w w'
set_option maxHeartbeats 1000000 in
theorem toChain_any (a : Option Addr) (n c : Nat) (Z : Nat → Nat) (a2 : Option Addr) (n2 c2 : Nat) (Z2 : Nat → Nat) (w : World) (hn : n ≤ 1048576) (hn2 : n2 ≤ 1048576) (h : FS .f32 w a n c Z) (h2 : FS .f32 w a2 n2 c2 Z2) :
    Calls Try.prog 30 #[.agg #[.slice a n c, .slice a2 n2 c2]] w (NewChain w n Z n2 Z2) := by
  go_enter Try.func30, Try.ntmps30
  go_wp2_with fail
  go_at_call 29
  refine (toFloat32S_own a n c Z _ hn (h.below (by repeat first | (with_reducible exact Below.refl _ _) | (with_reducible refine Below.setCell ?_ (by first | exact Nat.le_refl _ | (simp; done) | (simp; omega) | omega) _) | (with_reducible refine Below.alloc ?_ (by first | exact Nat.le_refl _ | (simp; done) | (simp; omega) | omega) _) | (with_reducible refine below_drewN ?_ _) | (with_reducible refine Below.drew ?_)) (Nat.le_refl _))).mono ?_
  rintro e w1 ⟨p, q, rfl, o1, b1⟩
  obtain ⟨hc, hf⟩ := bcell b1
  have hz : w.heap.size + 1 + 1 + 1 ≤ w1.heap.size := by have := b1.size; simp at this; omega
  have B1 : Below w.heap.size w w1 := (Below.trans (by repeat first | (with_reducible exact Below.refl _ _) | (with_reducible refine Below.setCell ?_ (by first | exact Nat.le_refl _ | (simp; done) | (simp; omega) | omega) _) | (with_reducible refine Below.alloc ?_ (by first | exact Nat.le_refl _ | (simp; done) | (simp; omega) | omega) _) | (with_reducible refine below_drewN ?_ _) | (with_reducible refine Below.drew ?_)) (b1.mono (by simp; omega)))
  have X1 : w1.cell? ⟨w.heap.size, 1, none⟩ = some (.slice a2 n2 c2) ∧ (w1.cell? ⟨w.heap.size + 1, 0, none⟩ = some (.slice none 0 0) ∧ w1.cell? ⟨w.heap.size + 1, 1, none⟩ = some (.slice none 0 0)) ∧ (w1.cell? ⟨w.heap.size + 1 + 1, 0, none⟩ = some (.slice none 0 0) ∧ w1.cell? ⟨w.heap.size + 1 + 1, 1, none⟩ = some (.slice none 0 0)) ∧ (∀ i, w1.frozen? ⟨w.heap.size + 1, i, none⟩ = false) ∧ (∀ i, w1.frozen? ⟨w.heap.size + 1 + 1, i, none⟩ = false) := by
    refine ⟨?_, ⟨?_, ?_⟩, ⟨?_, ?_⟩, fun i => ?_, fun i => ?_⟩
    all_goals first | rw [hc _ _ (by simp <;> omega)] | rw [hf _ _ (by simp <;> omega)]
    all_goals simp [go_sem]
  obtain ⟨x0, ⟨y0, y1⟩, ⟨z0, z1⟩, iy, iz⟩ := X1
  go_wp2_with fail
  have gs : w1.grownBy (w1.setCell ⟨w.heap.size + 1 + 1, 0, none⟩ (.slice p n q)) (some (w.heap.size + 1 + 1)) := ⟨rfl, rfl, rfl, by simp [World.setCell], fun k _ hk => Below.heap_setCell _ _ _ _ (fun e => hk (by simp [e]))⟩
  have Bs : Below w.heap.size w (w1.setCell ⟨w.heap.size + 1 + 1, 0, none⟩ (.slice p n q)) := B1.setCell (by show w.heap.size ≤ w.heap.size + 1 + 1; omega) _
  have os := o1.kept gs (fun g hg => by cases hg; left; simp)
  have y0s : (w1.setCell ⟨w.heap.size + 1 + 1, 0, none⟩ (.slice p n q)).cell? ⟨w.heap.size + 1, 0, none⟩ = some (.slice none 0 0) := by rw [World.cell?_setCell_other _ _ _ _ (by simp)]; exact y0
  have y1s : (w1.setCell ⟨w.heap.size + 1 + 1, 0, none⟩ (.slice p n q)).cell? ⟨w.heap.size + 1, 1, none⟩ = some (.slice none 0 0) := by rw [World.cell?_setCell_other _ _ _ _ (by simp)]; exact y1
  have z0s : (w1.setCell ⟨w.heap.size + 1 + 1, 0, none⟩ (.slice p n q)).cell? ⟨w.heap.size + 1 + 1, 0, none⟩ = some (.slice p n q) := World.cell?_setCell_same _ _ _ z0
  have z1s : (w1.setCell ⟨w.heap.size + 1 + 1, 0, none⟩ (.slice p n q)).cell? ⟨w.heap.size + 1 + 1, 1, none⟩ = some (.slice none 0 0) := by rw [World.cell?_setCell_other _ _ _ _ (by simp)]; exact z1
  have iys : ∀ i, (w1.setCell ⟨w.heap.size + 1 + 1, 0, none⟩ (.slice p n q)).frozen? ⟨w.heap.size + 1, i, none⟩ = false := fun i => by rw [World.frozen?_setCell]; exact iy i
  have izs : ∀ i, (w1.setCell ⟨w.heap.size + 1 + 1, 0, none⟩ (.slice p n q)).frozen? ⟨w.heap.size + 1 + 1, i, none⟩ = false := fun i => by rw [World.frozen?_setCell]; exact iz i
  have hzs : w.heap.size + 1 + 1 + 1 ≤ (w1.setCell ⟨w.heap.size + 1 + 1, 0, none⟩ (.slice p n q)).heap.size := by simpa [World.setCell] using hz
  have hUs : w1.heap.size ≤ (w1.setCell ⟨w.heap.size + 1 + 1, 0, none⟩ (.slice p n q)).heap.size := by simp [World.setCell]
  generalize w1.setCell ⟨w.heap.size + 1 + 1, 0, none⟩ (.slice p n q) = ws at gs Bs os y0s y1s z0s z1s iys izs hzs hUs ⊢
  clear gs y0 y1 z0 z1 iy iz x0 hc hf
  go_at_call 29
  refine (toFloat32S_own a2 n2 c2 Z2 _ hn2 (h2.below Bs (Nat.le_refl _))).mono ?_
  rintro e w2 ⟨p2, q2, rfl, o2, b2⟩
  have s2 := b2.size
  have B2 := Bs.trans (b2.mono Bs.size)
  have os2 := os.kept (below_grew b2) (fun g hg => by cases hg)
  have y0t := (b2.cell (p := ⟨w.heap.size + 1, 0, none⟩) (by show w.heap.size + 1 < ws.heap.size; omega)).trans y0s
  have y1t := (b2.cell (p := ⟨w.heap.size + 1, 1, none⟩) (by show w.heap.size + 1 < ws.heap.size; omega)).trans y1s
  have z0t := (b2.cell (p := ⟨w.heap.size + 1 + 1, 0, none⟩) (by show w.heap.size + 1 + 1 < ws.heap.size; omega)).trans z0s
  have z1t := (b2.cell (p := ⟨w.heap.size + 1 + 1, 1, none⟩) (by show w.heap.size + 1 + 1 < ws.heap.size; omega)).trans z1s
  have iyt : ∀ i, w2.frozen? ⟨w.heap.size + 1, i, none⟩ = false := fun i => (b2.frozen (p := ⟨w.heap.size + 1, i, none⟩) (by show w.heap.size + 1 < ws.heap.size; omega)).trans (iys i)
  have izt : ∀ i, w2.frozen? ⟨w.heap.size + 1 + 1, i, none⟩ = false := fun i => (b2.frozen (p := ⟨w.heap.size + 1 + 1, i, none⟩) (by show w.heap.size + 1 + 1 < ws.heap.size; omega)).trans (izs i)
  clear b2 y0s y1s z0s z1s iys izs os Bs o1 b1 B1
  go_wp2_with fail
  refine bodyPost_ret (v := .agg #[.slice p n q, .slice p2 n2 q2]) (by simp [results, Try.results30, go_sem, y0t, y1t, z0t, z1t]) rfl ?_
  refine ⟨_, _, _, _, rfl, ?_, ?_, ?_⟩
  · exact (by refine Own.to os2 (hk := fun g hg1 hg2 => by (try simp at hg1 hg2); repeat (first | rw [Below.heap_setCell _ _ _ _ (by simp; omega)] | rw [Below.heap_alloc _ _ _ (by simp [World.setCell]; omega)])) ?_ ?_ ?_ ?_ <;> (first | exact Nat.le_refl _ | omega | (simp [World.setCell]; done) | (simp [World.setCell]; omega)))
  · exact (by refine Own.to o2 (hk := fun g hg1 hg2 => by (try simp at hg1 hg2); repeat (first | rw [Below.heap_setCell _ _ _ _ (by simp; omega)] | rw [Below.heap_alloc _ _ _ (by simp [World.setCell]; omega)])) ?_ ?_ ?_ ?_ <;> (first | exact Nat.le_refl _ | omega | (simp [World.setCell]; done) | (simp [World.setCell]; omega)))
  · exact (by repeat first | (with_reducible exact B2) | (with_reducible refine Below.setCell ?_ (by first | exact Nat.le_refl _ | (simp; done) | (simp; omega) | omega) _) | (with_reducible refine Below.alloc ?_ (by first | exact Nat.le_refl _ | (simp; done) | (simp; omega) | omega) _) | (with_reducible refine below_drewN ?_ _) | (with_reducible refine Below.drew ?_))
set_option maxRecDepth 100000 in
theorem eqChain_any (a b : Option Addr) (n c d : Nat) (Z Y : Nat → Nat) (a2 b2 : Option Addr) (n2 c2 d2 : Nat) (Z2 Y2 : Nat → Nat) (w : World) (hn : n ≤ 1048576) (hn2 : n2 ≤ 1048576) (ha : FS .f32 w a n c Z) (hb : FS .f32 w b n d Y) (ha2 : FS .f32 w a2 n2 c2 Z2) (hb2 : FS .f32 w b2 n2 d2 Y2)
    (hzy : ∀ i, i < n → cn .f32 (Z i) = cn .f32 (Y i)) (hzy2 : ∀ i, i < n2 → cn .f32 (Z2 i) = cn .f32 (Y2 i)) :
    Calls Try.prog 38 #[.agg #[.slice a n c, .slice a2 n2 c2], .agg #[.slice b n d, .slice b2 n2 d2]] w fun e w' => e = .returned (.bool true) ∧ Below w.heap.size w w' := by
  go_enter Try.func38, Try.ntmps38
  go_wp2_with fail
  go_at_call 37
  refine (eqFloat32S_any _ _ n _ _ Z Y _ hn (ha.below (by repeat first | (with_reducible exact Below.refl _ _) | (with_reducible refine Below.setCell ?_ (by first | exact Nat.le_refl _ | (simp; done) | (simp; omega) | omega) _) | (with_reducible refine Below.alloc ?_ (by first | exact Nat.le_refl _ | (simp; done) | (simp; omega) | omega) _) | (with_reducible refine below_drewN ?_ _) | (with_reducible refine Below.drew ?_)) (Nat.le_refl _)) (hb.below (by repeat first | (with_reducible exact Below.refl _ _) | (with_reducible refine Below.setCell ?_ (by first | exact Nat.le_refl _ | (simp; done) | (simp; omega) | omega) _) | (with_reducible refine Below.alloc ?_ (by first | exact Nat.le_refl _ | (simp; done) | (simp; omega) | omega) _) | (with_reducible refine below_drewN ?_ _) | (with_reducible refine Below.drew ?_)) (Nat.le_refl _)) hzy).mono ?_
  rintro e w' ⟨rfl, m, rfl⟩
  go_wp2_with fail
  go_at_call 37
  refine (eqFloat32S_any _ _ n2 _ _ Z2 Y2 _ hn2 (ha2.below (by repeat first | (with_reducible exact Below.refl _ _) | (with_reducible refine Below.setCell ?_ (by first | exact Nat.le_refl _ | (simp; done) | (simp; omega) | omega) _) | (with_reducible refine Below.alloc ?_ (by first | exact Nat.le_refl _ | (simp; done) | (simp; omega) | omega) _) | (with_reducible refine below_drewN ?_ _) | (with_reducible refine Below.drew ?_)) (Nat.le_refl _)) (hb2.below (by repeat first | (with_reducible exact Below.refl _ _) | (with_reducible refine Below.setCell ?_ (by first | exact Nat.le_refl _ | (simp; done) | (simp; omega) | omega) _) | (with_reducible refine Below.alloc ?_ (by first | exact Nat.le_refl _ | (simp; done) | (simp; omega) | omega) _) | (with_reducible refine below_drewN ?_ _) | (with_reducible refine Below.drew ?_)) (Nat.le_refl _)) hzy2).mono ?_
  rintro e w' ⟨rfl, m2, rfl⟩
  go_wp2_with fail
  go_ret
  exact ⟨rfl, (by repeat first | (with_reducible exact Below.refl _ _) | (with_reducible refine Below.setCell ?_ (by first | exact Nat.le_refl _ | (simp; done) | (simp; omega) | omega) _) | (with_reducible refine Below.alloc ?_ (by first | exact Nat.le_refl _ | (simp; done) | (simp; omega) | omega) _) | (with_reducible refine below_drewN ?_ _) | (with_reducible refine Below.drew ?_))⟩
end Go.Proofs.Ytmddhhmgfhljiab
