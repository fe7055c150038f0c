/- Helper: a square of which two rows and columns are turned, of the program from its start to its end, and of both. Conditions: none. -/
import Derived.Test.YtmjlhmbnaifhaaaTurnPairImpl
import Derived.Test.YtmjlhmbnaifhaaaTurnPairTop
set_option linter.unusedVariables false
set_option linter.unusedSimpArgs false
namespace Go.Proofs.Ytmjlhmbnaifhaaa
open Go.RowKit

theorem implTP_no (R C : Int) (a : Option Addr) (n c : Nat) (Z : Nat → Nat) (i k : Int) (w : World) (h : FS .f32 w a n c Z) (hT : ∀ W, FS .f32 W a n c Z → Calls Try.prog 58 #[.agg #[.int .i64 R, .int .i64 C, .slice a n c], .int .i64 i, .int .i64 k] W (TwoBel false (some 0) (some 0) W)) :
    Calls Try.prog 25 #[.agg #[.int .i64 R, .int .i64 C, .slice a n c], .int .i64 i, .int .i64 k] w (MatOwn false 0 0 0 (fun _ => none) w) := by
  go_enter Try.func25, Try.ntmps25
  go_wp2_with fail
  go_at_call 58
  refine (hT _ (h.below (by repeat first | (with_reducible exact Below.refl _ _) | (with_reducible refine Below.setCell ?_ (by first | exact Nat.le_refl _ | (simp; done) | (simp; omega) | omega) _) | (with_reducible refine Below.alloc ?_ (by first | exact Nat.le_refl _ | (simp; done) | (simp; omega) | omega) _) | (with_reducible refine below_drewN ?_ _) | (with_reducible refine Below.drew ?_)) (Nat.le_refl _))).mono ?_
  rintro e w1 ⟨rc, rs, rfl, f1, f2, b1⟩
  have B1 : Below w.heap.size w w1 := Below.trans (by repeat first | (with_reducible exact Below.refl _ _) | (with_reducible refine Below.setCell ?_ (by first | exact Nat.le_refl _ | (simp; done) | (simp; omega) | omega) _) | (with_reducible refine Below.alloc ?_ (by first | exact Nat.le_refl _ | (simp; done) | (simp; omega) | omega) _) | (with_reducible refine below_drewN ?_ _) | (with_reducible refine Below.drew ?_)) (b1.mono (by simp; omega))
  have s1 : w.heap.size + 1 + 1 ≤ w1.heap.size := by have := b1.size; simp at this; omega
  obtain ⟨z0, z1, z2⟩ : Box w1 (w.heap.size + 1) 0 0 none 0 0 := Box.below (by refine ⟨?_, ?_, ?_⟩ <;> simp [go_sem]) b1 (by simp)
  have IR : ∀ i, w1.frozen? ⟨w.heap.size + 1, i, none⟩ = false := fun i => (b1.frozen (p := ⟨w.heap.size + 1, i, none⟩) (by simp)).trans (by simp [go_sem])
  clear b1
  go_wp2_with fail
  refine bodyPost_ret (v := .tuple #[.agg #[.int .i64 0, .int .i64 0, .slice none 0 0], .bool false]) (by simp [results, Try.results25, go_sem, z0, z1, z2]) rfl ?_
  exact ⟨none, 0, fun _ => 0, rfl, .inl ⟨rfl, rfl, rfl⟩, fun i hi => absurd hi (Nat.not_lt_zero _), (by repeat first | (with_reducible exact B1) | (with_reducible refine Below.setCell ?_ (by first | exact Nat.le_refl _ | (simp; done) | (simp; omega) | omega) _) | (with_reducible refine Below.alloc ?_ (by first | exact Nat.le_refl _ | (simp; done) | (simp; omega) | omega) _) | (with_reducible refine below_drewN ?_ _) | (with_reducible refine Below.drew ?_))⟩
set_option maxRecDepth 20000 in
set_option maxHeartbeats 4000000 in
theorem implTP_yes (r N x y p1 o1 d1 : Nat) (C S : Option Nat) (Z : Nat → Nat) (w : World) (h1 : 1 ≤ r) (h12 : r ≤ 12) (hn : N = r * r) (hxy : x < y) (hy : y < r) (h : FS .f32 w (some ⟨p1, o1, none⟩) N d1 Z)
    (hT : ∀ W, FS .f32 W (some ⟨p1, o1, none⟩) N d1 Z → Calls Try.prog 58 #[.agg #[.int .i64 r, .int .i64 r, .slice (some ⟨p1, o1, none⟩) N d1], .int .i64 x, .int .i64 y] W (TwoBel true C S W)) :
    Calls Try.prog 25 #[.agg #[.int .i64 r, .int .i64 r, .slice (some ⟨p1, o1, none⟩) N d1], .int .i64 x, .int .i64 y] w (OwnIf (allFin (tpV C (fneg .f32 S) r x y (vals Z)) N) r r N (tpV C (fneg .f32 S) r x y (vals Z)) w) := by
  have HN := Lib.hid hn
  have h144 : N ≤ 144 := by have := sides_le h12 h12; omega
  have hpos : 0 < N := by rw [hn]; exact Nat.mul_pos h1 h1
  obtain ⟨F, hF⟩ : ∃ F, F = tpV C (fneg .f32 S) r x y (vals Z) := ⟨_, rfl⟩
  rw [← hF]
  have HF := Lib.hid hF
  clear hn hF
  go_enter Try.func25, Try.ntmps25
  go_wp2_with fail
  go_at_call 58
  refine (hT _ (h.below (by repeat first | (with_reducible exact Below.refl _ _) | (with_reducible refine Below.setCell ?_ (by first | exact Nat.le_refl _ | (simp; done) | (simp; omega) | omega) _) | (with_reducible refine Below.alloc ?_ (by first | exact Nat.le_refl _ | (simp; done) | (simp; omega) | omega) _) | (with_reducible refine below_drewN ?_ _) | (with_reducible refine Below.drew ?_)) (Nat.le_refl _))).mono ?_
  rintro e w1 ⟨rc, rs, rfl, f1, f2, b1⟩
  have B1 : Below w.heap.size w w1 := Below.trans (by repeat first | (with_reducible exact Below.refl _ _) | (with_reducible refine Below.setCell ?_ (by first | exact Nat.le_refl _ | (simp; done) | (simp; omega) | omega) _) | (with_reducible refine Below.alloc ?_ (by first | exact Nat.le_refl _ | (simp; done) | (simp; omega) | omega) _) | (with_reducible refine below_drewN ?_ _) | (with_reducible refine Below.drew ?_)) (b1.mono (by simp; omega))
  have s1 : w.heap.size + 1 + 1 ≤ w1.heap.size := by have := b1.size; simp at this; omega
  have XR1 : Box w1 (w.heap.size + 1) 0 0 none 0 0 := Box.below (by refine ⟨?_, ?_, ?_⟩ <;> simp [go_sem]) b1 (by simp)
  have IR1 : ∀ i, w1.frozen? ⟨w.heap.size + 1, i, none⟩ = false := fun i => (b1.frozen (p := ⟨w.heap.size + 1, i, none⟩) (by simp)).trans (by simp [go_sem])
  obtain ⟨x0, x1, x2⟩ : Box w1 w.heap.size r r (some ⟨p1, o1, none⟩) N d1 := Box.below (by refine ⟨?_, ?_, ?_⟩ <;> simp [go_sem]) b1 (by simp <;> omega)
  have H1 := h.below B1 (Nat.le_refl _)
  have hla : w.heap.size < w1.heap.size := by omega
  clear b1 h hT
  cases hf : allFin F N with
  | true =>
    go_wp2
    go_region_law (first
      | (go_simp; go_at_call 60; refine (turnBy_any rc rs _).mono ?_; rintro e wt ⟨rfl, hb1, hb2, hsz, bt⟩
         have b6 : Below w1.heap.size w1 wt := Below.trans (by repeat first | (with_reducible exact Below.refl _ _) | (with_reducible refine Below.setCell ?_ (by first | exact Nat.le_refl _ | (simp; done) | (simp; omega) | omega) _) | (with_reducible refine Below.alloc ?_ (by first | exact Nat.le_refl _ | (simp; done) | (simp; omega) | omega) _) | (with_reducible refine below_drewN ?_ _) | (with_reducible refine Below.drew ?_)) (bt.mono (by exact Nat.le_refl _))
         have hsz' : wt.heap.size = w1.heap.size + 1 + 1 := hsz
         have A0 := (b6.cell (p := ⟨w.heap.size, 0, none⟩) hla).trans x0
         have A1 := (b6.cell (p := ⟨w.heap.size, 1, none⟩) hla).trans x1
         have A2 := (b6.cell (p := ⟨w.heap.size, 2, none⟩) hla).trans x2
         dsimp only)
      | (go_simp; go_at_call 59; refine (turnedPair_any r N x y p1 o1 d1 w1.heap.size (w1.heap.size + 1) rc rs f1 f2 Z _ h1 h12 HN.out hxy hy (by first | omega | (simp [World.drewN, World.drew]; omega)) (by first | omega | (simp [World.drewN, World.drew]; omega)) (by exact hb1) (by exact hb2) (H1.below (by repeat first | (with_reducible exact b6) | (with_reducible refine Below.setCell ?_ (by first | exact Nat.le_refl _ | (simp; done) | (simp; omega) | omega) _) | (with_reducible refine Below.alloc ?_ (by first | exact Nat.le_refl _ | (simp; done) | (simp; omega) | omega) _) | (with_reducible refine below_drewN ?_ _) | (with_reducible refine Below.drew ?_)) (Nat.le_refl _))).mono ?_; rintro e wp ⟨gp, dp, X, rfl, oX', hX, bp⟩
         have c7 : Below wt.heap.size wt wp := Below.trans (by repeat first | (with_reducible exact Below.refl _ _) | (with_reducible refine Below.setCell ?_ (by first | exact Nat.le_refl _ | (simp; done) | (simp; omega) | omega) _) | (with_reducible refine Below.alloc ?_ (by first | exact Nat.le_refl _ | (simp; done) | (simp; omega) | omega) _) | (with_reducible refine below_drewN ?_ _) | (with_reducible refine Below.drew ?_)) (bp.mono (by exact Nat.le_refl _))
         have C7 : Below w1.heap.size w1 wp := b6.trans (c7.mono b6.size)
         have oX : Own 33 .f32 wt.heap.size wp.heap.size wp (some ⟨gp, 0, none⟩) N dp X := oX'
         have kX := oX.fs
         have hvF : ∀ t, t < N → vals X t = F t := fun t ht => by rw [HF.out]; exact hX t ht
         have hvB : validB r r N (vals X) = true := (validB_nat h1 h12 h1 h12 HN.out).trans ((allFin_congr hvF).trans hf)
         dsimp only)
      | (go_simp; go_at_call 39; refine (implGive_yes _ _ _ _ _ X _ (by omega) (FS.below kX (by repeat first | (with_reducible exact Below.refl _ _) | (with_reducible refine Below.setCell ?_ (by first | exact Nat.le_refl _ | (simp; done) | (simp; omega) | omega) _) | (with_reducible refine Below.alloc ?_ (by first | exact Nat.le_refl _ | (simp; done) | (simp; omega) | omega) _) | (with_reducible refine below_drewN ?_ _) | (with_reducible refine Below.drew ?_)) (Nat.le_refl _)) hvB).mono ?_; rintro e wv ⟨rfl, bv⟩
         have c8 : Below wp.heap.size wp wv := Below.trans (by repeat first | (with_reducible exact Below.refl _ _) | (with_reducible refine Below.setCell ?_ (by first | exact Nat.le_refl _ | (simp; done) | (simp; omega) | omega) _) | (with_reducible refine Below.alloc ?_ (by first | exact Nat.le_refl _ | (simp; done) | (simp; omega) | omega) _) | (with_reducible refine below_drewN ?_ _) | (with_reducible refine Below.drew ?_)) (bv.mono (by exact Nat.le_refl _))
         have C8 : Below w1.heap.size w1 wv := C7.trans (c8.mono C7.size)
         have R0 := (C8.cell (p := ⟨w.heap.size + 1, 0, none⟩) (by show w.heap.size + 1 < w1.heap.size; omega)).trans XR1.1
         have R1 := (C8.cell (p := ⟨w.heap.size + 1, 1, none⟩) (by show w.heap.size + 1 < w1.heap.size; omega)).trans XR1.2.1
         have R2 := (C8.cell (p := ⟨w.heap.size + 1, 2, none⟩) (by show w.heap.size + 1 < w1.heap.size; omega)).trans XR1.2.2
         have IRv : ∀ i, wv.frozen? ⟨w.heap.size + 1, i, none⟩ = false := fun i => (C8.frozen (p := ⟨w.heap.size + 1, i, none⟩) (by show w.heap.size + 1 < w1.heap.size; omega)).trans (IR1 i)
         dsimp only))
    all_goals
      have s6 := b6.size
      have s7 := c7.size
      have s8 := c8.size
      have oV := oX.kept (below_grew c8) (fun q hq => by cases hq)
      have BV := B1.trans (C8.mono B1.size)
      have HV := Lib.hid hvF
      obtain ⟨_, _, q1, q2, _, _⟩ := oX.cell hpos
      clear b6 c7 C7 bt bp bv c8 C8 hvF hX oX oX' kX hvB hb1 hb2 A0 A1 A2 x0 x1 x2 H1 B1 XR1 IR1
      go_wp2_with fail
      refine bodyPost_ret (v := .tuple #[.agg #[.int .i64 r, .int .i64 r, .slice (some ⟨gp, 0, none⟩) N dp], .bool true]) (by simp [results, Try.results25, go_sem, R0, R1, R2]) rfl ?_
      exact OwnIf.yes hf ⟨_, _, X, rfl, (by refine Own.to oV (hk := fun g hg1 hg2 => by (try simp at hg1 hg2); repeat (first | rw [Below.heap_setCell _ _ _ _ (by simp; omega)] | rw [Below.heap_alloc _ _ _ (by simp [World.setCell]; omega)])) ?_ ?_ ?_ ?_ <;> (first | exact Nat.le_refl _ | omega | (simp [World.setCell]; done) | (simp [World.setCell]; omega))), fun i hi => HV.out i hi, (by repeat first | (with_reducible exact BV) | (with_reducible refine Below.setCell ?_ (by first | exact Nat.le_refl _ | (simp; done) | (simp; omega) | omega) _) | (with_reducible refine Below.alloc ?_ (by first | exact Nat.le_refl _ | (simp; done) | (simp; omega) | omega) _) | (with_reducible refine below_drewN ?_ _) | (with_reducible refine Below.drew ?_))⟩
  | false =>
    go_wp2
    go_region_law (first
      | (go_simp; go_at_call 60; refine (turnBy_any rc rs _).mono ?_; rintro e wt ⟨rfl, hb1, hb2, hsz, bt⟩
         have b6 : Below w1.heap.size w1 wt := Below.trans (by repeat first | (with_reducible exact Below.refl _ _) | (with_reducible refine Below.setCell ?_ (by first | exact Nat.le_refl _ | (simp; done) | (simp; omega) | omega) _) | (with_reducible refine Below.alloc ?_ (by first | exact Nat.le_refl _ | (simp; done) | (simp; omega) | omega) _) | (with_reducible refine below_drewN ?_ _) | (with_reducible refine Below.drew ?_)) (bt.mono (by exact Nat.le_refl _))
         have hsz' : wt.heap.size = w1.heap.size + 1 + 1 := hsz
         have A0 := (b6.cell (p := ⟨w.heap.size, 0, none⟩) hla).trans x0
         have A1 := (b6.cell (p := ⟨w.heap.size, 1, none⟩) hla).trans x1
         have A2 := (b6.cell (p := ⟨w.heap.size, 2, none⟩) hla).trans x2
         dsimp only)
      | (go_simp; go_at_call 59; refine (turnedPair_any r N x y p1 o1 d1 w1.heap.size (w1.heap.size + 1) rc rs f1 f2 Z _ h1 h12 HN.out hxy hy (by first | omega | (simp [World.drewN, World.drew]; omega)) (by first | omega | (simp [World.drewN, World.drew]; omega)) (by exact hb1) (by exact hb2) (H1.below (by repeat first | (with_reducible exact b6) | (with_reducible refine Below.setCell ?_ (by first | exact Nat.le_refl _ | (simp; done) | (simp; omega) | omega) _) | (with_reducible refine Below.alloc ?_ (by first | exact Nat.le_refl _ | (simp; done) | (simp; omega) | omega) _) | (with_reducible refine below_drewN ?_ _) | (with_reducible refine Below.drew ?_)) (Nat.le_refl _))).mono ?_; rintro e wp ⟨gp, dp, X, rfl, oX', hX, bp⟩
         have c7 : Below wt.heap.size wt wp := Below.trans (by repeat first | (with_reducible exact Below.refl _ _) | (with_reducible refine Below.setCell ?_ (by first | exact Nat.le_refl _ | (simp; done) | (simp; omega) | omega) _) | (with_reducible refine Below.alloc ?_ (by first | exact Nat.le_refl _ | (simp; done) | (simp; omega) | omega) _) | (with_reducible refine below_drewN ?_ _) | (with_reducible refine Below.drew ?_)) (bp.mono (by exact Nat.le_refl _))
         have C7 : Below w1.heap.size w1 wp := b6.trans (c7.mono b6.size)
         have oX : Own 33 .f32 wt.heap.size wp.heap.size wp (some ⟨gp, 0, none⟩) N dp X := oX'
         have kX := oX.fs
         have hvF : ∀ t, t < N → vals X t = F t := fun t ht => by rw [HF.out]; exact hX t ht
         have hvB : validB r r N (vals X) = false := (validB_nat h1 h12 h1 h12 HN.out).trans ((allFin_congr hvF).trans hf)
         dsimp only)
      | (go_simp; go_at_call 39; refine (implGive_no _ _ _ _ _ X _ (by omega) (FS.below kX (by repeat first | (with_reducible exact Below.refl _ _) | (with_reducible refine Below.setCell ?_ (by first | exact Nat.le_refl _ | (simp; done) | (simp; omega) | omega) _) | (with_reducible refine Below.alloc ?_ (by first | exact Nat.le_refl _ | (simp; done) | (simp; omega) | omega) _) | (with_reducible refine below_drewN ?_ _) | (with_reducible refine Below.drew ?_)) (Nat.le_refl _)) hvB).mono ?_; rintro e wv ⟨rfl, bv⟩
         have c8 : Below wp.heap.size wp wv := Below.trans (by repeat first | (with_reducible exact Below.refl _ _) | (with_reducible refine Below.setCell ?_ (by first | exact Nat.le_refl _ | (simp; done) | (simp; omega) | omega) _) | (with_reducible refine Below.alloc ?_ (by first | exact Nat.le_refl _ | (simp; done) | (simp; omega) | omega) _) | (with_reducible refine below_drewN ?_ _) | (with_reducible refine Below.drew ?_)) (bv.mono (by exact Nat.le_refl _))
         have C8 : Below w1.heap.size w1 wv := C7.trans (c8.mono C7.size)
         have R0 := (C8.cell (p := ⟨w.heap.size + 1, 0, none⟩) (by show w.heap.size + 1 < w1.heap.size; omega)).trans XR1.1
         have R1 := (C8.cell (p := ⟨w.heap.size + 1, 1, none⟩) (by show w.heap.size + 1 < w1.heap.size; omega)).trans XR1.2.1
         have R2 := (C8.cell (p := ⟨w.heap.size + 1, 2, none⟩) (by show w.heap.size + 1 < w1.heap.size; omega)).trans XR1.2.2
         have IRv : ∀ i, wv.frozen? ⟨w.heap.size + 1, i, none⟩ = false := fun i => (C8.frozen (p := ⟨w.heap.size + 1, i, none⟩) (by show w.heap.size + 1 < w1.heap.size; omega)).trans (IR1 i)
         dsimp only))
    all_goals
      have s6 := b6.size
      have s7 := c7.size
      have s8 := c8.size
      have BV := B1.trans (C8.mono B1.size)
      clear b6 c7 C7 bt bp bv c8 C8 hvF hX oX oX' kX hvB hb1 hb2 A0 A1 A2 x0 x1 x2 H1 B1 XR1 IR1
      go_wp2_with fail
      refine bodyPost_ret (v := .tuple #[.agg #[.int .i64 0, .int .i64 0, .slice none 0 0], .bool false]) (by simp [results, Try.results25, go_sem, R0, R1, R2]) rfl ?_
      exact OwnIf.no hf ⟨none, 0, fun _ => 0, rfl, .inl ⟨rfl, rfl, rfl⟩, fun i hi => absurd hi (Nat.not_lt_zero _), (by repeat first | (with_reducible exact BV) | (with_reducible refine Below.setCell ?_ (by first | exact Nat.le_refl _ | (simp; done) | (simp; omega) | omega) _) | (with_reducible refine Below.alloc ?_ (by first | exact Nat.le_refl _ | (simp; done) | (simp; omega) | omega) _) | (with_reducible refine below_drewN ?_ _) | (with_reducible refine Below.drew ?_))⟩
theorem keyTurnPair (R C : Int) (n : Nat) (Z : Nat → Nat) (i k : Int) (hn : n ≤ 1048576) (wi : (Lit.int .i64 i).wf = true) (wk : (Lit.int .i64 k).wf = true) : ∃ (ok : Bool) (R' C' : Int) (n' : Nat) (V : Nat → Option Nat), n' ≤ 144 ∧
    (∀ a c W, FS .f32 W a n c Z → Calls Try.prog 24 #[.agg #[.int .i64 R, .int .i64 C, .slice a n c], .int .i64 i, .int .i64 k] W (MatBel ok R' C' n' V W)) ∧
    (∀ a c W, FS .f32 W a n c Z → Calls Try.prog 25 #[.agg #[.int .i64 R, .int .i64 C, .slice a n c], .int .i64 i, .int .i64 k] W (MatOwn ok R' C' n' V W)) := by
  cases ho : pairB R C n (vals Z) i k with
  | false => exact ⟨false, 0, 0, 0, fun _ => none, by omega, fun a c W h => specTP_no R C a n c Z i k W hn h ho, fun a c W h => implTP_no R C a n c Z i k W h fun W' h' => implTurn_no R C a n c Z i k W' hn h' ho⟩
  | true =>
    obtain ⟨r, x, y, rfl, rfl, rfl, rfl, hxy, hy, hr1, hr, hnr, hfin, hs⟩ := pairB_nat ho
    have h0 : 0 < n := by rw [hnr]; exact Nat.mul_pos hr1 hr1
    have hT : ∀ a c W, FS .f32 W a n c Z → Calls Try.prog 58 #[.agg #[.int .i64 r, .int .i64 r, .slice a n c], .int .i64 x, .int .i64 y] W (TwoIf (tB r x y (vals Z)) (tC r x y (vals Z)) (tS r x y (vals Z)) W) := fun a c W h => by
      obtain ⟨p, o, rfl, _⟩ := h.at h0
      exact implTurn_yes r x y p o n c Z W hr1 hr hnr hxy hy hfin hs h
    cases hB : tB r x y (vals Z) with
    | false =>
      rw [hB] at hT
      exact ⟨false, 0, 0, 0, fun _ => none, by omega, fun a c W h => by
          obtain ⟨p, o, rfl, _⟩ := h.at h0
          exact specTP_fail r x y p o n c Z W hr1 hr hnr hxy hy ho hB h,
        fun a c W h => implTP_no r r a n c Z x y W h fun W' h' => hT a c W' h'⟩
    | true =>
      rw [hB] at hT
      have k1 : ∀ a c W, FS .f32 W a n c Z → Calls Try.prog 24 #[.agg #[.int .i64 r, .int .i64 r, .slice a n c], .int .i64 x, .int .i64 y] W (BelIf (allFin (tpV (tC r x y (vals Z)) (fneg .f32 (tS r x y (vals Z))) r x y (vals Z)) n) r r n (tpV (tC r x y (vals Z)) (fneg .f32 (tS r x y (vals Z))) r x y (vals Z)) W) := fun a c W h => by
        obtain ⟨p, o, rfl, _⟩ := h.at h0
        exact specTP_yes r x y p o n c Z W hr1 hr hnr hxy hy ho hB h
      have k2 : ∀ a c W, FS .f32 W a n c Z → Calls Try.prog 25 #[.agg #[.int .i64 r, .int .i64 r, .slice a n c], .int .i64 x, .int .i64 y] W (OwnIf (allFin (tpV (tC r x y (vals Z)) (fneg .f32 (tS r x y (vals Z))) r x y (vals Z)) n) r r n (tpV (tC r x y (vals Z)) (fneg .f32 (tS r x y (vals Z))) r x y (vals Z)) W) := fun a c W h => by
        obtain ⟨p, o, rfl, _⟩ := h.at h0
        exact implTP_yes r n x y p o c _ _ Z W hr1 hr hnr hxy hy h fun W' h' => hT _ c W' h'
      cases hg : allFin (tpV (tC r x y (vals Z)) (fneg .f32 (tS r x y (vals Z))) r x y (vals Z)) n with
      | false =>
        rw [hg] at k1 k2
        exact ⟨false, 0, 0, 0, fun _ => none, by omega, k1, k2⟩
      | true =>
        rw [hg] at k1 k2
        exact ⟨true, r, r, n, _, by have := sides_le hr hr; omega, k1, k2⟩
end Go.Proofs.Ytmjlhmbnaifhaaa
