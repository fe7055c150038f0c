/- Helper: the product of two wholes, of the program. Conditions: none. -/
import Derived.Test.YtinekdfpgkmbnabGramImpl
set_option linter.unusedVariables false
set_option linter.unusedSimpArgs false
namespace Go.Proofs.Ytinekdfpgkmbnab
open Go.RowKit

theorem heldM {w0 W w' : World} {p q B : Nat} {u0 u1 u2 v0 v1 v2 : Value} (hs : W.cell? ⟨p, 0, none⟩ = some u0 ∧ W.cell? ⟨p, 1, none⟩ = some u1 ∧ W.cell? ⟨p, 2, none⟩ = some u2 ∧ W.cell? ⟨q, 0, none⟩ = some v0 ∧ W.cell? ⟨q, 1, none⟩ = some v1 ∧ W.cell? ⟨q, 2, none⟩ = some v2 ∧ Below B w0 W)
    (hb : Below W.heap.size W w') (l : p < w0.heap.size) (l2 : q < w0.heap.size) (lB : B ≤ w0.heap.size) : w'.cell? ⟨p, 0, none⟩ = some u0 ∧ w'.cell? ⟨p, 1, none⟩ = some u1 ∧ w'.cell? ⟨p, 2, none⟩ = some u2 ∧ w'.cell? ⟨q, 0, none⟩ = some v0 ∧ w'.cell? ⟨q, 1, none⟩ = some v1 ∧ w'.cell? ⟨q, 2, none⟩ = some v2 ∧ Below B w0 w' := by
  obtain ⟨h0, h1, h2, k0, k1, k2, h6⟩ := hs
  have e0 := h6.size
  have e1 : p < W.heap.size := Nat.lt_of_lt_of_le l e0
  have e2 : q < W.heap.size := Nat.lt_of_lt_of_le l2 e0
  exact ⟨(hb.cell (p := ⟨p, 0, none⟩) e1).trans h0, (hb.cell (p := ⟨p, 1, none⟩) e1).trans h1, (hb.cell (p := ⟨p, 2, none⟩) e1).trans h2, (hb.cell (p := ⟨q, 0, none⟩) e2).trans k0, (hb.cell (p := ⟨q, 1, none⟩) e2).trans k1, (hb.cell (p := ⟨q, 2, none⟩) e2).trans k2, h6.trans (hb.mono (Nat.le_trans lB e0))⟩
theorem heldSetM {w0 W : World} {p q B R : Nat} {u0 u1 u2 v0 v1 v2 s0 s1 s2 : Value} (hs : W.cell? ⟨p, 0, none⟩ = some u0 ∧ W.cell? ⟨p, 1, none⟩ = some u1 ∧ W.cell? ⟨p, 2, none⟩ = some u2 ∧ W.cell? ⟨q, 0, none⟩ = some v0 ∧ W.cell? ⟨q, 1, none⟩ = some v1 ∧ W.cell? ⟨q, 2, none⟩ = some v2 ∧ Below B w0 W) (l : p < B) (l2 : q < B) (hR : B ≤ R) :
    (((W.setCell ⟨R, 0, none⟩ s0).setCell ⟨R, 1, none⟩ s1).setCell ⟨R, 2, none⟩ s2).cell? ⟨p, 0, none⟩ = some u0 ∧ (((W.setCell ⟨R, 0, none⟩ s0).setCell ⟨R, 1, none⟩ s1).setCell ⟨R, 2, none⟩ s2).cell? ⟨p, 1, none⟩ = some u1 ∧ (((W.setCell ⟨R, 0, none⟩ s0).setCell ⟨R, 1, none⟩ s1).setCell ⟨R, 2, none⟩ s2).cell? ⟨p, 2, none⟩ = some u2 ∧ (((W.setCell ⟨R, 0, none⟩ s0).setCell ⟨R, 1, none⟩ s1).setCell ⟨R, 2, none⟩ s2).cell? ⟨q, 0, none⟩ = some v0 ∧ (((W.setCell ⟨R, 0, none⟩ s0).setCell ⟨R, 1, none⟩ s1).setCell ⟨R, 2, none⟩ s2).cell? ⟨q, 1, none⟩ = some v1 ∧ (((W.setCell ⟨R, 0, none⟩ s0).setCell ⟨R, 1, none⟩ s1).setCell ⟨R, 2, none⟩ s2).cell? ⟨q, 2, none⟩ = some v2 ∧ Below B w0 (((W.setCell ⟨R, 0, none⟩ s0).setCell ⟨R, 1, none⟩ s1).setCell ⟨R, 2, none⟩ s2) := by
  obtain ⟨h0, h1, h2, k0, k1, k2, h6⟩ := hs
  have hne : ∀ o t, (⟨R, o, none⟩ : Addr) ≠ ⟨p, t, none⟩ := fun o t e => by cases e; omega
  have hne2 : ∀ o t, (⟨R, o, none⟩ : Addr) ≠ ⟨q, t, none⟩ := fun o t e => by cases e; omega
  refine ⟨?_, ?_, ?_, ?_, ?_, ?_, ((h6.setCell (by exact hR) _).setCell (by exact hR) _).setCell (by exact hR) _⟩
  · rw [World.cell?_setCell_other _ _ _ _ (hne 2 0), World.cell?_setCell_other _ _ _ _ (hne 1 0), World.cell?_setCell_other _ _ _ _ (hne 0 0)]; exact h0
  · rw [World.cell?_setCell_other _ _ _ _ (hne 2 1), World.cell?_setCell_other _ _ _ _ (hne 1 1), World.cell?_setCell_other _ _ _ _ (hne 0 1)]; exact h1
  · rw [World.cell?_setCell_other _ _ _ _ (hne 2 2), World.cell?_setCell_other _ _ _ _ (hne 1 2), World.cell?_setCell_other _ _ _ _ (hne 0 2)]; exact h2
  · rw [World.cell?_setCell_other _ _ _ _ (hne2 2 0), World.cell?_setCell_other _ _ _ _ (hne2 1 0), World.cell?_setCell_other _ _ _ _ (hne2 0 0)]; exact k0
  · rw [World.cell?_setCell_other _ _ _ _ (hne2 2 1), World.cell?_setCell_other _ _ _ _ (hne2 1 1), World.cell?_setCell_other _ _ _ _ (hne2 0 1)]; exact k1
  · rw [World.cell?_setCell_other _ _ _ _ (hne2 2 2), World.cell?_setCell_other _ _ _ _ (hne2 1 2), World.cell?_setCell_other _ _ _ _ (hne2 0 2)]; exact k2
/-- The product's numbers. -/
def mulY (c k : Nat) (Z Y : Nat → Int) (i q : Nat) : Int := dotI (fun j => Z (i * c + j)) (colY k Y q) c
set_option maxHeartbeats 2000000 in
theorem implMul_no (R C : Int) (a : Option Addr) (n d : Nat) (Z : Nat → Int) (R2 C2 : Int) (a2 : Option Addr) (n2 d2 : Nat) (Y : Nat → Int) (w : World) (hn : n ≤ 1048576) (hn2 : n2 ≤ 1048576) (hv : wholeB 1000000 R C n Z = true → wholeB 1000000 R2 C2 n2 Y = true → C ≠ R2) (h : IS .i64 w a n d Z) (h2 : IS .i64 w a2 n2 d2 Y) :
    Calls Try.prog 19 #[.agg #[.int .i64 R, .int .i64 C, .slice a n d], .agg #[.int .i64 R2, .int .i64 C2, .slice a2 n2 d2]] w (WholeOwn false 0 0 0 (fun _ => 0) w) := by
  have hA := fun W (f : IS .i64 W a n d Z) => implWhole_any R C a n d Z W hn f
  have hB := fun W (f : IS .i64 W a2 n2 d2 Y) => implWhole_any R2 C2 a2 n2 d2 Y W hn2 f
  cases v1 : wholeB 1000000 R C n Z with
  | false =>
    rw [v1] at hA
    clear v1 hv
    go_enter Try.func19, Try.ntmps19
    go_wp2_with fail
    generalize hwa : ((w.alloc (.cells #[.int .i64 R, .int .i64 C, .slice a n d] 24)).alloc (.cells #[.int .i64 R2, .int .i64 C2, .slice a2 n2 d2] 24)).alloc (.cells #[.int .i64 0, .int .i64 0, .slice none 0 0] 24) = wa
    have Ba : Below w.heap.size w wa := by rw [← hwa]; exact (by repeat first | (with_reducible exact Below.refl _ _) | (with_reducible refine Below.setCell ?_ (by first | exact Nat.le_refl _ | (simp; done) | (simp; omega) | omega) _) | (with_reducible refine Below.alloc ?_ (by first | exact Nat.le_refl _ | (simp; done) | (simp; omega) | omega) _) | (with_reducible refine below_drewN ?_ _) | (with_reducible refine Below.drew ?_))
    have sa : wa.heap.size = w.heap.size + 1 + 1 + 1 := by rw [← hwa]; simp
    have xa : Box wa w.heap.size R C a n d := by rw [← hwa]; refine ⟨?_, ?_, ?_⟩ <;> simp [go_sem]
    have xb : Box wa (w.heap.size + 1) R2 C2 a2 n2 d2 := by rw [← hwa]; refine ⟨?_, ?_, ?_⟩ <;> simp [go_sem]
    have xz : Box wa (w.heap.size + 1 + 1) 0 0 none 0 0 := by rw [← hwa]; refine ⟨?_, ?_, ?_⟩ <;> simp [go_sem]
    have xi : ∀ i, wa.frozen? ⟨w.heap.size + 1 + 1, i, none⟩ = false := by intro i; rw [← hwa]; simp [go_sem]
    clear hwa
    go_at_call 43
    refine (hA wa (h.below Ba (Nat.le_refl _))).mono ?_
    rintro e w1 ⟨rfl, b1⟩
    have B9 := Ba.trans (b1.mono (by omega))
    obtain ⟨y0, y1, y2⟩ := xz.below b1 (by omega)
    have hice : ∀ i, w1.frozen? ⟨w.heap.size + 1 + 1, i, none⟩ = false := fun i => (b1.frozen (p := ⟨w.heap.size + 1 + 1, i, none⟩) (by show w.heap.size + 1 + 1 < _; omega)).trans (xi i)
    have s1 := b1.size
    clear xa xb xz xi
    go_wp2_with fail
    refine bodyPost_ret (v := .tuple #[.agg #[.int .i64 0, .int .i64 0, .slice none 0 0], .bool false]) (by simp [results, Try.results19, go_sem, y0, y1, y2]) rfl ?_
    exact ⟨none, 0, fun _ => 0, rfl, .inl ⟨rfl, rfl, rfl⟩, fun i hi => by omega, (by repeat first | (with_reducible exact B9) | (with_reducible refine Below.setCell ?_ (by first | exact Nat.le_refl _ | (simp; done) | (simp; omega) | omega) _) | (with_reducible refine Below.alloc ?_ (by first | exact Nat.le_refl _ | (simp; done) | (simp; omega) | omega) _) | (with_reducible refine below_drewN ?_ _) | (with_reducible refine Below.drew ?_))⟩
  | true =>
    rw [v1] at hA
    cases v2 : wholeB 1000000 R2 C2 n2 Y with
    | false =>
      rw [v2] at hB
      clear v1 v2 hv
      go_enter Try.func19, Try.ntmps19
      go_wp2_with fail
      generalize hwa : ((w.alloc (.cells #[.int .i64 R, .int .i64 C, .slice a n d] 24)).alloc (.cells #[.int .i64 R2, .int .i64 C2, .slice a2 n2 d2] 24)).alloc (.cells #[.int .i64 0, .int .i64 0, .slice none 0 0] 24) = wa
      have Ba : Below w.heap.size w wa := by rw [← hwa]; exact (by repeat first | (with_reducible exact Below.refl _ _) | (with_reducible refine Below.setCell ?_ (by first | exact Nat.le_refl _ | (simp; done) | (simp; omega) | omega) _) | (with_reducible refine Below.alloc ?_ (by first | exact Nat.le_refl _ | (simp; done) | (simp; omega) | omega) _) | (with_reducible refine below_drewN ?_ _) | (with_reducible refine Below.drew ?_))
      have sa : wa.heap.size = w.heap.size + 1 + 1 + 1 := by rw [← hwa]; simp
      have xa : Box wa w.heap.size R C a n d := by rw [← hwa]; refine ⟨?_, ?_, ?_⟩ <;> simp [go_sem]
      have xb : Box wa (w.heap.size + 1) R2 C2 a2 n2 d2 := by rw [← hwa]; refine ⟨?_, ?_, ?_⟩ <;> simp [go_sem]
      have xz : Box wa (w.heap.size + 1 + 1) 0 0 none 0 0 := by rw [← hwa]; refine ⟨?_, ?_, ?_⟩ <;> simp [go_sem]
      have xi : ∀ i, wa.frozen? ⟨w.heap.size + 1 + 1, i, none⟩ = false := by intro i; rw [← hwa]; simp [go_sem]
      clear hwa
      go_at_call 43
      refine (hA wa (h.below Ba (Nat.le_refl _))).mono ?_
      rintro e w1 ⟨rfl, b1⟩
      obtain ⟨xa0, xa1, xa2⟩ := xa.below b1 (by omega)
      obtain ⟨xb0, xb1, xb2⟩ := xb.below b1 (by omega)
      have Ba1 := Ba.trans (b1.mono (by omega))
      have f2 := h2.below Ba1 (Nat.le_refl _)
      have s0 := b1.size
      go_wp2_with fail
      go_at_call 43
      refine (hB w1 f2).mono ?_
      rintro e w2 ⟨rfl, b2⟩
      have b12 := b1.trans (b2.mono b1.size)
      obtain ⟨xc0, xc1, xc2⟩ := xa.below b12 (by omega)
      obtain ⟨xd0, xd1, xd2⟩ := xb.below b12 (by omega)
      clear xa0 xa1 xa2 xb0 xb1 xb2
      have B9 := Ba.trans (b12.mono (by omega))
      obtain ⟨y0, y1, y2⟩ := xz.below b12 (by omega)
      have hice : ∀ i, w2.frozen? ⟨w.heap.size + 1 + 1, i, none⟩ = false := fun i => (b12.frozen (p := ⟨w.heap.size + 1 + 1, i, none⟩) (by show w.heap.size + 1 + 1 < _; omega)).trans (xi i)
      have s1 := b12.size
      clear xa xb xz xi
      go_wp2_with fail
      refine bodyPost_ret (v := .tuple #[.agg #[.int .i64 0, .int .i64 0, .slice none 0 0], .bool false]) (by simp [results, Try.results19, go_sem, y0, y1, y2]) rfl ?_
      exact ⟨none, 0, fun _ => 0, rfl, .inl ⟨rfl, rfl, rfl⟩, fun i hi => by omega, (by repeat first | (with_reducible exact B9) | (with_reducible refine Below.setCell ?_ (by first | exact Nat.le_refl _ | (simp; done) | (simp; omega) | omega) _) | (with_reducible refine Below.alloc ?_ (by first | exact Nat.le_refl _ | (simp; done) | (simp; omega) | omega) _) | (with_reducible refine below_drewN ?_ _) | (with_reducible refine Below.drew ?_))⟩
    | true =>
      rw [v2] at hB
      have hne := hv v1 v2
      have e1 : (C == R2) = false := beq_eq_false_iff_ne.2 hne
      have e2 : (C != R2) = true := bne_iff_ne.2 hne
      clear v1 v2 hv
      go_enter Try.func19, Try.ntmps19
      go_wp2_with fail
      generalize hwa : ((w.alloc (.cells #[.int .i64 R, .int .i64 C, .slice a n d] 24)).alloc (.cells #[.int .i64 R2, .int .i64 C2, .slice a2 n2 d2] 24)).alloc (.cells #[.int .i64 0, .int .i64 0, .slice none 0 0] 24) = wa
      have Ba : Below w.heap.size w wa := by rw [← hwa]; exact (by repeat first | (with_reducible exact Below.refl _ _) | (with_reducible refine Below.setCell ?_ (by first | exact Nat.le_refl _ | (simp; done) | (simp; omega) | omega) _) | (with_reducible refine Below.alloc ?_ (by first | exact Nat.le_refl _ | (simp; done) | (simp; omega) | omega) _) | (with_reducible refine below_drewN ?_ _) | (with_reducible refine Below.drew ?_))
      have sa : wa.heap.size = w.heap.size + 1 + 1 + 1 := by rw [← hwa]; simp
      have xa : Box wa w.heap.size R C a n d := by rw [← hwa]; refine ⟨?_, ?_, ?_⟩ <;> simp [go_sem]
      have xb : Box wa (w.heap.size + 1) R2 C2 a2 n2 d2 := by rw [← hwa]; refine ⟨?_, ?_, ?_⟩ <;> simp [go_sem]
      have xz : Box wa (w.heap.size + 1 + 1) 0 0 none 0 0 := by rw [← hwa]; refine ⟨?_, ?_, ?_⟩ <;> simp [go_sem]
      have xi : ∀ i, wa.frozen? ⟨w.heap.size + 1 + 1, i, none⟩ = false := by intro i; rw [← hwa]; simp [go_sem]
      clear hwa
      go_at_call 43
      refine (hA wa (h.below Ba (Nat.le_refl _))).mono ?_
      rintro e w1 ⟨rfl, b1⟩
      obtain ⟨xa0, xa1, xa2⟩ := xa.below b1 (by omega)
      obtain ⟨xb0, xb1, xb2⟩ := xb.below b1 (by omega)
      have Ba1 := Ba.trans (b1.mono (by omega))
      have f2 := h2.below Ba1 (Nat.le_refl _)
      have s0 := b1.size
      go_wp2_with fail
      go_at_call 43
      refine (hB w1 f2).mono ?_
      rintro e w2 ⟨rfl, b2⟩
      have b12 := b1.trans (b2.mono b1.size)
      obtain ⟨xc0, xc1, xc2⟩ := xa.below b12 (by omega)
      obtain ⟨xd0, xd1, xd2⟩ := xb.below b12 (by omega)
      clear xa0 xa1 xa2 xb0 xb1 xb2
      have B9 := Ba.trans (b12.mono (by omega))
      obtain ⟨y0, y1, y2⟩ := xz.below b12 (by omega)
      have hice : ∀ i, w2.frozen? ⟨w.heap.size + 1 + 1, i, none⟩ = false := fun i => (b12.frozen (p := ⟨w.heap.size + 1 + 1, i, none⟩) (by show w.heap.size + 1 + 1 < _; omega)).trans (xi i)
      have s1 := b12.size
      clear xa xb xz xi
      go_wp2_with fail
      refine bodyPost_ret (v := .tuple #[.agg #[.int .i64 0, .int .i64 0, .slice none 0 0], .bool false]) (by simp [results, Try.results19, go_sem, y0, y1, y2]) rfl ?_
      exact ⟨none, 0, fun _ => 0, rfl, .inl ⟨rfl, rfl, rfl⟩, fun i hi => by omega, (by repeat first | (with_reducible exact B9) | (with_reducible refine Below.setCell ?_ (by first | exact Nat.le_refl _ | (simp; done) | (simp; omega) | omega) _) | (with_reducible refine Below.alloc ?_ (by first | exact Nat.le_refl _ | (simp; done) | (simp; omega) | omega) _) | (with_reducible refine below_drewN ?_ _) | (with_reducible refine Below.drew ?_))⟩
set_option maxHeartbeats 4000000 in
theorem implMul_run (r c k n n2 p1 f1 d p2 f3 d2 : Nat) (Z Y : Nat → Int) (w : World) (h1 : 1 ≤ r) (h2 : r ≤ 6) (h3 : 1 ≤ c) (h4 : c ≤ 6) (h5 : 1 ≤ k) (h6 : k ≤ 6) (hn : n = r * c) (hn2 : n2 = c * k) (v1 : wholeB 1000000 r c n Z = true) (v2 : wholeB 1000000 c k n2 Y = true)
    (hZ : ∀ t, t < n → (Z t).natAbs ≤ 1000000) (hY : ∀ t, t < n2 → (Y t).natAbs ≤ 1000000) (g1 : IS .i64 w (some ⟨p1, f1, none⟩) n d Z) (g2 : IS .i64 w (some ⟨p2, f3, none⟩) n2 d2 Y)
    (ok : Bool) (R3 C3 : Int) (n3 : Nat) (V3 : Nat → Int) (hT : ∀ W b off c2, RS W (some ⟨b, off, none⟩) r c2 k (mulY c k Z Y) → Calls Try.prog 34 #[.slice (some ⟨b, off, none⟩) r c2] W (WholeOwn ok R3 C3 n3 V3 W)) :
    Calls Try.prog 19 #[.agg #[.int .i64 r, .int .i64 c, .slice (some ⟨p1, f1, none⟩) n d], .agg #[.int .i64 c, .int .i64 k, .slice (some ⟨p2, f3, none⟩) n2 d2]] w (WholeOwn ok R3 C3 n3 V3 w) := by
  have hn36 : n ≤ 36 := by have : r * c ≤ 6 * 6 := Nat.mul_le_mul h2 h4; omega
  have hm36 : n2 ≤ 36 := by have : c * k ≤ 6 * 6 := Nat.mul_le_mul h4 h6; omega
  have hA := fun W (f : IS .i64 W (some ⟨p1, f1, none⟩) n d Z) => implWhole_any r c _ n d Z W (by omega) f
  have hB := fun W (f : IS .i64 W (some ⟨p2, f3, none⟩) n2 d2 Y) => implWhole_any c k _ n2 d2 Y W (by omega) f
  rw [v1] at hA
  rw [v2] at hB
  have HN := Lib.hid hn
  have HN2 := Lib.hid hn2
  have HT := Lib.hid hT
  have hG := Lib.hid (show ∀ i, i < r → ∀ q, q < k → ∀ j, j < c → (Z (i * c + j) * colY k Y q j).natAbs ≤ 1000000000000 from fun i hi q hq j hj => prod_abs (hZ _ (by rw [hn]; exact placeI_lt hi hj)) (hY _ (by rw [hn2]; exact placeI_lt hj hq)))
  clear hn hn2 v1 v2 hZ hY hT
  go_enter Try.func19, Try.ntmps19
  go_wp2_with fail
  generalize hwa : ((w.alloc (.cells #[.int .i64 r, .int .i64 c, .slice (some ⟨p1, f1, none⟩) n d] 24)).alloc (.cells #[.int .i64 c, .int .i64 k, .slice (some ⟨p2, f3, none⟩) n2 d2] 24)).alloc (.cells #[.int .i64 0, .int .i64 0, .slice none 0 0] 24) = wa
  have Ba : Below w.heap.size w wa := by rw [← hwa]; exact (by repeat first | (with_reducible exact Below.refl _ _) | (with_reducible refine Below.setCell ?_ (by first | exact Nat.le_refl _ | (simp; done) | (simp; omega) | omega) _) | (with_reducible refine Below.alloc ?_ (by first | exact Nat.le_refl _ | (simp; done) | (simp; omega) | omega) _) | (with_reducible refine below_drewN ?_ _) | (with_reducible refine Below.drew ?_))
  have sa : wa.heap.size = w.heap.size + 1 + 1 + 1 := by rw [← hwa]; simp
  have xa : Box wa w.heap.size r c (some ⟨p1, f1, none⟩) n d := by rw [← hwa]; refine ⟨?_, ?_, ?_⟩ <;> simp [go_sem]
  have xb : Box wa (w.heap.size + 1) c k (some ⟨p2, f3, none⟩) n2 d2 := by rw [← hwa]; refine ⟨?_, ?_, ?_⟩ <;> simp [go_sem]
  have xz : Box wa (w.heap.size + 1 + 1) 0 0 none 0 0 := by rw [← hwa]; refine ⟨?_, ?_, ?_⟩ <;> simp [go_sem]
  have xi : ∀ i, wa.frozen? ⟨w.heap.size + 1 + 1, i, none⟩ = false := by intro i; rw [← hwa]; simp [go_sem]
  clear hwa
  go_at_call 43
  refine (hA wa (g1.below Ba (Nat.le_refl _))).mono ?_
  rintro e w1 ⟨rfl, b1⟩
  obtain ⟨xa0, xa1, xa2⟩ := xa.below b1 (by omega)
  obtain ⟨xb0, xb1, xb2⟩ := xb.below b1 (by omega)
  have Ba1 := Ba.trans (b1.mono (by omega))
  have f2 := g2.below Ba1 (Nat.le_refl _)
  have s0 := b1.size
  go_wp2_with fail
  go_at_call 43
  refine (hB w1 f2).mono ?_
  rintro e w2 ⟨rfl, b2⟩
  have b12 := b1.trans (b2.mono b1.size)
  obtain ⟨xc0, xc1, xc2⟩ := xa.below b12 (by omega)
  obtain ⟨xd0, xd1, xd2⟩ := xb.below b12 (by omega)
  clear xa0 xa1 xa2 xb0 xb1 xb2
  have Bb := Ba.trans (b12.mono (by omega))
  have s2 := b12.size
  have HB1 := Lib.hid Bb
  have HXz := Lib.hid (xz.below b12 (by omega))
  have HIce := Lib.hid (show ∀ i, w2.frozen? ⟨w.heap.size + 1 + 1, i, none⟩ = false from fun i => (b12.frozen (p := ⟨w.heap.size + 1 + 1, i, none⟩) (by show w.heap.size + 1 + 1 < _; omega)).trans (xi i))
  have l1 : w.heap.size < w2.heap.size := by omega
  have l2 : w.heap.size + 1 < w2.heap.size := by omega
  have l3 : w.heap.size + 1 + 1 ≤ w2.heap.size := by omega
  have hF1 : ∀ W, Below (w.heap.size + 1 + 1) w2 W → IS .i64 W (some ⟨p1, f1, none⟩) n d Z := fun W hW => g1.below (HB1.out.trans (hW.mono (by omega))) (Nat.le_refl _)
  have hF2 : ∀ W, Below (w.heap.size + 1 + 1) w2 W → IS .i64 W (some ⟨p2, f3, none⟩) n2 d2 Y := fun W hW => g2.below (HB1.out.trans (hW.mono (by omega))) (Nat.le_refl _)
  have hcell5 : ∀ W, Below w2.heap.size w2 W → W.cell? ⟨w.heap.size + 1 + 1, 0, none⟩ = some (.int .i64 0) ∧ W.cell? ⟨w.heap.size + 1 + 1, 1, none⟩ = some (.int .i64 0) ∧ W.cell? ⟨w.heap.size + 1 + 1, 2, none⟩ = some (.slice none 0 0) ∧ ∀ i, W.frozen? ⟨w.heap.size + 1 + 1, i, none⟩ = false := fun W hW => by
    obtain ⟨y0, y1, y2⟩ := HXz.out.below hW (by omega)
    exact ⟨y0, y1, y2, fun i => (hW.frozen (p := ⟨w.heap.size + 1 + 1, i, none⟩) (by show w.heap.size + 1 + 1 < _; omega)).trans (HIce.out i)⟩
  have HC5 := Lib.hid hcell5
  have hcc : (c == c) = true := beq_self_eq_true c
  clear hcell5 xa xb xz xi b1 b2 b12 Ba Ba1 Bb f2 g1 g2
  go_wp2_with fail
  go_region_held3 (fun w' => w'.cell? ⟨w.heap.size, 0, none⟩ = some (.int .i64 r) ∧ w'.cell? ⟨w.heap.size, 1, none⟩ = some (.int .i64 c) ∧ w'.cell? ⟨w.heap.size, 2, none⟩ = some (.slice (some ⟨p1, f1, none⟩) n d) ∧ w'.cell? ⟨w.heap.size + 1, 0, none⟩ = some (.int .i64 c) ∧ w'.cell? ⟨w.heap.size + 1, 1, none⟩ = some (.int .i64 k) ∧ w'.cell? ⟨w.heap.size + 1, 2, none⟩ = some (.slice (some ⟨p2, f3, none⟩) n2 d2) ∧ Below (w.heap.size + 1 + 1) w2 w')
    (first | exact ⟨xc0, xc1, xc2, xd0, xd1, xd2, (by first | exact (Below.refl _ _).drew | exact (below_drewN (Below.refl _ _) _).drew)⟩ | exact heldM (by assumption) (by assumption) l1 l2 l3 | exact heldSetM (by assumption) (by omega) (by omega) (Nat.le_refl _))
    (first | (go_at_call 48; refine (rowsOf_any r c n p1 f1 d Z _ h1 h2 h3 h4 HN.out (hF1 _ (by go_split_ands; assumption))).mono ?_; rintro e w3 ⟨qa, qc, rfl, qA, qB⟩; obtain ⟨qb, qo, _, _, rfl, _⟩ := qA.2.2 0 (by omega)) | (go_at_call 44; refine (columnsOf_any c k n2 p2 f3 d2 Y _ h3 h4 h5 h6 HN2.out (hF2 _ (by go_split_ands; assumption))).mono ?_; rintro e w4 ⟨ra, rc, rfl, rA, rB⟩; obtain ⟨rb, ro, _, _, rfl, _⟩ := rA.2.2 0 (by omega)) | (go_at_call 47; refine (productsOf_any _ _ r _ _ _ k _ c _ _ _ h1 h2 h5 h6 h3 h4 (by first | exact qA | exact qA.below rB) (by first | exact rA | exact rA.below qB) hG.out).mono ?_; rintro e w5 ⟨pa, pc, rfl, pA, pB⟩; obtain ⟨pb, po, _, _, rfl, _⟩ := pA.2.2 0 (by omega)) | (go_at_call 34; refine (HT.out _ _ _ _ pA).mono ?_; rintro e w6 ⟨g, dd, Z2, rfl, o5, hV5, b5⟩; have bb3 : Below w2.heap.size w2 w4 := (by first | exact (Below.trans ((Below.refl _ _).drew) (qB.mono (Nat.le_refl _))).trans (rB.mono (Below.trans ((Below.refl _ _).drew) (qB.mono (Nat.le_refl _))).size)); have bb4 := bb3.trans (pB.mono bb3.size); have bb5 := bb4.trans (b5.mono bb4.size); obtain ⟨y0, y1, y2, y3⟩ := HC5.out _ bb5))
  all_goals
    have s4 := bb4.size
    have s5 := b5.size
    have B5 := HB1.out.trans (bb5.mono HB1.out.size)
    have HV5 := Lib.hid hV5
    clear hV5 qA rA pA qB rB pB bb3 bb4 bb5 b5
    go_wp2_with fail
    refine bodyPost_ret (v := .tuple #[.agg #[.int .i64 R3, .int .i64 C3, .slice g n3 dd], .bool ok]) (by simp [results, Try.results19, go_sem, y0, y1, y2]) rfl ?_
    exact ⟨_, _, Z2, rfl, (by refine OwnI.to o5 (hk := fun g hg1 hg2 => by (try simp at hg1 hg2); repeat (first | rw [Below.heap_setCell _ _ _ _ (by simp; omega)] | rw [Below.heap_alloc _ _ _ (by simp [World.setCell]; omega)])) ?_ ?_ ?_ ?_ <;> (first | exact Nat.le_refl _ | omega | (simp [World.setCell]; done) | (simp [World.setCell]; omega))), HV5.out, (by repeat first | (with_reducible exact B5) | (with_reducible refine Below.setCell ?_ (by first | exact Nat.le_refl _ | (simp; done) | (simp; omega) | omega) _) | (with_reducible refine Below.alloc ?_ (by first | exact Nat.le_refl _ | (simp; done) | (simp; omega) | omega) _) | (with_reducible refine below_drewN ?_ _) | (with_reducible refine Below.drew ?_))⟩
end Go.Proofs.Ytinekdfpgkmbnab
