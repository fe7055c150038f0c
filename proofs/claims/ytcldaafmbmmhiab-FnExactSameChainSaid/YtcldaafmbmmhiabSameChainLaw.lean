/- Helper: the walk of the law FnExactSameChain. Conditions: none. -/
import Derived.Test.YtcldaafmbmmhiabSameChainKey
import Derived.Deep.RegionHeld3
set_option linter.unusedVariables false
namespace Go.Proofs.Ytcldaafmbmmhiab
open Go.RowKit

theorem heldCC {w0 W w' : World} {b1 b2 : Nat} {u0 u1 v0 v1 : Value} (hs : W.cell? ⟨b1, 0, none⟩ = some u0 ∧ W.cell? ⟨b1, 1, none⟩ = some u1 ∧ W.cell? ⟨b2, 0, none⟩ = some v0 ∧ W.cell? ⟨b2, 1, none⟩ = some v1 ∧ Below w0.heap.size w0 W)
    (hb : Below W.heap.size W w') (l1 : b1 < w0.heap.size) (l2 : b2 < w0.heap.size) :
    w'.cell? ⟨b1, 0, none⟩ = some u0 ∧ w'.cell? ⟨b1, 1, none⟩ = some u1 ∧ w'.cell? ⟨b2, 0, none⟩ = some v0 ∧ w'.cell? ⟨b2, 1, none⟩ = some v1 ∧ Below w0.heap.size w0 w' := heldC hs hb l1 l2
set_option maxRecDepth 100000 in
set_option maxHeartbeats 20000000 in
theorem law_FnExactSameChain (w : World) (a0 : Option Addr) (n0 c0 : Nat) (Z0 : Nat → Nat) (p0 : Option Addr) (l0 d0 : Nat) (Y0 : Nat → Nat) (h0 : FS .f32 w a0 n0 c0 Z0) (k0 : FS .f32 w p0 l0 d0 Y0) (a1 : Option Addr) (n1 c1 : Nat) (Z1 : Nat → Nat) (p1 : Option Addr) (l1 d1 : Nat) (Y1 : Nat → Nat) (h1 : FS .f32 w a1 n1 c1 Z1) (k1 : FS .f32 w p1 l1 d1 Y1) :
    Calls Try.prog 12 #[.agg #[.slice a0 n0 c0, .slice p0 l0 d0], .agg #[.slice a1 n1 c1, .slice p1 l1 d1]] w fun e w' => e = .returned (.bool true) ∧ Below w.heap.size w w' := by
  have hm0 : n0 ≤ 9223372036854775807 := by have hh1 := h0.1; have hh2 := h0.2.1; unfold maxLen at hh2; omega
  have hm1 : n1 ≤ 9223372036854775807 := by have hh1 := h1.1; have hh2 := h1.2.1; unfold maxLen at hh2; omega
  have hq0 : l0 ≤ 9223372036854775807 := by have hh1 := k0.1; have hh2 := k0.2.1; unfold maxLen at hh2; omega
  have hq1 : l1 ≤ 9223372036854775807 := by have hh1 := k1.1; have hh2 := k1.2.1; unfold maxLen at hh2; omega
  by_cases hl : n0 ≤ 1048576 ∧ l0 ≤ 1048576 - n0
  case neg =>
    go_enter Try.func12, Try.ntmps12
    go_wp2_with fail
    go_at_call 40
    refine (szChain_no a0 n0 c0 p0 l0 d0 (1048576) _ (by omega) hm0 hq0 hl).mono ?_
    rintro e w1 ⟨rfl, b1⟩
    have B1 : Below w.heap.size w w1 := Below.trans (by repeat first | (with_reducible exact Below.refl _ _) | (with_reducible refine Below.setCell ?_ (by first | exact Nat.le_refl _ | (simp; done) | (simp; omega) | omega) _) | (with_reducible refine Below.alloc ?_ (by first | exact Nat.le_refl _ | (simp; done) | (simp; omega) | omega) _) | (with_reducible refine below_drewN ?_ _) | (with_reducible refine Below.drew ?_)) (b1.mono (by simp; omega))
    go_wp2_with fail
    go_ret
    exact ⟨rfl, B1⟩
  obtain ⟨e1, e2⟩ := hl
  have hl0 : l0 ≤ 1048576 := by omega
  obtain ⟨L, hL⟩ : ∃ L, L = 1048576 - n0 - l0 := ⟨_, rfl⟩
  have hLle : L ≤ 1048576 := by omega
  have sy := fun W => szChain_yes a0 n0 c0 p0 l0 d0 1048576 W (by omega) e1 e2
  rw [← hL] at sy
  have hd0 : decide ((L : Int) < 0) = false := decide_eq_false (by omega)
  by_cases hl2 : n1 ≤ L ∧ l1 ≤ L - n1
  case neg =>
    clear hL
    go_enter Try.func12, Try.ntmps12
    go_wp2_with fail
    go_at_call 40
    refine (sy _).mono ?_
    rintro e w1 ⟨rfl, b1⟩
    have B1 : Below w.heap.size w w1 := Below.trans (by repeat first | (with_reducible exact Below.refl _ _) | (with_reducible refine Below.setCell ?_ (by first | exact Nat.le_refl _ | (simp; done) | (simp; omega) | omega) _) | (with_reducible refine Below.alloc ?_ (by first | exact Nat.le_refl _ | (simp; done) | (simp; omega) | omega) _) | (with_reducible refine below_drewN ?_ _) | (with_reducible refine Below.drew ?_)) (b1.mono (by simp; omega))
    have X1 : BoxC w1 (w.heap.size + 1) a1 n1 c1 p1 l1 d1 := BoxC.below (by refine ⟨?_, ?_⟩ <;> simp [go_sem]) b1 (by simp)
    obtain ⟨x0, x1⟩ := X1
    have s1 : w.heap.size + 2 ≤ w1.heap.size := by have := b1.size; simp at this; omega
    clear b1
    go_wp2_with fail
    go_at_call 40
    (with_reducible refine (szChain_no a1 n1 c1 p1 l1 d1 L _ hLle hm1 hq1 hl2).mono ?_)
    rintro e w2 ⟨rfl, b2⟩
    have B2 : Below w.heap.size w w2 := Below.trans (by repeat first | (with_reducible exact B1) | (with_reducible refine Below.setCell ?_ (by first | exact Nat.le_refl _ | (simp; done) | (simp; omega) | omega) _) | (with_reducible refine Below.alloc ?_ (by first | exact Nat.le_refl _ | (simp; done) | (simp; omega) | omega) _) | (with_reducible refine below_drewN ?_ _) | (with_reducible refine Below.drew ?_)) (b2.mono (by first | omega | (simp; omega)))
    go_wp2_with fail
    go_ret
    exact ⟨rfl, B2⟩
  obtain ⟨e3, e4⟩ := hl2
  have hn1 : n1 ≤ 1048576 := by omega
  have hl1 : l1 ≤ 1048576 := by omega
  obtain ⟨L2, hL2⟩ : ∃ L2, L2 = L - n1 - l1 := ⟨_, rfl⟩
  have sy2 := fun W => szChain_yes a1 n1 c1 p1 l1 d1 L W hLle e3 e4
  rw [← hL2] at sy2
  have hd1 : decide ((L2 : Int) < 0) = false := decide_eq_false (by omega)
  obtain ⟨okSameChain, ks, ki⟩ := keySameChain n0 Z0 l0 Y0 n1 Z1 l1 Y1 e1 hl0 hn1 hl1
  clear hL hL2 e2 e3 e4 hm0 hm1 hq0 hq1
  go_enter Try.func12, Try.ntmps12
  go_wp2_with fail
  go_at_call 40
  refine (sy _).mono ?_
  rintro e w1 ⟨rfl, b1⟩
  have B1 : Below w.heap.size w w1 := Below.trans (by repeat first | (with_reducible exact Below.refl _ _) | (with_reducible refine Below.setCell ?_ (by first | exact Nat.le_refl _ | (simp; done) | (simp; omega) | omega) _) | (with_reducible refine Below.alloc ?_ (by first | exact Nat.le_refl _ | (simp; done) | (simp; omega) | omega) _) | (with_reducible refine below_drewN ?_ _) | (with_reducible refine Below.drew ?_)) (b1.mono (by simp; omega))
  have s1 : w.heap.size + 2 ≤ w1.heap.size := by have := b1.size; simp at this; omega
  have XA1 : BoxC w1 w.heap.size a0 n0 c0 p0 l0 d0 := BoxC.below (by refine ⟨?_, ?_⟩ <;> simp [go_sem]) b1 (by simp; omega)
  have XB1 : BoxC w1 (w.heap.size + 1) a1 n1 c1 p1 l1 d1 := BoxC.below (by refine ⟨?_, ?_⟩ <;> simp [go_sem]) b1 (by simp)
  clear b1
  have XA1' := XA1
  obtain ⟨x0, x1⟩ := XA1'
  have XB1' := XB1
  obtain ⟨y0, y1⟩ := XB1'
  go_wp2_with fail
  go_at_call 40
  (with_reducible refine (sy2 _).mono ?_)
  rintro e w2 ⟨rfl, b2⟩
  have B2 := B1.trans (b2.mono B1.size)
  have s2 : w.heap.size + 2 ≤ w2.heap.size := by have := b2.size; omega
  have XA2 := XA1.below b2 (by omega)
  have XB2 := XB1.below b2 (by omega)
  clear b2 x0 x1 y0 y1 XA1 XB1 sy sy2
  have XA2' := XA2
  obtain ⟨x0, x1⟩ := XA2'
  have XB2' := XB2
  obtain ⟨y0, y1⟩ := XB2'
  go_wp2_with fail
  go_region_held3 (fun w' => w'.cell? ⟨w.heap.size, 0, none⟩ = some (.slice a0 n0 c0) ∧ w'.cell? ⟨w.heap.size, 1, none⟩ = some (.slice p0 l0 d0) ∧ w'.cell? ⟨w.heap.size + 1, 0, none⟩ = some (.slice a1 n1 c1) ∧ w'.cell? ⟨w.heap.size + 1, 1, none⟩ = some (.slice p1 l1 d1) ∧ Below w2.heap.size w2 w')
    (first | exact ⟨x0, x1, y0, y1, (by first | exact (Below.refl _ _).drew | exact (below_drewN (Below.refl _ _) _).drew)⟩ | exact heldCC (by assumption) (by assumption) (by omega) (by omega))
    (first
      | (go_at_call 42; (with_reducible refine (toChain_any a0 n0 c0 Z0 p0 l0 d0 Y0 _ e1 hl0 ?_ ?_).mono ?_); exact (h0.below (B2.trans (Below.mono (by go_split_ands; assumption) B2.size)) (Nat.le_refl _)); exact (k0.below (B2.trans (Below.mono (by go_split_ands; assumption) B2.size)) (Nat.le_refl _)); rintro e wt0 ⟨gt0, qt0, rt0, st0, rfl, ot0, ut0, bt0⟩)
      | (go_at_call 42; (with_reducible refine (toChain_any a1 n1 c1 Z1 p1 l1 d1 Y1 _ hn1 hl1 ?_ ?_).mono ?_); exact (h1.below (B2.trans (Below.mono (by go_split_ands; assumption) B2.size)) (Nat.le_refl _)); exact (k1.below (B2.trans (Below.mono (by go_split_ands; assumption) B2.size)) (Nat.le_refl _)); rintro e wt1 ⟨gt1, qt1, rt1, st1, rfl, ot1, ut1, bt1⟩)
      | (go_at_call 45; refine (ks _ _ _ _ _ _ _ _ _ (ot0.fs.below bt1 (Nat.le_refl _)) (ut0.fs.below bt1 (Nat.le_refl _)) ot1.fs ut1.fs).mono ?_; rintro e w3 ⟨rfl, bb⟩))
  have b3 : Below w2.heap.size w2 w3 := by go_split_ands; assumption
  have B3 := B2.trans (b3.mono B2.size)
  have s3 : w.heap.size + 2 ≤ w3.heap.size := by have := b3.size; omega
  have XA3 := XA2.below b3 (by omega)
  have XB3 := XB2.below b3 (by omega)
  clear ot0 ut0 bt0 ot1 ut1 bt1 bb b3 x0 x1 y0 y1 XA2 XB2
  have XA3' := XA3
  obtain ⟨x0, x1⟩ := XA3'
  have XB3' := XB3
  obtain ⟨y0, y1⟩ := XB3'
  go_wp2_with fail
  go_at_call 42
  refine (toChain_any a0 n0 c0 Z0 p0 l0 d0 Y0 _ e1 hl0 (h0.below B3 (Nat.le_refl _)) (k0.below B3 (Nat.le_refl _))).mono ?_
  rintro e w4 ⟨g0, q0, r0, t0, rfl, o0, u0, b4⟩
  have B4 := B3.trans (b4.mono B3.size)
  have s4 : w.heap.size + 2 ≤ w4.heap.size := by have := b4.size; omega
  have XA4 := XA3.below b4 (by omega)
  have XB4 := XB3.below b4 (by omega)
  clear b4 x0 x1 y0 y1 XA3 XB3
  have XA4' := XA4
  obtain ⟨x0, x1⟩ := XA4'
  have XB4' := XB4
  obtain ⟨y0, y1⟩ := XB4'
  have l4 : w.heap.size + 1 < w4.heap.size := by omega
  have l40 : w.heap.size < w4.heap.size := by omega
  go_wp2_with fail
  go_at_call 42
  refine (toChain_any a1 n1 c1 Z1 p1 l1 d1 Y1 _ hn1 hl1 (h1.below (by repeat first | (with_reducible exact B4) | (with_reducible refine Below.setCell ?_ (by first | exact Nat.le_refl _ | (simp; done) | (simp; omega) | omega) _) | (with_reducible refine Below.alloc ?_ (by first | exact Nat.le_refl _ | (simp; done) | (simp; omega) | omega) _) | (with_reducible refine below_drewN ?_ _) | (with_reducible refine Below.drew ?_)) (Nat.le_refl _)) (k1.below (by repeat first | (with_reducible exact B4) | (with_reducible refine Below.setCell ?_ (by first | exact Nat.le_refl _ | (simp; done) | (simp; omega) | omega) _) | (with_reducible refine Below.alloc ?_ (by first | exact Nat.le_refl _ | (simp; done) | (simp; omega) | omega) _) | (with_reducible refine below_drewN ?_ _) | (with_reducible refine Below.drew ?_)) (Nat.le_refl _))).mono ?_
  rintro e w5 ⟨g1, q1, r1, t1, rfl, o1, u1, b5⟩
  have b45 : Below w4.heap.size w4 w5 := Below.trans (by repeat first | (with_reducible exact Below.refl _ _) | (with_reducible refine Below.setCell ?_ (by first | exact Nat.le_refl _ | (simp; done) | (simp; omega) | omega) _) | (with_reducible refine Below.alloc ?_ (by first | exact Nat.le_refl _ | (simp; done) | (simp; omega) | omega) _) | (with_reducible refine below_drewN ?_ _) | (with_reducible refine Below.drew ?_)) (b5.mono (by simp))
  have B5 := B4.trans (b45.mono B4.size)
  have s5 : w4.heap.size < w5.heap.size := by have := b5.size; simp at this; omega
  have XA5 := XA4.below b45 (by omega)
  have XB5 := XB4.below b45 (by omega)
  have XP5 : BoxC w5 w4.heap.size g0 n0 q0 r0 l0 t0 := (BoxC.new _ _ _ _ _ _ _ _).below b5 (by simp)
  have f0 := o0.fs.below b45 (Nat.le_refl _)
  have v0 := u0.fs.below b45 (Nat.le_refl _)
  have f1 := o1.fs
  have v1 := u1.fs
  clear b5 b45 x0 x1 y0 y1 XA4 XB4 o0 u0 o1 u1
  have XP5' := XP5
  obtain ⟨z0, z1⟩ := XP5'
  have XA5' := XA5
  obtain ⟨x0, x1⟩ := XA5'
  have XB5' := XB5
  obtain ⟨y0, y1⟩ := XB5'
  have l5 : w.heap.size + 1 < w5.heap.size := by omega
  have l50 : w.heap.size < w5.heap.size := by omega
  go_wp2_with fail
  go_at_call 46
  refine (ki _ _ _ _ _ _ _ _ _ (f0.below (by repeat first | (with_reducible exact Below.refl _ _) | (with_reducible refine Below.setCell ?_ (by first | exact Nat.le_refl _ | (simp; done) | (simp; omega) | omega) _) | (with_reducible refine Below.alloc ?_ (by first | exact Nat.le_refl _ | (simp; done) | (simp; omega) | omega) _) | (with_reducible refine below_drewN ?_ _) | (with_reducible refine Below.drew ?_)) (Nat.le_refl _)) (v0.below (by repeat first | (with_reducible exact Below.refl _ _) | (with_reducible refine Below.setCell ?_ (by first | exact Nat.le_refl _ | (simp; done) | (simp; omega) | omega) _) | (with_reducible refine Below.alloc ?_ (by first | exact Nat.le_refl _ | (simp; done) | (simp; omega) | omega) _) | (with_reducible refine below_drewN ?_ _) | (with_reducible refine Below.drew ?_)) (Nat.le_refl _)) (f1.below (by repeat first | (with_reducible exact Below.refl _ _) | (with_reducible refine Below.setCell ?_ (by first | exact Nat.le_refl _ | (simp; done) | (simp; omega) | omega) _) | (with_reducible refine Below.alloc ?_ (by first | exact Nat.le_refl _ | (simp; done) | (simp; omega) | omega) _) | (with_reducible refine below_drewN ?_ _) | (with_reducible refine Below.drew ?_)) (Nat.le_refl _)) (v1.below (by repeat first | (with_reducible exact Below.refl _ _) | (with_reducible refine Below.setCell ?_ (by first | exact Nat.le_refl _ | (simp; done) | (simp; omega) | omega) _) | (with_reducible refine Below.alloc ?_ (by first | exact Nat.le_refl _ | (simp; done) | (simp; omega) | omega) _) | (with_reducible refine below_drewN ?_ _) | (with_reducible refine Below.drew ?_)) (Nat.le_refl _))).mono ?_
  rintro e w6 ⟨rfl, b6⟩
  have b56 : Below w5.heap.size w5 w6 := Below.trans (by repeat first | (with_reducible exact Below.refl _ _) | (with_reducible refine Below.setCell ?_ (by first | exact Nat.le_refl _ | (simp; done) | (simp; omega) | omega) _) | (with_reducible refine Below.alloc ?_ (by first | exact Nat.le_refl _ | (simp; done) | (simp; omega) | omega) _) | (with_reducible refine below_drewN ?_ _) | (with_reducible refine Below.drew ?_)) (b6.mono (by simp))
  have B6 := B5.trans (b56.mono B5.size)
  have s6 : w5.heap.size < w6.heap.size := by have := b6.size; simp at this; omega
  have XA6 := XA5.below b56 (by omega)
  have XB6 := XB5.below b56 (by omega)
  have XP6 := XP5.below b56 (by omega)
  have XQ6 : BoxC w6 w5.heap.size g1 n1 q1 r1 l1 t1 := (BoxC.new _ _ _ _ _ _ _ _).below b6 (by simp)
  have F0 := f0.below b56 (Nat.le_refl _)
  have V0 := v0.below b56 (Nat.le_refl _)
  have F1 := f1.below b56 (Nat.le_refl _)
  have V1 := v1.below b56 (Nat.le_refl _)
  clear b6 b56 x0 x1 y0 y1 z0 z1 XA5 XB5 XP5 f0 v0 f1 v1
  have XP6' := XP6
  obtain ⟨z0, z1⟩ := XP6'
  have XA6' := XA6
  obtain ⟨x0, x1⟩ := XA6'
  go_wp2_with fail
  go_region_held3 (fun w' => w'.cell? ⟨w4.heap.size, 0, none⟩ = some (.slice g0 n0 q0) ∧ w'.cell? ⟨w4.heap.size, 1, none⟩ = some (.slice r0 l0 t0) ∧ w'.cell? ⟨w.heap.size, 0, none⟩ = some (.slice a0 n0 c0) ∧ w'.cell? ⟨w.heap.size, 1, none⟩ = some (.slice p0 l0 d0) ∧ Below w6.heap.size w6 w')
    (first | exact ⟨z0, z1, x0, x1, (by first | exact (Below.refl _ _).drew | exact (below_drewN (Below.refl _ _) _).drew)⟩ | exact heldCC (by assumption) (by assumption) (by omega) (by omega))
    (first
      | (go_at_call 42; (with_reducible refine (toChain_any a0 n0 c0 Z0 p0 l0 d0 Y0 _ e1 hl0 ?_ ?_).mono ?_); exact (h0.below (B6.trans (Below.mono (by go_split_ands; assumption) B6.size)) (Nat.le_refl _)); exact (k0.below (B6.trans (Below.mono (by go_split_ands; assumption) B6.size)) (Nat.le_refl _)); rintro e wv0 ⟨gv0, qv0, rv0, sv0, rfl, ov0, uv0, bv0⟩)
      | (go_at_call 44; refine (eqChain_any _ _ n0 _ _ Z0 Z0 _ _ l0 _ _ Y0 Y0 _ e1 hl0 (F0.below (by go_split_ands; assumption) (Nat.le_refl _)) ov0.fs (V0.below (by go_split_ands; assumption) (Nat.le_refl _)) uv0.fs (fun i hi => rfl) (fun i hi => rfl)).mono ?_; rintro e w7 ⟨rfl, bb⟩))
  have b7 : Below w6.heap.size w6 w7 := by go_split_ands; assumption
  have B7 := B6.trans (b7.mono B6.size)
  have s7 : w6.heap.size ≤ w7.heap.size := b7.size
  have XB7 := XB6.below b7 (by omega)
  have XQ7 := XQ6.below b7 (by omega)
  have G1 := F1.below b7 (Nat.le_refl _)
  have U1 := V1.below b7 (Nat.le_refl _)
  clear ov0 uv0 bv0 bb b7 x0 x1 z0 z1 XA6 XP6 XB6 XQ6 F0 V0 F1 V1
  obtain ⟨z0, z1⟩ := XQ7
  obtain ⟨x0, x1⟩ := XB7
  go_wp2_with fail
  go_region_held3 (fun w' => w'.cell? ⟨w5.heap.size, 0, none⟩ = some (.slice g1 n1 q1) ∧ w'.cell? ⟨w5.heap.size, 1, none⟩ = some (.slice r1 l1 t1) ∧ w'.cell? ⟨w.heap.size + 1, 0, none⟩ = some (.slice a1 n1 c1) ∧ w'.cell? ⟨w.heap.size + 1, 1, none⟩ = some (.slice p1 l1 d1) ∧ Below w7.heap.size w7 w')
    (first | exact ⟨z0, z1, x0, x1, (by first | exact (Below.refl _ _).drew | exact (below_drewN (Below.refl _ _) _).drew)⟩ | exact heldCC (by assumption) (by assumption) (by omega) (by omega))
    (first
      | (go_at_call 42; (with_reducible refine (toChain_any a1 n1 c1 Z1 p1 l1 d1 Y1 _ hn1 hl1 ?_ ?_).mono ?_); exact (h1.below (B7.trans (Below.mono (by go_split_ands; assumption) B7.size)) (Nat.le_refl _)); exact (k1.below (B7.trans (Below.mono (by go_split_ands; assumption) B7.size)) (Nat.le_refl _)); rintro e wy1 ⟨gy1, qy1, ry1, sy1, rfl, oy1, uy1, bz1⟩)
      | (go_at_call 44; refine (eqChain_any _ _ n1 _ _ Z1 Z1 _ _ l1 _ _ Y1 Y1 _ hn1 hl1 (G1.below (by go_split_ands; assumption) (Nat.le_refl _)) oy1.fs (U1.below (by go_split_ands; assumption) (Nat.le_refl _)) uy1.fs (fun i hi => rfl) (fun i hi => rfl)).mono ?_; rintro e w8 ⟨rfl, bb⟩))
  have B8 : Below w.heap.size w w8 := B7.trans (Below.mono (by go_split_ands; assumption) B7.size)
  clear oy1 uy1 bz1 bb
  go_wp2_with fail
  go_ret
  exact ⟨rfl, B8⟩
end Go.Proofs.Ytcldaafmbmmhiab
