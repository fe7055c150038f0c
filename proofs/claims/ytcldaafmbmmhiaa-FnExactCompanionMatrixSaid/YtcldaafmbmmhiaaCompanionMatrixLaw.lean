/- Helper: the walk of the law FnExactCompanionMatrix. Conditions: none. -/
import Derived.Test.YtcldaafmbmmhiaaCompKey
import Derived.Test.YtcldaafmbmmhiaaMatCopy
import Derived.Test.YtcldaafmbmmhiaaKeys
import Derived.Deep.RegionHeld3
set_option linter.unusedVariables false
namespace Go.Proofs.Ytcldaafmbmmhiaa
open Go.RowKit

set_option maxRecDepth 100000 in
set_option maxHeartbeats 4000000 in
theorem law_FnExactCompanionMatrix (w : World) (a0 : Option Addr) (n0 c0 : Nat) (Z0 : Nat → Nat) (h0 : FS .f32 w a0 n0 c0 Z0) :
    Calls Try.prog 9 #[.slice a0 n0 c0] w fun e w' => e = .returned (.bool true) ∧ Below w.heap.size w w' := by
  have hm0 : n0 ≤ 9223372036854775807 := by have hh1 := h0.1; have hh2 := h0.2.1; unfold maxLen at hh2; omega
  by_cases hbig0 : 1048576 < n0
  · have hd0 : decide ((1048576 : Int) < n0) = true := decide_eq_true (by omega)
    go_enter Try.func9, Try.ntmps9
    go_wp2
    go_ret
    exact ⟨rfl, (by repeat first | (with_reducible exact Below.refl _ _) | (with_reducible refine Below.setCell ?_ (by first | exact Nat.le_refl _ | (simp; done) | (simp; omega) | omega) _) | (with_reducible refine Below.alloc ?_ (by first | exact Nat.le_refl _ | (simp; done) | (simp; omega) | omega) _) | (with_reducible refine below_drewN ?_ _) | (with_reducible refine Below.drew ?_))⟩
  have hn0 : n0 ≤ 1048576 := by omega
  have hd0 : decide ((1048576 : Int) < n0) = false := decide_eq_false (by omega)
  obtain ⟨ok, Ra, Ca, na, Va, hnra, ks, ki⟩ := keyCompanionMatrix n0 Z0 hn0 
  go_enter Try.func9, Try.ntmps9
  go_wp2_with fail
  go_at_call 33
  refine (toFloat32S_own a0 n0 c0 Z0 _ hn0 h0).mono ?_
  rintro e w1 ⟨ps0, qs0, rfl, os0, b1⟩
  have D1 : Below w.heap.size w w1 := b1
  have s1 : w.heap.size + 0 ≤ w1.heap.size := by have := b1.size; (try simp at this); omega
  have B1 : Below w.heap.size w w1 := D1
  go_wp2_with fail
  go_at_call 32
  refine (ks _ _ _ (Own.fs os0)).mono ?_
  rintro e w2 ⟨g1a, d1a, Y1a, rfl, fg1a, v1a, b2⟩
  have D2 : Below w1.heap.size w1 w2 := b2
  have s2 : w1.heap.size + 0 ≤ w2.heap.size := by have := b2.size; (try simp at this); omega
  have B2 : Below w.heap.size w w2 := B1.trans (D2.mono B1.size)
  replace os0 := os0.kept (below_grew D2) (fun q hq => by cases hq)
  have fs1a_ := fg1a
  have DS1 := Below.refl w2.heap.size w2
  clear os0
  go_wp2_with fail
  go_at_call 33
  refine (toFloat32S_own a0 n0 c0 Z0 _ hn0 (FS.below (h0.below B2 (Nat.le_refl _)) (by repeat first | (with_reducible exact Below.refl _ _) | (with_reducible refine Below.setCell ?_ (by first | exact Nat.le_refl _ | (simp; done) | (simp; omega) | omega) _) | (with_reducible refine Below.alloc ?_ (by first | exact Nat.le_refl _ | (simp; done) | (simp; omega) | omega) _) | (with_reducible refine below_drewN ?_ _) | (with_reducible refine Below.drew ?_)) (Nat.le_refl _))).mono ?_
  rintro e w3 ⟨px0, qx0, rfl, ox0, b3⟩
  replace ox0 := Own.mono (B' := (w2.heap.size + 1)) ox0 (by simp) (Nat.le_refl _) (Nat.le_refl _)
  have D3 : Below w2.heap.size w2 w3 := Below.trans (by repeat first | (with_reducible exact Below.refl _ _) | (with_reducible refine Below.setCell ?_ (by first | exact Nat.le_refl _ | (simp; done) | (simp; omega) | omega) _) | (with_reducible refine Below.alloc ?_ (by first | exact Nat.le_refl _ | (simp; done) | (simp; omega) | omega) _) | (with_reducible refine below_drewN ?_ _) | (with_reducible refine Below.drew ?_)) (b3.mono (by simp; try omega))
  have s3 : w2.heap.size + 1 ≤ w3.heap.size := by have := b3.size; (try simp at this); omega
  have B3 : Below w.heap.size w w3 := B2.trans (D3.mono B2.size)
  have X3_G1a := (Box.new _ _ _ _ _ _ _).below b3 (by simp)
  replace DS1 := DS1.trans (D3.mono DS1.size)
  have Y3_G1a := X3_G1a
  obtain ⟨Y3_G1a0, Y3_G1a1, Y3_G1a2⟩ := Y3_G1a
  have L3_G1a : w2.heap.size < w3.heap.size := by omega
  go_wp2_with fail
  go_at_call 34
  refine (ki _ _ _ (Own.fs ox0)).mono ?_
  rintro e w4 ⟨g2a, d2a, Y2a, rfl, og2a, v2a, b4⟩
  have D4 : Below w3.heap.size w3 w4 := b4
  have s4 : w3.heap.size + 0 ≤ w4.heap.size := by have := b4.size; (try simp at this); omega
  have B4 : Below w.heap.size w w4 := B3.trans (D4.mono B3.size)
  have X4_G1a := X3_G1a.below D4 (by omega)
  replace ox0 := ox0.kept (below_grew D4) (fun q hq => by cases hq)
  replace DS1 := DS1.trans (D4.mono DS1.size)
  have Y4_G1a := X4_G1a
  obtain ⟨Y4_G1a0, Y4_G1a1, Y4_G1a2⟩ := Y4_G1a
  have L4_G1a : w2.heap.size < w4.heap.size := by omega
  clear X3_G1a Y3_G1a0 Y3_G1a1 Y3_G1a2 L3_G1a
  go_wp2_with fail
  go_at_call 19
  refine (eqMatrix_any Ra Ca _ _ na _ _ Y2a Y1a _ (by omega) (FS.below (Own.fs og2a) (by repeat first | (with_reducible exact Below.refl _ _) | (with_reducible refine Below.setCell ?_ (by first | exact Nat.le_refl _ | (simp; done) | (simp; omega) | omega) _) | (with_reducible refine Below.alloc ?_ (by first | exact Nat.le_refl _ | (simp; done) | (simp; omega) | omega) _) | (with_reducible refine below_drewN ?_ _) | (with_reducible refine Below.drew ?_)) (Nat.le_refl _)) (FS.below (fs1a_.below DS1 (Nat.le_refl _)) (by repeat first | (with_reducible exact Below.refl _ _) | (with_reducible refine Below.setCell ?_ (by first | exact Nat.le_refl _ | (simp; done) | (simp; omega) | omega) _) | (with_reducible refine Below.alloc ?_ (by first | exact Nat.le_refl _ | (simp; done) | (simp; omega) | omega) _) | (with_reducible refine below_drewN ?_ _) | (with_reducible refine Below.drew ?_)) (Nat.le_refl _)) (fun i hi => (v2a i hi).trans (v1a i hi).symm)).mono ?_
  rintro e w5 ⟨rfl, b5⟩
  have D5 : Below w4.heap.size w4 w5 := Below.trans (by repeat first | (with_reducible exact Below.refl _ _) | (with_reducible refine Below.setCell ?_ (by first | exact Nat.le_refl _ | (simp; done) | (simp; omega) | omega) _) | (with_reducible refine Below.alloc ?_ (by first | exact Nat.le_refl _ | (simp; done) | (simp; omega) | omega) _) | (with_reducible refine below_drewN ?_ _) | (with_reducible refine Below.drew ?_)) (b5.mono (by simp; try omega))
  have s5 : w4.heap.size + 1 ≤ w5.heap.size := by have := b5.size; (try simp at this); omega
  have B5 : Below w.heap.size w w5 := B4.trans (D5.mono B4.size)
  have X5_G1a := X4_G1a.below D5 (by omega)
  have X5_G2a := (Box.new _ _ _ _ _ _ _).below b5 (by simp)
  replace ox0 := ox0.kept (below_grew D5) (fun q hq => by cases hq)
  replace og2a := og2a.kept (below_grew D5) (fun q hq => by cases hq)
  replace DS1 := DS1.trans (D5.mono DS1.size)
  have Y5_G1a := X5_G1a
  obtain ⟨Y5_G1a0, Y5_G1a1, Y5_G1a2⟩ := Y5_G1a
  have L5_G1a : w2.heap.size < w5.heap.size := by omega
  have Y5_G2a := X5_G2a
  obtain ⟨Y5_G2a0, Y5_G2a1, Y5_G2a2⟩ := Y5_G2a
  have L5_G2a : w4.heap.size < w5.heap.size := by omega
  clear X4_G1a Y4_G1a0 Y4_G1a1 Y4_G1a2 L4_G1a
  go_wp2_with fail
  go_at_call 33
  refine (toFloat32S_own a0 n0 c0 Z0 _ hn0 (h0.below B5 (Nat.le_refl _))).mono ?_
  rintro e w6 ⟨py0, qy0, rfl, oy0, b6⟩
  have D6 : Below w5.heap.size w5 w6 := b6
  have s6 : w5.heap.size + 0 ≤ w6.heap.size := by have := b6.size; (try simp at this); omega
  have B6 : Below w.heap.size w w6 := B5.trans (D6.mono B5.size)
  have X6_G1a := X5_G1a.below D6 (by omega)
  have X6_G2a := X5_G2a.below D6 (by omega)
  replace ox0 := ox0.kept (below_grew D6) (fun q hq => by cases hq)
  replace og2a := og2a.kept (below_grew D6) (fun q hq => by cases hq)
  replace DS1 := DS1.trans (D6.mono DS1.size)
  have Y6_G1a := X6_G1a
  obtain ⟨Y6_G1a0, Y6_G1a1, Y6_G1a2⟩ := Y6_G1a
  have L6_G1a : w2.heap.size < w6.heap.size := by omega
  have Y6_G2a := X6_G2a
  obtain ⟨Y6_G2a0, Y6_G2a1, Y6_G2a2⟩ := Y6_G2a
  have L6_G2a : w4.heap.size < w6.heap.size := by omega
  clear X5_G1a Y5_G1a0 Y5_G1a1 Y5_G1a2 L5_G1a X5_G2a Y5_G2a0 Y5_G2a1 Y5_G2a2 L5_G2a
  go_wp2_with fail
  go_at_call 35
  refine (eqFloat32S_any _ _ n0 _ _ Z0 Z0 _ hn0 (Own.fs ox0) (Own.fs oy0) (fun i hi => rfl)).mono ?_
  rintro e w7 ⟨rfl, me7, hw7⟩
  have b7 := below_of_drewN hw7
  clear hw7
  clear oy0
  have D7 : Below w6.heap.size w6 w7 := b7
  have s7 : w6.heap.size + 0 ≤ w7.heap.size := by have := b7.size; (try simp at this); omega
  have B7 : Below w.heap.size w w7 := B6.trans (D7.mono B6.size)
  have X7_G1a := X6_G1a.below D7 (by omega)
  have X7_G2a := X6_G2a.below D7 (by omega)
  replace ox0 := ox0.kept (below_grew D7) (fun q hq => by cases hq)
  replace og2a := og2a.kept (below_grew D7) (fun q hq => by cases hq)
  replace DS1 := DS1.trans (D7.mono DS1.size)
  have Y7_G1a := X7_G1a
  obtain ⟨Y7_G1a0, Y7_G1a1, Y7_G1a2⟩ := Y7_G1a
  have L7_G1a : w2.heap.size < w7.heap.size := by omega
  have Y7_G2a := X7_G2a
  obtain ⟨Y7_G2a0, Y7_G2a1, Y7_G2a2⟩ := Y7_G2a
  have L7_G2a : w4.heap.size < w7.heap.size := by omega
  clear X6_G1a Y6_G1a0 Y6_G1a1 Y6_G1a2 L6_G1a X6_G2a Y6_G2a0 Y6_G2a1 Y6_G2a2 L6_G2a
  go_wp2_with fail
  go_at_call 36
  refine (markFloat32S_any _ _ _ n0 _ (1) Z0 _ hn0 (by omega) ox0).mono ?_
  rintro e w8 ⟨rfl, om0, row8, gr8, hr8⟩
  clear ox0
  have s8 : w7.heap.size ≤ w8.heap.size := gr8.size
  have B8 : Below w.heap.size w w8 := B7.grown gr8 B7.size (fun q hq => by have := hr8 q hq; omega)
  have X8_G1a := X7_G1a.grown gr8 (by omega) (fun q hq => by have := hr8 q hq; omega)
  have X8_G2a := X7_G2a.grown gr8 (by omega) (fun q hq => by have := hr8 q hq; omega)
  replace og2a := og2a.kept gr8 (fun q hq => by have := hr8 q hq; omega)
  replace DS1 := DS1.grown gr8 DS1.size (fun q hq => by have := hr8 q hq; omega)
  have Y8_G1a := X8_G1a
  obtain ⟨Y8_G1a0, Y8_G1a1, Y8_G1a2⟩ := Y8_G1a
  have L8_G1a : w2.heap.size < w8.heap.size := by omega
  have Y8_G2a := X8_G2a
  obtain ⟨Y8_G2a0, Y8_G2a1, Y8_G2a2⟩ := Y8_G2a
  have L8_G2a : w4.heap.size < w8.heap.size := by omega
  clear X7_G1a Y7_G1a0 Y7_G1a1 Y7_G1a2 L7_G1a X7_G2a Y7_G2a0 Y7_G2a1 Y7_G2a2 L7_G2a
  clear om0
  have hk1 : decide (((1 + n0 : Nat) : Int) < 0) = false := decide_eq_false (by omega)
  have hk2 := hk1
  simp only [Int.natCast_add, Int.natCast_one, Int.cast_ofNat_Int] at hk2
  go_wp2_with fail
  go_at_call 19
  refine (eqMatrix_any Ra Ca _ _ na _ _ Y2a Y1a _ (by omega) (Own.fs og2a) (fs1a_.below DS1 (Nat.le_refl _)) (fun i hi => (v2a i hi).trans (v1a i hi).symm)).mono ?_
  rintro e w9 ⟨rfl, b9⟩
  have D9 : Below w8.heap.size w8 w9 := b9
  have s9 : w8.heap.size + 0 ≤ w9.heap.size := by have := b9.size; (try simp at this); omega
  have B9 : Below w.heap.size w w9 := B8.trans (D9.mono B8.size)
  have X9_G1a := X8_G1a.below D9 (by omega)
  have X9_G2a := X8_G2a.below D9 (by omega)
  replace og2a := og2a.kept (below_grew D9) (fun q hq => by cases hq)
  replace DS1 := DS1.trans (D9.mono DS1.size)
  have Y9_G1a := X9_G1a
  obtain ⟨Y9_G1a0, Y9_G1a1, Y9_G1a2⟩ := Y9_G1a
  have L9_G1a : w2.heap.size < w9.heap.size := by omega
  have Y9_G2a := X9_G2a
  obtain ⟨Y9_G2a0, Y9_G2a1, Y9_G2a2⟩ := Y9_G2a
  have L9_G2a : w4.heap.size < w9.heap.size := by omega
  clear X8_G1a Y8_G1a0 Y8_G1a1 Y8_G1a2 L8_G1a X8_G2a Y8_G2a0 Y8_G2a1 Y8_G2a2 L8_G2a
  go_wp2_with fail
  go_at_call 20
  refine (markMatrix_any Ra Ca _ _ _ na _ (1) Y2a _ (by omega) (by omega) og2a).mono ?_
  rintro e w10 ⟨rfl, oma, row10, gr10, hr10⟩
  clear og2a
  have s10 : w9.heap.size ≤ w10.heap.size := gr10.size
  have B10 : Below w.heap.size w w10 := B9.grown gr10 B9.size (fun q hq => by have := hr10 q hq; omega)
  have X10_G1a := X9_G1a.grown gr10 (by omega) (fun q hq => by have := hr10 q hq; omega)
  have X10_G2a := X9_G2a.grown gr10 (by omega) (fun q hq => by have := hr10 q hq; omega)
  replace DS1 := DS1.grown gr10 DS1.size (fun q hq => by have := hr10 q hq; omega)
  have Y10_G1a := X10_G1a
  obtain ⟨Y10_G1a0, Y10_G1a1, Y10_G1a2⟩ := Y10_G1a
  have L10_G1a : w2.heap.size < w10.heap.size := by omega
  have Y10_G2a := X10_G2a
  obtain ⟨Y10_G2a0, Y10_G2a1, Y10_G2a2⟩ := Y10_G2a
  have L10_G2a : w4.heap.size < w10.heap.size := by omega
  clear X9_G1a Y9_G1a0 Y9_G1a1 Y9_G1a2 L9_G1a X9_G2a Y9_G2a0 Y9_G2a1 Y9_G2a2 L9_G2a
  have hq1 : decide (((1 + na : Nat) : Int) < 0) = false := decide_eq_false (by omega)
  have hq2 := hq1
  simp only [Int.natCast_add, Int.natCast_one, Int.cast_ofNat_Int] at hq2
  go_wp2_with fail
  go_at_call 21
  refine (heldMatrix_any Ra Ca _ na _ (1) _ _ (by omega) (by omega) (Own.fs oma) (fun i hi => rfl)).mono ?_
  rintro e w11 ⟨rfl, b11⟩
  have D11 : Below w10.heap.size w10 w11 := b11
  have s11 : w10.heap.size + 0 ≤ w11.heap.size := by have := b11.size; (try simp at this); omega
  have B11 : Below w.heap.size w w11 := B10.trans (D11.mono B10.size)
  have X11_G1a := X10_G1a.below D11 (by omega)
  have X11_G2a := X10_G2a.below D11 (by omega)
  replace oma := oma.kept (below_grew D11) (fun q hq => by cases hq)
  replace DS1 := DS1.trans (D11.mono DS1.size)
  have Y11_G1a := X11_G1a
  obtain ⟨Y11_G1a0, Y11_G1a1, Y11_G1a2⟩ := Y11_G1a
  have L11_G1a : w2.heap.size < w11.heap.size := by omega
  have Y11_G2a := X11_G2a
  obtain ⟨Y11_G2a0, Y11_G2a1, Y11_G2a2⟩ := Y11_G2a
  have L11_G2a : w4.heap.size < w11.heap.size := by omega
  clear X10_G1a Y10_G1a0 Y10_G1a1 Y10_G1a2 L10_G1a X10_G2a Y10_G2a0 Y10_G2a1 Y10_G2a2 L10_G2a
  go_wp2_with fail
  go_at_call 33
  refine (toFloat32S_own a0 n0 c0 Z0 _ hn0 (h0.below B11 (Nat.le_refl _))).mono ?_
  rintro e w12 ⟨pz0, qz0, rfl, oz0, b12⟩
  have D12 : Below w11.heap.size w11 w12 := b12
  have s12 : w11.heap.size + 0 ≤ w12.heap.size := by have := b12.size; (try simp at this); omega
  have B12 : Below w.heap.size w w12 := B11.trans (D12.mono B11.size)
  have X12_G1a := X11_G1a.below D12 (by omega)
  have X12_G2a := X11_G2a.below D12 (by omega)
  replace oma := oma.kept (below_grew D12) (fun q hq => by cases hq)
  replace DS1 := DS1.trans (D12.mono DS1.size)
  have Y12_G1a := X12_G1a
  obtain ⟨Y12_G1a0, Y12_G1a1, Y12_G1a2⟩ := Y12_G1a
  have L12_G1a : w2.heap.size < w12.heap.size := by omega
  have Y12_G2a := X12_G2a
  obtain ⟨Y12_G2a0, Y12_G2a1, Y12_G2a2⟩ := Y12_G2a
  have L12_G2a : w4.heap.size < w12.heap.size := by omega
  clear X11_G1a Y11_G1a0 Y11_G1a1 Y11_G1a2 L11_G1a X11_G2a Y11_G2a0 Y11_G2a1 Y11_G2a2 L11_G2a
  go_wp2_with fail
  go_at_call 34
  refine (ki _ _ _ (Own.fs oz0)).mono ?_
  rintro e w13 ⟨g3a, d3a, Y3a, rfl, og3a, v3a, b13⟩
  have D13 : Below w12.heap.size w12 w13 := b13
  have s13 : w12.heap.size + 0 ≤ w13.heap.size := by have := b13.size; (try simp at this); omega
  have B13 : Below w.heap.size w w13 := B12.trans (D13.mono B12.size)
  have X13_G1a := X12_G1a.below D13 (by omega)
  have X13_G2a := X12_G2a.below D13 (by omega)
  replace oma := oma.kept (below_grew D13) (fun q hq => by cases hq)
  replace oz0 := oz0.kept (below_grew D13) (fun q hq => by cases hq)
  replace DS1 := DS1.trans (D13.mono DS1.size)
  have Y13_G1a := X13_G1a
  obtain ⟨Y13_G1a0, Y13_G1a1, Y13_G1a2⟩ := Y13_G1a
  have L13_G1a : w2.heap.size < w13.heap.size := by omega
  have Y13_G2a := X13_G2a
  obtain ⟨Y13_G2a0, Y13_G2a1, Y13_G2a2⟩ := Y13_G2a
  have L13_G2a : w4.heap.size < w13.heap.size := by omega
  clear X12_G1a Y12_G1a0 Y12_G1a1 Y12_G1a2 L12_G1a X12_G2a Y12_G2a0 Y12_G2a1 Y12_G2a2 L12_G2a
  clear oz0
  go_wp2_with fail
  go_at_call 19
  refine (eqMatrix_any Ra Ca _ _ na _ _ Y3a Y1a _ (by omega) (FS.below (Own.fs og3a) (by repeat first | (with_reducible exact Below.refl _ _) | (with_reducible refine Below.setCell ?_ (by first | exact Nat.le_refl _ | (simp; done) | (simp; omega) | omega) _) | (with_reducible refine Below.alloc ?_ (by first | exact Nat.le_refl _ | (simp; done) | (simp; omega) | omega) _) | (with_reducible refine below_drewN ?_ _) | (with_reducible refine Below.drew ?_)) (Nat.le_refl _)) (FS.below (fs1a_.below DS1 (Nat.le_refl _)) (by repeat first | (with_reducible exact Below.refl _ _) | (with_reducible refine Below.setCell ?_ (by first | exact Nat.le_refl _ | (simp; done) | (simp; omega) | omega) _) | (with_reducible refine Below.alloc ?_ (by first | exact Nat.le_refl _ | (simp; done) | (simp; omega) | omega) _) | (with_reducible refine below_drewN ?_ _) | (with_reducible refine Below.drew ?_)) (Nat.le_refl _)) (fun i hi => (v3a i hi).trans (v1a i hi).symm)).mono ?_
  rintro e w14 ⟨rfl, b14⟩
  have D14 : Below w13.heap.size w13 w14 := Below.trans (by repeat first | (with_reducible exact Below.refl _ _) | (with_reducible refine Below.setCell ?_ (by first | exact Nat.le_refl _ | (simp; done) | (simp; omega) | omega) _) | (with_reducible refine Below.alloc ?_ (by first | exact Nat.le_refl _ | (simp; done) | (simp; omega) | omega) _) | (with_reducible refine below_drewN ?_ _) | (with_reducible refine Below.drew ?_)) (b14.mono (by simp; try omega))
  have s14 : w13.heap.size + 1 ≤ w14.heap.size := by have := b14.size; (try simp at this); omega
  have B14 : Below w.heap.size w w14 := B13.trans (D14.mono B13.size)
  have X14_G1a := X13_G1a.below D14 (by omega)
  have X14_G2a := X13_G2a.below D14 (by omega)
  have X14_G3a := (Box.new _ _ _ _ _ _ _).below b14 (by simp)
  replace oma := oma.kept (below_grew D14) (fun q hq => by cases hq)
  replace og3a := og3a.kept (below_grew D14) (fun q hq => by cases hq)
  replace DS1 := DS1.trans (D14.mono DS1.size)
  have Y14_G1a := X14_G1a
  obtain ⟨Y14_G1a0, Y14_G1a1, Y14_G1a2⟩ := Y14_G1a
  have L14_G1a : w2.heap.size < w14.heap.size := by omega
  have Y14_G2a := X14_G2a
  obtain ⟨Y14_G2a0, Y14_G2a1, Y14_G2a2⟩ := Y14_G2a
  have L14_G2a : w4.heap.size < w14.heap.size := by omega
  have Y14_G3a := X14_G3a
  obtain ⟨Y14_G3a0, Y14_G3a1, Y14_G3a2⟩ := Y14_G3a
  have L14_G3a : w13.heap.size < w14.heap.size := by omega
  clear X13_G1a Y13_G1a0 Y13_G1a1 Y13_G1a2 L13_G1a X13_G2a Y13_G2a0 Y13_G2a1 Y13_G2a2 L13_G2a
  go_wp2_with fail
  go_at_call 21
  refine (heldMatrix_any Ra Ca _ na _ (1) _ _ (by omega) (by omega) (Own.fs oma) (fun i hi => rfl)).mono ?_
  rintro e w15 ⟨rfl, b15⟩
  have D15 : Below w14.heap.size w14 w15 := b15
  have s15 : w14.heap.size + 0 ≤ w15.heap.size := by have := b15.size; (try simp at this); omega
  have B15 : Below w.heap.size w w15 := B14.trans (D15.mono B14.size)
  have X15_G1a := X14_G1a.below D15 (by omega)
  have X15_G2a := X14_G2a.below D15 (by omega)
  have X15_G3a := X14_G3a.below D15 (by omega)
  replace oma := oma.kept (below_grew D15) (fun q hq => by cases hq)
  replace DS1 := DS1.trans (D15.mono DS1.size)
  have Y15_G1a := X15_G1a
  obtain ⟨Y15_G1a0, Y15_G1a1, Y15_G1a2⟩ := Y15_G1a
  have L15_G1a : w2.heap.size < w15.heap.size := by omega
  have Y15_G2a := X15_G2a
  obtain ⟨Y15_G2a0, Y15_G2a1, Y15_G2a2⟩ := Y15_G2a
  have L15_G2a : w4.heap.size < w15.heap.size := by omega
  have Y15_G3a := X15_G3a
  obtain ⟨Y15_G3a0, Y15_G3a1, Y15_G3a2⟩ := Y15_G3a
  have L15_G3a : w13.heap.size < w15.heap.size := by omega
  clear X14_G1a Y14_G1a0 Y14_G1a1 Y14_G1a2 L14_G1a X14_G2a Y14_G2a0 Y14_G2a1 Y14_G2a2 L14_G2a X14_G3a Y14_G3a0 Y14_G3a1 Y14_G3a2 L14_G3a
  go_wp2_with fail
  go_ret
  exact ⟨rfl, B15⟩
end Go.Proofs.Ytcldaafmbmmhiaa
