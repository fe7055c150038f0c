/- Helper: the walk of the law FnExactOuterMatrix. Conditions: none. -/
import Derived.Test.YtpgjfanacnbfkabOuterKey
import Derived.Test.YtpgjfanacnbfkabMatCopy
import Derived.Test.YtpgjfanacnbfkabMarkMore
import Derived.Deep.RegionHeld3
set_option linter.unusedVariables false
namespace Go.Proofs.Ytpgjfanacnbfkab
open Go.RowKit

set_option maxRecDepth 100000 in
set_option maxHeartbeats 4000000 in
theorem law_FnExactOuterMatrix (w : World) (a0 : Option Addr) (n0 c0 : Nat) (Z0 : Nat → Nat) (h0 : FS .f32 w a0 n0 c0 Z0) (a1 : Option Addr) (n1 c1 : Nat) (Z1 : Nat → Nat) (h1 : FS .f32 w a1 n1 c1 Z1) :
    Calls Try.prog 6 #[.slice a0 n0 c0, .slice a1 n1 c1] w fun e w' => e = .returned (.bool true) ∧ Below w.heap.size w w' := by
  have hm0 : n0 ≤ 9223372036854775807 := by have hh1 := h0.1; have hh2 := h0.2.1; unfold maxLen at hh2; omega
  have hm1 : n1 ≤ 9223372036854775807 := by have hh1 := h1.1; have hh2 := h1.2.1; unfold maxLen at hh2; omega
  by_cases hbig0 : 1048576 < n0
  · have hd0 : decide ((1048576 : Int) < n0) = true := decide_eq_true (by omega)
    go_enter Try.func6, Try.ntmps6
    go_wp2
    go_ret
    exact ⟨rfl, (by repeat first | (with_reducible exact Below.refl _ _) | (with_reducible refine Below.setCell ?_ (by first | exact Nat.le_refl _ | (simp; done) | (simp; omega) | omega) _) | (with_reducible refine Below.alloc ?_ (by first | exact Nat.le_refl _ | (simp; done) | (simp; omega) | omega) _) | (with_reducible refine below_drewN ?_ _) | (with_reducible refine Below.drew ?_))⟩
  have hn0 : n0 ≤ 1048576 := by omega
  have hd0 : decide ((1048576 : Int) < n0) = false := decide_eq_false (by omega)
  by_cases hbig1 : 1048576 < n1
  · have hd1 : decide ((1048576 : Int) < n1) = true := decide_eq_true (by omega)
    go_enter Try.func6, Try.ntmps6
    go_wp2
    go_ret
    exact ⟨rfl, (by repeat first | (with_reducible exact Below.refl _ _) | (with_reducible refine Below.setCell ?_ (by first | exact Nat.le_refl _ | (simp; done) | (simp; omega) | omega) _) | (with_reducible refine Below.alloc ?_ (by first | exact Nat.le_refl _ | (simp; done) | (simp; omega) | omega) _) | (with_reducible refine below_drewN ?_ _) | (with_reducible refine Below.drew ?_))⟩
  have hn1 : n1 ≤ 1048576 := by omega
  have hd1 : decide ((1048576 : Int) < n1) = false := decide_eq_false (by omega)
  obtain ⟨ok, Rr, Cr, nr, Vr, hnr, ks, ki⟩ := keyOuterMatrix n0 Z0 n1 Z1 hn0 hn1 
  go_enter Try.func6, Try.ntmps6
  go_wp2_with fail
  go_at_call 25
  refine (toFloat32S_own a0 n0 c0 Z0 _ hn0 h0).mono ?_
  rintro e w1 ⟨ps0, qs0, rfl, os0, b1⟩
  have D1 : Below w.heap.size w w1 := b1
  have s1 : w.heap.size + 0 ≤ w1.heap.size := by have := b1.size; (try simp at this); omega
  have B1 : Below w.heap.size w w1 := D1
  go_wp2_with fail
  go_at_call 25
  refine (toFloat32S_own a1 n1 c1 Z1 _ hn1 (h1.below B1 (Nat.le_refl _))).mono ?_
  rintro e w2 ⟨ps1, qs1, rfl, os1, b2⟩
  have D2 : Below w1.heap.size w1 w2 := b2
  have s2 : w1.heap.size + 0 ≤ w2.heap.size := by have := b2.size; (try simp at this); omega
  have B2 : Below w.heap.size w w2 := B1.trans (D2.mono B1.size)
  replace os0 := os0.kept (below_grew D2) (fun q hq => by cases hq)
  go_wp2_with fail
  go_at_call 30
  refine (ks _ _ _ _ _ (Own.fs os0) (Own.fs os1)).mono ?_
  rintro e w3 ⟨g1, d1, Y1, rfl, fg1, v1, b3⟩
  have D3 : Below w2.heap.size w2 w3 := b3
  have s3 : w2.heap.size + 0 ≤ w3.heap.size := by have := b3.size; (try simp at this); omega
  have B3 : Below w.heap.size w w3 := B2.trans (D3.mono B2.size)
  replace os0 := os0.kept (below_grew D3) (fun q hq => by cases hq)
  replace os1 := os1.kept (below_grew D3) (fun q hq => by cases hq)
  have fs1_ := fg1
  have DS1 := Below.refl w3.heap.size w3
  clear os0 os1
  go_wp2_with fail
  go_at_call 25
  refine (toFloat32S_own a0 n0 c0 Z0 _ hn0 (FS.below (h0.below B3 (Nat.le_refl _)) (by repeat first | (with_reducible exact Below.refl _ _) | (with_reducible refine Below.setCell ?_ (by first | exact Nat.le_refl _ | (simp; done) | (simp; omega) | omega) _) | (with_reducible refine Below.alloc ?_ (by first | exact Nat.le_refl _ | (simp; done) | (simp; omega) | omega) _) | (with_reducible refine below_drewN ?_ _) | (with_reducible refine Below.drew ?_)) (Nat.le_refl _))).mono ?_
  rintro e w4 ⟨px0, qx0, rfl, ox0, b4⟩
  replace ox0 := Own.mono (B' := (w3.heap.size + 1)) ox0 (by simp) (Nat.le_refl _) (Nat.le_refl _)
  have D4 : Below w3.heap.size w3 w4 := Below.trans (by repeat first | (with_reducible exact Below.refl _ _) | (with_reducible refine Below.setCell ?_ (by first | exact Nat.le_refl _ | (simp; done) | (simp; omega) | omega) _) | (with_reducible refine Below.alloc ?_ (by first | exact Nat.le_refl _ | (simp; done) | (simp; omega) | omega) _) | (with_reducible refine below_drewN ?_ _) | (with_reducible refine Below.drew ?_)) (b4.mono (by simp; try omega))
  have s4 : w3.heap.size + 1 ≤ w4.heap.size := by have := b4.size; (try simp at this); omega
  have B4 : Below w.heap.size w w4 := B3.trans (D4.mono B3.size)
  have X4_G1 := (Box.new _ _ _ _ _ _ _).below b4 (by simp)
  replace DS1 := DS1.trans (D4.mono DS1.size)
  have Y4_G1 := X4_G1
  obtain ⟨Y4_G10, Y4_G11, Y4_G12⟩ := Y4_G1
  have L4_G1 : w3.heap.size < w4.heap.size := by omega
  go_wp2_with fail
  go_at_call 25
  refine (toFloat32S_own a1 n1 c1 Z1 _ hn1 (h1.below B4 (Nat.le_refl _))).mono ?_
  rintro e w5 ⟨px1, qx1, rfl, ox1, b5⟩
  have D5 : Below w4.heap.size w4 w5 := b5
  have s5 : w4.heap.size + 0 ≤ w5.heap.size := by have := b5.size; (try simp at this); omega
  have B5 : Below w.heap.size w w5 := B4.trans (D5.mono B4.size)
  have X5_G1 := X4_G1.below D5 (by omega)
  replace ox0 := ox0.kept (below_grew D5) (fun q hq => by cases hq)
  replace DS1 := DS1.trans (D5.mono DS1.size)
  have Y5_G1 := X5_G1
  obtain ⟨Y5_G10, Y5_G11, Y5_G12⟩ := Y5_G1
  have L5_G1 : w3.heap.size < w5.heap.size := by omega
  clear X4_G1 Y4_G10 Y4_G11 Y4_G12 L4_G1
  go_wp2_with fail
  go_at_call 31
  refine (ki _ _ _ _ _ (Own.fs ox0) (Own.fs ox1)).mono ?_
  rintro e w6 ⟨g2, d2, Y2, rfl, og2, v2, b6⟩
  have D6 : Below w5.heap.size w5 w6 := b6
  have s6 : w5.heap.size + 0 ≤ w6.heap.size := by have := b6.size; (try simp at this); omega
  have B6 : Below w.heap.size w w6 := B5.trans (D6.mono B5.size)
  have X6_G1 := X5_G1.below D6 (by omega)
  replace ox0 := ox0.kept (below_grew D6) (fun q hq => by cases hq)
  replace ox1 := ox1.kept (below_grew D6) (fun q hq => by cases hq)
  replace DS1 := DS1.trans (D6.mono DS1.size)
  have Y6_G1 := X6_G1
  obtain ⟨Y6_G10, Y6_G11, Y6_G12⟩ := Y6_G1
  have L6_G1 : w3.heap.size < w6.heap.size := by omega
  clear X5_G1 Y5_G10 Y5_G11 Y5_G12 L5_G1
  go_wp2_with fail
  go_at_call 19
  refine (eqMatrix_any Rr Cr _ _ nr _ _ Y2 Y1 _ (by omega) (FS.below (Own.fs og2) (by repeat first | (with_reducible exact Below.refl _ _) | (with_reducible refine Below.setCell ?_ (by first | exact Nat.le_refl _ | (simp; done) | (simp; omega) | omega) _) | (with_reducible refine Below.alloc ?_ (by first | exact Nat.le_refl _ | (simp; done) | (simp; omega) | omega) _) | (with_reducible refine below_drewN ?_ _) | (with_reducible refine Below.drew ?_)) (Nat.le_refl _)) (FS.below (fs1_.below DS1 (Nat.le_refl _)) (by repeat first | (with_reducible exact Below.refl _ _) | (with_reducible refine Below.setCell ?_ (by first | exact Nat.le_refl _ | (simp; done) | (simp; omega) | omega) _) | (with_reducible refine Below.alloc ?_ (by first | exact Nat.le_refl _ | (simp; done) | (simp; omega) | omega) _) | (with_reducible refine below_drewN ?_ _) | (with_reducible refine Below.drew ?_)) (Nat.le_refl _)) (fun i hi => (v2 i hi).trans (v1 i hi).symm)).mono ?_
  rintro e w7 ⟨rfl, b7⟩
  have D7 : Below w6.heap.size w6 w7 := Below.trans (by repeat first | (with_reducible exact Below.refl _ _) | (with_reducible refine Below.setCell ?_ (by first | exact Nat.le_refl _ | (simp; done) | (simp; omega) | omega) _) | (with_reducible refine Below.alloc ?_ (by first | exact Nat.le_refl _ | (simp; done) | (simp; omega) | omega) _) | (with_reducible refine below_drewN ?_ _) | (with_reducible refine Below.drew ?_)) (b7.mono (by simp; try omega))
  have s7 : w6.heap.size + 1 ≤ w7.heap.size := by have := b7.size; (try simp at this); omega
  have B7 : Below w.heap.size w w7 := B6.trans (D7.mono B6.size)
  have X7_G1 := X6_G1.below D7 (by omega)
  have X7_G2 := (Box.new _ _ _ _ _ _ _).below b7 (by simp)
  replace ox0 := ox0.kept (below_grew D7) (fun q hq => by cases hq)
  replace ox1 := ox1.kept (below_grew D7) (fun q hq => by cases hq)
  replace og2 := og2.kept (below_grew D7) (fun q hq => by cases hq)
  replace DS1 := DS1.trans (D7.mono DS1.size)
  have Y7_G1 := X7_G1
  obtain ⟨Y7_G10, Y7_G11, Y7_G12⟩ := Y7_G1
  have L7_G1 : w3.heap.size < w7.heap.size := by omega
  have Y7_G2 := X7_G2
  obtain ⟨Y7_G20, Y7_G21, Y7_G22⟩ := Y7_G2
  have L7_G2 : w6.heap.size < w7.heap.size := by omega
  clear X6_G1 Y6_G10 Y6_G11 Y6_G12 L6_G1
  go_wp2_with fail
  go_at_call 25
  refine (toFloat32S_own a0 n0 c0 Z0 _ hn0 (h0.below B7 (Nat.le_refl _))).mono ?_
  rintro e w8 ⟨py0, qy0, rfl, oy0, b8⟩
  have D8 : Below w7.heap.size w7 w8 := b8
  have s8 : w7.heap.size + 0 ≤ w8.heap.size := by have := b8.size; (try simp at this); omega
  have B8 : Below w.heap.size w w8 := B7.trans (D8.mono B7.size)
  have X8_G1 := X7_G1.below D8 (by omega)
  have X8_G2 := X7_G2.below D8 (by omega)
  replace ox0 := ox0.kept (below_grew D8) (fun q hq => by cases hq)
  replace ox1 := ox1.kept (below_grew D8) (fun q hq => by cases hq)
  replace og2 := og2.kept (below_grew D8) (fun q hq => by cases hq)
  replace DS1 := DS1.trans (D8.mono DS1.size)
  have Y8_G1 := X8_G1
  obtain ⟨Y8_G10, Y8_G11, Y8_G12⟩ := Y8_G1
  have L8_G1 : w3.heap.size < w8.heap.size := by omega
  have Y8_G2 := X8_G2
  obtain ⟨Y8_G20, Y8_G21, Y8_G22⟩ := Y8_G2
  have L8_G2 : w6.heap.size < w8.heap.size := by omega
  clear X7_G1 Y7_G10 Y7_G11 Y7_G12 L7_G1 X7_G2 Y7_G20 Y7_G21 Y7_G22 L7_G2
  go_wp2_with fail
  go_at_call 27
  refine (eqFloat32S_any _ _ n0 _ _ Z0 Z0 _ hn0 (Own.fs ox0) (Own.fs oy0) (fun i hi => rfl)).mono ?_
  rintro e w9 ⟨rfl, me9, hw9⟩
  have b9 := below_of_drewN hw9
  clear hw9
  clear oy0
  have D9 : Below w8.heap.size w8 w9 := b9
  have s9 : w8.heap.size + 0 ≤ w9.heap.size := by have := b9.size; (try simp at this); omega
  have B9 : Below w.heap.size w w9 := B8.trans (D9.mono B8.size)
  have X9_G1 := X8_G1.below D9 (by omega)
  have X9_G2 := X8_G2.below D9 (by omega)
  replace ox0 := ox0.kept (below_grew D9) (fun q hq => by cases hq)
  replace ox1 := ox1.kept (below_grew D9) (fun q hq => by cases hq)
  replace og2 := og2.kept (below_grew D9) (fun q hq => by cases hq)
  replace DS1 := DS1.trans (D9.mono DS1.size)
  have Y9_G1 := X9_G1
  obtain ⟨Y9_G10, Y9_G11, Y9_G12⟩ := Y9_G1
  have L9_G1 : w3.heap.size < w9.heap.size := by omega
  have Y9_G2 := X9_G2
  obtain ⟨Y9_G20, Y9_G21, Y9_G22⟩ := Y9_G2
  have L9_G2 : w6.heap.size < w9.heap.size := by omega
  clear X8_G1 Y8_G10 Y8_G11 Y8_G12 L8_G1 X8_G2 Y8_G20 Y8_G21 Y8_G22 L8_G2
  go_wp2_with fail
  go_at_call 25
  refine (toFloat32S_own a1 n1 c1 Z1 _ hn1 (h1.below B9 (Nat.le_refl _))).mono ?_
  rintro e w10 ⟨py1, qy1, rfl, oy1, b10⟩
  have D10 : Below w9.heap.size w9 w10 := b10
  have s10 : w9.heap.size + 0 ≤ w10.heap.size := by have := b10.size; (try simp at this); omega
  have B10 : Below w.heap.size w w10 := B9.trans (D10.mono B9.size)
  have X10_G1 := X9_G1.below D10 (by omega)
  have X10_G2 := X9_G2.below D10 (by omega)
  replace ox0 := ox0.kept (below_grew D10) (fun q hq => by cases hq)
  replace ox1 := ox1.kept (below_grew D10) (fun q hq => by cases hq)
  replace og2 := og2.kept (below_grew D10) (fun q hq => by cases hq)
  replace DS1 := DS1.trans (D10.mono DS1.size)
  have Y10_G1 := X10_G1
  obtain ⟨Y10_G10, Y10_G11, Y10_G12⟩ := Y10_G1
  have L10_G1 : w3.heap.size < w10.heap.size := by omega
  have Y10_G2 := X10_G2
  obtain ⟨Y10_G20, Y10_G21, Y10_G22⟩ := Y10_G2
  have L10_G2 : w6.heap.size < w10.heap.size := by omega
  clear X9_G1 Y9_G10 Y9_G11 Y9_G12 L9_G1 X9_G2 Y9_G20 Y9_G21 Y9_G22 L9_G2
  go_wp2_with fail
  go_at_call 27
  refine (eqFloat32S_any _ _ n1 _ _ Z1 Z1 _ hn1 (Own.fs ox1) (Own.fs oy1) (fun i hi => rfl)).mono ?_
  rintro e w11 ⟨rfl, me11, hw11⟩
  have b11 := below_of_drewN hw11
  clear hw11
  clear oy1
  have D11 : Below w10.heap.size w10 w11 := b11
  have s11 : w10.heap.size + 0 ≤ w11.heap.size := by have := b11.size; (try simp at this); omega
  have B11 : Below w.heap.size w w11 := B10.trans (D11.mono B10.size)
  have X11_G1 := X10_G1.below D11 (by omega)
  have X11_G2 := X10_G2.below D11 (by omega)
  replace ox0 := ox0.kept (below_grew D11) (fun q hq => by cases hq)
  replace ox1 := ox1.kept (below_grew D11) (fun q hq => by cases hq)
  replace og2 := og2.kept (below_grew D11) (fun q hq => by cases hq)
  replace DS1 := DS1.trans (D11.mono DS1.size)
  have Y11_G1 := X11_G1
  obtain ⟨Y11_G10, Y11_G11, Y11_G12⟩ := Y11_G1
  have L11_G1 : w3.heap.size < w11.heap.size := by omega
  have Y11_G2 := X11_G2
  obtain ⟨Y11_G20, Y11_G21, Y11_G22⟩ := Y11_G2
  have L11_G2 : w6.heap.size < w11.heap.size := by omega
  clear X10_G1 Y10_G10 Y10_G11 Y10_G12 L10_G1 X10_G2 Y10_G20 Y10_G21 Y10_G22 L10_G2
  go_wp2_with fail
  go_at_call 28
  refine (markFloat32S_any _ _ _ n0 _ (1) Z0 _ hn0 (by omega) ox0).mono ?_
  rintro e w12 ⟨rfl, om0, row12, gr12, hr12⟩
  clear ox0
  have s12 : w11.heap.size ≤ w12.heap.size := gr12.size
  have B12 : Below w.heap.size w w12 := B11.grown gr12 B11.size (fun q hq => by have := hr12 q hq; omega)
  have X12_G1 := X11_G1.grown gr12 (by omega) (fun q hq => by have := hr12 q hq; omega)
  have X12_G2 := X11_G2.grown gr12 (by omega) (fun q hq => by have := hr12 q hq; omega)
  replace ox1 := ox1.kept gr12 (fun q hq => by have := hr12 q hq; omega)
  replace og2 := og2.kept gr12 (fun q hq => by have := hr12 q hq; omega)
  replace DS1 := DS1.grown gr12 DS1.size (fun q hq => by have := hr12 q hq; omega)
  have Y12_G1 := X12_G1
  obtain ⟨Y12_G10, Y12_G11, Y12_G12⟩ := Y12_G1
  have L12_G1 : w3.heap.size < w12.heap.size := by omega
  have Y12_G2 := X12_G2
  obtain ⟨Y12_G20, Y12_G21, Y12_G22⟩ := Y12_G2
  have L12_G2 : w6.heap.size < w12.heap.size := by omega
  clear X11_G1 Y11_G10 Y11_G11 Y11_G12 L11_G1 X11_G2 Y11_G20 Y11_G21 Y11_G22 L11_G2
  clear om0
  go_wp2_with fail
  go_at_call 28
  refine (markFloat32S_more _ _ _ n1 _ (1 + n0) Z1 _ hn1 (by omega) ox1).mono ?_
  rintro e w13 ⟨rfl, om1, row13, gr13, hr13⟩
  clear ox1
  have s13 : w12.heap.size ≤ w13.heap.size := gr13.size
  have B13 : Below w.heap.size w w13 := B12.grown gr13 B12.size (fun q hq => by have := hr13 q hq; omega)
  have X13_G1 := X12_G1.grown gr13 (by omega) (fun q hq => by have := hr13 q hq; omega)
  have X13_G2 := X12_G2.grown gr13 (by omega) (fun q hq => by have := hr13 q hq; omega)
  replace og2 := og2.kept gr13 (fun q hq => by have := hr13 q hq; omega)
  replace DS1 := DS1.grown gr13 DS1.size (fun q hq => by have := hr13 q hq; omega)
  have Y13_G1 := X13_G1
  obtain ⟨Y13_G10, Y13_G11, Y13_G12⟩ := Y13_G1
  have L13_G1 : w3.heap.size < w13.heap.size := by omega
  have Y13_G2 := X13_G2
  obtain ⟨Y13_G20, Y13_G21, Y13_G22⟩ := Y13_G2
  have L13_G2 : w6.heap.size < w13.heap.size := by omega
  clear X12_G1 Y12_G10 Y12_G11 Y12_G12 L12_G1 X12_G2 Y12_G20 Y12_G21 Y12_G22 L12_G2
  clear om1
  have hk1 : decide (((1 + n0 + n1 : Nat) : Int) < 0) = false := decide_eq_false (by omega)
  have hk2 := hk1
  simp only [Int.natCast_add, Int.natCast_one, Int.cast_ofNat_Int] at hk2
  go_wp2_with fail
  go_at_call 19
  refine (eqMatrix_any Rr Cr _ _ nr _ _ Y2 Y1 _ (by omega) (Own.fs og2) (fs1_.below DS1 (Nat.le_refl _)) (fun i hi => (v2 i hi).trans (v1 i hi).symm)).mono ?_
  rintro e w14 ⟨rfl, b14⟩
  have D14 : Below w13.heap.size w13 w14 := b14
  have s14 : w13.heap.size + 0 ≤ w14.heap.size := by have := b14.size; (try simp at this); omega
  have B14 : Below w.heap.size w w14 := B13.trans (D14.mono B13.size)
  have X14_G1 := X13_G1.below D14 (by omega)
  have X14_G2 := X13_G2.below D14 (by omega)
  replace og2 := og2.kept (below_grew D14) (fun q hq => by cases hq)
  replace DS1 := DS1.trans (D14.mono DS1.size)
  have Y14_G1 := X14_G1
  obtain ⟨Y14_G10, Y14_G11, Y14_G12⟩ := Y14_G1
  have L14_G1 : w3.heap.size < w14.heap.size := by omega
  have Y14_G2 := X14_G2
  obtain ⟨Y14_G20, Y14_G21, Y14_G22⟩ := Y14_G2
  have L14_G2 : w6.heap.size < w14.heap.size := by omega
  clear X13_G1 Y13_G10 Y13_G11 Y13_G12 L13_G1 X13_G2 Y13_G20 Y13_G21 Y13_G22 L13_G2
  go_wp2_with fail
  go_at_call 20
  refine (markMatrix_any Rr Cr _ _ _ nr _ 1 Y2 _ (by omega) (by omega) og2).mono ?_
  rintro e w15 ⟨rfl, om, row15, gr15, hr15⟩
  clear og2
  have s15 : w14.heap.size ≤ w15.heap.size := gr15.size
  have B15 : Below w.heap.size w w15 := B14.grown gr15 B14.size (fun q hq => by have := hr15 q hq; omega)
  have X15_G1 := X14_G1.grown gr15 (by omega) (fun q hq => by have := hr15 q hq; omega)
  have X15_G2 := X14_G2.grown gr15 (by omega) (fun q hq => by have := hr15 q hq; omega)
  replace DS1 := DS1.grown gr15 DS1.size (fun q hq => by have := hr15 q hq; omega)
  have Y15_G1 := X15_G1
  obtain ⟨Y15_G10, Y15_G11, Y15_G12⟩ := Y15_G1
  have L15_G1 : w3.heap.size < w15.heap.size := by omega
  have Y15_G2 := X15_G2
  obtain ⟨Y15_G20, Y15_G21, Y15_G22⟩ := Y15_G2
  have L15_G2 : w6.heap.size < w15.heap.size := by omega
  clear X14_G1 Y14_G10 Y14_G11 Y14_G12 L14_G1 X14_G2 Y14_G20 Y14_G21 Y14_G22 L14_G2
  have hq1 : decide (((1 + nr : Nat) : Int) < 0) = false := decide_eq_false (by omega)
  have hq2 := hq1
  simp only [Int.natCast_add, Int.natCast_one, Int.cast_ofNat_Int] at hq2
  go_wp2_with fail
  go_at_call 21
  refine (heldMatrix_any Rr Cr _ nr _ 1 _ _ (by omega) (by omega) (Own.fs om) (fun i hi => rfl)).mono ?_
  rintro e w16 ⟨rfl, b16⟩
  have D16 : Below w15.heap.size w15 w16 := b16
  have s16 : w15.heap.size + 0 ≤ w16.heap.size := by have := b16.size; (try simp at this); omega
  have B16 : Below w.heap.size w w16 := B15.trans (D16.mono B15.size)
  have X16_G1 := X15_G1.below D16 (by omega)
  have X16_G2 := X15_G2.below D16 (by omega)
  replace om := om.kept (below_grew D16) (fun q hq => by cases hq)
  replace DS1 := DS1.trans (D16.mono DS1.size)
  have Y16_G1 := X16_G1
  obtain ⟨Y16_G10, Y16_G11, Y16_G12⟩ := Y16_G1
  have L16_G1 : w3.heap.size < w16.heap.size := by omega
  have Y16_G2 := X16_G2
  obtain ⟨Y16_G20, Y16_G21, Y16_G22⟩ := Y16_G2
  have L16_G2 : w6.heap.size < w16.heap.size := by omega
  clear X15_G1 Y15_G10 Y15_G11 Y15_G12 L15_G1 X15_G2 Y15_G20 Y15_G21 Y15_G22 L15_G2
  go_wp2_with fail
  go_at_call 25
  refine (toFloat32S_own a0 n0 c0 Z0 _ hn0 (h0.below B16 (Nat.le_refl _))).mono ?_
  rintro e w17 ⟨pz0, qz0, rfl, oz0, b17⟩
  have D17 : Below w16.heap.size w16 w17 := b17
  have s17 : w16.heap.size + 0 ≤ w17.heap.size := by have := b17.size; (try simp at this); omega
  have B17 : Below w.heap.size w w17 := B16.trans (D17.mono B16.size)
  have X17_G1 := X16_G1.below D17 (by omega)
  have X17_G2 := X16_G2.below D17 (by omega)
  replace om := om.kept (below_grew D17) (fun q hq => by cases hq)
  replace DS1 := DS1.trans (D17.mono DS1.size)
  have Y17_G1 := X17_G1
  obtain ⟨Y17_G10, Y17_G11, Y17_G12⟩ := Y17_G1
  have L17_G1 : w3.heap.size < w17.heap.size := by omega
  have Y17_G2 := X17_G2
  obtain ⟨Y17_G20, Y17_G21, Y17_G22⟩ := Y17_G2
  have L17_G2 : w6.heap.size < w17.heap.size := by omega
  clear X16_G1 Y16_G10 Y16_G11 Y16_G12 L16_G1 X16_G2 Y16_G20 Y16_G21 Y16_G22 L16_G2
  go_wp2_with fail
  go_at_call 25
  refine (toFloat32S_own a1 n1 c1 Z1 _ hn1 (h1.below B17 (Nat.le_refl _))).mono ?_
  rintro e w18 ⟨pz1, qz1, rfl, oz1, b18⟩
  have D18 : Below w17.heap.size w17 w18 := b18
  have s18 : w17.heap.size + 0 ≤ w18.heap.size := by have := b18.size; (try simp at this); omega
  have B18 : Below w.heap.size w w18 := B17.trans (D18.mono B17.size)
  have X18_G1 := X17_G1.below D18 (by omega)
  have X18_G2 := X17_G2.below D18 (by omega)
  replace om := om.kept (below_grew D18) (fun q hq => by cases hq)
  replace oz0 := oz0.kept (below_grew D18) (fun q hq => by cases hq)
  replace DS1 := DS1.trans (D18.mono DS1.size)
  have Y18_G1 := X18_G1
  obtain ⟨Y18_G10, Y18_G11, Y18_G12⟩ := Y18_G1
  have L18_G1 : w3.heap.size < w18.heap.size := by omega
  have Y18_G2 := X18_G2
  obtain ⟨Y18_G20, Y18_G21, Y18_G22⟩ := Y18_G2
  have L18_G2 : w6.heap.size < w18.heap.size := by omega
  clear X17_G1 Y17_G10 Y17_G11 Y17_G12 L17_G1 X17_G2 Y17_G20 Y17_G21 Y17_G22 L17_G2
  go_wp2_with fail
  go_at_call 31
  refine (ki _ _ _ _ _ (Own.fs oz0) (Own.fs oz1)).mono ?_
  rintro e w19 ⟨g3, d3, Y3, rfl, og3, v3, b19⟩
  have D19 : Below w18.heap.size w18 w19 := b19
  have s19 : w18.heap.size + 0 ≤ w19.heap.size := by have := b19.size; (try simp at this); omega
  have B19 : Below w.heap.size w w19 := B18.trans (D19.mono B18.size)
  have X19_G1 := X18_G1.below D19 (by omega)
  have X19_G2 := X18_G2.below D19 (by omega)
  replace om := om.kept (below_grew D19) (fun q hq => by cases hq)
  replace oz0 := oz0.kept (below_grew D19) (fun q hq => by cases hq)
  replace oz1 := oz1.kept (below_grew D19) (fun q hq => by cases hq)
  replace DS1 := DS1.trans (D19.mono DS1.size)
  have Y19_G1 := X19_G1
  obtain ⟨Y19_G10, Y19_G11, Y19_G12⟩ := Y19_G1
  have L19_G1 : w3.heap.size < w19.heap.size := by omega
  have Y19_G2 := X19_G2
  obtain ⟨Y19_G20, Y19_G21, Y19_G22⟩ := Y19_G2
  have L19_G2 : w6.heap.size < w19.heap.size := by omega
  clear X18_G1 Y18_G10 Y18_G11 Y18_G12 L18_G1 X18_G2 Y18_G20 Y18_G21 Y18_G22 L18_G2
  clear oz0 oz1
  go_wp2_with fail
  go_at_call 19
  refine (eqMatrix_any Rr Cr _ _ nr _ _ Y3 Y1 _ (by omega) (FS.below (Own.fs og3) (by repeat first | (with_reducible exact Below.refl _ _) | (with_reducible refine Below.setCell ?_ (by first | exact Nat.le_refl _ | (simp; done) | (simp; omega) | omega) _) | (with_reducible refine Below.alloc ?_ (by first | exact Nat.le_refl _ | (simp; done) | (simp; omega) | omega) _) | (with_reducible refine below_drewN ?_ _) | (with_reducible refine Below.drew ?_)) (Nat.le_refl _)) (FS.below (fs1_.below DS1 (Nat.le_refl _)) (by repeat first | (with_reducible exact Below.refl _ _) | (with_reducible refine Below.setCell ?_ (by first | exact Nat.le_refl _ | (simp; done) | (simp; omega) | omega) _) | (with_reducible refine Below.alloc ?_ (by first | exact Nat.le_refl _ | (simp; done) | (simp; omega) | omega) _) | (with_reducible refine below_drewN ?_ _) | (with_reducible refine Below.drew ?_)) (Nat.le_refl _)) (fun i hi => (v3 i hi).trans (v1 i hi).symm)).mono ?_
  rintro e w20 ⟨rfl, b20⟩
  have D20 : Below w19.heap.size w19 w20 := Below.trans (by repeat first | (with_reducible exact Below.refl _ _) | (with_reducible refine Below.setCell ?_ (by first | exact Nat.le_refl _ | (simp; done) | (simp; omega) | omega) _) | (with_reducible refine Below.alloc ?_ (by first | exact Nat.le_refl _ | (simp; done) | (simp; omega) | omega) _) | (with_reducible refine below_drewN ?_ _) | (with_reducible refine Below.drew ?_)) (b20.mono (by simp; try omega))
  have s20 : w19.heap.size + 1 ≤ w20.heap.size := by have := b20.size; (try simp at this); omega
  have B20 : Below w.heap.size w w20 := B19.trans (D20.mono B19.size)
  have X20_G1 := X19_G1.below D20 (by omega)
  have X20_G2 := X19_G2.below D20 (by omega)
  have X20_G3 := (Box.new _ _ _ _ _ _ _).below b20 (by simp)
  replace om := om.kept (below_grew D20) (fun q hq => by cases hq)
  replace og3 := og3.kept (below_grew D20) (fun q hq => by cases hq)
  replace DS1 := DS1.trans (D20.mono DS1.size)
  have Y20_G1 := X20_G1
  obtain ⟨Y20_G10, Y20_G11, Y20_G12⟩ := Y20_G1
  have L20_G1 : w3.heap.size < w20.heap.size := by omega
  have Y20_G2 := X20_G2
  obtain ⟨Y20_G20, Y20_G21, Y20_G22⟩ := Y20_G2
  have L20_G2 : w6.heap.size < w20.heap.size := by omega
  have Y20_G3 := X20_G3
  obtain ⟨Y20_G30, Y20_G31, Y20_G32⟩ := Y20_G3
  have L20_G3 : w19.heap.size < w20.heap.size := by omega
  clear X19_G1 Y19_G10 Y19_G11 Y19_G12 L19_G1 X19_G2 Y19_G20 Y19_G21 Y19_G22 L19_G2
  go_wp2_with fail
  go_at_call 21
  refine (heldMatrix_any Rr Cr _ nr _ 1 _ _ (by omega) (by omega) (Own.fs om) (fun i hi => rfl)).mono ?_
  rintro e w21 ⟨rfl, b21⟩
  have D21 : Below w20.heap.size w20 w21 := b21
  have s21 : w20.heap.size + 0 ≤ w21.heap.size := by have := b21.size; (try simp at this); omega
  have B21 : Below w.heap.size w w21 := B20.trans (D21.mono B20.size)
  have X21_G1 := X20_G1.below D21 (by omega)
  have X21_G2 := X20_G2.below D21 (by omega)
  have X21_G3 := X20_G3.below D21 (by omega)
  replace om := om.kept (below_grew D21) (fun q hq => by cases hq)
  replace DS1 := DS1.trans (D21.mono DS1.size)
  have Y21_G1 := X21_G1
  obtain ⟨Y21_G10, Y21_G11, Y21_G12⟩ := Y21_G1
  have L21_G1 : w3.heap.size < w21.heap.size := by omega
  have Y21_G2 := X21_G2
  obtain ⟨Y21_G20, Y21_G21, Y21_G22⟩ := Y21_G2
  have L21_G2 : w6.heap.size < w21.heap.size := by omega
  have Y21_G3 := X21_G3
  obtain ⟨Y21_G30, Y21_G31, Y21_G32⟩ := Y21_G3
  have L21_G3 : w19.heap.size < w21.heap.size := by omega
  clear X20_G1 Y20_G10 Y20_G11 Y20_G12 L20_G1 X20_G2 Y20_G20 Y20_G21 Y20_G22 L20_G2 X20_G3 Y20_G30 Y20_G31 Y20_G32 L20_G3
  go_wp2_with fail
  go_ret
  exact ⟨rfl, B21⟩
end Go.Proofs.Ytpgjfanacnbfkab
