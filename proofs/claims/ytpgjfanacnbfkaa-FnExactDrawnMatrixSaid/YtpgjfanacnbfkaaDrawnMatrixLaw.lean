/- Helper: the walk of the law FnExactDrawnMatrix. Conditions: none. -/
import Derived.Test.YtpgjfanacnbfkaaDrawnKey
import Derived.Test.YtpgjfanacnbfkaaMatCopy
import Derived.Deep.RegionHeld3
set_option linter.unusedVariables false
namespace Go.Proofs.Ytpgjfanacnbfkaa
open Go.RowKit

set_option maxRecDepth 100000 in
set_option maxHeartbeats 4000000 in
theorem law_FnExactDrawnMatrix (w : World) (x0 : Int) (wx0 : (Lit.int .i64 x0).wf = true) (x1 : Int) (wx1 : (Lit.int .i64 x1).wf = true) (x2 : Int) (wx2 : (Lit.int .i64 x2).wf = true) :
    Calls Try.prog 10 #[.int .i64 x0, .int .i64 x1, .int .i64 x2] w fun e w' => e = .returned (.bool true) ∧ Below w.heap.size w w' := by
  obtain ⟨ok, Rr, Cr, nr, Vr, sr, hnr, ks, ki⟩ := keyDrawnMatrix x0 x1 x2  wx0 wx1 wx2
  go_enter Try.func10, Try.ntmps10
  go_wp2_with fail
  go_at_call 58
  refine (ks  _ ).mono ?_
  rintro e w1 ⟨g1, d1, Y1, rfl, fg1, v1, b1⟩
  have D1 : Below w.heap.size w w1 := b1
  have s1 : w.heap.size + 0 ≤ w1.heap.size := by have := b1.size; (try simp at this); omega
  have B1 : Below w.heap.size w w1 := D1
  have fs1_ := fg1
  have DS1 := Below.refl w1.heap.size w1
  go_wp2_with fail
  go_at_call 59
  refine (ki  _ ).mono ?_
  rintro e w2 ⟨g2, d2, Y2, rfl, og2, v2, b2⟩
  replace og2 := Own.mono (B' := (w1.heap.size + 1)) og2 (by simp) (Nat.le_refl _) (Nat.le_refl _)
  have D2 : Below w1.heap.size w1 w2 := Below.trans (by repeat first | (with_reducible exact Below.refl _ _) | (with_reducible refine Below.setCell ?_ (by first | exact Nat.le_refl _ | (simp; done) | (simp; omega) | omega) _) | (with_reducible refine Below.alloc ?_ (by first | exact Nat.le_refl _ | (simp; done) | (simp; omega) | omega) _) | (with_reducible refine below_drewN ?_ _) | (with_reducible refine Below.drew ?_)) (b2.mono (by simp; try omega))
  have s2 : w1.heap.size + 1 ≤ w2.heap.size := by have := b2.size; (try simp at this); omega
  have B2 : Below w.heap.size w w2 := B1.trans (D2.mono B1.size)
  have X2_G1 := (Box.new _ _ _ _ _ _ _).below b2 (by simp)
  replace DS1 := DS1.trans (D2.mono DS1.size)
  have Y2_G1 := X2_G1
  obtain ⟨Y2_G10, Y2_G11, Y2_G12⟩ := Y2_G1
  have L2_G1 : w1.heap.size < w2.heap.size := by omega
  go_wp2_with fail
  go_at_call 47
  refine (eqMatrix_any Rr Cr _ _ nr _ _ Y2 Y1 _ (by omega) (FS.below (Own.fs og2) (by repeat first | (with_reducible exact Below.refl _ _) | (with_reducible refine Below.setCell ?_ (by first | exact Nat.le_refl _ | (simp; done) | (simp; omega) | omega) _) | (with_reducible refine Below.alloc ?_ (by first | exact Nat.le_refl _ | (simp; done) | (simp; omega) | omega) _) | (with_reducible refine below_drewN ?_ _) | (with_reducible refine Below.drew ?_)) (Nat.le_refl _)) (FS.below (fs1_.below DS1 (Nat.le_refl _)) (by repeat first | (with_reducible exact Below.refl _ _) | (with_reducible refine Below.setCell ?_ (by first | exact Nat.le_refl _ | (simp; done) | (simp; omega) | omega) _) | (with_reducible refine Below.alloc ?_ (by first | exact Nat.le_refl _ | (simp; done) | (simp; omega) | omega) _) | (with_reducible refine below_drewN ?_ _) | (with_reducible refine Below.drew ?_)) (Nat.le_refl _)) (fun i hi => (v2 i hi).trans (v1 i hi).symm)).mono ?_
  rintro e w3 ⟨rfl, b3⟩
  have D3 : Below w2.heap.size w2 w3 := Below.trans (by repeat first | (with_reducible exact Below.refl _ _) | (with_reducible refine Below.setCell ?_ (by first | exact Nat.le_refl _ | (simp; done) | (simp; omega) | omega) _) | (with_reducible refine Below.alloc ?_ (by first | exact Nat.le_refl _ | (simp; done) | (simp; omega) | omega) _) | (with_reducible refine below_drewN ?_ _) | (with_reducible refine Below.drew ?_)) (b3.mono (by simp; try omega))
  have s3 : w2.heap.size + 1 ≤ w3.heap.size := by have := b3.size; (try simp at this); omega
  have B3 : Below w.heap.size w w3 := B2.trans (D3.mono B2.size)
  have X3_G1 := X2_G1.below D3 (by omega)
  have X3_G2 := (Box.new _ _ _ _ _ _ _).below b3 (by simp)
  replace og2 := og2.kept (below_grew D3) (fun q hq => by cases hq)
  replace DS1 := DS1.trans (D3.mono DS1.size)
  have Y3_G1 := X3_G1
  obtain ⟨Y3_G10, Y3_G11, Y3_G12⟩ := Y3_G1
  have L3_G1 : w1.heap.size < w3.heap.size := by omega
  have Y3_G2 := X3_G2
  obtain ⟨Y3_G20, Y3_G21, Y3_G22⟩ := Y3_G2
  have L3_G2 : w2.heap.size < w3.heap.size := by omega
  clear X2_G1 Y2_G10 Y2_G11 Y2_G12 L2_G1
  go_wp2_with fail
  go_at_call 54
  refine (markMatrix_any Rr Cr _ _ _ nr _ 1 Y2 _ (by omega) (by omega) og2).mono ?_
  rintro e w4 ⟨rfl, om, row4, gr4, hr4⟩
  clear og2
  have s4 : w3.heap.size ≤ w4.heap.size := gr4.size
  have B4 : Below w.heap.size w w4 := B3.grown gr4 B3.size (fun q hq => by have := hr4 q hq; omega)
  have X4_G1 := X3_G1.grown gr4 (by omega) (fun q hq => by have := hr4 q hq; omega)
  have X4_G2 := X3_G2.grown gr4 (by omega) (fun q hq => by have := hr4 q hq; omega)
  replace DS1 := DS1.grown gr4 DS1.size (fun q hq => by have := hr4 q hq; omega)
  have Y4_G1 := X4_G1
  obtain ⟨Y4_G10, Y4_G11, Y4_G12⟩ := Y4_G1
  have L4_G1 : w1.heap.size < w4.heap.size := by omega
  have Y4_G2 := X4_G2
  obtain ⟨Y4_G20, Y4_G21, Y4_G22⟩ := Y4_G2
  have L4_G2 : w2.heap.size < w4.heap.size := by omega
  clear X3_G1 Y3_G10 Y3_G11 Y3_G12 L3_G1 X3_G2 Y3_G20 Y3_G21 Y3_G22 L3_G2
  have hq1 : decide (((1 + nr : Nat) : Int) < 0) = false := decide_eq_false (by omega)
  have hq2 := hq1
  simp only [Int.natCast_add, Int.natCast_one, Int.cast_ofNat_Int] at hq2
  go_wp2_with fail
  go_at_call 55
  refine (heldMatrix_any Rr Cr _ nr _ 1 _ _ (by omega) (by omega) (Own.fs om) (fun i hi => rfl)).mono ?_
  rintro e w5 ⟨rfl, b5⟩
  have D5 : Below w4.heap.size w4 w5 := b5
  have s5 : w4.heap.size + 0 ≤ w5.heap.size := by have := b5.size; (try simp at this); omega
  have B5 : Below w.heap.size w w5 := B4.trans (D5.mono B4.size)
  have X5_G1 := X4_G1.below D5 (by omega)
  have X5_G2 := X4_G2.below D5 (by omega)
  replace om := om.kept (below_grew D5) (fun q hq => by cases hq)
  replace DS1 := DS1.trans (D5.mono DS1.size)
  have Y5_G1 := X5_G1
  obtain ⟨Y5_G10, Y5_G11, Y5_G12⟩ := Y5_G1
  have L5_G1 : w1.heap.size < w5.heap.size := by omega
  have Y5_G2 := X5_G2
  obtain ⟨Y5_G20, Y5_G21, Y5_G22⟩ := Y5_G2
  have L5_G2 : w2.heap.size < w5.heap.size := by omega
  clear X4_G1 Y4_G10 Y4_G11 Y4_G12 L4_G1 X4_G2 Y4_G20 Y4_G21 Y4_G22 L4_G2
  go_wp2_with fail
  go_at_call 59
  refine (ki  _ ).mono ?_
  rintro e w6 ⟨g3, d3, Y3, rfl, og3, v3, b6⟩
  have D6 : Below w5.heap.size w5 w6 := b6
  have s6 : w5.heap.size + 0 ≤ w6.heap.size := by have := b6.size; (try simp at this); omega
  have B6 : Below w.heap.size w w6 := B5.trans (D6.mono B5.size)
  have X6_G1 := X5_G1.below D6 (by omega)
  have X6_G2 := X5_G2.below D6 (by omega)
  replace om := om.kept (below_grew D6) (fun q hq => by cases hq)
  replace DS1 := DS1.trans (D6.mono DS1.size)
  have Y6_G1 := X6_G1
  obtain ⟨Y6_G10, Y6_G11, Y6_G12⟩ := Y6_G1
  have L6_G1 : w1.heap.size < w6.heap.size := by omega
  have Y6_G2 := X6_G2
  obtain ⟨Y6_G20, Y6_G21, Y6_G22⟩ := Y6_G2
  have L6_G2 : w2.heap.size < w6.heap.size := by omega
  clear X5_G1 Y5_G10 Y5_G11 Y5_G12 L5_G1 X5_G2 Y5_G20 Y5_G21 Y5_G22 L5_G2
  go_wp2_with fail
  go_at_call 47
  refine (eqMatrix_any Rr Cr _ _ nr _ _ Y3 Y1 _ (by omega) (FS.below (Own.fs og3) (by repeat first | (with_reducible exact Below.refl _ _) | (with_reducible refine Below.setCell ?_ (by first | exact Nat.le_refl _ | (simp; done) | (simp; omega) | omega) _) | (with_reducible refine Below.alloc ?_ (by first | exact Nat.le_refl _ | (simp; done) | (simp; omega) | omega) _) | (with_reducible refine below_drewN ?_ _) | (with_reducible refine Below.drew ?_)) (Nat.le_refl _)) (FS.below (fs1_.below DS1 (Nat.le_refl _)) (by repeat first | (with_reducible exact Below.refl _ _) | (with_reducible refine Below.setCell ?_ (by first | exact Nat.le_refl _ | (simp; done) | (simp; omega) | omega) _) | (with_reducible refine Below.alloc ?_ (by first | exact Nat.le_refl _ | (simp; done) | (simp; omega) | omega) _) | (with_reducible refine below_drewN ?_ _) | (with_reducible refine Below.drew ?_)) (Nat.le_refl _)) (fun i hi => (v3 i hi).trans (v1 i hi).symm)).mono ?_
  rintro e w7 ⟨rfl, b7⟩
  have D7 : Below w6.heap.size w6 w7 := Below.trans (by repeat first | (with_reducible exact Below.refl _ _) | (with_reducible refine Below.setCell ?_ (by first | exact Nat.le_refl _ | (simp; done) | (simp; omega) | omega) _) | (with_reducible refine Below.alloc ?_ (by first | exact Nat.le_refl _ | (simp; done) | (simp; omega) | omega) _) | (with_reducible refine below_drewN ?_ _) | (with_reducible refine Below.drew ?_)) (b7.mono (by simp; try omega))
  have s7 : w6.heap.size + 1 ≤ w7.heap.size := by have := b7.size; (try simp at this); omega
  have B7 : Below w.heap.size w w7 := B6.trans (D7.mono B6.size)
  have X7_G1 := X6_G1.below D7 (by omega)
  have X7_G2 := X6_G2.below D7 (by omega)
  have X7_G3 := (Box.new _ _ _ _ _ _ _).below b7 (by simp)
  replace om := om.kept (below_grew D7) (fun q hq => by cases hq)
  replace og3 := og3.kept (below_grew D7) (fun q hq => by cases hq)
  replace DS1 := DS1.trans (D7.mono DS1.size)
  have Y7_G1 := X7_G1
  obtain ⟨Y7_G10, Y7_G11, Y7_G12⟩ := Y7_G1
  have L7_G1 : w1.heap.size < w7.heap.size := by omega
  have Y7_G2 := X7_G2
  obtain ⟨Y7_G20, Y7_G21, Y7_G22⟩ := Y7_G2
  have L7_G2 : w2.heap.size < w7.heap.size := by omega
  have Y7_G3 := X7_G3
  obtain ⟨Y7_G30, Y7_G31, Y7_G32⟩ := Y7_G3
  have L7_G3 : w6.heap.size < w7.heap.size := by omega
  clear X6_G1 Y6_G10 Y6_G11 Y6_G12 L6_G1 X6_G2 Y6_G20 Y6_G21 Y6_G22 L6_G2
  go_wp2_with fail
  go_at_call 55
  refine (heldMatrix_any Rr Cr _ nr _ 1 _ _ (by omega) (by omega) (Own.fs om) (fun i hi => rfl)).mono ?_
  rintro e w8 ⟨rfl, b8⟩
  have D8 : Below w7.heap.size w7 w8 := b8
  have s8 : w7.heap.size + 0 ≤ w8.heap.size := by have := b8.size; (try simp at this); omega
  have B8 : Below w.heap.size w w8 := B7.trans (D8.mono B7.size)
  have X8_G1 := X7_G1.below D8 (by omega)
  have X8_G2 := X7_G2.below D8 (by omega)
  have X8_G3 := X7_G3.below D8 (by omega)
  replace om := om.kept (below_grew D8) (fun q hq => by cases hq)
  replace DS1 := DS1.trans (D8.mono DS1.size)
  have Y8_G1 := X8_G1
  obtain ⟨Y8_G10, Y8_G11, Y8_G12⟩ := Y8_G1
  have L8_G1 : w1.heap.size < w8.heap.size := by omega
  have Y8_G2 := X8_G2
  obtain ⟨Y8_G20, Y8_G21, Y8_G22⟩ := Y8_G2
  have L8_G2 : w2.heap.size < w8.heap.size := by omega
  have Y8_G3 := X8_G3
  obtain ⟨Y8_G30, Y8_G31, Y8_G32⟩ := Y8_G3
  have L8_G3 : w6.heap.size < w8.heap.size := by omega
  clear X7_G1 Y7_G10 Y7_G11 Y7_G12 L7_G1 X7_G2 Y7_G20 Y7_G21 Y7_G22 L7_G2 X7_G3 Y7_G30 Y7_G31 Y7_G32 L7_G3
  go_wp2_with fail
  go_ret
  exact ⟨rfl, B8⟩
end Go.Proofs.Ytpgjfanacnbfkaa
