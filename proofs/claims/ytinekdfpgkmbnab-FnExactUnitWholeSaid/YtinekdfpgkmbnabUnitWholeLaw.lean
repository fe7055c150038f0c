/- Helper: the walk of the law FnExactUnitWhole. Conditions: none. -/
import Derived.Test.YtinekdfpgkmbnabUnitWholeKey
import Derived.Test.YtinekdfpgkmbnabWhole
import Derived.Test.YtinekdfpgkmbnabMatCopy
import Derived.Test.YtinekdfpgkmbnabKeys
import Derived.Test.YtinekdfpgkmbnabBoxes
import Derived.Test.YtinekdfpgkmbnabIntLaw
import Derived.Test.YtinekdfpgkmbnabMarkMore
import Derived.Deep.RegionHeld3
set_option linter.unusedVariables false
set_option linter.unusedSimpArgs false
namespace Go.Proofs.Ytinekdfpgkmbnab
open Go.RowKit

set_option maxRecDepth 100000 in
set_option maxHeartbeats 4000000 in
theorem law_FnExactUnitWhole (w : World) (x0a : Int) (wx0a : (Lit.int .i64 x0a).wf = true) :
    Calls Try.prog 3 #[.int .i64 x0a] w fun e w' => e = .returned (.bool true) ∧ Below w.heap.size w w' := by
  obtain ⟨ok, sAa, sAb, nAc, VAc, hnrAc, ks, ki⟩ := keyUnitWhole x0a wx0a
  go_enter Try.func3, Try.ntmps3
  go_wp2_with fail
  go_at_call 9
  refine (ks  _ ).mono ?_
  rintro e w1 ⟨g1Ac, d1Ac, Y1Ac, rfl, fg1Ac, v1Ac, b1⟩
  have D1 : Below w.heap.size w w1 := b1
  have s1 : w.heap.size + 0 ≤ w1.heap.size := by have := b1.size; (try simp at this); omega
  have B1 : Below w.heap.size w w1 := D1
  have fs1Ac_ := fg1Ac
  have DS1 := Below.refl w1.heap.size w1
  go_wp2_with fail
  go_at_call 10
  refine (ki  _ ).mono ?_
  rintro e w2 ⟨g2Ac, d2Ac, Y2Ac, rfl, og2Ac, v2Ac, b2⟩
  replace og2Ac := OwnI.mono (B' := (w1.heap.size + 1)) og2Ac (by simp) (Nat.le_refl _) (by omega)
  have D2 : Below w1.heap.size w1 w2 := Below.trans (by repeat first | (with_reducible exact Below.refl _ _) | (with_reducible refine Below.setCell ?_ (by first | exact Nat.le_refl _ | (simp; done) | (simp; omega) | omega) _) | (with_reducible refine Below.alloc ?_ (by first | exact Nat.le_refl _ | (simp; done) | (simp; omega) | omega) _) | (with_reducible refine below_drewN ?_ _) | (with_reducible refine Below.drew ?_)) (b2.mono (by simp; try omega))
  have s2 : w1.heap.size + 1 ≤ w2.heap.size := by have := b2.size; (try simp at this); omega
  have B2 : Below w.heap.size w w2 := B1.trans (D2.mono B1.size)
  have X2_G1A : BoxL w2 w1.heap.size [.int .i64 sAa, .int .i64 sAb, .slice g1Ac nAc d1Ac] := BoxL.below (BoxL.three (by simp [go_sem]) (by simp [go_sem]) (by simp [go_sem])) b2 (by first | (simp; done) | (simp; omega))
  replace DS1 := DS1.trans (D2.mono DS1.size)
  have Y2_G1A0 := X2_G1A 0 _ rfl
  have Y2_G1A1 := X2_G1A 1 _ rfl
  have Y2_G1A2 := X2_G1A 2 _ rfl
  have L2_G1A : w1.heap.size < w2.heap.size := by omega
  go_wp2_with fail
  go_at_call 11
  refine (eqWhole_any _ _ _ _ _ _ _ _ _ _ (by omega) (IS.below (OwnI.is og2Ac) (by repeat first | (with_reducible exact Below.refl _ _) | (with_reducible refine Below.setCell ?_ (by first | exact Nat.le_refl _ | (simp; done) | (simp; omega) | omega) _) | (with_reducible refine Below.alloc ?_ (by first | exact Nat.le_refl _ | (simp; done) | (simp; omega) | omega) _) | (with_reducible refine below_drewN ?_ _) | (with_reducible refine Below.drew ?_)) (Nat.le_refl _)) (IS.below (fs1Ac_.below DS1 (Nat.le_refl _)) (by repeat first | (with_reducible exact Below.refl _ _) | (with_reducible refine Below.setCell ?_ (by first | exact Nat.le_refl _ | (simp; done) | (simp; omega) | omega) _) | (with_reducible refine Below.alloc ?_ (by first | exact Nat.le_refl _ | (simp; done) | (simp; omega) | omega) _) | (with_reducible refine below_drewN ?_ _) | (with_reducible refine Below.drew ?_)) (Nat.le_refl _)) (fun i hi => (v2Ac i hi).trans (v1Ac i hi).symm)).mono ?_
  rintro e w3 ⟨rfl, b3⟩
  have D3 : Below w2.heap.size w2 w3 := Below.trans (by repeat first | (with_reducible exact Below.refl _ _) | (with_reducible refine Below.setCell ?_ (by first | exact Nat.le_refl _ | (simp; done) | (simp; omega) | omega) _) | (with_reducible refine Below.alloc ?_ (by first | exact Nat.le_refl _ | (simp; done) | (simp; omega) | omega) _) | (with_reducible refine below_drewN ?_ _) | (with_reducible refine Below.drew ?_)) (b3.mono (by simp; try omega))
  have s3 : w2.heap.size + 1 ≤ w3.heap.size := by have := b3.size; (try simp at this); omega
  have B3 : Below w.heap.size w w3 := B2.trans (D3.mono B2.size)
  have X3_G1A := X2_G1A.below D3 (by omega)
  have X3_G2A : BoxL w3 w2.heap.size [.int .i64 sAa, .int .i64 sAb, .slice g2Ac nAc d2Ac] := BoxL.below (BoxL.three (by simp [go_sem]) (by simp [go_sem]) (by simp [go_sem])) b3 (by first | (simp; done) | (simp; omega))
  replace og2Ac := og2Ac.kept (below_grew D3) (fun q hq => by cases hq)
  replace DS1 := DS1.trans (D3.mono DS1.size)
  have Y3_G1A0 := X3_G1A 0 _ rfl
  have Y3_G1A1 := X3_G1A 1 _ rfl
  have Y3_G1A2 := X3_G1A 2 _ rfl
  have L3_G1A : w1.heap.size < w3.heap.size := by omega
  have Y3_G2A0 := X3_G2A 0 _ rfl
  have Y3_G2A1 := X3_G2A 1 _ rfl
  have Y3_G2A2 := X3_G2A 2 _ rfl
  have L3_G2A : w2.heap.size < w3.heap.size := by omega
  clear X2_G1A Y2_G1A0 Y2_G1A1 Y2_G1A2 L2_G1A
  go_wp2_with fail
  go_at_call 12
  refine (markWhole_sep (_)  (_) _ _ _ _ _ _ (1) _ (by omega) (by omega) (by omega) (by omega) og2Ac).mono ?_
  rintro e w4 ⟨rfl, omAc, gr4⟩
  clear og2Ac
  have s4 : w3.heap.size ≤ w4.heap.size := gr4.size
  have B4 : Below w.heap.size w w4 := Below.over B3 gr4 (by omega) (by omega)
  have X4_G1A := X3_G1A.over gr4 (by omega) (by omega)
  have X4_G2A := X3_G2A.over gr4 (by omega) (by omega)
  replace DS1 := Below.over DS1 gr4 (by omega) (by omega)
  have Y4_G1A0 := X4_G1A 0 _ rfl
  have Y4_G1A1 := X4_G1A 1 _ rfl
  have Y4_G1A2 := X4_G1A 2 _ rfl
  have L4_G1A : w1.heap.size < w4.heap.size := by omega
  have Y4_G2A0 := X4_G2A 0 _ rfl
  have Y4_G2A1 := X4_G2A 1 _ rfl
  have Y4_G2A2 := X4_G2A 2 _ rfl
  have L4_G2A : w2.heap.size < w4.heap.size := by omega
  clear X3_G1A Y3_G1A0 Y3_G1A1 Y3_G1A2 L3_G1A X3_G2A Y3_G2A0 Y3_G2A1 Y3_G2A2 L3_G2A
  have hq1 : decide (((1 + nAc : Nat) : Int) < 0) = false := decide_eq_false (by omega)
  have hq2 := hq1
  simp only [Int.natCast_add, Int.natCast_one, Int.cast_ofNat_Int] at hq2
  go_wp2_with fail
  go_at_call 13
  refine (heldWhole_sep _ _ _ _ _ (1) _ _ (by omega) (by omega) (OwnI.is omAc) (fun i hi => rfl)).mono ?_
  rintro e w5 ⟨rfl, b5⟩
  have D5 : Below w4.heap.size w4 w5 := b5
  have s5 : w4.heap.size + 0 ≤ w5.heap.size := by have := b5.size; (try simp at this); omega
  have B5 : Below w.heap.size w w5 := B4.trans (D5.mono B4.size)
  have X5_G1A := X4_G1A.below D5 (by omega)
  have X5_G2A := X4_G2A.below D5 (by omega)
  replace omAc := omAc.kept (below_grew D5) (fun q hq => by cases hq)
  replace DS1 := DS1.trans (D5.mono DS1.size)
  have Y5_G1A0 := X5_G1A 0 _ rfl
  have Y5_G1A1 := X5_G1A 1 _ rfl
  have Y5_G1A2 := X5_G1A 2 _ rfl
  have L5_G1A : w1.heap.size < w5.heap.size := by omega
  have Y5_G2A0 := X5_G2A 0 _ rfl
  have Y5_G2A1 := X5_G2A 1 _ rfl
  have Y5_G2A2 := X5_G2A 2 _ rfl
  have L5_G2A : w2.heap.size < w5.heap.size := by omega
  clear X4_G1A Y4_G1A0 Y4_G1A1 Y4_G1A2 L4_G1A X4_G2A Y4_G2A0 Y4_G2A1 Y4_G2A2 L4_G2A
  go_wp2_with fail
  go_at_call 10
  refine (ki  _ ).mono ?_
  rintro e w6 ⟨g3Ac, d3Ac, Y3Ac, rfl, og3Ac, v3Ac, b6⟩
  have D6 : Below w5.heap.size w5 w6 := b6
  have s6 : w5.heap.size + 0 ≤ w6.heap.size := by have := b6.size; (try simp at this); omega
  have B6 : Below w.heap.size w w6 := B5.trans (D6.mono B5.size)
  have X6_G1A := X5_G1A.below D6 (by omega)
  have X6_G2A := X5_G2A.below D6 (by omega)
  replace omAc := omAc.kept (below_grew D6) (fun q hq => by cases hq)
  replace DS1 := DS1.trans (D6.mono DS1.size)
  have Y6_G1A0 := X6_G1A 0 _ rfl
  have Y6_G1A1 := X6_G1A 1 _ rfl
  have Y6_G1A2 := X6_G1A 2 _ rfl
  have L6_G1A : w1.heap.size < w6.heap.size := by omega
  have Y6_G2A0 := X6_G2A 0 _ rfl
  have Y6_G2A1 := X6_G2A 1 _ rfl
  have Y6_G2A2 := X6_G2A 2 _ rfl
  have L6_G2A : w2.heap.size < w6.heap.size := by omega
  clear X5_G1A Y5_G1A0 Y5_G1A1 Y5_G1A2 L5_G1A X5_G2A Y5_G2A0 Y5_G2A1 Y5_G2A2 L5_G2A
  go_wp2_with fail
  go_at_call 11
  refine (eqWhole_any _ _ _ _ _ _ _ _ _ _ (by omega) (IS.below (OwnI.is og3Ac) (by repeat first | (with_reducible exact Below.refl _ _) | (with_reducible refine Below.setCell ?_ (by first | exact Nat.le_refl _ | (simp; done) | (simp; omega) | omega) _) | (with_reducible refine Below.alloc ?_ (by first | exact Nat.le_refl _ | (simp; done) | (simp; omega) | omega) _) | (with_reducible refine below_drewN ?_ _) | (with_reducible refine Below.drew ?_)) (Nat.le_refl _)) (IS.below (fs1Ac_.below DS1 (Nat.le_refl _)) (by repeat first | (with_reducible exact Below.refl _ _) | (with_reducible refine Below.setCell ?_ (by first | exact Nat.le_refl _ | (simp; done) | (simp; omega) | omega) _) | (with_reducible refine Below.alloc ?_ (by first | exact Nat.le_refl _ | (simp; done) | (simp; omega) | omega) _) | (with_reducible refine below_drewN ?_ _) | (with_reducible refine Below.drew ?_)) (Nat.le_refl _)) (fun i hi => (v3Ac i hi).trans (v1Ac i hi).symm)).mono ?_
  rintro e w7 ⟨rfl, b7⟩
  have D7 : Below w6.heap.size w6 w7 := Below.trans (by repeat first | (with_reducible exact Below.refl _ _) | (with_reducible refine Below.setCell ?_ (by first | exact Nat.le_refl _ | (simp; done) | (simp; omega) | omega) _) | (with_reducible refine Below.alloc ?_ (by first | exact Nat.le_refl _ | (simp; done) | (simp; omega) | omega) _) | (with_reducible refine below_drewN ?_ _) | (with_reducible refine Below.drew ?_)) (b7.mono (by simp; try omega))
  have s7 : w6.heap.size + 1 ≤ w7.heap.size := by have := b7.size; (try simp at this); omega
  have B7 : Below w.heap.size w w7 := B6.trans (D7.mono B6.size)
  have X7_G1A := X6_G1A.below D7 (by omega)
  have X7_G2A := X6_G2A.below D7 (by omega)
  have X7_G3A : BoxL w7 w6.heap.size [.int .i64 sAa, .int .i64 sAb, .slice g3Ac nAc d3Ac] := BoxL.below (BoxL.three (by simp [go_sem]) (by simp [go_sem]) (by simp [go_sem])) b7 (by first | (simp; done) | (simp; omega))
  replace omAc := omAc.kept (below_grew D7) (fun q hq => by cases hq)
  replace og3Ac := og3Ac.kept (below_grew D7) (fun q hq => by cases hq)
  replace DS1 := DS1.trans (D7.mono DS1.size)
  have Y7_G1A0 := X7_G1A 0 _ rfl
  have Y7_G1A1 := X7_G1A 1 _ rfl
  have Y7_G1A2 := X7_G1A 2 _ rfl
  have L7_G1A : w1.heap.size < w7.heap.size := by omega
  have Y7_G2A0 := X7_G2A 0 _ rfl
  have Y7_G2A1 := X7_G2A 1 _ rfl
  have Y7_G2A2 := X7_G2A 2 _ rfl
  have L7_G2A : w2.heap.size < w7.heap.size := by omega
  have Y7_G3A0 := X7_G3A 0 _ rfl
  have Y7_G3A1 := X7_G3A 1 _ rfl
  have Y7_G3A2 := X7_G3A 2 _ rfl
  have L7_G3A : w6.heap.size < w7.heap.size := by omega
  clear X6_G1A Y6_G1A0 Y6_G1A1 Y6_G1A2 L6_G1A X6_G2A Y6_G2A0 Y6_G2A1 Y6_G2A2 L6_G2A
  go_wp2_with fail
  go_at_call 13
  refine (heldWhole_sep _ _ _ _ _ (1) _ _ (by omega) (by omega) (OwnI.is omAc) (fun i hi => rfl)).mono ?_
  rintro e w8 ⟨rfl, b8⟩
  have D8 : Below w7.heap.size w7 w8 := b8
  have s8 : w7.heap.size + 0 ≤ w8.heap.size := by have := b8.size; (try simp at this); omega
  have B8 : Below w.heap.size w w8 := B7.trans (D8.mono B7.size)
  have X8_G1A := X7_G1A.below D8 (by omega)
  have X8_G2A := X7_G2A.below D8 (by omega)
  have X8_G3A := X7_G3A.below D8 (by omega)
  replace omAc := omAc.kept (below_grew D8) (fun q hq => by cases hq)
  replace DS1 := DS1.trans (D8.mono DS1.size)
  have Y8_G1A0 := X8_G1A 0 _ rfl
  have Y8_G1A1 := X8_G1A 1 _ rfl
  have Y8_G1A2 := X8_G1A 2 _ rfl
  have L8_G1A : w1.heap.size < w8.heap.size := by omega
  have Y8_G2A0 := X8_G2A 0 _ rfl
  have Y8_G2A1 := X8_G2A 1 _ rfl
  have Y8_G2A2 := X8_G2A 2 _ rfl
  have L8_G2A : w2.heap.size < w8.heap.size := by omega
  have Y8_G3A0 := X8_G3A 0 _ rfl
  have Y8_G3A1 := X8_G3A 1 _ rfl
  have Y8_G3A2 := X8_G3A 2 _ rfl
  have L8_G3A : w6.heap.size < w8.heap.size := by omega
  clear X7_G1A Y7_G1A0 Y7_G1A1 Y7_G1A2 L7_G1A X7_G2A Y7_G2A0 Y7_G2A1 Y7_G2A2 L7_G2A X7_G3A Y7_G3A0 Y7_G3A1 Y7_G3A2 L7_G3A
  go_wp2_with fail
  go_ret
  exact ⟨rfl, B8⟩
end Go.Proofs.Ytinekdfpgkmbnab
