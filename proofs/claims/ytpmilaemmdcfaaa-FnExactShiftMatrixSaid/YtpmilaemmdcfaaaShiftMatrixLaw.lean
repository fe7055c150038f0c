/- Helper: the walk of the law FnExactShiftMatrix. Conditions: none. -/
import Derived.Test.YtpmilaemmdcfaaaRingMatrixKey
import Derived.Test.YtpmilaemmdcfaaaMatCopy
import Derived.Test.YtpmilaemmdcfaaaKeys
import Derived.Test.YtpmilaemmdcfaaaBoxes
import Derived.Test.YtpmilaemmdcfaaaMarkMore
import Derived.Deep.RegionHeld3
set_option linter.unusedVariables false
set_option linter.unusedSimpArgs false
namespace Go.Proofs.Ytpmilaemmdcfaaa
open Go.RowKit

set_option maxRecDepth 100000 in
set_option maxHeartbeats 4000000 in
theorem law_FnExactShiftMatrix (w : World) (a0a : Option Addr) (n0a c0a : Nat) (Z0a : Nat → Nat) (h0a : FS .f32 w a0a n0a c0a Z0a) :
    Calls Try.prog 6 #[.slice a0a n0a c0a] w fun e w' => e = .returned (.bool true) ∧ Below w.heap.size w w' := by
  have hm0a : n0a ≤ 9223372036854775807 := by have hh1 := h0a.1; have hh2 := h0a.2.1; unfold maxLen at hh2; omega
  by_cases hbig0a : 1048576 < n0a
  · have hd0a : decide ((1048576 : Int) < n0a) = true := decide_eq_true (by omega)
    go_enter Try.func6, Try.ntmps6
    go_wp2
    go_ret
    exact ⟨rfl, (by repeat first | (with_reducible exact Below.refl _ _) | (with_reducible refine Below.setCell ?_ (by first | exact Nat.le_refl _ | (simp; done) | (simp; omega) | omega) _) | (with_reducible refine Below.alloc ?_ (by first | exact Nat.le_refl _ | (simp; done) | (simp; omega) | omega) _) | (with_reducible refine below_drewN ?_ _) | (with_reducible refine Below.drew ?_))⟩
  have hn0a : n0a ≤ 1048576 := by omega
  have hd0a : decide ((1048576 : Int) < n0a) = false := decide_eq_false (by omega)
  obtain ⟨ok, sAa, sAb, nAc, VAc, hnrAc, ks, ki⟩ := keyShiftMatrix n0a Z0a hn0a
  go_enter Try.func6, Try.ntmps6
  go_wp2_with fail
  go_at_call 10
  refine (toFloat32S_own a0a n0a c0a Z0a _ hn0a h0a).mono ?_
  rintro e w1 ⟨ps0a, qs0a, rfl, os0a, b1⟩
  have D1 : Below w.heap.size w w1 := b1
  have s1 : w.heap.size + 0 ≤ w1.heap.size := by have := b1.size; (try simp at this); omega
  have B1 : Below w.heap.size w w1 := D1
  go_wp2_with fail
  go_at_call 23
  refine (ks _ _ _ (Own.fs os0a)).mono ?_
  rintro e w2 ⟨g1Ac, d1Ac, Y1Ac, rfl, fg1Ac, v1Ac, b2⟩
  have D2 : Below w1.heap.size w1 w2 := b2
  have s2 : w1.heap.size + 0 ≤ w2.heap.size := by have := b2.size; (try simp at this); omega
  have B2 : Below w.heap.size w w2 := B1.trans (D2.mono B1.size)
  replace os0a := os0a.kept (below_grew D2) (fun q hq => by cases hq)
  have fs1Ac_ := fg1Ac
  have DS1 := Below.refl w2.heap.size w2
  clear os0a
  go_wp2_with fail
  go_at_call 10
  refine (toFloat32S_own a0a n0a c0a Z0a _ hn0a (FS.below (h0a.below B2 (Nat.le_refl _)) (by repeat first | (with_reducible exact Below.refl _ _) | (with_reducible refine Below.setCell ?_ (by first | exact Nat.le_refl _ | (simp; done) | (simp; omega) | omega) _) | (with_reducible refine Below.alloc ?_ (by first | exact Nat.le_refl _ | (simp; done) | (simp; omega) | omega) _) | (with_reducible refine below_drewN ?_ _) | (with_reducible refine Below.drew ?_)) (Nat.le_refl _))).mono ?_
  rintro e w3 ⟨px0a, qx0a, rfl, ox0a, b3⟩
  replace ox0a := Own.mono (B' := (w2.heap.size + 1)) ox0a (by simp) (Nat.le_refl _) (by omega)
  have D3 : Below w2.heap.size w2 w3 := Below.trans (by repeat first | (with_reducible exact Below.refl _ _) | (with_reducible refine Below.setCell ?_ (by first | exact Nat.le_refl _ | (simp; done) | (simp; omega) | omega) _) | (with_reducible refine Below.alloc ?_ (by first | exact Nat.le_refl _ | (simp; done) | (simp; omega) | omega) _) | (with_reducible refine below_drewN ?_ _) | (with_reducible refine Below.drew ?_)) (b3.mono (by simp; try omega))
  have s3 : w2.heap.size + 1 ≤ w3.heap.size := by have := b3.size; (try simp at this); omega
  have B3 : Below w.heap.size w w3 := B2.trans (D3.mono B2.size)
  have X3_G1A : BoxL w3 w2.heap.size [.int .i64 sAa, .int .i64 sAb, .slice g1Ac nAc d1Ac] := BoxL.below (BoxL.three (by simp [go_sem]) (by simp [go_sem]) (by simp [go_sem])) b3 (by first | (simp; done) | (simp; omega))
  replace DS1 := DS1.trans (D3.mono DS1.size)
  have Y3_G1A0 := X3_G1A 0 _ rfl
  have Y3_G1A1 := X3_G1A 1 _ rfl
  have Y3_G1A2 := X3_G1A 2 _ rfl
  have L3_G1A : w2.heap.size < w3.heap.size := by omega
  go_wp2_with fail
  go_at_call 24
  refine (ki _ _ _ (Own.fs ox0a)).mono ?_
  rintro e w4 ⟨g2Ac, d2Ac, Y2Ac, rfl, og2Ac, v2Ac, b4⟩
  have D4 : Below w3.heap.size w3 w4 := b4
  have s4 : w3.heap.size + 0 ≤ w4.heap.size := by have := b4.size; (try simp at this); omega
  have B4 : Below w.heap.size w w4 := B3.trans (D4.mono B3.size)
  have X4_G1A := X3_G1A.below D4 (by omega)
  replace ox0a := ox0a.kept (below_grew D4) (fun q hq => by cases hq)
  replace DS1 := DS1.trans (D4.mono DS1.size)
  have Y4_G1A0 := X4_G1A 0 _ rfl
  have Y4_G1A1 := X4_G1A 1 _ rfl
  have Y4_G1A2 := X4_G1A 2 _ rfl
  have L4_G1A : w2.heap.size < w4.heap.size := by omega
  clear X3_G1A Y3_G1A0 Y3_G1A1 Y3_G1A2 L3_G1A
  go_wp2_with fail
  go_at_call 20
  refine (eqMatrix_any _ _ _ _ _ _ _ _ _ _ (by omega) (FS.below (Own.fs og2Ac) (by repeat first | (with_reducible exact Below.refl _ _) | (with_reducible refine Below.setCell ?_ (by first | exact Nat.le_refl _ | (simp; done) | (simp; omega) | omega) _) | (with_reducible refine Below.alloc ?_ (by first | exact Nat.le_refl _ | (simp; done) | (simp; omega) | omega) _) | (with_reducible refine below_drewN ?_ _) | (with_reducible refine Below.drew ?_)) (Nat.le_refl _)) (FS.below (fs1Ac_.below DS1 (Nat.le_refl _)) (by repeat first | (with_reducible exact Below.refl _ _) | (with_reducible refine Below.setCell ?_ (by first | exact Nat.le_refl _ | (simp; done) | (simp; omega) | omega) _) | (with_reducible refine Below.alloc ?_ (by first | exact Nat.le_refl _ | (simp; done) | (simp; omega) | omega) _) | (with_reducible refine below_drewN ?_ _) | (with_reducible refine Below.drew ?_)) (Nat.le_refl _)) (fun i hi => (v2Ac i hi).trans (v1Ac i hi).symm)).mono ?_
  rintro e w5 ⟨rfl, b5⟩
  have D5 : Below w4.heap.size w4 w5 := Below.trans (by repeat first | (with_reducible exact Below.refl _ _) | (with_reducible refine Below.setCell ?_ (by first | exact Nat.le_refl _ | (simp; done) | (simp; omega) | omega) _) | (with_reducible refine Below.alloc ?_ (by first | exact Nat.le_refl _ | (simp; done) | (simp; omega) | omega) _) | (with_reducible refine below_drewN ?_ _) | (with_reducible refine Below.drew ?_)) (b5.mono (by simp; try omega))
  have s5 : w4.heap.size + 1 ≤ w5.heap.size := by have := b5.size; (try simp at this); omega
  have B5 : Below w.heap.size w w5 := B4.trans (D5.mono B4.size)
  have X5_G1A := X4_G1A.below D5 (by omega)
  have X5_G2A : BoxL w5 w4.heap.size [.int .i64 sAa, .int .i64 sAb, .slice g2Ac nAc d2Ac] := BoxL.below (BoxL.three (by simp [go_sem]) (by simp [go_sem]) (by simp [go_sem])) b5 (by first | (simp; done) | (simp; omega))
  replace ox0a := ox0a.kept (below_grew D5) (fun q hq => by cases hq)
  replace og2Ac := og2Ac.kept (below_grew D5) (fun q hq => by cases hq)
  replace DS1 := DS1.trans (D5.mono DS1.size)
  have Y5_G1A0 := X5_G1A 0 _ rfl
  have Y5_G1A1 := X5_G1A 1 _ rfl
  have Y5_G1A2 := X5_G1A 2 _ rfl
  have L5_G1A : w2.heap.size < w5.heap.size := by omega
  have Y5_G2A0 := X5_G2A 0 _ rfl
  have Y5_G2A1 := X5_G2A 1 _ rfl
  have Y5_G2A2 := X5_G2A 2 _ rfl
  have L5_G2A : w4.heap.size < w5.heap.size := by omega
  clear X4_G1A Y4_G1A0 Y4_G1A1 Y4_G1A2 L4_G1A
  go_wp2_with fail
  go_at_call 10
  refine (toFloat32S_own a0a n0a c0a Z0a _ hn0a (h0a.below B5 (Nat.le_refl _))).mono ?_
  rintro e w6 ⟨py0a, qy0a, rfl, oy0a, b6⟩
  have D6 : Below w5.heap.size w5 w6 := b6
  have s6 : w5.heap.size + 0 ≤ w6.heap.size := by have := b6.size; (try simp at this); omega
  have B6 : Below w.heap.size w w6 := B5.trans (D6.mono B5.size)
  have X6_G1A := X5_G1A.below D6 (by omega)
  have X6_G2A := X5_G2A.below D6 (by omega)
  replace ox0a := ox0a.kept (below_grew D6) (fun q hq => by cases hq)
  replace og2Ac := og2Ac.kept (below_grew D6) (fun q hq => by cases hq)
  replace DS1 := DS1.trans (D6.mono DS1.size)
  have Y6_G1A0 := X6_G1A 0 _ rfl
  have Y6_G1A1 := X6_G1A 1 _ rfl
  have Y6_G1A2 := X6_G1A 2 _ rfl
  have L6_G1A : w2.heap.size < w6.heap.size := by omega
  have Y6_G2A0 := X6_G2A 0 _ rfl
  have Y6_G2A1 := X6_G2A 1 _ rfl
  have Y6_G2A2 := X6_G2A 2 _ rfl
  have L6_G2A : w4.heap.size < w6.heap.size := by omega
  clear X5_G1A Y5_G1A0 Y5_G1A1 Y5_G1A2 L5_G1A X5_G2A Y5_G2A0 Y5_G2A1 Y5_G2A2 L5_G2A
  go_wp2_with fail
  go_at_call 13
  refine (eqFloat32S_any _ _ n0a _ _ Z0a Z0a _ hn0a (Own.fs ox0a) (Own.fs oy0a) (fun i hi => rfl)).mono ?_
  rintro e w7 ⟨rfl, me7, hw7⟩
  have b7 := below_of_drewN hw7
  clear hw7
  clear oy0a
  have D7 : Below w6.heap.size w6 w7 := b7
  have s7 : w6.heap.size + 0 ≤ w7.heap.size := by have := b7.size; (try simp at this); omega
  have B7 : Below w.heap.size w w7 := B6.trans (D7.mono B6.size)
  have X7_G1A := X6_G1A.below D7 (by omega)
  have X7_G2A := X6_G2A.below D7 (by omega)
  replace ox0a := ox0a.kept (below_grew D7) (fun q hq => by cases hq)
  replace og2Ac := og2Ac.kept (below_grew D7) (fun q hq => by cases hq)
  replace DS1 := DS1.trans (D7.mono DS1.size)
  have Y7_G1A0 := X7_G1A 0 _ rfl
  have Y7_G1A1 := X7_G1A 1 _ rfl
  have Y7_G1A2 := X7_G1A 2 _ rfl
  have L7_G1A : w2.heap.size < w7.heap.size := by omega
  have Y7_G2A0 := X7_G2A 0 _ rfl
  have Y7_G2A1 := X7_G2A 1 _ rfl
  have Y7_G2A2 := X7_G2A 2 _ rfl
  have L7_G2A : w4.heap.size < w7.heap.size := by omega
  clear X6_G1A Y6_G1A0 Y6_G1A1 Y6_G1A2 L6_G1A X6_G2A Y6_G2A0 Y6_G2A1 Y6_G2A2 L6_G2A
  go_wp2_with fail
  go_at_call 16
  refine (markFloat32S_more  ((w2.heap.size + 1)) (w3.heap.size) _ _ _ (1) _ _ (by omega) (by omega) ox0a).mono ?_
  rintro e w8 ⟨rfl, om0a, row8⟩
  have gr8 := Marked.grew row8
  clear row8
  clear ox0a om0a
  have s8 : w7.heap.size ≤ w8.heap.size := gr8.size
  have B8 : Below w.heap.size w w8 := Below.over B7 gr8 (by omega) (by omega)
  have X8_G1A := X7_G1A.over gr8 (by omega) (by omega)
  have X8_G2A := X7_G2A.over gr8 (by omega) (by omega)
  replace og2Ac := og2Ac.over gr8 (by omega)
  replace DS1 := Below.over DS1 gr8 (by omega) (by omega)
  have Y8_G1A0 := X8_G1A 0 _ rfl
  have Y8_G1A1 := X8_G1A 1 _ rfl
  have Y8_G1A2 := X8_G1A 2 _ rfl
  have L8_G1A : w2.heap.size < w8.heap.size := by omega
  have Y8_G2A0 := X8_G2A 0 _ rfl
  have Y8_G2A1 := X8_G2A 1 _ rfl
  have Y8_G2A2 := X8_G2A 2 _ rfl
  have L8_G2A : w4.heap.size < w8.heap.size := by omega
  clear X7_G1A Y7_G1A0 Y7_G1A1 Y7_G1A2 L7_G1A X7_G2A Y7_G2A0 Y7_G2A1 Y7_G2A2 L7_G2A
  have hk1 : decide (((1 + n0a : Nat) : Int) < 0) = false := decide_eq_false (by omega)
  have hk2 := hk1
  simp only [Int.natCast_add, Int.natCast_one, Int.cast_ofNat_Int] at hk2
  go_wp2_with fail
  go_at_call 20
  refine (eqMatrix_any _ _ _ _ _ _ _ _ _ _ (by omega) (Own.fs og2Ac) (fs1Ac_.below DS1 (Nat.le_refl _)) (fun i hi => (v2Ac i hi).trans (v1Ac i hi).symm)).mono ?_
  rintro e w9 ⟨rfl, b9⟩
  have D9 : Below w8.heap.size w8 w9 := b9
  have s9 : w8.heap.size + 0 ≤ w9.heap.size := by have := b9.size; (try simp at this); omega
  have B9 : Below w.heap.size w w9 := B8.trans (D9.mono B8.size)
  have X9_G1A := X8_G1A.below D9 (by omega)
  have X9_G2A := X8_G2A.below D9 (by omega)
  replace og2Ac := og2Ac.kept (below_grew D9) (fun q hq => by cases hq)
  replace DS1 := DS1.trans (D9.mono DS1.size)
  have Y9_G1A0 := X9_G1A 0 _ rfl
  have Y9_G1A1 := X9_G1A 1 _ rfl
  have Y9_G1A2 := X9_G1A 2 _ rfl
  have L9_G1A : w2.heap.size < w9.heap.size := by omega
  have Y9_G2A0 := X9_G2A 0 _ rfl
  have Y9_G2A1 := X9_G2A 1 _ rfl
  have Y9_G2A2 := X9_G2A 2 _ rfl
  have L9_G2A : w4.heap.size < w9.heap.size := by omega
  clear X8_G1A Y8_G1A0 Y8_G1A1 Y8_G1A2 L8_G1A X8_G2A Y8_G2A0 Y8_G2A1 Y8_G2A2 L8_G2A
  go_wp2_with fail
  go_at_call 21
  refine (markMatrix_more _ _ (_) (_) _ _ _ (1) _ _ (by omega) (by omega) og2Ac).mono ?_
  rintro e w10 ⟨rfl, omAc, row10⟩
  have gr10 := Marked.grew row10
  clear row10
  clear og2Ac
  have s10 : w9.heap.size ≤ w10.heap.size := gr10.size
  have B10 : Below w.heap.size w w10 := Below.over B9 gr10 (by omega) (by omega)
  have X10_G1A := X9_G1A.over gr10 (by omega) (by omega)
  have X10_G2A := X9_G2A.over gr10 (by omega) (by omega)
  replace DS1 := Below.over DS1 gr10 (by omega) (by omega)
  have Y10_G1A0 := X10_G1A 0 _ rfl
  have Y10_G1A1 := X10_G1A 1 _ rfl
  have Y10_G1A2 := X10_G1A 2 _ rfl
  have L10_G1A : w2.heap.size < w10.heap.size := by omega
  have Y10_G2A0 := X10_G2A 0 _ rfl
  have Y10_G2A1 := X10_G2A 1 _ rfl
  have Y10_G2A2 := X10_G2A 2 _ rfl
  have L10_G2A : w4.heap.size < w10.heap.size := by omega
  clear X9_G1A Y9_G1A0 Y9_G1A1 Y9_G1A2 L9_G1A X9_G2A Y9_G2A0 Y9_G2A1 Y9_G2A2 L9_G2A
  have hq1 : decide (((1 + nAc : Nat) : Int) < 0) = false := decide_eq_false (by omega)
  have hq2 := hq1
  simp only [Int.natCast_add, Int.natCast_one, Int.cast_ofNat_Int] at hq2
  go_wp2_with fail
  go_at_call 22
  refine (heldMatrix_any _ _ _ _ _ (1) _ _ (by omega) (by omega) (Own.fs omAc) (fun i hi => rfl)).mono ?_
  rintro e w11 ⟨rfl, b11⟩
  have D11 : Below w10.heap.size w10 w11 := b11
  have s11 : w10.heap.size + 0 ≤ w11.heap.size := by have := b11.size; (try simp at this); omega
  have B11 : Below w.heap.size w w11 := B10.trans (D11.mono B10.size)
  have X11_G1A := X10_G1A.below D11 (by omega)
  have X11_G2A := X10_G2A.below D11 (by omega)
  replace omAc := omAc.kept (below_grew D11) (fun q hq => by cases hq)
  replace DS1 := DS1.trans (D11.mono DS1.size)
  have Y11_G1A0 := X11_G1A 0 _ rfl
  have Y11_G1A1 := X11_G1A 1 _ rfl
  have Y11_G1A2 := X11_G1A 2 _ rfl
  have L11_G1A : w2.heap.size < w11.heap.size := by omega
  have Y11_G2A0 := X11_G2A 0 _ rfl
  have Y11_G2A1 := X11_G2A 1 _ rfl
  have Y11_G2A2 := X11_G2A 2 _ rfl
  have L11_G2A : w4.heap.size < w11.heap.size := by omega
  clear X10_G1A Y10_G1A0 Y10_G1A1 Y10_G1A2 L10_G1A X10_G2A Y10_G2A0 Y10_G2A1 Y10_G2A2 L10_G2A
  go_wp2_with fail
  go_at_call 10
  refine (toFloat32S_own a0a n0a c0a Z0a _ hn0a (h0a.below B11 (Nat.le_refl _))).mono ?_
  rintro e w12 ⟨pz0a, qz0a, rfl, oz0a, b12⟩
  have D12 : Below w11.heap.size w11 w12 := b12
  have s12 : w11.heap.size + 0 ≤ w12.heap.size := by have := b12.size; (try simp at this); omega
  have B12 : Below w.heap.size w w12 := B11.trans (D12.mono B11.size)
  have X12_G1A := X11_G1A.below D12 (by omega)
  have X12_G2A := X11_G2A.below D12 (by omega)
  replace omAc := omAc.kept (below_grew D12) (fun q hq => by cases hq)
  replace DS1 := DS1.trans (D12.mono DS1.size)
  have Y12_G1A0 := X12_G1A 0 _ rfl
  have Y12_G1A1 := X12_G1A 1 _ rfl
  have Y12_G1A2 := X12_G1A 2 _ rfl
  have L12_G1A : w2.heap.size < w12.heap.size := by omega
  have Y12_G2A0 := X12_G2A 0 _ rfl
  have Y12_G2A1 := X12_G2A 1 _ rfl
  have Y12_G2A2 := X12_G2A 2 _ rfl
  have L12_G2A : w4.heap.size < w12.heap.size := by omega
  clear X11_G1A Y11_G1A0 Y11_G1A1 Y11_G1A2 L11_G1A X11_G2A Y11_G2A0 Y11_G2A1 Y11_G2A2 L11_G2A
  go_wp2_with fail
  go_at_call 24
  refine (ki _ _ _ (Own.fs oz0a)).mono ?_
  rintro e w13 ⟨g3Ac, d3Ac, Y3Ac, rfl, og3Ac, v3Ac, b13⟩
  have D13 : Below w12.heap.size w12 w13 := b13
  have s13 : w12.heap.size + 0 ≤ w13.heap.size := by have := b13.size; (try simp at this); omega
  have B13 : Below w.heap.size w w13 := B12.trans (D13.mono B12.size)
  have X13_G1A := X12_G1A.below D13 (by omega)
  have X13_G2A := X12_G2A.below D13 (by omega)
  replace omAc := omAc.kept (below_grew D13) (fun q hq => by cases hq)
  replace oz0a := oz0a.kept (below_grew D13) (fun q hq => by cases hq)
  replace DS1 := DS1.trans (D13.mono DS1.size)
  have Y13_G1A0 := X13_G1A 0 _ rfl
  have Y13_G1A1 := X13_G1A 1 _ rfl
  have Y13_G1A2 := X13_G1A 2 _ rfl
  have L13_G1A : w2.heap.size < w13.heap.size := by omega
  have Y13_G2A0 := X13_G2A 0 _ rfl
  have Y13_G2A1 := X13_G2A 1 _ rfl
  have Y13_G2A2 := X13_G2A 2 _ rfl
  have L13_G2A : w4.heap.size < w13.heap.size := by omega
  clear X12_G1A Y12_G1A0 Y12_G1A1 Y12_G1A2 L12_G1A X12_G2A Y12_G2A0 Y12_G2A1 Y12_G2A2 L12_G2A
  clear oz0a
  go_wp2_with fail
  go_at_call 20
  refine (eqMatrix_any _ _ _ _ _ _ _ _ _ _ (by omega) (FS.below (Own.fs og3Ac) (by repeat first | (with_reducible exact Below.refl _ _) | (with_reducible refine Below.setCell ?_ (by first | exact Nat.le_refl _ | (simp; done) | (simp; omega) | omega) _) | (with_reducible refine Below.alloc ?_ (by first | exact Nat.le_refl _ | (simp; done) | (simp; omega) | omega) _) | (with_reducible refine below_drewN ?_ _) | (with_reducible refine Below.drew ?_)) (Nat.le_refl _)) (FS.below (fs1Ac_.below DS1 (Nat.le_refl _)) (by repeat first | (with_reducible exact Below.refl _ _) | (with_reducible refine Below.setCell ?_ (by first | exact Nat.le_refl _ | (simp; done) | (simp; omega) | omega) _) | (with_reducible refine Below.alloc ?_ (by first | exact Nat.le_refl _ | (simp; done) | (simp; omega) | omega) _) | (with_reducible refine below_drewN ?_ _) | (with_reducible refine Below.drew ?_)) (Nat.le_refl _)) (fun i hi => (v3Ac i hi).trans (v1Ac i hi).symm)).mono ?_
  rintro e w14 ⟨rfl, b14⟩
  have D14 : Below w13.heap.size w13 w14 := Below.trans (by repeat first | (with_reducible exact Below.refl _ _) | (with_reducible refine Below.setCell ?_ (by first | exact Nat.le_refl _ | (simp; done) | (simp; omega) | omega) _) | (with_reducible refine Below.alloc ?_ (by first | exact Nat.le_refl _ | (simp; done) | (simp; omega) | omega) _) | (with_reducible refine below_drewN ?_ _) | (with_reducible refine Below.drew ?_)) (b14.mono (by simp; try omega))
  have s14 : w13.heap.size + 1 ≤ w14.heap.size := by have := b14.size; (try simp at this); omega
  have B14 : Below w.heap.size w w14 := B13.trans (D14.mono B13.size)
  have X14_G1A := X13_G1A.below D14 (by omega)
  have X14_G2A := X13_G2A.below D14 (by omega)
  have X14_G3A : BoxL w14 w13.heap.size [.int .i64 sAa, .int .i64 sAb, .slice g3Ac nAc d3Ac] := BoxL.below (BoxL.three (by simp [go_sem]) (by simp [go_sem]) (by simp [go_sem])) b14 (by first | (simp; done) | (simp; omega))
  replace omAc := omAc.kept (below_grew D14) (fun q hq => by cases hq)
  replace og3Ac := og3Ac.kept (below_grew D14) (fun q hq => by cases hq)
  replace DS1 := DS1.trans (D14.mono DS1.size)
  have Y14_G1A0 := X14_G1A 0 _ rfl
  have Y14_G1A1 := X14_G1A 1 _ rfl
  have Y14_G1A2 := X14_G1A 2 _ rfl
  have L14_G1A : w2.heap.size < w14.heap.size := by omega
  have Y14_G2A0 := X14_G2A 0 _ rfl
  have Y14_G2A1 := X14_G2A 1 _ rfl
  have Y14_G2A2 := X14_G2A 2 _ rfl
  have L14_G2A : w4.heap.size < w14.heap.size := by omega
  have Y14_G3A0 := X14_G3A 0 _ rfl
  have Y14_G3A1 := X14_G3A 1 _ rfl
  have Y14_G3A2 := X14_G3A 2 _ rfl
  have L14_G3A : w13.heap.size < w14.heap.size := by omega
  clear X13_G1A Y13_G1A0 Y13_G1A1 Y13_G1A2 L13_G1A X13_G2A Y13_G2A0 Y13_G2A1 Y13_G2A2 L13_G2A
  go_wp2_with fail
  go_at_call 22
  refine (heldMatrix_any _ _ _ _ _ (1) _ _ (by omega) (by omega) (Own.fs omAc) (fun i hi => rfl)).mono ?_
  rintro e w15 ⟨rfl, b15⟩
  have D15 : Below w14.heap.size w14 w15 := b15
  have s15 : w14.heap.size + 0 ≤ w15.heap.size := by have := b15.size; (try simp at this); omega
  have B15 : Below w.heap.size w w15 := B14.trans (D15.mono B14.size)
  have X15_G1A := X14_G1A.below D15 (by omega)
  have X15_G2A := X14_G2A.below D15 (by omega)
  have X15_G3A := X14_G3A.below D15 (by omega)
  replace omAc := omAc.kept (below_grew D15) (fun q hq => by cases hq)
  replace DS1 := DS1.trans (D15.mono DS1.size)
  have Y15_G1A0 := X15_G1A 0 _ rfl
  have Y15_G1A1 := X15_G1A 1 _ rfl
  have Y15_G1A2 := X15_G1A 2 _ rfl
  have L15_G1A : w2.heap.size < w15.heap.size := by omega
  have Y15_G2A0 := X15_G2A 0 _ rfl
  have Y15_G2A1 := X15_G2A 1 _ rfl
  have Y15_G2A2 := X15_G2A 2 _ rfl
  have L15_G2A : w4.heap.size < w15.heap.size := by omega
  have Y15_G3A0 := X15_G3A 0 _ rfl
  have Y15_G3A1 := X15_G3A 1 _ rfl
  have Y15_G3A2 := X15_G3A 2 _ rfl
  have L15_G3A : w13.heap.size < w15.heap.size := by omega
  clear X14_G1A Y14_G1A0 Y14_G1A1 Y14_G1A2 L14_G1A X14_G2A Y14_G2A0 Y14_G2A1 Y14_G2A2 L14_G2A X14_G3A Y14_G3A0 Y14_G3A1 Y14_G3A2 L14_G3A
  go_wp2_with fail
  go_ret
  exact ⟨rfl, B15⟩
end Go.Proofs.Ytpmilaemmdcfaaa
