/- Helper: the walk of the law FnExactWeighedSquares. Conditions: none. -/
import Derived.Test.YtcibjkadlndejaaWeighedSpec
import Derived.Test.YtcibjkadlndejaaMatCopy
import Derived.Test.YtcibjkadlndejaaKeys
import Derived.Test.YtcibjkadlndejaaMarkMore
import Derived.Deep.RegionHeld3
set_option linter.unusedVariables false
set_option linter.unusedSimpArgs false
namespace Go.Proofs.Ytcibjkadlndejaa
open Go.RowKit

set_option maxRecDepth 100000 in
set_option maxHeartbeats 4000000 in
theorem law_FnExactWeighedSquares (w : World) (R0 C0 : Int) (wR0 : (Lit.int .i64 R0).wf = true) (wC0 : (Lit.int .i64 C0).wf = true) (a0 : Option Addr) (n0 c0 : Nat) (Z0 : Nat → Nat) (h0 : FS .f32 w a0 n0 c0 Z0) (a1 : Option Addr) (n1 c1 : Nat) (Z1 : Nat → Nat) (h1 : FS .f32 w a1 n1 c1 Z1) (a2 : Option Addr) (n2 c2 : Nat) (Z2 : Nat → Nat) (h2 : FS .f32 w a2 n2 c2 Z2) :
    Calls Try.prog 5 #[.agg #[.int .i64 R0, .int .i64 C0, .slice a0 n0 c0], .slice a1 n1 c1, .slice a2 n2 c2] w fun e w' => e = .returned (.bool true) ∧ Below w.heap.size w w' := by
  have hm0 : n0 ≤ 9223372036854775807 := by have hh1 := h0.1; have hh2 := h0.2.1; unfold maxLen at hh2; omega
  have hm1 : n1 ≤ 9223372036854775807 := by have hh1 := h1.1; have hh2 := h1.2.1; unfold maxLen at hh2; omega
  have hm2 : n2 ≤ 9223372036854775807 := by have hh1 := h2.1; have hh2 := h2.2.1; unfold maxLen at hh2; omega
  by_cases hbig1 : 1048576 < n1
  · have hd1 : decide ((1048576 : Int) < n1) = true := decide_eq_true (by omega)
    go_enter Try.func5, Try.ntmps5
    go_wp2
    go_ret
    exact ⟨rfl, (by repeat first | (with_reducible exact Below.refl _ _) | (with_reducible refine Below.setCell ?_ (by first | exact Nat.le_refl _ | (simp; done) | (simp; omega) | omega) _) | (with_reducible refine Below.alloc ?_ (by first | exact Nat.le_refl _ | (simp; done) | (simp; omega) | omega) _) | (with_reducible refine below_drewN ?_ _) | (with_reducible refine Below.drew ?_))⟩
  have hn1 : n1 ≤ 1048576 := by omega
  have hd1 : decide ((1048576 : Int) < n1) = false := decide_eq_false (by omega)
  by_cases hbig2 : 1048576 < n2
  · have hd2 : decide ((1048576 : Int) < n2) = true := decide_eq_true (by omega)
    go_enter Try.func5, Try.ntmps5
    go_wp2
    go_ret
    exact ⟨rfl, (by repeat first | (with_reducible exact Below.refl _ _) | (with_reducible refine Below.setCell ?_ (by first | exact Nat.le_refl _ | (simp; done) | (simp; omega) | omega) _) | (with_reducible refine Below.alloc ?_ (by first | exact Nat.le_refl _ | (simp; done) | (simp; omega) | omega) _) | (with_reducible refine below_drewN ?_ _) | (with_reducible refine Below.drew ?_))⟩
  have hn2 : n2 ≤ 1048576 := by omega
  have hd2 : decide ((1048576 : Int) < n2) = false := decide_eq_false (by omega)
  by_cases hl0 : n0 ≤ 1048576
  case neg =>
    go_enter Try.func5, Try.ntmps5
    go_wp2_with fail
    go_at_call 9
    refine (szMatrix_no _ _ _ _ _ (1048576) _ (by omega) hm0 (by omega)).mono ?_
    rintro e w1 ⟨rfl, b1⟩
    have D1 : Below w.heap.size w w1 := Below.trans (by repeat first | (with_reducible exact Below.refl _ _) | (with_reducible refine Below.setCell ?_ (by first | exact Nat.le_refl _ | (simp; done) | (simp; omega) | omega) _) | (with_reducible refine Below.alloc ?_ (by first | exact Nat.le_refl _ | (simp; done) | (simp; omega) | omega) _) | (with_reducible refine below_drewN ?_ _) | (with_reducible refine Below.drew ?_)) (b1.mono (by simp; try omega))
    have s1 : w.heap.size + 1 ≤ w1.heap.size := by have := b1.size; (try simp at this); omega
    have B1 : Below w.heap.size w w1 := D1
    have X1_A0 := (Box.new _ _ _ _ _ _ _).below b1 (by simp)
    have Y1_A0 := X1_A0
    obtain ⟨Y1_A00, Y1_A01, Y1_A02⟩ := Y1_A0
    have L1_A0 : w.heap.size < w1.heap.size := by omega
    go_wp2_with fail
    go_ret
    exact ⟨rfl, B1⟩
  have hn0 : n0 ≤ 1048576 := by omega
  obtain ⟨ok, na, Va, hnra, ks, ki⟩ := keyWeighedSquares R0 C0 n0 Z0 n1 Z1 n2 Z2 hn0 hn1 hn2 
  go_enter Try.func5, Try.ntmps5
  go_wp2_with fail
  go_at_call 9
  refine (szMatrix_yes _ _ _ _ _ (1048576) _ (by omega) hl0).mono ?_
  rintro e w1 ⟨rfl, b1⟩
  have D1 : Below w.heap.size w w1 := Below.trans (by repeat first | (with_reducible exact Below.refl _ _) | (with_reducible refine Below.setCell ?_ (by first | exact Nat.le_refl _ | (simp; done) | (simp; omega) | omega) _) | (with_reducible refine Below.alloc ?_ (by first | exact Nat.le_refl _ | (simp; done) | (simp; omega) | omega) _) | (with_reducible refine below_drewN ?_ _) | (with_reducible refine Below.drew ?_)) (b1.mono (by simp; try omega))
  have s1 : w.heap.size + 1 ≤ w1.heap.size := by have := b1.size; (try simp at this); omega
  have B1 : Below w.heap.size w w1 := D1
  have X1_A0 := (Box.new _ _ _ _ _ _ _).below b1 (by simp)
  have Y1_A0 := X1_A0
  obtain ⟨Y1_A00, Y1_A01, Y1_A02⟩ := Y1_A0
  have L1_A0 : w.heap.size < w1.heap.size := by omega
  have hd0_ : decide (((1048576 - n0 : Nat) : Int) < 0) = false := decide_eq_false (by omega)
  go_wp2_with fail
  go_at_call 11
  refine (toMatrix_any R0 C0 a0 n0 c0 Z0 _ hn0 (h0.below B1 (Nat.le_refl _))).mono ?_
  rintro e w2 ⟨ps0, qs0, rfl, os0, b2⟩
  have D2 : Below w1.heap.size w1 w2 := b2
  have s2 : w1.heap.size + 0 ≤ w2.heap.size := by have := b2.size; (try simp at this); omega
  have B2 : Below w.heap.size w w2 := B1.trans (D2.mono B1.size)
  have X2_A0 := X1_A0.below D2 (by omega)
  have Y2_A0 := X2_A0
  obtain ⟨Y2_A00, Y2_A01, Y2_A02⟩ := Y2_A0
  have L2_A0 : w.heap.size < w2.heap.size := by omega
  clear X1_A0 Y1_A00 Y1_A01 Y1_A02 L1_A0
  go_wp2_with fail
  go_at_call 17
  refine (toFloat32S_own a1 n1 c1 Z1 _ hn1 (h1.below B2 (Nat.le_refl _))).mono ?_
  rintro e w3 ⟨ps1, qs1, rfl, os1, b3⟩
  have D3 : Below w2.heap.size w2 w3 := b3
  have s3 : w2.heap.size + 0 ≤ w3.heap.size := by have := b3.size; (try simp at this); omega
  have B3 : Below w.heap.size w w3 := B2.trans (D3.mono B2.size)
  have X3_A0 := X2_A0.below D3 (by omega)
  replace os0 := os0.kept (below_grew D3) (fun q hq => by cases hq)
  have Y3_A0 := X3_A0
  obtain ⟨Y3_A00, Y3_A01, Y3_A02⟩ := Y3_A0
  have L3_A0 : w.heap.size < w3.heap.size := by omega
  clear X2_A0 Y2_A00 Y2_A01 Y2_A02 L2_A0
  go_wp2_with fail
  go_at_call 17
  refine (toFloat32S_own a2 n2 c2 Z2 _ hn2 (h2.below B3 (Nat.le_refl _))).mono ?_
  rintro e w4 ⟨ps2, qs2, rfl, os2, b4⟩
  have D4 : Below w3.heap.size w3 w4 := b4
  have s4 : w3.heap.size + 0 ≤ w4.heap.size := by have := b4.size; (try simp at this); omega
  have B4 : Below w.heap.size w w4 := B3.trans (D4.mono B3.size)
  have X4_A0 := X3_A0.below D4 (by omega)
  replace os0 := os0.kept (below_grew D4) (fun q hq => by cases hq)
  replace os1 := os1.kept (below_grew D4) (fun q hq => by cases hq)
  have Y4_A0 := X4_A0
  obtain ⟨Y4_A00, Y4_A01, Y4_A02⟩ := Y4_A0
  have L4_A0 : w.heap.size < w4.heap.size := by omega
  clear X3_A0 Y3_A00 Y3_A01 Y3_A02 L3_A0
  go_wp2_with fail
  go_at_call 22
  refine (ks _ _ _ _ _ _ _ (Own.fs os0) (Own.fs os1) (Own.fs os2)).mono ?_
  rintro e w5 ⟨g1a, d1a, Y1a, rfl, fg1a, v1a, b5⟩
  have D5 : Below w4.heap.size w4 w5 := b5
  have s5 : w4.heap.size + 0 ≤ w5.heap.size := by have := b5.size; (try simp at this); omega
  have B5 : Below w.heap.size w w5 := B4.trans (D5.mono B4.size)
  have X5_A0 := X4_A0.below D5 (by omega)
  replace os0 := os0.kept (below_grew D5) (fun q hq => by cases hq)
  replace os1 := os1.kept (below_grew D5) (fun q hq => by cases hq)
  replace os2 := os2.kept (below_grew D5) (fun q hq => by cases hq)
  have Y5_A0 := X5_A0
  obtain ⟨Y5_A00, Y5_A01, Y5_A02⟩ := Y5_A0
  have L5_A0 : w.heap.size < w5.heap.size := by omega
  clear X4_A0 Y4_A00 Y4_A01 Y4_A02 L4_A0
  have fs1a_ := fg1a
  have DS1 := Below.refl w5.heap.size w5
  clear os0 os1 os2
  go_wp2_with fail
  go_at_call 11
  refine (toMatrix_any R0 C0 a0 n0 c0 Z0 _ hn0 (h0.below B5 (Nat.le_refl _))).mono ?_
  rintro e w6 ⟨px0, qx0, rfl, ox0, b6⟩
  have D6 : Below w5.heap.size w5 w6 := b6
  have s6 : w5.heap.size + 0 ≤ w6.heap.size := by have := b6.size; (try simp at this); omega
  have B6 : Below w.heap.size w w6 := B5.trans (D6.mono B5.size)
  have X6_A0 := X5_A0.below D6 (by omega)
  replace DS1 := DS1.trans (D6.mono DS1.size)
  have Y6_A0 := X6_A0
  obtain ⟨Y6_A00, Y6_A01, Y6_A02⟩ := Y6_A0
  have L6_A0 : w.heap.size < w6.heap.size := by omega
  clear X5_A0 Y5_A00 Y5_A01 Y5_A02 L5_A0
  go_wp2_with fail
  go_at_call 17
  refine (toFloat32S_own a1 n1 c1 Z1 _ hn1 (FS.below (h1.below B6 (Nat.le_refl _)) (by repeat first | (with_reducible exact Below.refl _ _) | (with_reducible refine Below.setCell ?_ (by first | exact Nat.le_refl _ | (simp; done) | (simp; omega) | omega) _) | (with_reducible refine Below.alloc ?_ (by first | exact Nat.le_refl _ | (simp; done) | (simp; omega) | omega) _) | (with_reducible refine below_drewN ?_ _) | (with_reducible refine Below.drew ?_)) (Nat.le_refl _))).mono ?_
  rintro e w7 ⟨px1, qx1, rfl, ox1, b7⟩
  replace ox1 := Own.mono (B' := (w6.heap.size + 1)) ox1 (by simp) (Nat.le_refl _) (Nat.le_refl _)
  have D7 : Below w6.heap.size w6 w7 := Below.trans (by repeat first | (with_reducible exact Below.refl _ _) | (with_reducible refine Below.setCell ?_ (by first | exact Nat.le_refl _ | (simp; done) | (simp; omega) | omega) _) | (with_reducible refine Below.alloc ?_ (by first | exact Nat.le_refl _ | (simp; done) | (simp; omega) | omega) _) | (with_reducible refine below_drewN ?_ _) | (with_reducible refine Below.drew ?_)) (b7.mono (by simp; try omega))
  have s7 : w6.heap.size + 1 ≤ w7.heap.size := by have := b7.size; (try simp at this); omega
  have B7 : Below w.heap.size w w7 := B6.trans (D7.mono B6.size)
  have X7_A0 := X6_A0.below D7 (by omega)
  have X7_P0 := (Box.new _ _ _ _ _ _ _).below b7 (by simp)
  replace ox0 := ox0.kept (below_grew D7) (fun q hq => by cases hq)
  replace DS1 := DS1.trans (D7.mono DS1.size)
  have Y7_A0 := X7_A0
  obtain ⟨Y7_A00, Y7_A01, Y7_A02⟩ := Y7_A0
  have L7_A0 : w.heap.size < w7.heap.size := by omega
  have Y7_P0 := X7_P0
  obtain ⟨Y7_P00, Y7_P01, Y7_P02⟩ := Y7_P0
  have L7_P0 : w6.heap.size < w7.heap.size := by omega
  clear X6_A0 Y6_A00 Y6_A01 Y6_A02 L6_A0
  go_wp2_with fail
  go_at_call 17
  refine (toFloat32S_own a2 n2 c2 Z2 _ hn2 (h2.below B7 (Nat.le_refl _))).mono ?_
  rintro e w8 ⟨px2, qx2, rfl, ox2, b8⟩
  have D8 : Below w7.heap.size w7 w8 := b8
  have s8 : w7.heap.size + 0 ≤ w8.heap.size := by have := b8.size; (try simp at this); omega
  have B8 : Below w.heap.size w w8 := B7.trans (D8.mono B7.size)
  have X8_A0 := X7_A0.below D8 (by omega)
  have X8_P0 := X7_P0.below D8 (by omega)
  replace ox0 := ox0.kept (below_grew D8) (fun q hq => by cases hq)
  replace ox1 := ox1.kept (below_grew D8) (fun q hq => by cases hq)
  replace DS1 := DS1.trans (D8.mono DS1.size)
  have Y8_A0 := X8_A0
  obtain ⟨Y8_A00, Y8_A01, Y8_A02⟩ := Y8_A0
  have L8_A0 : w.heap.size < w8.heap.size := by omega
  have Y8_P0 := X8_P0
  obtain ⟨Y8_P00, Y8_P01, Y8_P02⟩ := Y8_P0
  have L8_P0 : w6.heap.size < w8.heap.size := by omega
  clear X7_A0 Y7_A00 Y7_A01 Y7_A02 L7_A0 X7_P0 Y7_P00 Y7_P01 Y7_P02 L7_P0
  go_wp2_with fail
  go_at_call 23
  refine (ki _ _ _ _ _ _ _ (Own.fs ox0) (Own.fs ox1) (Own.fs ox2)).mono ?_
  rintro e w9 ⟨g2a, d2a, Y2a, rfl, og2a, v2a, b9⟩
  have D9 : Below w8.heap.size w8 w9 := b9
  have s9 : w8.heap.size + 0 ≤ w9.heap.size := by have := b9.size; (try simp at this); omega
  have B9 : Below w.heap.size w w9 := B8.trans (D9.mono B8.size)
  have X9_A0 := X8_A0.below D9 (by omega)
  have X9_P0 := X8_P0.below D9 (by omega)
  replace ox0 := ox0.kept (below_grew D9) (fun q hq => by cases hq)
  replace ox1 := ox1.kept (below_grew D9) (fun q hq => by cases hq)
  replace ox2 := ox2.kept (below_grew D9) (fun q hq => by cases hq)
  replace DS1 := DS1.trans (D9.mono DS1.size)
  have Y9_A0 := X9_A0
  obtain ⟨Y9_A00, Y9_A01, Y9_A02⟩ := Y9_A0
  have L9_A0 : w.heap.size < w9.heap.size := by omega
  have Y9_P0 := X9_P0
  obtain ⟨Y9_P00, Y9_P01, Y9_P02⟩ := Y9_P0
  have L9_P0 : w6.heap.size < w9.heap.size := by omega
  clear X8_A0 Y8_A00 Y8_A01 Y8_A02 L8_A0 X8_P0 Y8_P00 Y8_P01 Y8_P02 L8_P0
  go_wp2_with fail
  go_at_call 19
  refine (eqFloat32S_any _ _ na _ _ Y2a Y1a _ (by omega) (Own.fs og2a) (fs1a_.below DS1 (Nat.le_refl _)) (fun i hi => (v2a i hi).trans (v1a i hi).symm)).mono ?_
  rintro e w10 ⟨rfl, me10, hw10⟩
  have b10 := below_of_drewN hw10
  clear hw10
  have D10 : Below w9.heap.size w9 w10 := b10
  have s10 : w9.heap.size + 0 ≤ w10.heap.size := by have := b10.size; (try simp at this); omega
  have B10 : Below w.heap.size w w10 := B9.trans (D10.mono B9.size)
  have X10_A0 := X9_A0.below D10 (by omega)
  have X10_P0 := X9_P0.below D10 (by omega)
  replace ox0 := ox0.kept (below_grew D10) (fun q hq => by cases hq)
  replace ox1 := ox1.kept (below_grew D10) (fun q hq => by cases hq)
  replace ox2 := ox2.kept (below_grew D10) (fun q hq => by cases hq)
  replace og2a := og2a.kept (below_grew D10) (fun q hq => by cases hq)
  replace DS1 := DS1.trans (D10.mono DS1.size)
  have Y10_A0 := X10_A0
  obtain ⟨Y10_A00, Y10_A01, Y10_A02⟩ := Y10_A0
  have L10_A0 : w.heap.size < w10.heap.size := by omega
  have Y10_P0 := X10_P0
  obtain ⟨Y10_P00, Y10_P01, Y10_P02⟩ := Y10_P0
  have L10_P0 : w6.heap.size < w10.heap.size := by omega
  clear X9_A0 Y9_A00 Y9_A01 Y9_A02 L9_A0 X9_P0 Y9_P00 Y9_P01 Y9_P02 L9_P0
  go_wp2_with fail
  go_region_held3 (fun w' => w'.cell? ⟨w6.heap.size, 0, none⟩ = some (.int .i64 R0) ∧ w'.cell? ⟨w6.heap.size, 1, none⟩ = some (.int .i64 C0) ∧ w'.cell? ⟨w6.heap.size, 2, none⟩ = some (.slice px0 n0 qx0) ∧ w'.cell? ⟨w.heap.size, 0, none⟩ = some (.int .i64 R0) ∧ w'.cell? ⟨w.heap.size, 1, none⟩ = some (.int .i64 C0) ∧ w'.cell? ⟨w.heap.size, 2, none⟩ = some (.slice a0 n0 c0) ∧ Below w10.heap.size w10 w')
    (first | exact ⟨Y10_P00, Y10_P01, Y10_P02, Y10_A00, Y10_A01, Y10_A02, (by first | exact (Below.refl _ _).drew | exact (below_drewN (Below.refl _ _) _).drew)⟩ | exact held2 (by assumption) (by assumption) (by omega) (by omega))
    (first
      | (go_at_call 11; refine (toMatrix_any R0 C0 a0 n0 c0 Z0 _ hn0 (h0.below (B10.trans (Below.mono (by go_split_ands; assumption) B10.size)) (Nat.le_refl _))).mono ?_; rintro e wa ⟨pa, qa, rfl, oa, ba⟩)
      | (go_at_call 13; refine (eqMatrix_any R0 C0 _ _ n0 _ _ Z0 Z0 _ hn0 ((Own.fs ox0).below (by go_split_ands; assumption) (Nat.le_refl _)) oa.fs (fun i hi => rfl)).mono ?_; rintro e w11 ⟨rfl, bb⟩))
  have b11 : Below w10.heap.size w10 w11 := by go_split_ands; assumption
  clear oa ba bb
  have D11 : Below w10.heap.size w10 w11 := b11
  have s11 : w10.heap.size + 0 ≤ w11.heap.size := by have := b11.size; (try simp at this); omega
  have B11 : Below w.heap.size w w11 := B10.trans (D11.mono B10.size)
  have X11_A0 := X10_A0.below D11 (by omega)
  have X11_P0 := X10_P0.below D11 (by omega)
  replace ox0 := ox0.kept (below_grew D11) (fun q hq => by cases hq)
  replace ox1 := ox1.kept (below_grew D11) (fun q hq => by cases hq)
  replace ox2 := ox2.kept (below_grew D11) (fun q hq => by cases hq)
  replace og2a := og2a.kept (below_grew D11) (fun q hq => by cases hq)
  replace DS1 := DS1.trans (D11.mono DS1.size)
  have Y11_A0 := X11_A0
  obtain ⟨Y11_A00, Y11_A01, Y11_A02⟩ := Y11_A0
  have L11_A0 : w.heap.size < w11.heap.size := by omega
  have Y11_P0 := X11_P0
  obtain ⟨Y11_P00, Y11_P01, Y11_P02⟩ := Y11_P0
  have L11_P0 : w6.heap.size < w11.heap.size := by omega
  clear X10_A0 Y10_A00 Y10_A01 Y10_A02 L10_A0 X10_P0 Y10_P00 Y10_P01 Y10_P02 L10_P0
  go_wp2_with fail
  go_at_call 17
  refine (toFloat32S_own a1 n1 c1 Z1 _ hn1 (h1.below B11 (Nat.le_refl _))).mono ?_
  rintro e w12 ⟨py1, qy1, rfl, oy1, b12⟩
  have D12 : Below w11.heap.size w11 w12 := b12
  have s12 : w11.heap.size + 0 ≤ w12.heap.size := by have := b12.size; (try simp at this); omega
  have B12 : Below w.heap.size w w12 := B11.trans (D12.mono B11.size)
  have X12_A0 := X11_A0.below D12 (by omega)
  have X12_P0 := X11_P0.below D12 (by omega)
  replace ox0 := ox0.kept (below_grew D12) (fun q hq => by cases hq)
  replace ox1 := ox1.kept (below_grew D12) (fun q hq => by cases hq)
  replace ox2 := ox2.kept (below_grew D12) (fun q hq => by cases hq)
  replace og2a := og2a.kept (below_grew D12) (fun q hq => by cases hq)
  replace DS1 := DS1.trans (D12.mono DS1.size)
  have Y12_A0 := X12_A0
  obtain ⟨Y12_A00, Y12_A01, Y12_A02⟩ := Y12_A0
  have L12_A0 : w.heap.size < w12.heap.size := by omega
  have Y12_P0 := X12_P0
  obtain ⟨Y12_P00, Y12_P01, Y12_P02⟩ := Y12_P0
  have L12_P0 : w6.heap.size < w12.heap.size := by omega
  clear X11_A0 Y11_A00 Y11_A01 Y11_A02 L11_A0 X11_P0 Y11_P00 Y11_P01 Y11_P02 L11_P0
  go_wp2_with fail
  go_at_call 19
  refine (eqFloat32S_any _ _ n1 _ _ Z1 Z1 _ hn1 (Own.fs ox1) (Own.fs oy1) (fun i hi => rfl)).mono ?_
  rintro e w13 ⟨rfl, me13, hw13⟩
  have b13 := below_of_drewN hw13
  clear hw13
  clear oy1
  have D13 : Below w12.heap.size w12 w13 := b13
  have s13 : w12.heap.size + 0 ≤ w13.heap.size := by have := b13.size; (try simp at this); omega
  have B13 : Below w.heap.size w w13 := B12.trans (D13.mono B12.size)
  have X13_A0 := X12_A0.below D13 (by omega)
  have X13_P0 := X12_P0.below D13 (by omega)
  replace ox0 := ox0.kept (below_grew D13) (fun q hq => by cases hq)
  replace ox1 := ox1.kept (below_grew D13) (fun q hq => by cases hq)
  replace ox2 := ox2.kept (below_grew D13) (fun q hq => by cases hq)
  replace og2a := og2a.kept (below_grew D13) (fun q hq => by cases hq)
  replace DS1 := DS1.trans (D13.mono DS1.size)
  have Y13_A0 := X13_A0
  obtain ⟨Y13_A00, Y13_A01, Y13_A02⟩ := Y13_A0
  have L13_A0 : w.heap.size < w13.heap.size := by omega
  have Y13_P0 := X13_P0
  obtain ⟨Y13_P00, Y13_P01, Y13_P02⟩ := Y13_P0
  have L13_P0 : w6.heap.size < w13.heap.size := by omega
  clear X12_A0 Y12_A00 Y12_A01 Y12_A02 L12_A0 X12_P0 Y12_P00 Y12_P01 Y12_P02 L12_P0
  go_wp2_with fail
  go_at_call 17
  refine (toFloat32S_own a2 n2 c2 Z2 _ hn2 (h2.below B13 (Nat.le_refl _))).mono ?_
  rintro e w14 ⟨py2, qy2, rfl, oy2, b14⟩
  have D14 : Below w13.heap.size w13 w14 := b14
  have s14 : w13.heap.size + 0 ≤ w14.heap.size := by have := b14.size; (try simp at this); omega
  have B14 : Below w.heap.size w w14 := B13.trans (D14.mono B13.size)
  have X14_A0 := X13_A0.below D14 (by omega)
  have X14_P0 := X13_P0.below D14 (by omega)
  replace ox0 := ox0.kept (below_grew D14) (fun q hq => by cases hq)
  replace ox1 := ox1.kept (below_grew D14) (fun q hq => by cases hq)
  replace ox2 := ox2.kept (below_grew D14) (fun q hq => by cases hq)
  replace og2a := og2a.kept (below_grew D14) (fun q hq => by cases hq)
  replace DS1 := DS1.trans (D14.mono DS1.size)
  have Y14_A0 := X14_A0
  obtain ⟨Y14_A00, Y14_A01, Y14_A02⟩ := Y14_A0
  have L14_A0 : w.heap.size < w14.heap.size := by omega
  have Y14_P0 := X14_P0
  obtain ⟨Y14_P00, Y14_P01, Y14_P02⟩ := Y14_P0
  have L14_P0 : w6.heap.size < w14.heap.size := by omega
  clear X13_A0 Y13_A00 Y13_A01 Y13_A02 L13_A0 X13_P0 Y13_P00 Y13_P01 Y13_P02 L13_P0
  go_wp2_with fail
  go_at_call 19
  refine (eqFloat32S_any _ _ n2 _ _ Z2 Z2 _ hn2 (Own.fs ox2) (Own.fs oy2) (fun i hi => rfl)).mono ?_
  rintro e w15 ⟨rfl, me15, hw15⟩
  have b15 := below_of_drewN hw15
  clear hw15
  clear oy2
  have D15 : Below w14.heap.size w14 w15 := b15
  have s15 : w14.heap.size + 0 ≤ w15.heap.size := by have := b15.size; (try simp at this); omega
  have B15 : Below w.heap.size w w15 := B14.trans (D15.mono B14.size)
  have X15_A0 := X14_A0.below D15 (by omega)
  have X15_P0 := X14_P0.below D15 (by omega)
  replace ox0 := ox0.kept (below_grew D15) (fun q hq => by cases hq)
  replace ox1 := ox1.kept (below_grew D15) (fun q hq => by cases hq)
  replace ox2 := ox2.kept (below_grew D15) (fun q hq => by cases hq)
  replace og2a := og2a.kept (below_grew D15) (fun q hq => by cases hq)
  replace DS1 := DS1.trans (D15.mono DS1.size)
  have Y15_A0 := X15_A0
  obtain ⟨Y15_A00, Y15_A01, Y15_A02⟩ := Y15_A0
  have L15_A0 : w.heap.size < w15.heap.size := by omega
  have Y15_P0 := X15_P0
  obtain ⟨Y15_P00, Y15_P01, Y15_P02⟩ := Y15_P0
  have L15_P0 : w6.heap.size < w15.heap.size := by omega
  clear X14_A0 Y14_A00 Y14_A01 Y14_A02 L14_A0 X14_P0 Y14_P00 Y14_P01 Y14_P02 L14_P0
  go_wp2_with fail
  go_at_call 14
  refine (markMatrix_any R0 C0 _ _ _ n0 _ (1) Z0 _ hn0 (by omega) ox0).mono ?_
  rintro e w16 ⟨rfl, om0, row16, gr16, hr16⟩
  clear ox0
  have s16 : w15.heap.size ≤ w16.heap.size := gr16.size
  have B16 : Below w.heap.size w w16 := B15.grown gr16 B15.size (fun q hq => by have := hr16 q hq; omega)
  have X16_A0 := X15_A0.grown gr16 (by omega) (fun q hq => by have := hr16 q hq; omega)
  have X16_P0 := X15_P0.grown gr16 (by omega) (fun q hq => by have := hr16 q hq; omega)
  replace ox1 := ox1.kept gr16 (fun q hq => by have := hr16 q hq; omega)
  replace ox2 := ox2.kept gr16 (fun q hq => by have := hr16 q hq; omega)
  replace og2a := og2a.kept gr16 (fun q hq => by have := hr16 q hq; omega)
  replace DS1 := DS1.grown gr16 DS1.size (fun q hq => by have := hr16 q hq; omega)
  have Y16_A0 := X16_A0
  obtain ⟨Y16_A00, Y16_A01, Y16_A02⟩ := Y16_A0
  have L16_A0 : w.heap.size < w16.heap.size := by omega
  have Y16_P0 := X16_P0
  obtain ⟨Y16_P00, Y16_P01, Y16_P02⟩ := Y16_P0
  have L16_P0 : w6.heap.size < w16.heap.size := by omega
  clear X15_A0 Y15_A00 Y15_A01 Y15_A02 L15_A0 X15_P0 Y15_P00 Y15_P01 Y15_P02 L15_P0
  clear om0
  go_wp2_with fail
  go_at_call 20
  refine (markFloat32S_more _ _ _ n1 _ (1 + n0) Z1 _ hn1 (by omega) ox1).mono ?_
  rintro e w17 ⟨rfl, om1, row17, gr17, hr17⟩
  clear ox1
  have s17 : w16.heap.size ≤ w17.heap.size := gr17.size
  have B17 : Below w.heap.size w w17 := B16.grown gr17 B16.size (fun q hq => by have := hr17 q hq; omega)
  have X17_A0 := X16_A0.grown gr17 (by omega) (fun q hq => by have := hr17 q hq; omega)
  have X17_P0 := X16_P0.grown gr17 (by omega) (fun q hq => by have := hr17 q hq; omega)
  replace ox2 := ox2.kept gr17 (fun q hq => by have := hr17 q hq; omega)
  replace og2a := og2a.kept gr17 (fun q hq => by have := hr17 q hq; omega)
  replace DS1 := DS1.grown gr17 DS1.size (fun q hq => by have := hr17 q hq; omega)
  have Y17_A0 := X17_A0
  obtain ⟨Y17_A00, Y17_A01, Y17_A02⟩ := Y17_A0
  have L17_A0 : w.heap.size < w17.heap.size := by omega
  have Y17_P0 := X17_P0
  obtain ⟨Y17_P00, Y17_P01, Y17_P02⟩ := Y17_P0
  have L17_P0 : w6.heap.size < w17.heap.size := by omega
  clear X16_A0 Y16_A00 Y16_A01 Y16_A02 L16_A0 X16_P0 Y16_P00 Y16_P01 Y16_P02 L16_P0
  clear om1
  go_wp2_with fail
  go_at_call 20
  refine (markFloat32S_more _ _ _ n2 _ (1 + n0 + n1) Z2 _ hn2 (by omega) ox2).mono ?_
  rintro e w18 ⟨rfl, om2, row18, gr18, hr18⟩
  clear ox2
  have s18 : w17.heap.size ≤ w18.heap.size := gr18.size
  have B18 : Below w.heap.size w w18 := B17.grown gr18 B17.size (fun q hq => by have := hr18 q hq; omega)
  have X18_A0 := X17_A0.grown gr18 (by omega) (fun q hq => by have := hr18 q hq; omega)
  have X18_P0 := X17_P0.grown gr18 (by omega) (fun q hq => by have := hr18 q hq; omega)
  replace og2a := og2a.kept gr18 (fun q hq => by have := hr18 q hq; omega)
  replace DS1 := DS1.grown gr18 DS1.size (fun q hq => by have := hr18 q hq; omega)
  have Y18_A0 := X18_A0
  obtain ⟨Y18_A00, Y18_A01, Y18_A02⟩ := Y18_A0
  have L18_A0 : w.heap.size < w18.heap.size := by omega
  have Y18_P0 := X18_P0
  obtain ⟨Y18_P00, Y18_P01, Y18_P02⟩ := Y18_P0
  have L18_P0 : w6.heap.size < w18.heap.size := by omega
  clear X17_A0 Y17_A00 Y17_A01 Y17_A02 L17_A0 X17_P0 Y17_P00 Y17_P01 Y17_P02 L17_P0
  clear om2
  have hk1 : decide (((1 + n0 + n1 + n2 : Nat) : Int) < 0) = false := decide_eq_false (by omega)
  have hk2 := hk1
  simp only [Int.natCast_add, Int.natCast_one, Int.cast_ofNat_Int] at hk2
  go_wp2_with fail
  go_at_call 19
  refine (eqFloat32S_any _ _ na _ _ Y2a Y1a _ (by omega) (Own.fs og2a) (fs1a_.below DS1 (Nat.le_refl _)) (fun i hi => (v2a i hi).trans (v1a i hi).symm)).mono ?_
  rintro e w19 ⟨rfl, me19, hw19⟩
  have b19 := below_of_drewN hw19
  clear hw19
  have D19 : Below w18.heap.size w18 w19 := b19
  have s19 : w18.heap.size + 0 ≤ w19.heap.size := by have := b19.size; (try simp at this); omega
  have B19 : Below w.heap.size w w19 := B18.trans (D19.mono B18.size)
  have X19_A0 := X18_A0.below D19 (by omega)
  have X19_P0 := X18_P0.below D19 (by omega)
  replace og2a := og2a.kept (below_grew D19) (fun q hq => by cases hq)
  replace DS1 := DS1.trans (D19.mono DS1.size)
  have Y19_A0 := X19_A0
  obtain ⟨Y19_A00, Y19_A01, Y19_A02⟩ := Y19_A0
  have L19_A0 : w.heap.size < w19.heap.size := by omega
  have Y19_P0 := X19_P0
  obtain ⟨Y19_P00, Y19_P01, Y19_P02⟩ := Y19_P0
  have L19_P0 : w6.heap.size < w19.heap.size := by omega
  clear X18_A0 Y18_A00 Y18_A01 Y18_A02 L18_A0 X18_P0 Y18_P00 Y18_P01 Y18_P02 L18_P0
  go_wp2_with fail
  go_at_call 20
  refine (markFloat32S_any _ _ _ na _ (1) Y2a _ (by omega) (by omega) og2a).mono ?_
  rintro e w20 ⟨rfl, oma, row20, gr20, hr20⟩
  clear og2a
  have s20 : w19.heap.size ≤ w20.heap.size := gr20.size
  have B20 : Below w.heap.size w w20 := B19.grown gr20 B19.size (fun q hq => by have := hr20 q hq; omega)
  have X20_A0 := X19_A0.grown gr20 (by omega) (fun q hq => by have := hr20 q hq; omega)
  have X20_P0 := X19_P0.grown gr20 (by omega) (fun q hq => by have := hr20 q hq; omega)
  replace DS1 := DS1.grown gr20 DS1.size (fun q hq => by have := hr20 q hq; omega)
  have Y20_A0 := X20_A0
  obtain ⟨Y20_A00, Y20_A01, Y20_A02⟩ := Y20_A0
  have L20_A0 : w.heap.size < w20.heap.size := by omega
  have Y20_P0 := X20_P0
  obtain ⟨Y20_P00, Y20_P01, Y20_P02⟩ := Y20_P0
  have L20_P0 : w6.heap.size < w20.heap.size := by omega
  clear X19_A0 Y19_A00 Y19_A01 Y19_A02 L19_A0 X19_P0 Y19_P00 Y19_P01 Y19_P02 L19_P0
  have hq1 : decide (((1 + na : Nat) : Int) < 0) = false := decide_eq_false (by omega)
  have hq2 := hq1
  simp only [Int.natCast_add, Int.natCast_one, Int.cast_ofNat_Int] at hq2
  go_wp2_with fail
  go_at_call 21
  refine (heldFloat32S_any _ na _ (1) _ _ (by omega) (by omega) (Own.fs oma) (fun i hi => rfl)).mono ?_
  rintro e w21 ⟨rfl, hw21⟩
  have b21 := below_of_same hw21
  clear hw21
  have D21 : Below w20.heap.size w20 w21 := b21
  have s21 : w20.heap.size + 0 ≤ w21.heap.size := by have := b21.size; (try simp at this); omega
  have B21 : Below w.heap.size w w21 := B20.trans (D21.mono B20.size)
  have X21_A0 := X20_A0.below D21 (by omega)
  have X21_P0 := X20_P0.below D21 (by omega)
  replace oma := oma.kept (below_grew D21) (fun q hq => by cases hq)
  replace DS1 := DS1.trans (D21.mono DS1.size)
  have Y21_A0 := X21_A0
  obtain ⟨Y21_A00, Y21_A01, Y21_A02⟩ := Y21_A0
  have L21_A0 : w.heap.size < w21.heap.size := by omega
  have Y21_P0 := X21_P0
  obtain ⟨Y21_P00, Y21_P01, Y21_P02⟩ := Y21_P0
  have L21_P0 : w6.heap.size < w21.heap.size := by omega
  clear X20_A0 Y20_A00 Y20_A01 Y20_A02 L20_A0 X20_P0 Y20_P00 Y20_P01 Y20_P02 L20_P0
  go_wp2_with fail
  go_at_call 11
  refine (toMatrix_any R0 C0 a0 n0 c0 Z0 _ hn0 (h0.below B21 (Nat.le_refl _))).mono ?_
  rintro e w22 ⟨pz0, qz0, rfl, oz0, b22⟩
  have D22 : Below w21.heap.size w21 w22 := b22
  have s22 : w21.heap.size + 0 ≤ w22.heap.size := by have := b22.size; (try simp at this); omega
  have B22 : Below w.heap.size w w22 := B21.trans (D22.mono B21.size)
  have X22_A0 := X21_A0.below D22 (by omega)
  have X22_P0 := X21_P0.below D22 (by omega)
  replace oma := oma.kept (below_grew D22) (fun q hq => by cases hq)
  replace DS1 := DS1.trans (D22.mono DS1.size)
  have Y22_A0 := X22_A0
  obtain ⟨Y22_A00, Y22_A01, Y22_A02⟩ := Y22_A0
  have L22_A0 : w.heap.size < w22.heap.size := by omega
  have Y22_P0 := X22_P0
  obtain ⟨Y22_P00, Y22_P01, Y22_P02⟩ := Y22_P0
  have L22_P0 : w6.heap.size < w22.heap.size := by omega
  clear X21_A0 Y21_A00 Y21_A01 Y21_A02 L21_A0 X21_P0 Y21_P00 Y21_P01 Y21_P02 L21_P0
  go_wp2_with fail
  go_at_call 17
  refine (toFloat32S_own a1 n1 c1 Z1 _ hn1 (h1.below B22 (Nat.le_refl _))).mono ?_
  rintro e w23 ⟨pz1, qz1, rfl, oz1, b23⟩
  have D23 : Below w22.heap.size w22 w23 := b23
  have s23 : w22.heap.size + 0 ≤ w23.heap.size := by have := b23.size; (try simp at this); omega
  have B23 : Below w.heap.size w w23 := B22.trans (D23.mono B22.size)
  have X23_A0 := X22_A0.below D23 (by omega)
  have X23_P0 := X22_P0.below D23 (by omega)
  replace oma := oma.kept (below_grew D23) (fun q hq => by cases hq)
  replace oz0 := oz0.kept (below_grew D23) (fun q hq => by cases hq)
  replace DS1 := DS1.trans (D23.mono DS1.size)
  have Y23_A0 := X23_A0
  obtain ⟨Y23_A00, Y23_A01, Y23_A02⟩ := Y23_A0
  have L23_A0 : w.heap.size < w23.heap.size := by omega
  have Y23_P0 := X23_P0
  obtain ⟨Y23_P00, Y23_P01, Y23_P02⟩ := Y23_P0
  have L23_P0 : w6.heap.size < w23.heap.size := by omega
  clear X22_A0 Y22_A00 Y22_A01 Y22_A02 L22_A0 X22_P0 Y22_P00 Y22_P01 Y22_P02 L22_P0
  go_wp2_with fail
  go_at_call 17
  refine (toFloat32S_own a2 n2 c2 Z2 _ hn2 (h2.below B23 (Nat.le_refl _))).mono ?_
  rintro e w24 ⟨pz2, qz2, rfl, oz2, b24⟩
  have D24 : Below w23.heap.size w23 w24 := b24
  have s24 : w23.heap.size + 0 ≤ w24.heap.size := by have := b24.size; (try simp at this); omega
  have B24 : Below w.heap.size w w24 := B23.trans (D24.mono B23.size)
  have X24_A0 := X23_A0.below D24 (by omega)
  have X24_P0 := X23_P0.below D24 (by omega)
  replace oma := oma.kept (below_grew D24) (fun q hq => by cases hq)
  replace oz0 := oz0.kept (below_grew D24) (fun q hq => by cases hq)
  replace oz1 := oz1.kept (below_grew D24) (fun q hq => by cases hq)
  replace DS1 := DS1.trans (D24.mono DS1.size)
  have Y24_A0 := X24_A0
  obtain ⟨Y24_A00, Y24_A01, Y24_A02⟩ := Y24_A0
  have L24_A0 : w.heap.size < w24.heap.size := by omega
  have Y24_P0 := X24_P0
  obtain ⟨Y24_P00, Y24_P01, Y24_P02⟩ := Y24_P0
  have L24_P0 : w6.heap.size < w24.heap.size := by omega
  clear X23_A0 Y23_A00 Y23_A01 Y23_A02 L23_A0 X23_P0 Y23_P00 Y23_P01 Y23_P02 L23_P0
  go_wp2_with fail
  go_at_call 23
  refine (ki _ _ _ _ _ _ _ (Own.fs oz0) (Own.fs oz1) (Own.fs oz2)).mono ?_
  rintro e w25 ⟨g3a, d3a, Y3a, rfl, og3a, v3a, b25⟩
  have D25 : Below w24.heap.size w24 w25 := b25
  have s25 : w24.heap.size + 0 ≤ w25.heap.size := by have := b25.size; (try simp at this); omega
  have B25 : Below w.heap.size w w25 := B24.trans (D25.mono B24.size)
  have X25_A0 := X24_A0.below D25 (by omega)
  have X25_P0 := X24_P0.below D25 (by omega)
  replace oma := oma.kept (below_grew D25) (fun q hq => by cases hq)
  replace oz0 := oz0.kept (below_grew D25) (fun q hq => by cases hq)
  replace oz1 := oz1.kept (below_grew D25) (fun q hq => by cases hq)
  replace oz2 := oz2.kept (below_grew D25) (fun q hq => by cases hq)
  replace DS1 := DS1.trans (D25.mono DS1.size)
  have Y25_A0 := X25_A0
  obtain ⟨Y25_A00, Y25_A01, Y25_A02⟩ := Y25_A0
  have L25_A0 : w.heap.size < w25.heap.size := by omega
  have Y25_P0 := X25_P0
  obtain ⟨Y25_P00, Y25_P01, Y25_P02⟩ := Y25_P0
  have L25_P0 : w6.heap.size < w25.heap.size := by omega
  clear X24_A0 Y24_A00 Y24_A01 Y24_A02 L24_A0 X24_P0 Y24_P00 Y24_P01 Y24_P02 L24_P0
  clear oz0 oz1 oz2
  go_wp2_with fail
  go_at_call 19
  refine (eqFloat32S_any _ _ na _ _ Y3a Y1a _ (by omega) (Own.fs og3a) (fs1a_.below DS1 (Nat.le_refl _)) (fun i hi => (v3a i hi).trans (v1a i hi).symm)).mono ?_
  rintro e w26 ⟨rfl, me26, hw26⟩
  have b26 := below_of_drewN hw26
  clear hw26
  have D26 : Below w25.heap.size w25 w26 := b26
  have s26 : w25.heap.size + 0 ≤ w26.heap.size := by have := b26.size; (try simp at this); omega
  have B26 : Below w.heap.size w w26 := B25.trans (D26.mono B25.size)
  have X26_A0 := X25_A0.below D26 (by omega)
  have X26_P0 := X25_P0.below D26 (by omega)
  replace oma := oma.kept (below_grew D26) (fun q hq => by cases hq)
  replace og3a := og3a.kept (below_grew D26) (fun q hq => by cases hq)
  replace DS1 := DS1.trans (D26.mono DS1.size)
  have Y26_A0 := X26_A0
  obtain ⟨Y26_A00, Y26_A01, Y26_A02⟩ := Y26_A0
  have L26_A0 : w.heap.size < w26.heap.size := by omega
  have Y26_P0 := X26_P0
  obtain ⟨Y26_P00, Y26_P01, Y26_P02⟩ := Y26_P0
  have L26_P0 : w6.heap.size < w26.heap.size := by omega
  clear X25_A0 Y25_A00 Y25_A01 Y25_A02 L25_A0 X25_P0 Y25_P00 Y25_P01 Y25_P02 L25_P0
  go_wp2_with fail
  go_at_call 21
  refine (heldFloat32S_any _ na _ (1) _ _ (by omega) (by omega) (Own.fs oma) (fun i hi => rfl)).mono ?_
  rintro e w27 ⟨rfl, hw27⟩
  have b27 := below_of_same hw27
  clear hw27
  have D27 : Below w26.heap.size w26 w27 := b27
  have s27 : w26.heap.size + 0 ≤ w27.heap.size := by have := b27.size; (try simp at this); omega
  have B27 : Below w.heap.size w w27 := B26.trans (D27.mono B26.size)
  have X27_A0 := X26_A0.below D27 (by omega)
  have X27_P0 := X26_P0.below D27 (by omega)
  replace oma := oma.kept (below_grew D27) (fun q hq => by cases hq)
  replace DS1 := DS1.trans (D27.mono DS1.size)
  have Y27_A0 := X27_A0
  obtain ⟨Y27_A00, Y27_A01, Y27_A02⟩ := Y27_A0
  have L27_A0 : w.heap.size < w27.heap.size := by omega
  have Y27_P0 := X27_P0
  obtain ⟨Y27_P00, Y27_P01, Y27_P02⟩ := Y27_P0
  have L27_P0 : w6.heap.size < w27.heap.size := by omega
  clear X26_A0 Y26_A00 Y26_A01 Y26_A02 L26_A0 X26_P0 Y26_P00 Y26_P01 Y26_P02 L26_P0
  go_wp2_with fail
  go_ret
  exact ⟨rfl, B27⟩
end Go.Proofs.Ytcibjkadlndejaa
