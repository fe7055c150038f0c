/- Helper: the walk of the law FnExactRayleighOf. Conditions: none. -/
import Derived.Test.YtcldaafmbmmhiabRayKey
import Derived.Test.YtcldaafmbmmhiabMatCopy
import Derived.Test.YtcldaafmbmmhiabKeys
import Derived.Test.YtcldaafmbmmhiabMarkMore
import Derived.Deep.RegionHeld3
set_option linter.unusedVariables false
namespace Go.Proofs.Ytcldaafmbmmhiab
open Go.RowKit

set_option maxRecDepth 100000 in
set_option maxHeartbeats 4000000 in
theorem law_FnExactRayleighOf (w : World) (R0 C0 : Int) (wR0 : (Lit.int .i64 R0).wf = true) (wC0 : (Lit.int .i64 C0).wf = true) (a0 : Option Addr) (n0 c0 : Nat) (Z0 : Nat → Nat) (h0 : FS .f32 w a0 n0 c0 Z0) (a1 : Option Addr) (n1 c1 : Nat) (Z1 : Nat → Nat) (h1 : FS .f32 w a1 n1 c1 Z1) :
    Calls Try.prog 6 #[.agg #[.int .i64 R0, .int .i64 C0, .slice a0 n0 c0], .slice a1 n1 c1] w fun e w' => e = .returned (.bool true) ∧ Below w.heap.size w w' := by
  have hm0 : n0 ≤ 9223372036854775807 := by have hh1 := h0.1; have hh2 := h0.2.1; unfold maxLen at hh2; omega
  have hm1 : n1 ≤ 9223372036854775807 := by have hh1 := h1.1; have hh2 := h1.2.1; unfold maxLen at hh2; omega
  by_cases hbig1 : 1048576 < n1
  · have hd1 : decide ((1048576 : Int) < n1) = true := decide_eq_true (by omega)
    go_enter Try.func6, Try.ntmps6
    go_wp2
    go_ret
    exact ⟨rfl, (by repeat first | (with_reducible exact Below.refl _ _) | (with_reducible refine Below.setCell ?_ (by first | exact Nat.le_refl _ | (simp; done) | (simp; omega) | omega) _) | (with_reducible refine Below.alloc ?_ (by first | exact Nat.le_refl _ | (simp; done) | (simp; omega) | omega) _) | (with_reducible refine below_drewN ?_ _) | (with_reducible refine Below.drew ?_))⟩
  have hn1 : n1 ≤ 1048576 := by omega
  have hd1 : decide ((1048576 : Int) < n1) = false := decide_eq_false (by omega)
  by_cases hl0 : n0 ≤ 1048576
  case neg =>
    go_enter Try.func6, Try.ntmps6
    go_wp2_with fail
    go_at_call 26
    refine (szMatrix_no _ _ _ _ _ (1048576) _ (by omega) hm0 (by omega)).mono ?_
    rintro e w1 ⟨rfl, b1⟩
    have D1 : Below w.heap.size w w1 := Below.trans (by repeat first | (with_reducible exact Below.refl _ _) | (with_reducible refine Below.setCell ?_ (by first | exact Nat.le_refl _ | (simp; done) | (simp; omega) | omega) _) | (with_reducible refine Below.alloc ?_ (by first | exact Nat.le_refl _ | (simp; done) | (simp; omega) | omega) _) | (with_reducible refine below_drewN ?_ _) | (with_reducible refine Below.drew ?_)) (b1.mono (by simp; try omega))
    have s1 : w.heap.size + 1 ≤ w1.heap.size := by have := b1.size; (try simp at this); omega
    have B1 : Below w.heap.size w w1 := D1
    have X1_A0 := (Box.new _ _ _ _ _ _ _).below b1 (by simp)
    have Y1_A0 := X1_A0
    obtain ⟨Y1_A00, Y1_A01, Y1_A02⟩ := Y1_A0
    have L1_A0 : w.heap.size < w1.heap.size := by omega
    go_wp2_with fail
    go_ret
    exact ⟨rfl, B1⟩
  have hn0 : n0 ≤ 1048576 := by omega
  obtain ⟨ok, Xa, ks, ki⟩ := keyRayleighOf R0 C0 n0 Z0 n1 Z1 hn0 hn1 
  go_enter Try.func6, Try.ntmps6
  go_wp2_with fail
  go_at_call 26
  refine (szMatrix_yes _ _ _ _ _ (1048576) _ (by omega) hl0).mono ?_
  rintro e w1 ⟨rfl, b1⟩
  have D1 : Below w.heap.size w w1 := Below.trans (by repeat first | (with_reducible exact Below.refl _ _) | (with_reducible refine Below.setCell ?_ (by first | exact Nat.le_refl _ | (simp; done) | (simp; omega) | omega) _) | (with_reducible refine Below.alloc ?_ (by first | exact Nat.le_refl _ | (simp; done) | (simp; omega) | omega) _) | (with_reducible refine below_drewN ?_ _) | (with_reducible refine Below.drew ?_)) (b1.mono (by simp; try omega))
  have s1 : w.heap.size + 1 ≤ w1.heap.size := by have := b1.size; (try simp at this); omega
  have B1 : Below w.heap.size w w1 := D1
  have X1_A0 := (Box.new _ _ _ _ _ _ _).below b1 (by simp)
  have Y1_A0 := X1_A0
  obtain ⟨Y1_A00, Y1_A01, Y1_A02⟩ := Y1_A0
  have L1_A0 : w.heap.size < w1.heap.size := by omega
  have hd0_ : decide (((1048576 - n0 : Nat) : Int) < 0) = false := decide_eq_false (by omega)
  go_wp2_with fail
  go_at_call 28
  refine (toMatrix_any R0 C0 a0 n0 c0 Z0 _ hn0 (h0.below B1 (Nat.le_refl _))).mono ?_
  rintro e w2 ⟨ps0, qs0, rfl, os0, b2⟩
  have D2 : Below w1.heap.size w1 w2 := b2
  have s2 : w1.heap.size + 0 ≤ w2.heap.size := by have := b2.size; (try simp at this); omega
  have B2 : Below w.heap.size w w2 := B1.trans (D2.mono B1.size)
  have X2_A0 := X1_A0.below D2 (by omega)
  have Y2_A0 := X2_A0
  obtain ⟨Y2_A00, Y2_A01, Y2_A02⟩ := Y2_A0
  have L2_A0 : w.heap.size < w2.heap.size := by omega
  clear X1_A0 Y1_A00 Y1_A01 Y1_A02 L1_A0
  go_wp2_with fail
  go_at_call 16
  refine (toFloat32S_own a1 n1 c1 Z1 _ hn1 (h1.below B2 (Nat.le_refl _))).mono ?_
  rintro e w3 ⟨ps1, qs1, rfl, os1, b3⟩
  have D3 : Below w2.heap.size w2 w3 := b3
  have s3 : w2.heap.size + 0 ≤ w3.heap.size := by have := b3.size; (try simp at this); omega
  have B3 : Below w.heap.size w w3 := B2.trans (D3.mono B2.size)
  have X3_A0 := X2_A0.below D3 (by omega)
  replace os0 := os0.kept (below_grew D3) (fun q hq => by cases hq)
  have Y3_A0 := X3_A0
  obtain ⟨Y3_A00, Y3_A01, Y3_A02⟩ := Y3_A0
  have L3_A0 : w.heap.size < w3.heap.size := by omega
  clear X2_A0 Y2_A00 Y2_A01 Y2_A02 L2_A0
  go_wp2_with fail
  go_at_call 27
  refine (ks _ _ _ _ _ (Own.fs os0) (Own.fs os1)).mono ?_
  rintro e w4 ⟨r1a, rfl, v1a, b4⟩
  have D4 : Below w3.heap.size w3 w4 := b4
  have s4 : w3.heap.size + 0 ≤ w4.heap.size := by have := b4.size; (try simp at this); omega
  have B4 : Below w.heap.size w w4 := B3.trans (D4.mono B3.size)
  have X4_A0 := X3_A0.below D4 (by omega)
  replace os0 := os0.kept (below_grew D4) (fun q hq => by cases hq)
  replace os1 := os1.kept (below_grew D4) (fun q hq => by cases hq)
  have Y4_A0 := X4_A0
  obtain ⟨Y4_A00, Y4_A01, Y4_A02⟩ := Y4_A0
  have L4_A0 : w.heap.size < w4.heap.size := by omega
  clear X3_A0 Y3_A00 Y3_A01 Y3_A02 L3_A0
  clear os0 os1
  go_wp2_with fail
  go_at_call 28
  refine (toMatrix_any R0 C0 a0 n0 c0 Z0 _ hn0 (h0.below B4 (Nat.le_refl _))).mono ?_
  rintro e w5 ⟨px0, qx0, rfl, ox0, b5⟩
  have D5 : Below w4.heap.size w4 w5 := b5
  have s5 : w4.heap.size + 0 ≤ w5.heap.size := by have := b5.size; (try simp at this); omega
  have B5 : Below w.heap.size w w5 := B4.trans (D5.mono B4.size)
  have X5_A0 := X4_A0.below D5 (by omega)
  have Y5_A0 := X5_A0
  obtain ⟨Y5_A00, Y5_A01, Y5_A02⟩ := Y5_A0
  have L5_A0 : w.heap.size < w5.heap.size := by omega
  clear X4_A0 Y4_A00 Y4_A01 Y4_A02 L4_A0
  go_wp2_with fail
  go_at_call 16
  refine (toFloat32S_own a1 n1 c1 Z1 _ hn1 (FS.below (h1.below B5 (Nat.le_refl _)) (by repeat first | (with_reducible exact Below.refl _ _) | (with_reducible refine Below.setCell ?_ (by first | exact Nat.le_refl _ | (simp; done) | (simp; omega) | omega) _) | (with_reducible refine Below.alloc ?_ (by first | exact Nat.le_refl _ | (simp; done) | (simp; omega) | omega) _) | (with_reducible refine below_drewN ?_ _) | (with_reducible refine Below.drew ?_)) (Nat.le_refl _))).mono ?_
  rintro e w6 ⟨px1, qx1, rfl, ox1, b6⟩
  replace ox1 := Own.mono (B' := (w5.heap.size + 1)) ox1 (by simp) (Nat.le_refl _) (Nat.le_refl _)
  have D6 : Below w5.heap.size w5 w6 := Below.trans (by repeat first | (with_reducible exact Below.refl _ _) | (with_reducible refine Below.setCell ?_ (by first | exact Nat.le_refl _ | (simp; done) | (simp; omega) | omega) _) | (with_reducible refine Below.alloc ?_ (by first | exact Nat.le_refl _ | (simp; done) | (simp; omega) | omega) _) | (with_reducible refine below_drewN ?_ _) | (with_reducible refine Below.drew ?_)) (b6.mono (by simp; try omega))
  have s6 : w5.heap.size + 1 ≤ w6.heap.size := by have := b6.size; (try simp at this); omega
  have B6 : Below w.heap.size w w6 := B5.trans (D6.mono B5.size)
  have X6_A0 := X5_A0.below D6 (by omega)
  have X6_P0 := (Box.new _ _ _ _ _ _ _).below b6 (by simp)
  replace ox0 := ox0.kept (below_grew D6) (fun q hq => by cases hq)
  have Y6_A0 := X6_A0
  obtain ⟨Y6_A00, Y6_A01, Y6_A02⟩ := Y6_A0
  have L6_A0 : w.heap.size < w6.heap.size := by omega
  have Y6_P0 := X6_P0
  obtain ⟨Y6_P00, Y6_P01, Y6_P02⟩ := Y6_P0
  have L6_P0 : w5.heap.size < w6.heap.size := by omega
  clear X5_A0 Y5_A00 Y5_A01 Y5_A02 L5_A0
  go_wp2_with fail
  go_at_call 29
  refine (ki _ _ _ _ _ (Own.fs ox0) (Own.fs ox1)).mono ?_
  rintro e w7 ⟨r2a, rfl, v2a, b7⟩
  have D7 : Below w6.heap.size w6 w7 := b7
  have s7 : w6.heap.size + 0 ≤ w7.heap.size := by have := b7.size; (try simp at this); omega
  have B7 : Below w.heap.size w w7 := B6.trans (D7.mono B6.size)
  have X7_A0 := X6_A0.below D7 (by omega)
  have X7_P0 := X6_P0.below D7 (by omega)
  replace ox0 := ox0.kept (below_grew D7) (fun q hq => by cases hq)
  replace ox1 := ox1.kept (below_grew D7) (fun q hq => by cases hq)
  have Y7_A0 := X7_A0
  obtain ⟨Y7_A00, Y7_A01, Y7_A02⟩ := Y7_A0
  have L7_A0 : w.heap.size < w7.heap.size := by omega
  have Y7_P0 := X7_P0
  obtain ⟨Y7_P00, Y7_P01, Y7_P02⟩ := Y7_P0
  have L7_P0 : w5.heap.size < w7.heap.size := by omega
  clear X6_A0 Y6_A00 Y6_A01 Y6_A02 L6_A0 X6_P0 Y6_P00 Y6_P01 Y6_P02 L6_P0
  go_wp2_with (first | (refine wpList_widen rfl _ _ _ rfl _ rfl (by kernel_rfl) Try.underlying36 (by assumption) ?_; intro r m hr) | (go_at_call 25; refine (sameFloat_any _ _ (by assumption) (by assumption) _).mono ?_; rintro e w' ⟨rfl, q1, rfl⟩))
  go_wp2_with fail
  go_region_held3 (fun w' => w'.cell? ⟨w5.heap.size, 0, none⟩ = some (.int .i64 R0) ∧ w'.cell? ⟨w5.heap.size, 1, none⟩ = some (.int .i64 C0) ∧ w'.cell? ⟨w5.heap.size, 2, none⟩ = some (.slice px0 n0 qx0) ∧ w'.cell? ⟨w.heap.size, 0, none⟩ = some (.int .i64 R0) ∧ w'.cell? ⟨w.heap.size, 1, none⟩ = some (.int .i64 C0) ∧ w'.cell? ⟨w.heap.size, 2, none⟩ = some (.slice a0 n0 c0) ∧ Below w7.heap.size w7 w')
    (first | exact ⟨Y7_P00, Y7_P01, Y7_P02, Y7_A00, Y7_A01, Y7_A02, (by first | exact (Below.refl _ _).drew | exact (below_drewN (Below.refl _ _) _).drew)⟩ | exact held2 (by assumption) (by assumption) (by omega) (by omega))
    (first
      | (go_at_call 28; refine (toMatrix_any R0 C0 a0 n0 c0 Z0 _ hn0 (h0.below (B7.trans (Below.mono (by go_split_ands; assumption) B7.size)) (Nat.le_refl _))).mono ?_; rintro e wa ⟨pa, qa, rfl, oa, ba⟩)
      | (go_at_call 30; refine (eqMatrix_any R0 C0 _ _ n0 _ _ Z0 Z0 _ hn0 ((Own.fs ox0).below (by go_split_ands; assumption) (Nat.le_refl _)) oa.fs (fun i hi => rfl)).mono ?_; rintro e w8 ⟨rfl, bb⟩))
  have b8 : Below w7.heap.size w7 w8 := by go_split_ands; assumption
  clear oa ba bb
  have D8 : Below w7.heap.size w7 w8 := b8
  have s8 : w7.heap.size + 0 ≤ w8.heap.size := by have := b8.size; (try simp at this); omega
  have B8 : Below w.heap.size w w8 := B7.trans (D8.mono B7.size)
  have X8_A0 := X7_A0.below D8 (by omega)
  have X8_P0 := X7_P0.below D8 (by omega)
  replace ox0 := ox0.kept (below_grew D8) (fun q hq => by cases hq)
  replace ox1 := ox1.kept (below_grew D8) (fun q hq => by cases hq)
  have Y8_A0 := X8_A0
  obtain ⟨Y8_A00, Y8_A01, Y8_A02⟩ := Y8_A0
  have L8_A0 : w.heap.size < w8.heap.size := by omega
  have Y8_P0 := X8_P0
  obtain ⟨Y8_P00, Y8_P01, Y8_P02⟩ := Y8_P0
  have L8_P0 : w5.heap.size < w8.heap.size := by omega
  clear X7_A0 Y7_A00 Y7_A01 Y7_A02 L7_A0 X7_P0 Y7_P00 Y7_P01 Y7_P02 L7_P0
  go_wp2_with fail
  go_at_call 16
  refine (toFloat32S_own a1 n1 c1 Z1 _ hn1 (h1.below B8 (Nat.le_refl _))).mono ?_
  rintro e w9 ⟨py1, qy1, rfl, oy1, b9⟩
  have D9 : Below w8.heap.size w8 w9 := b9
  have s9 : w8.heap.size + 0 ≤ w9.heap.size := by have := b9.size; (try simp at this); omega
  have B9 : Below w.heap.size w w9 := B8.trans (D9.mono B8.size)
  have X9_A0 := X8_A0.below D9 (by omega)
  have X9_P0 := X8_P0.below D9 (by omega)
  replace ox0 := ox0.kept (below_grew D9) (fun q hq => by cases hq)
  replace ox1 := ox1.kept (below_grew D9) (fun q hq => by cases hq)
  have Y9_A0 := X9_A0
  obtain ⟨Y9_A00, Y9_A01, Y9_A02⟩ := Y9_A0
  have L9_A0 : w.heap.size < w9.heap.size := by omega
  have Y9_P0 := X9_P0
  obtain ⟨Y9_P00, Y9_P01, Y9_P02⟩ := Y9_P0
  have L9_P0 : w5.heap.size < w9.heap.size := by omega
  clear X8_A0 Y8_A00 Y8_A01 Y8_A02 L8_A0 X8_P0 Y8_P00 Y8_P01 Y8_P02 L8_P0
  go_wp2_with fail
  go_at_call 18
  refine (eqFloat32S_any _ _ n1 _ _ Z1 Z1 _ hn1 (Own.fs ox1) (Own.fs oy1) (fun i hi => rfl)).mono ?_
  rintro e w10 ⟨rfl, me10, hw10⟩
  have b10 := below_of_drewN hw10
  clear hw10
  clear oy1
  have D10 : Below w9.heap.size w9 w10 := b10
  have s10 : w9.heap.size + 0 ≤ w10.heap.size := by have := b10.size; (try simp at this); omega
  have B10 : Below w.heap.size w w10 := B9.trans (D10.mono B9.size)
  have X10_A0 := X9_A0.below D10 (by omega)
  have X10_P0 := X9_P0.below D10 (by omega)
  replace ox0 := ox0.kept (below_grew D10) (fun q hq => by cases hq)
  replace ox1 := ox1.kept (below_grew D10) (fun q hq => by cases hq)
  have Y10_A0 := X10_A0
  obtain ⟨Y10_A00, Y10_A01, Y10_A02⟩ := Y10_A0
  have L10_A0 : w.heap.size < w10.heap.size := by omega
  have Y10_P0 := X10_P0
  obtain ⟨Y10_P00, Y10_P01, Y10_P02⟩ := Y10_P0
  have L10_P0 : w5.heap.size < w10.heap.size := by omega
  clear X9_A0 Y9_A00 Y9_A01 Y9_A02 L9_A0 X9_P0 Y9_P00 Y9_P01 Y9_P02 L9_P0
  go_wp2_with fail
  go_ret
  exact ⟨rfl, B10⟩
end Go.Proofs.Ytcldaafmbmmhiab
