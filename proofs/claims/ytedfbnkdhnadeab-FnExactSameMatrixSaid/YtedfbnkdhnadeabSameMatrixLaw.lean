/- Helper: the walk of the law FnExactSameMatrix. Conditions: none. -/
import Derived.Test.YtedfbnkdhnadeabSameKey
import Derived.Test.YtedfbnkdhnadeabMatCopy
import Derived.Test.YtedfbnkdhnadeabMarkMore
import Derived.Deep.RegionHeld3
set_option linter.unusedVariables false
namespace Go.Proofs.Ytedfbnkdhnadeab
open Go.RowKit

set_option maxRecDepth 100000 in
set_option maxHeartbeats 4000000 in
theorem law_FnExactSameMatrix (w : World) (R0 C0 : Int) (wR0 : (Lit.int .i64 R0).wf = true) (wC0 : (Lit.int .i64 C0).wf = true) (a0 : Option Addr) (n0 c0 : Nat) (Z0 : Nat → Nat) (h0 : FS .f32 w a0 n0 c0 Z0) (R1 C1 : Int) (wR1 : (Lit.int .i64 R1).wf = true) (wC1 : (Lit.int .i64 C1).wf = true) (a1 : Option Addr) (n1 c1 : Nat) (Z1 : Nat → Nat) (h1 : FS .f32 w a1 n1 c1 Z1) :
    Calls Try.prog 3 #[.agg #[.int .i64 R0, .int .i64 C0, .slice a0 n0 c0], .agg #[.int .i64 R1, .int .i64 C1, .slice a1 n1 c1]] w fun e w' => e = .returned (.bool true) ∧ Below w.heap.size w w' := by
  have hm0 : n0 ≤ 9223372036854775807 := by have hh1 := h0.1; have hh2 := h0.2.1; unfold maxLen at hh2; omega
  have hm1 : n1 ≤ 9223372036854775807 := by have hh1 := h1.1; have hh2 := h1.2.1; unfold maxLen at hh2; omega
  by_cases hl0 : n0 ≤ 1048576
  case neg =>
    go_enter Try.func3, Try.ntmps3
    go_wp2_with fail
    go_at_call 15
    refine (szMatrix_no _ _ _ _ _ (1048576) _ (by omega) hm0 (by omega)).mono ?_
    rintro e w1 ⟨rfl, b1⟩
    have D1 : Below w.heap.size w w1 := Below.trans (by repeat first | (with_reducible exact Below.refl _ _) | (with_reducible refine Below.setCell ?_ (by first | exact Nat.le_refl _ | (simp; done) | (simp; omega) | omega) _) | (with_reducible refine Below.alloc ?_ (by first | exact Nat.le_refl _ | (simp; done) | (simp; omega) | omega) _) | (with_reducible refine below_drewN ?_ _) | (with_reducible refine Below.drew ?_)) (b1.mono (by simp; try omega))
    have s1 : w.heap.size + 2 ≤ w1.heap.size := by have := b1.size; (try simp at this); omega
    have B1 : Below w.heap.size w w1 := D1
    have X1_A0 : Box w1 w.heap.size R0 C0 a0 n0 c0 := ((Box.new _ _ _ _ _ _ _).below (Below.alloc (Below.refl _ _) (Nat.le_refl _) _) (by simp)).below b1 (by simp; omega)
    have X1_A1 : Box w1 (w.heap.size + 1) R1 C1 a1 n1 c1 := by have hX := (Box.new _ _ _ _ _ _ _).below b1 (by simp); simpa using hX
    have Y1_A0 := X1_A0
    obtain ⟨Y1_A00, Y1_A01, Y1_A02⟩ := Y1_A0
    have L1_A0 : w.heap.size < w1.heap.size := by omega
    have Y1_A1 := X1_A1
    obtain ⟨Y1_A10, Y1_A11, Y1_A12⟩ := Y1_A1
    have L1_A1 : (w.heap.size + 1) < w1.heap.size := by omega
    go_wp2_with fail
    go_ret
    exact ⟨rfl, B1⟩
  by_cases hl1 : n1 ≤ 1048576 - n0
  case neg =>
    go_enter Try.func3, Try.ntmps3
    go_wp2_with fail
    go_at_call 15
    refine (szMatrix_yes _ _ _ _ _ (1048576) _ (by omega) hl0).mono ?_
    rintro e w1 ⟨rfl, b1⟩
    have D1 : Below w.heap.size w w1 := Below.trans (by repeat first | (with_reducible exact Below.refl _ _) | (with_reducible refine Below.setCell ?_ (by first | exact Nat.le_refl _ | (simp; done) | (simp; omega) | omega) _) | (with_reducible refine Below.alloc ?_ (by first | exact Nat.le_refl _ | (simp; done) | (simp; omega) | omega) _) | (with_reducible refine below_drewN ?_ _) | (with_reducible refine Below.drew ?_)) (b1.mono (by simp; try omega))
    have s1 : w.heap.size + 2 ≤ w1.heap.size := by have := b1.size; (try simp at this); omega
    have B1 : Below w.heap.size w w1 := D1
    have X1_A0 : Box w1 w.heap.size R0 C0 a0 n0 c0 := ((Box.new _ _ _ _ _ _ _).below (Below.alloc (Below.refl _ _) (Nat.le_refl _) _) (by simp)).below b1 (by simp; omega)
    have X1_A1 : Box w1 (w.heap.size + 1) R1 C1 a1 n1 c1 := by have hX := (Box.new _ _ _ _ _ _ _).below b1 (by simp); simpa using hX
    have Y1_A0 := X1_A0
    obtain ⟨Y1_A00, Y1_A01, Y1_A02⟩ := Y1_A0
    have L1_A0 : w.heap.size < w1.heap.size := by omega
    have Y1_A1 := X1_A1
    obtain ⟨Y1_A10, Y1_A11, Y1_A12⟩ := Y1_A1
    have L1_A1 : (w.heap.size + 1) < w1.heap.size := by omega
    have hd0_ : decide (((1048576 - n0 : Nat) : Int) < 0) = false := decide_eq_false (by omega)
    go_wp2_with fail
    go_at_call 15
    refine (szMatrix_no _ _ _ _ _ (1048576 - n0) _ (by omega) hm1 (by omega)).mono ?_
    rintro e w2 ⟨rfl, b2⟩
    have D2 : Below w1.heap.size w1 w2 := b2
    have s2 : w1.heap.size + 0 ≤ w2.heap.size := by have := b2.size; (try simp at this); omega
    have B2 : Below w.heap.size w w2 := B1.trans (D2.mono B1.size)
    have X2_A0 := X1_A0.below D2 (by omega)
    have X2_A1 := X1_A1.below D2 (by omega)
    have Y2_A0 := X2_A0
    obtain ⟨Y2_A00, Y2_A01, Y2_A02⟩ := Y2_A0
    have L2_A0 : w.heap.size < w2.heap.size := by omega
    have Y2_A1 := X2_A1
    obtain ⟨Y2_A10, Y2_A11, Y2_A12⟩ := Y2_A1
    have L2_A1 : (w.heap.size + 1) < w2.heap.size := by omega
    clear X1_A0 Y1_A00 Y1_A01 Y1_A02 L1_A0 X1_A1 Y1_A10 Y1_A11 Y1_A12 L1_A1
    go_wp2_with fail
    go_ret
    exact ⟨rfl, B2⟩
  have hn0 : n0 ≤ 1048576 := by omega
  have hn1 : n1 ≤ 1048576 := by omega
  obtain ⟨ok, ks, ki⟩ := keySameMatrix R0 C0 n0 Z0 R1 C1 n1 Z1 hn0 hn1 
  go_enter Try.func3, Try.ntmps3
  go_wp2_with fail
  go_at_call 15
  refine (szMatrix_yes _ _ _ _ _ (1048576) _ (by omega) hl0).mono ?_
  rintro e w1 ⟨rfl, b1⟩
  have D1 : Below w.heap.size w w1 := Below.trans (by repeat first | (with_reducible exact Below.refl _ _) | (with_reducible refine Below.setCell ?_ (by first | exact Nat.le_refl _ | (simp; done) | (simp; omega) | omega) _) | (with_reducible refine Below.alloc ?_ (by first | exact Nat.le_refl _ | (simp; done) | (simp; omega) | omega) _) | (with_reducible refine below_drewN ?_ _) | (with_reducible refine Below.drew ?_)) (b1.mono (by simp; try omega))
  have s1 : w.heap.size + 2 ≤ w1.heap.size := by have := b1.size; (try simp at this); omega
  have B1 : Below w.heap.size w w1 := D1
  have X1_A0 : Box w1 w.heap.size R0 C0 a0 n0 c0 := ((Box.new _ _ _ _ _ _ _).below (Below.alloc (Below.refl _ _) (Nat.le_refl _) _) (by simp)).below b1 (by simp; omega)
  have X1_A1 : Box w1 (w.heap.size + 1) R1 C1 a1 n1 c1 := by have hX := (Box.new _ _ _ _ _ _ _).below b1 (by simp); simpa using hX
  have Y1_A0 := X1_A0
  obtain ⟨Y1_A00, Y1_A01, Y1_A02⟩ := Y1_A0
  have L1_A0 : w.heap.size < w1.heap.size := by omega
  have Y1_A1 := X1_A1
  obtain ⟨Y1_A10, Y1_A11, Y1_A12⟩ := Y1_A1
  have L1_A1 : (w.heap.size + 1) < w1.heap.size := by omega
  have hd0_ : decide (((1048576 - n0 : Nat) : Int) < 0) = false := decide_eq_false (by omega)
  go_wp2_with fail
  go_at_call 15
  refine (szMatrix_yes _ _ _ _ _ (1048576 - n0) _ (by omega) hl1).mono ?_
  rintro e w2 ⟨rfl, b2⟩
  have D2 : Below w1.heap.size w1 w2 := b2
  have s2 : w1.heap.size + 0 ≤ w2.heap.size := by have := b2.size; (try simp at this); omega
  have B2 : Below w.heap.size w w2 := B1.trans (D2.mono B1.size)
  have X2_A0 := X1_A0.below D2 (by omega)
  have X2_A1 := X1_A1.below D2 (by omega)
  have Y2_A0 := X2_A0
  obtain ⟨Y2_A00, Y2_A01, Y2_A02⟩ := Y2_A0
  have L2_A0 : w.heap.size < w2.heap.size := by omega
  have Y2_A1 := X2_A1
  obtain ⟨Y2_A10, Y2_A11, Y2_A12⟩ := Y2_A1
  have L2_A1 : (w.heap.size + 1) < w2.heap.size := by omega
  clear X1_A0 Y1_A00 Y1_A01 Y1_A02 L1_A0 X1_A1 Y1_A10 Y1_A11 Y1_A12 L1_A1
  have hd1_ : decide (((1048576 - n0 - n1 : Nat) : Int) < 0) = false := decide_eq_false (by omega)
  go_wp2_with fail
  go_region_held3 (fun w' => w'.cell? ⟨w.heap.size, 0, none⟩ = some (.int .i64 R0) ∧ w'.cell? ⟨w.heap.size, 1, none⟩ = some (.int .i64 C0) ∧ w'.cell? ⟨w.heap.size, 2, none⟩ = some (.slice a0 n0 c0) ∧ w'.cell? ⟨(w.heap.size + 1), 0, none⟩ = some (.int .i64 R1) ∧ w'.cell? ⟨(w.heap.size + 1), 1, none⟩ = some (.int .i64 C1) ∧ w'.cell? ⟨(w.heap.size + 1), 2, none⟩ = some (.slice a1 n1 c1) ∧ Below w2.heap.size w2 w')
    (first | exact ⟨Y2_A00, Y2_A01, Y2_A02, Y2_A10, Y2_A11, Y2_A12, (by first | exact (Below.refl _ _).drew | exact (below_drewN (Below.refl _ _) _).drew)⟩ | exact held2 (by assumption) (by assumption) (by omega) (by omega))
    (first
      | (go_at_call 17; (with_reducible refine (toMatrix_any R0 C0 a0 n0 c0 Z0 _ hn0 ?_).mono ?_); exact (h0.below (B2.trans (Below.mono (by go_split_ands; assumption) B2.size)) (Nat.le_refl _)); rintro e wt0 ⟨pt0, qt0, rfl, ot0, bt0⟩)
      | (go_at_call 17; (with_reducible refine (toMatrix_any R1 C1 a1 n1 c1 Z1 _ hn1 ?_).mono ?_); exact (h1.below (B2.trans (Below.mono (by go_split_ands; assumption) B2.size)) (Nat.le_refl _)); rintro e wt1 ⟨pt1, qt1, rfl, ot1, bt1⟩)
      | (go_at_call 16; refine (ks _ _ _ _ _ (by first | exact Own.fs ot0 | exact (Own.fs ot0).below bt1 (Nat.le_refl _)) (by first | exact Own.fs ot1 | exact (Own.fs ot1).below bt0 (Nat.le_refl _))).mono ?_; rintro e w3 ⟨rfl, bb⟩))
  all_goals
    have b3 : Below w2.heap.size w2 w3 := by go_split_ands; assumption
    clear ot0 bt0 ot1 bt1 bb
    have D3 : Below w2.heap.size w2 w3 := b3
    have s3 : w2.heap.size + 0 ≤ w3.heap.size := by have := b3.size; (try simp at this); omega
    have B3 : Below w.heap.size w w3 := B2.trans (D3.mono B2.size)
    have X3_A0 := X2_A0.below D3 (by omega)
    have X3_A1 := X2_A1.below D3 (by omega)
    have Y3_A0 := X3_A0
    obtain ⟨Y3_A00, Y3_A01, Y3_A02⟩ := Y3_A0
    have L3_A0 : w.heap.size < w3.heap.size := by omega
    have Y3_A1 := X3_A1
    obtain ⟨Y3_A10, Y3_A11, Y3_A12⟩ := Y3_A1
    have L3_A1 : (w.heap.size + 1) < w3.heap.size := by omega
    clear X2_A0 Y2_A00 Y2_A01 Y2_A02 L2_A0 X2_A1 Y2_A10 Y2_A11 Y2_A12 L2_A1
    go_wp2_with fail
    go_at_call 17
    refine (toMatrix_any R0 C0 a0 n0 c0 Z0 _ hn0 (h0.below B3 (Nat.le_refl _))).mono ?_
    rintro e w4 ⟨px0, qx0, rfl, ox0, b4⟩
    have D4 : Below w3.heap.size w3 w4 := b4
    have s4 : w3.heap.size + 0 ≤ w4.heap.size := by have := b4.size; (try simp at this); omega
    have B4 : Below w.heap.size w w4 := B3.trans (D4.mono B3.size)
    have X4_A0 := X3_A0.below D4 (by omega)
    have X4_A1 := X3_A1.below D4 (by omega)
    have Y4_A0 := X4_A0
    obtain ⟨Y4_A00, Y4_A01, Y4_A02⟩ := Y4_A0
    have L4_A0 : w.heap.size < w4.heap.size := by omega
    have Y4_A1 := X4_A1
    obtain ⟨Y4_A10, Y4_A11, Y4_A12⟩ := Y4_A1
    have L4_A1 : (w.heap.size + 1) < w4.heap.size := by omega
    clear X3_A0 Y3_A00 Y3_A01 Y3_A02 L3_A0 X3_A1 Y3_A10 Y3_A11 Y3_A12 L3_A1
    go_wp2_with fail
    go_at_call 17
    refine (toMatrix_any R1 C1 a1 n1 c1 Z1 _ hn1 (FS.below (h1.below B4 (Nat.le_refl _)) (by repeat first | (with_reducible exact Below.refl _ _) | (with_reducible refine Below.setCell ?_ (by first | exact Nat.le_refl _ | (simp; done) | (simp; omega) | omega) _) | (with_reducible refine Below.alloc ?_ (by first | exact Nat.le_refl _ | (simp; done) | (simp; omega) | omega) _) | (with_reducible refine below_drewN ?_ _) | (with_reducible refine Below.drew ?_)) (Nat.le_refl _))).mono ?_
    rintro e w5 ⟨px1, qx1, rfl, ox1, b5⟩
    replace ox1 := Own.mono (B' := (w4.heap.size + 1)) ox1 (by simp) (Nat.le_refl _) (Nat.le_refl _)
    have D5 : Below w4.heap.size w4 w5 := Below.trans (by repeat first | (with_reducible exact Below.refl _ _) | (with_reducible refine Below.setCell ?_ (by first | exact Nat.le_refl _ | (simp; done) | (simp; omega) | omega) _) | (with_reducible refine Below.alloc ?_ (by first | exact Nat.le_refl _ | (simp; done) | (simp; omega) | omega) _) | (with_reducible refine below_drewN ?_ _) | (with_reducible refine Below.drew ?_)) (b5.mono (by simp; try omega))
    have s5 : w4.heap.size + 1 ≤ w5.heap.size := by have := b5.size; (try simp at this); omega
    have B5 : Below w.heap.size w w5 := B4.trans (D5.mono B4.size)
    have X5_A0 := X4_A0.below D5 (by omega)
    have X5_A1 := X4_A1.below D5 (by omega)
    have X5_P0 := (Box.new _ _ _ _ _ _ _).below b5 (by simp)
    replace ox0 := ox0.kept (below_grew D5) (fun q hq => by cases hq)
    have Y5_A0 := X5_A0
    obtain ⟨Y5_A00, Y5_A01, Y5_A02⟩ := Y5_A0
    have L5_A0 : w.heap.size < w5.heap.size := by omega
    have Y5_A1 := X5_A1
    obtain ⟨Y5_A10, Y5_A11, Y5_A12⟩ := Y5_A1
    have L5_A1 : (w.heap.size + 1) < w5.heap.size := by omega
    have Y5_P0 := X5_P0
    obtain ⟨Y5_P00, Y5_P01, Y5_P02⟩ := Y5_P0
    have L5_P0 : w4.heap.size < w5.heap.size := by omega
    clear X4_A0 Y4_A00 Y4_A01 Y4_A02 L4_A0 X4_A1 Y4_A10 Y4_A11 Y4_A12 L4_A1
    go_wp2_with fail
    go_at_call 18
    refine (ki _ _ _ _ _ (FS.below (Own.fs ox0) (by repeat first | (with_reducible exact Below.refl _ _) | (with_reducible refine Below.setCell ?_ (by first | exact Nat.le_refl _ | (simp; done) | (simp; omega) | omega) _) | (with_reducible refine Below.alloc ?_ (by first | exact Nat.le_refl _ | (simp; done) | (simp; omega) | omega) _) | (with_reducible refine below_drewN ?_ _) | (with_reducible refine Below.drew ?_)) (Nat.le_refl _)) (FS.below (Own.fs ox1) (by repeat first | (with_reducible exact Below.refl _ _) | (with_reducible refine Below.setCell ?_ (by first | exact Nat.le_refl _ | (simp; done) | (simp; omega) | omega) _) | (with_reducible refine Below.alloc ?_ (by first | exact Nat.le_refl _ | (simp; done) | (simp; omega) | omega) _) | (with_reducible refine below_drewN ?_ _) | (with_reducible refine Below.drew ?_)) (Nat.le_refl _))).mono ?_
    rintro e w6 ⟨rfl, b6⟩
    have D6 : Below w5.heap.size w5 w6 := Below.trans (by repeat first | (with_reducible exact Below.refl _ _) | (with_reducible refine Below.setCell ?_ (by first | exact Nat.le_refl _ | (simp; done) | (simp; omega) | omega) _) | (with_reducible refine Below.alloc ?_ (by first | exact Nat.le_refl _ | (simp; done) | (simp; omega) | omega) _) | (with_reducible refine below_drewN ?_ _) | (with_reducible refine Below.drew ?_)) (b6.mono (by simp; try omega))
    have s6 : w5.heap.size + 1 ≤ w6.heap.size := by have := b6.size; (try simp at this); omega
    have B6 : Below w.heap.size w w6 := B5.trans (D6.mono B5.size)
    have X6_A0 := X5_A0.below D6 (by omega)
    have X6_A1 := X5_A1.below D6 (by omega)
    have X6_P0 := X5_P0.below D6 (by omega)
    have X6_P1 := (Box.new _ _ _ _ _ _ _).below b6 (by simp)
    replace ox0 := ox0.kept (below_grew D6) (fun q hq => by cases hq)
    replace ox1 := ox1.kept (below_grew D6) (fun q hq => by cases hq)
    have Y6_A0 := X6_A0
    obtain ⟨Y6_A00, Y6_A01, Y6_A02⟩ := Y6_A0
    have L6_A0 : w.heap.size < w6.heap.size := by omega
    have Y6_A1 := X6_A1
    obtain ⟨Y6_A10, Y6_A11, Y6_A12⟩ := Y6_A1
    have L6_A1 : (w.heap.size + 1) < w6.heap.size := by omega
    have Y6_P0 := X6_P0
    obtain ⟨Y6_P00, Y6_P01, Y6_P02⟩ := Y6_P0
    have L6_P0 : w4.heap.size < w6.heap.size := by omega
    have Y6_P1 := X6_P1
    obtain ⟨Y6_P10, Y6_P11, Y6_P12⟩ := Y6_P1
    have L6_P1 : w5.heap.size < w6.heap.size := by omega
    clear X5_A0 Y5_A00 Y5_A01 Y5_A02 L5_A0 X5_A1 Y5_A10 Y5_A11 Y5_A12 L5_A1 X5_P0 Y5_P00 Y5_P01 Y5_P02 L5_P0
    go_wp2_with fail
    go_region_held3 (fun w' => w'.cell? ⟨w4.heap.size, 0, none⟩ = some (.int .i64 R0) ∧ w'.cell? ⟨w4.heap.size, 1, none⟩ = some (.int .i64 C0) ∧ w'.cell? ⟨w4.heap.size, 2, none⟩ = some (.slice px0 n0 qx0) ∧ w'.cell? ⟨w.heap.size, 0, none⟩ = some (.int .i64 R0) ∧ w'.cell? ⟨w.heap.size, 1, none⟩ = some (.int .i64 C0) ∧ w'.cell? ⟨w.heap.size, 2, none⟩ = some (.slice a0 n0 c0) ∧ Below w6.heap.size w6 w')
      (first | exact ⟨Y6_P00, Y6_P01, Y6_P02, Y6_A00, Y6_A01, Y6_A02, (by first | exact (Below.refl _ _).drew | exact (below_drewN (Below.refl _ _) _).drew)⟩ | exact held2 (by assumption) (by assumption) (by omega) (by omega))
      (first
        | (go_at_call 17; refine (toMatrix_any R0 C0 a0 n0 c0 Z0 _ hn0 (h0.below (B6.trans (Below.mono (by go_split_ands; assumption) B6.size)) (Nat.le_refl _))).mono ?_; rintro e wa ⟨pa, qa, rfl, oa, ba⟩)
        | (go_at_call 19; refine (eqMatrix_any R0 C0 _ _ n0 _ _ Z0 Z0 _ hn0 ((Own.fs ox0).below (by go_split_ands; assumption) (Nat.le_refl _)) oa.fs (fun i hi => rfl)).mono ?_; rintro e w7 ⟨rfl, bb⟩))
    have b7 : Below w6.heap.size w6 w7 := by go_split_ands; assumption
    clear oa ba bb
    have D7 : Below w6.heap.size w6 w7 := b7
    have s7 : w6.heap.size + 0 ≤ w7.heap.size := by have := b7.size; (try simp at this); omega
    have B7 : Below w.heap.size w w7 := B6.trans (D7.mono B6.size)
    have X7_A0 := X6_A0.below D7 (by omega)
    have X7_A1 := X6_A1.below D7 (by omega)
    have X7_P0 := X6_P0.below D7 (by omega)
    have X7_P1 := X6_P1.below D7 (by omega)
    replace ox0 := ox0.kept (below_grew D7) (fun q hq => by cases hq)
    replace ox1 := ox1.kept (below_grew D7) (fun q hq => by cases hq)
    have Y7_A0 := X7_A0
    obtain ⟨Y7_A00, Y7_A01, Y7_A02⟩ := Y7_A0
    have L7_A0 : w.heap.size < w7.heap.size := by omega
    have Y7_A1 := X7_A1
    obtain ⟨Y7_A10, Y7_A11, Y7_A12⟩ := Y7_A1
    have L7_A1 : (w.heap.size + 1) < w7.heap.size := by omega
    have Y7_P0 := X7_P0
    obtain ⟨Y7_P00, Y7_P01, Y7_P02⟩ := Y7_P0
    have L7_P0 : w4.heap.size < w7.heap.size := by omega
    have Y7_P1 := X7_P1
    obtain ⟨Y7_P10, Y7_P11, Y7_P12⟩ := Y7_P1
    have L7_P1 : w5.heap.size < w7.heap.size := by omega
    clear X6_A0 Y6_A00 Y6_A01 Y6_A02 L6_A0 X6_A1 Y6_A10 Y6_A11 Y6_A12 L6_A1 X6_P0 Y6_P00 Y6_P01 Y6_P02 L6_P0 X6_P1 Y6_P10 Y6_P11 Y6_P12 L6_P1
    go_wp2_with fail
    go_region_held3 (fun w' => w'.cell? ⟨w5.heap.size, 0, none⟩ = some (.int .i64 R1) ∧ w'.cell? ⟨w5.heap.size, 1, none⟩ = some (.int .i64 C1) ∧ w'.cell? ⟨w5.heap.size, 2, none⟩ = some (.slice px1 n1 qx1) ∧ w'.cell? ⟨(w.heap.size + 1), 0, none⟩ = some (.int .i64 R1) ∧ w'.cell? ⟨(w.heap.size + 1), 1, none⟩ = some (.int .i64 C1) ∧ w'.cell? ⟨(w.heap.size + 1), 2, none⟩ = some (.slice a1 n1 c1) ∧ Below w7.heap.size w7 w')
      (first | exact ⟨Y7_P10, Y7_P11, Y7_P12, Y7_A10, Y7_A11, Y7_A12, (by first | exact (Below.refl _ _).drew | exact (below_drewN (Below.refl _ _) _).drew)⟩ | exact held2 (by assumption) (by assumption) (by omega) (by omega))
      (first
        | (go_at_call 17; refine (toMatrix_any R1 C1 a1 n1 c1 Z1 _ hn1 (h1.below (B7.trans (Below.mono (by go_split_ands; assumption) B7.size)) (Nat.le_refl _))).mono ?_; rintro e wa ⟨pa, qa, rfl, oa, ba⟩)
        | (go_at_call 19; refine (eqMatrix_any R1 C1 _ _ n1 _ _ Z1 Z1 _ hn1 ((Own.fs ox1).below (by go_split_ands; assumption) (Nat.le_refl _)) oa.fs (fun i hi => rfl)).mono ?_; rintro e w8 ⟨rfl, bb⟩))
    have b8 : Below w7.heap.size w7 w8 := by go_split_ands; assumption
    clear oa ba bb
    have D8 : Below w7.heap.size w7 w8 := b8
    have s8 : w7.heap.size + 0 ≤ w8.heap.size := by have := b8.size; (try simp at this); omega
    have B8 : Below w.heap.size w w8 := B7.trans (D8.mono B7.size)
    have X8_A0 := X7_A0.below D8 (by omega)
    have X8_A1 := X7_A1.below D8 (by omega)
    have X8_P0 := X7_P0.below D8 (by omega)
    have X8_P1 := X7_P1.below D8 (by omega)
    replace ox0 := ox0.kept (below_grew D8) (fun q hq => by cases hq)
    replace ox1 := ox1.kept (below_grew D8) (fun q hq => by cases hq)
    have Y8_A0 := X8_A0
    obtain ⟨Y8_A00, Y8_A01, Y8_A02⟩ := Y8_A0
    have L8_A0 : w.heap.size < w8.heap.size := by omega
    have Y8_A1 := X8_A1
    obtain ⟨Y8_A10, Y8_A11, Y8_A12⟩ := Y8_A1
    have L8_A1 : (w.heap.size + 1) < w8.heap.size := by omega
    have Y8_P0 := X8_P0
    obtain ⟨Y8_P00, Y8_P01, Y8_P02⟩ := Y8_P0
    have L8_P0 : w4.heap.size < w8.heap.size := by omega
    have Y8_P1 := X8_P1
    obtain ⟨Y8_P10, Y8_P11, Y8_P12⟩ := Y8_P1
    have L8_P1 : w5.heap.size < w8.heap.size := by omega
    clear X7_A0 Y7_A00 Y7_A01 Y7_A02 L7_A0 X7_A1 Y7_A10 Y7_A11 Y7_A12 L7_A1 X7_P0 Y7_P00 Y7_P01 Y7_P02 L7_P0 X7_P1 Y7_P10 Y7_P11 Y7_P12 L7_P1
    go_wp2_with fail
    go_ret
    exact ⟨rfl, B8⟩
end Go.Proofs.Ytedfbnkdhnadeab
