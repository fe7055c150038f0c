/- Helper: the walk of the law FnExactMiddleFactor. Conditions: none. -/
import Derived.Test.YtcibjkadlndejaaMdKey
import Derived.Test.YtcibjkadlndejaaMatCopy
import Derived.Test.YtcibjkadlndejaaKeys
import Derived.Deep.RegionHeld3
set_option linter.unusedVariables false
set_option linter.unusedSimpArgs false
namespace Go.Proofs.Ytcibjkadlndejaa
open Go.RowKit

set_option maxRecDepth 100000 in
set_option maxHeartbeats 4000000 in
theorem law_FnExactMiddleFactor (w : World) (R0 C0 : Int) (wR0 : (Lit.int .i64 R0).wf = true) (wC0 : (Lit.int .i64 C0).wf = true) (a0 : Option Addr) (n0 c0 : Nat) (Z0 : Nat → Nat) (h0 : FS .f32 w a0 n0 c0 Z0) :
    Calls Try.prog 7 #[.agg #[.int .i64 R0, .int .i64 C0, .slice a0 n0 c0]] w fun e w' => e = .returned (.bool true) ∧ Below w.heap.size w w' := by
  have hm0 : n0 ≤ 9223372036854775807 := by have hh1 := h0.1; have hh2 := h0.2.1; unfold maxLen at hh2; omega
  by_cases hl0 : n0 ≤ 1048576
  case neg =>
    go_enter Try.func7, Try.ntmps7
    go_wp2_with fail
    go_at_call 9
    refine (szMatrix_no _ _ _ _ _ (1048576) _ (by omega) hm0 (by omega)).mono ?_
    rintro e w1 ⟨rfl, b1⟩
    have D1 : Below w.heap.size w w1 := Below.trans (by repeat first | (with_reducible exact Below.refl _ _) | (with_reducible refine Below.setCell ?_ (by first | exact Nat.le_refl _ | (simp; done) | (simp; omega) | omega) _) | (with_reducible refine Below.alloc ?_ (by first | exact Nat.le_refl _ | (simp; done) | (simp; omega) | omega) _) | (with_reducible refine below_drewN ?_ _) | (with_reducible refine Below.drew ?_)) (b1.mono (by simp; try omega))
    have s1 : w.heap.size + 1 ≤ w1.heap.size := by have := b1.size; (try simp at this); omega
    have B1 : Below w.heap.size w w1 := D1
    have X1_A0 := (Box.new _ _ _ _ _ _ _).below b1 (by simp)
    have Y1_A0 := X1_A0
    obtain ⟨Y1_A00, Y1_A01, Y1_A02⟩ := Y1_A0
    have L1_A0 : w.heap.size < w1.heap.size := by omega
    go_wp2_with fail
    go_ret
    exact ⟨rfl, B1⟩
  have hn0 : n0 ≤ 1048576 := by omega
  obtain ⟨ok, Ra, Ca, na, Va, nb, Vb, hnra, hnrb, ks, ki⟩ := keyMiddleFactor R0 C0 n0 Z0 hn0 
  go_enter Try.func7, Try.ntmps7
  go_wp2_with fail
  go_at_call 9
  refine (szMatrix_yes _ _ _ _ _ (1048576) _ (by omega) hl0).mono ?_
  rintro e w1 ⟨rfl, b1⟩
  have D1 : Below w.heap.size w w1 := Below.trans (by repeat first | (with_reducible exact Below.refl _ _) | (with_reducible refine Below.setCell ?_ (by first | exact Nat.le_refl _ | (simp; done) | (simp; omega) | omega) _) | (with_reducible refine Below.alloc ?_ (by first | exact Nat.le_refl _ | (simp; done) | (simp; omega) | omega) _) | (with_reducible refine below_drewN ?_ _) | (with_reducible refine Below.drew ?_)) (b1.mono (by simp; try omega))
  have s1 : w.heap.size + 1 ≤ w1.heap.size := by have := b1.size; (try simp at this); omega
  have B1 : Below w.heap.size w w1 := D1
  have X1_A0 := (Box.new _ _ _ _ _ _ _).below b1 (by simp)
  have Y1_A0 := X1_A0
  obtain ⟨Y1_A00, Y1_A01, Y1_A02⟩ := Y1_A0
  have L1_A0 : w.heap.size < w1.heap.size := by omega
  have hd0_ : decide (((1048576 - n0 : Nat) : Int) < 0) = false := decide_eq_false (by omega)
  go_wp2_with fail
  go_at_call 11
  refine (toMatrix_any R0 C0 a0 n0 c0 Z0 _ hn0 (h0.below B1 (Nat.le_refl _))).mono ?_
  rintro e w2 ⟨ps0, qs0, rfl, os0, b2⟩
  have D2 : Below w1.heap.size w1 w2 := b2
  have s2 : w1.heap.size + 0 ≤ w2.heap.size := by have := b2.size; (try simp at this); omega
  have B2 : Below w.heap.size w w2 := B1.trans (D2.mono B1.size)
  have X2_A0 := X1_A0.below D2 (by omega)
  have Y2_A0 := X2_A0
  obtain ⟨Y2_A00, Y2_A01, Y2_A02⟩ := Y2_A0
  have L2_A0 : w.heap.size < w2.heap.size := by omega
  clear X1_A0 Y1_A00 Y1_A01 Y1_A02 L1_A0
  go_wp2_with fail
  go_at_call 29
  refine (ks _ _ _ (Own.fs os0)).mono ?_
  rintro e w3 ⟨g1a, d1a, Y1a, g1b, d1b, Y1b, rfl, fg1a, v1a, fg1b, v1b, b3⟩
  have D3 : Below w2.heap.size w2 w3 := b3
  have s3 : w2.heap.size + 0 ≤ w3.heap.size := by have := b3.size; (try simp at this); omega
  have B3 : Below w.heap.size w w3 := B2.trans (D3.mono B2.size)
  have X3_A0 := X2_A0.below D3 (by omega)
  replace os0 := os0.kept (below_grew D3) (fun q hq => by cases hq)
  have Y3_A0 := X3_A0
  obtain ⟨Y3_A00, Y3_A01, Y3_A02⟩ := Y3_A0
  have L3_A0 : w.heap.size < w3.heap.size := by omega
  clear X2_A0 Y2_A00 Y2_A01 Y2_A02 L2_A0
  have fs1a_ := fg1a
  have fs1b_ := fg1b
  have DS1 := Below.refl w3.heap.size w3
  clear os0
  go_wp2_with fail
  go_at_call 11
  refine (toMatrix_any R0 C0 a0 n0 c0 Z0 _ hn0 (FS.below (h0.below B3 (Nat.le_refl _)) (by repeat first | (with_reducible exact Below.refl _ _) | (with_reducible refine Below.setCell ?_ (by first | exact Nat.le_refl _ | (simp; done) | (simp; omega) | omega) _) | (with_reducible refine Below.alloc ?_ (by first | exact Nat.le_refl _ | (simp; done) | (simp; omega) | omega) _) | (with_reducible refine below_drewN ?_ _) | (with_reducible refine Below.drew ?_)) (Nat.le_refl _))).mono ?_
  rintro e w4 ⟨px0, qx0, rfl, ox0, b4⟩
  replace ox0 := Own.mono (B' := (w3.heap.size + 1)) ox0 (by simp) (Nat.le_refl _) (Nat.le_refl _)
  have D4 : Below w3.heap.size w3 w4 := Below.trans (by repeat first | (with_reducible exact Below.refl _ _) | (with_reducible refine Below.setCell ?_ (by first | exact Nat.le_refl _ | (simp; done) | (simp; omega) | omega) _) | (with_reducible refine Below.alloc ?_ (by first | exact Nat.le_refl _ | (simp; done) | (simp; omega) | omega) _) | (with_reducible refine below_drewN ?_ _) | (with_reducible refine Below.drew ?_)) (b4.mono (by simp; try omega))
  have s4 : w3.heap.size + 1 ≤ w4.heap.size := by have := b4.size; (try simp at this); omega
  have B4 : Below w.heap.size w w4 := B3.trans (D4.mono B3.size)
  have X4_A0 := X3_A0.below D4 (by omega)
  have X4_G1a := (Box.new _ _ _ _ _ _ _).below b4 (by simp)
  replace DS1 := DS1.trans (D4.mono DS1.size)
  have Y4_A0 := X4_A0
  obtain ⟨Y4_A00, Y4_A01, Y4_A02⟩ := Y4_A0
  have L4_A0 : w.heap.size < w4.heap.size := by omega
  have Y4_G1a := X4_G1a
  obtain ⟨Y4_G1a0, Y4_G1a1, Y4_G1a2⟩ := Y4_G1a
  have L4_G1a : w3.heap.size < w4.heap.size := by omega
  clear X3_A0 Y3_A00 Y3_A01 Y3_A02 L3_A0
  go_wp2_with fail
  go_at_call 30
  refine (ki _ _ _ (FS.below (Own.fs ox0) (by repeat first | (with_reducible exact Below.refl _ _) | (with_reducible refine Below.setCell ?_ (by first | exact Nat.le_refl _ | (simp; done) | (simp; omega) | omega) _) | (with_reducible refine Below.alloc ?_ (by first | exact Nat.le_refl _ | (simp; done) | (simp; omega) | omega) _) | (with_reducible refine below_drewN ?_ _) | (with_reducible refine Below.drew ?_)) (Nat.le_refl _))).mono ?_
  rintro e w5 ⟨m2, g2a, d2a, Y2a, g2b, d2b, Y2b, hm1, hm2, rfl, og2a, v2a, og2b, v2b, b5⟩
  replace hm1 : w4.heap.size + 1 ≤ m2 := by simpa using hm1
  replace og2a := Own.mono (B' := (w4.heap.size + 1)) og2a (by simp) (Nat.le_refl _) hm2
  have D5 : Below w4.heap.size w4 w5 := Below.trans (by repeat first | (with_reducible exact Below.refl _ _) | (with_reducible refine Below.setCell ?_ (by first | exact Nat.le_refl _ | (simp; done) | (simp; omega) | omega) _) | (with_reducible refine Below.alloc ?_ (by first | exact Nat.le_refl _ | (simp; done) | (simp; omega) | omega) _) | (with_reducible refine below_drewN ?_ _) | (with_reducible refine Below.drew ?_)) (b5.mono (by simp; try omega))
  have s5 : w4.heap.size + 1 ≤ w5.heap.size := by have := b5.size; (try simp at this); omega
  have B5 : Below w.heap.size w w5 := B4.trans (D5.mono B4.size)
  have X5_A0 := X4_A0.below D5 (by omega)
  have X5_G1a := X4_G1a.below D5 (by omega)
  have X5_P0 := (Box.new _ _ _ _ _ _ _).below b5 (by simp)
  replace ox0 := ox0.kept (below_grew D5) (fun q hq => by cases hq)
  replace DS1 := DS1.trans (D5.mono DS1.size)
  have Y5_A0 := X5_A0
  obtain ⟨Y5_A00, Y5_A01, Y5_A02⟩ := Y5_A0
  have L5_A0 : w.heap.size < w5.heap.size := by omega
  have Y5_G1a := X5_G1a
  obtain ⟨Y5_G1a0, Y5_G1a1, Y5_G1a2⟩ := Y5_G1a
  have L5_G1a : w3.heap.size < w5.heap.size := by omega
  have Y5_P0 := X5_P0
  obtain ⟨Y5_P00, Y5_P01, Y5_P02⟩ := Y5_P0
  have L5_P0 : w4.heap.size < w5.heap.size := by omega
  clear X4_A0 Y4_A00 Y4_A01 Y4_A02 L4_A0 X4_G1a Y4_G1a0 Y4_G1a1 Y4_G1a2 L4_G1a
  go_wp2_with fail
  go_at_call 13
  refine (eqMatrix_any Ra Ca _ _ na _ _ Y2a Y1a _ (by omega) (FS.below (Own.fs og2a) (by repeat first | (with_reducible exact Below.refl _ _) | (with_reducible refine Below.setCell ?_ (by first | exact Nat.le_refl _ | (simp; done) | (simp; omega) | omega) _) | (with_reducible refine Below.alloc ?_ (by first | exact Nat.le_refl _ | (simp; done) | (simp; omega) | omega) _) | (with_reducible refine below_drewN ?_ _) | (with_reducible refine Below.drew ?_)) (Nat.le_refl _)) (FS.below (fs1a_.below DS1 (Nat.le_refl _)) (by repeat first | (with_reducible exact Below.refl _ _) | (with_reducible refine Below.setCell ?_ (by first | exact Nat.le_refl _ | (simp; done) | (simp; omega) | omega) _) | (with_reducible refine Below.alloc ?_ (by first | exact Nat.le_refl _ | (simp; done) | (simp; omega) | omega) _) | (with_reducible refine below_drewN ?_ _) | (with_reducible refine Below.drew ?_)) (Nat.le_refl _)) (fun i hi => (v2a i hi).trans (v1a i hi).symm)).mono ?_
  rintro e w6 ⟨rfl, b6⟩
  have D6 : Below w5.heap.size w5 w6 := Below.trans (by repeat first | (with_reducible exact Below.refl _ _) | (with_reducible refine Below.setCell ?_ (by first | exact Nat.le_refl _ | (simp; done) | (simp; omega) | omega) _) | (with_reducible refine Below.alloc ?_ (by first | exact Nat.le_refl _ | (simp; done) | (simp; omega) | omega) _) | (with_reducible refine below_drewN ?_ _) | (with_reducible refine Below.drew ?_)) (b6.mono (by simp; try omega))
  have s6 : w5.heap.size + 1 ≤ w6.heap.size := by have := b6.size; (try simp at this); omega
  have B6 : Below w.heap.size w w6 := B5.trans (D6.mono B5.size)
  have X6_A0 := X5_A0.below D6 (by omega)
  have X6_G1a := X5_G1a.below D6 (by omega)
  have X6_P0 := X5_P0.below D6 (by omega)
  have X6_G2a := (Box.new _ _ _ _ _ _ _).below b6 (by simp)
  replace ox0 := ox0.kept (below_grew D6) (fun q hq => by cases hq)
  replace og2a := og2a.kept (below_grew D6) (fun q hq => by cases hq)
  replace og2b := og2b.kept (below_grew D6) (fun q hq => by cases hq)
  replace DS1 := DS1.trans (D6.mono DS1.size)
  have Y6_A0 := X6_A0
  obtain ⟨Y6_A00, Y6_A01, Y6_A02⟩ := Y6_A0
  have L6_A0 : w.heap.size < w6.heap.size := by omega
  have Y6_G1a := X6_G1a
  obtain ⟨Y6_G1a0, Y6_G1a1, Y6_G1a2⟩ := Y6_G1a
  have L6_G1a : w3.heap.size < w6.heap.size := by omega
  have Y6_P0 := X6_P0
  obtain ⟨Y6_P00, Y6_P01, Y6_P02⟩ := Y6_P0
  have L6_P0 : w4.heap.size < w6.heap.size := by omega
  have Y6_G2a := X6_G2a
  obtain ⟨Y6_G2a0, Y6_G2a1, Y6_G2a2⟩ := Y6_G2a
  have L6_G2a : w5.heap.size < w6.heap.size := by omega
  clear X5_A0 Y5_A00 Y5_A01 Y5_A02 L5_A0 X5_G1a Y5_G1a0 Y5_G1a1 Y5_G1a2 L5_G1a X5_P0 Y5_P00 Y5_P01 Y5_P02 L5_P0
  go_wp2_with fail
  go_at_call 19
  refine (eqFloat32S_any _ _ nb _ _ Y2b Y1b _ (by omega) (Own.fs og2b) (fs1b_.below DS1 (Nat.le_refl _)) (fun i hi => (v2b i hi).trans (v1b i hi).symm)).mono ?_
  rintro e w7 ⟨rfl, me7, hw7⟩
  have b7 := below_of_drewN hw7
  clear hw7
  have D7 : Below w6.heap.size w6 w7 := b7
  have s7 : w6.heap.size + 0 ≤ w7.heap.size := by have := b7.size; (try simp at this); omega
  have B7 : Below w.heap.size w w7 := B6.trans (D7.mono B6.size)
  have X7_A0 := X6_A0.below D7 (by omega)
  have X7_G1a := X6_G1a.below D7 (by omega)
  have X7_P0 := X6_P0.below D7 (by omega)
  have X7_G2a := X6_G2a.below D7 (by omega)
  replace ox0 := ox0.kept (below_grew D7) (fun q hq => by cases hq)
  replace og2a := og2a.kept (below_grew D7) (fun q hq => by cases hq)
  replace og2b := og2b.kept (below_grew D7) (fun q hq => by cases hq)
  replace DS1 := DS1.trans (D7.mono DS1.size)
  have Y7_A0 := X7_A0
  obtain ⟨Y7_A00, Y7_A01, Y7_A02⟩ := Y7_A0
  have L7_A0 : w.heap.size < w7.heap.size := by omega
  have Y7_G1a := X7_G1a
  obtain ⟨Y7_G1a0, Y7_G1a1, Y7_G1a2⟩ := Y7_G1a
  have L7_G1a : w3.heap.size < w7.heap.size := by omega
  have Y7_P0 := X7_P0
  obtain ⟨Y7_P00, Y7_P01, Y7_P02⟩ := Y7_P0
  have L7_P0 : w4.heap.size < w7.heap.size := by omega
  have Y7_G2a := X7_G2a
  obtain ⟨Y7_G2a0, Y7_G2a1, Y7_G2a2⟩ := Y7_G2a
  have L7_G2a : w5.heap.size < w7.heap.size := by omega
  clear X6_A0 Y6_A00 Y6_A01 Y6_A02 L6_A0 X6_G1a Y6_G1a0 Y6_G1a1 Y6_G1a2 L6_G1a X6_P0 Y6_P00 Y6_P01 Y6_P02 L6_P0 X6_G2a Y6_G2a0 Y6_G2a1 Y6_G2a2 L6_G2a
  go_wp2_with fail
  go_region_held3 (fun w' => w'.cell? ⟨w4.heap.size, 0, none⟩ = some (.int .i64 R0) ∧ w'.cell? ⟨w4.heap.size, 1, none⟩ = some (.int .i64 C0) ∧ w'.cell? ⟨w4.heap.size, 2, none⟩ = some (.slice px0 n0 qx0) ∧ w'.cell? ⟨w.heap.size, 0, none⟩ = some (.int .i64 R0) ∧ w'.cell? ⟨w.heap.size, 1, none⟩ = some (.int .i64 C0) ∧ w'.cell? ⟨w.heap.size, 2, none⟩ = some (.slice a0 n0 c0) ∧ Below w7.heap.size w7 w')
    (first | exact ⟨Y7_P00, Y7_P01, Y7_P02, Y7_A00, Y7_A01, Y7_A02, (by first | exact (Below.refl _ _).drew | exact (below_drewN (Below.refl _ _) _).drew)⟩ | exact held2 (by assumption) (by assumption) (by omega) (by omega))
    (first
      | (go_at_call 11; refine (toMatrix_any R0 C0 a0 n0 c0 Z0 _ hn0 (h0.below (B7.trans (Below.mono (by go_split_ands; assumption) B7.size)) (Nat.le_refl _))).mono ?_; rintro e wa ⟨pa, qa, rfl, oa, ba⟩)
      | (go_at_call 13; refine (eqMatrix_any R0 C0 _ _ n0 _ _ Z0 Z0 _ hn0 ((Own.fs ox0).below (by go_split_ands; assumption) (Nat.le_refl _)) oa.fs (fun i hi => rfl)).mono ?_; rintro e w8 ⟨rfl, bb⟩))
  have b8 : Below w7.heap.size w7 w8 := by go_split_ands; assumption
  clear oa ba bb
  have D8 : Below w7.heap.size w7 w8 := b8
  have s8 : w7.heap.size + 0 ≤ w8.heap.size := by have := b8.size; (try simp at this); omega
  have B8 : Below w.heap.size w w8 := B7.trans (D8.mono B7.size)
  have X8_A0 := X7_A0.below D8 (by omega)
  have X8_G1a := X7_G1a.below D8 (by omega)
  have X8_P0 := X7_P0.below D8 (by omega)
  have X8_G2a := X7_G2a.below D8 (by omega)
  replace ox0 := ox0.kept (below_grew D8) (fun q hq => by cases hq)
  replace og2a := og2a.kept (below_grew D8) (fun q hq => by cases hq)
  replace og2b := og2b.kept (below_grew D8) (fun q hq => by cases hq)
  replace DS1 := DS1.trans (D8.mono DS1.size)
  have Y8_A0 := X8_A0
  obtain ⟨Y8_A00, Y8_A01, Y8_A02⟩ := Y8_A0
  have L8_A0 : w.heap.size < w8.heap.size := by omega
  have Y8_G1a := X8_G1a
  obtain ⟨Y8_G1a0, Y8_G1a1, Y8_G1a2⟩ := Y8_G1a
  have L8_G1a : w3.heap.size < w8.heap.size := by omega
  have Y8_P0 := X8_P0
  obtain ⟨Y8_P00, Y8_P01, Y8_P02⟩ := Y8_P0
  have L8_P0 : w4.heap.size < w8.heap.size := by omega
  have Y8_G2a := X8_G2a
  obtain ⟨Y8_G2a0, Y8_G2a1, Y8_G2a2⟩ := Y8_G2a
  have L8_G2a : w5.heap.size < w8.heap.size := by omega
  clear X7_A0 Y7_A00 Y7_A01 Y7_A02 L7_A0 X7_G1a Y7_G1a0 Y7_G1a1 Y7_G1a2 L7_G1a X7_P0 Y7_P00 Y7_P01 Y7_P02 L7_P0 X7_G2a Y7_G2a0 Y7_G2a1 Y7_G2a2 L7_G2a
  go_wp2_with fail
  go_at_call 14
  refine (markMatrix_any R0 C0 _ _ _ n0 _ (1) Z0 _ hn0 (by omega) ox0).mono ?_
  rintro e w9 ⟨rfl, om0, row9, gr9, hr9⟩
  clear ox0
  have s9 : w8.heap.size ≤ w9.heap.size := gr9.size
  have B9 : Below w.heap.size w w9 := B8.grown gr9 B8.size (fun q hq => by have := hr9 q hq; omega)
  have X9_A0 := X8_A0.grown gr9 (by omega) (fun q hq => by have := hr9 q hq; omega)
  have X9_G1a := X8_G1a.grown gr9 (by omega) (fun q hq => by have := hr9 q hq; omega)
  have X9_P0 := X8_P0.grown gr9 (by omega) (fun q hq => by have := hr9 q hq; omega)
  have X9_G2a := X8_G2a.grown gr9 (by omega) (fun q hq => by have := hr9 q hq; omega)
  replace og2a := og2a.kept gr9 (fun q hq => by have := hr9 q hq; omega)
  replace og2b := og2b.kept gr9 (fun q hq => by have := hr9 q hq; omega)
  replace DS1 := DS1.grown gr9 DS1.size (fun q hq => by have := hr9 q hq; omega)
  have Y9_A0 := X9_A0
  obtain ⟨Y9_A00, Y9_A01, Y9_A02⟩ := Y9_A0
  have L9_A0 : w.heap.size < w9.heap.size := by omega
  have Y9_G1a := X9_G1a
  obtain ⟨Y9_G1a0, Y9_G1a1, Y9_G1a2⟩ := Y9_G1a
  have L9_G1a : w3.heap.size < w9.heap.size := by omega
  have Y9_P0 := X9_P0
  obtain ⟨Y9_P00, Y9_P01, Y9_P02⟩ := Y9_P0
  have L9_P0 : w4.heap.size < w9.heap.size := by omega
  have Y9_G2a := X9_G2a
  obtain ⟨Y9_G2a0, Y9_G2a1, Y9_G2a2⟩ := Y9_G2a
  have L9_G2a : w5.heap.size < w9.heap.size := by omega
  clear X8_A0 Y8_A00 Y8_A01 Y8_A02 L8_A0 X8_G1a Y8_G1a0 Y8_G1a1 Y8_G1a2 L8_G1a X8_P0 Y8_P00 Y8_P01 Y8_P02 L8_P0 X8_G2a Y8_G2a0 Y8_G2a1 Y8_G2a2 L8_G2a
  clear om0
  have hk1 : decide (((1 + n0 : Nat) : Int) < 0) = false := decide_eq_false (by omega)
  have hk2 := hk1
  simp only [Int.natCast_add, Int.natCast_one, Int.cast_ofNat_Int] at hk2
  go_wp2_with fail
  go_at_call 13
  refine (eqMatrix_any Ra Ca _ _ na _ _ Y2a Y1a _ (by omega) (Own.fs og2a) (fs1a_.below DS1 (Nat.le_refl _)) (fun i hi => (v2a i hi).trans (v1a i hi).symm)).mono ?_
  rintro e w10 ⟨rfl, b10⟩
  have D10 : Below w9.heap.size w9 w10 := b10
  have s10 : w9.heap.size + 0 ≤ w10.heap.size := by have := b10.size; (try simp at this); omega
  have B10 : Below w.heap.size w w10 := B9.trans (D10.mono B9.size)
  have X10_A0 := X9_A0.below D10 (by omega)
  have X10_G1a := X9_G1a.below D10 (by omega)
  have X10_P0 := X9_P0.below D10 (by omega)
  have X10_G2a := X9_G2a.below D10 (by omega)
  replace og2a := og2a.kept (below_grew D10) (fun q hq => by cases hq)
  replace og2b := og2b.kept (below_grew D10) (fun q hq => by cases hq)
  replace DS1 := DS1.trans (D10.mono DS1.size)
  have Y10_A0 := X10_A0
  obtain ⟨Y10_A00, Y10_A01, Y10_A02⟩ := Y10_A0
  have L10_A0 : w.heap.size < w10.heap.size := by omega
  have Y10_G1a := X10_G1a
  obtain ⟨Y10_G1a0, Y10_G1a1, Y10_G1a2⟩ := Y10_G1a
  have L10_G1a : w3.heap.size < w10.heap.size := by omega
  have Y10_P0 := X10_P0
  obtain ⟨Y10_P00, Y10_P01, Y10_P02⟩ := Y10_P0
  have L10_P0 : w4.heap.size < w10.heap.size := by omega
  have Y10_G2a := X10_G2a
  obtain ⟨Y10_G2a0, Y10_G2a1, Y10_G2a2⟩ := Y10_G2a
  have L10_G2a : w5.heap.size < w10.heap.size := by omega
  clear X9_A0 Y9_A00 Y9_A01 Y9_A02 L9_A0 X9_G1a Y9_G1a0 Y9_G1a1 Y9_G1a2 L9_G1a X9_P0 Y9_P00 Y9_P01 Y9_P02 L9_P0 X9_G2a Y9_G2a0 Y9_G2a1 Y9_G2a2 L9_G2a
  go_wp2_with fail
  go_at_call 19
  refine (eqFloat32S_any _ _ nb _ _ Y2b Y1b _ (by omega) (Own.fs og2b) (fs1b_.below DS1 (Nat.le_refl _)) (fun i hi => (v2b i hi).trans (v1b i hi).symm)).mono ?_
  rintro e w11 ⟨rfl, me11, hw11⟩
  have b11 := below_of_drewN hw11
  clear hw11
  have D11 : Below w10.heap.size w10 w11 := b11
  have s11 : w10.heap.size + 0 ≤ w11.heap.size := by have := b11.size; (try simp at this); omega
  have B11 : Below w.heap.size w w11 := B10.trans (D11.mono B10.size)
  have X11_A0 := X10_A0.below D11 (by omega)
  have X11_G1a := X10_G1a.below D11 (by omega)
  have X11_P0 := X10_P0.below D11 (by omega)
  have X11_G2a := X10_G2a.below D11 (by omega)
  replace og2a := og2a.kept (below_grew D11) (fun q hq => by cases hq)
  replace og2b := og2b.kept (below_grew D11) (fun q hq => by cases hq)
  replace DS1 := DS1.trans (D11.mono DS1.size)
  have Y11_A0 := X11_A0
  obtain ⟨Y11_A00, Y11_A01, Y11_A02⟩ := Y11_A0
  have L11_A0 : w.heap.size < w11.heap.size := by omega
  have Y11_G1a := X11_G1a
  obtain ⟨Y11_G1a0, Y11_G1a1, Y11_G1a2⟩ := Y11_G1a
  have L11_G1a : w3.heap.size < w11.heap.size := by omega
  have Y11_P0 := X11_P0
  obtain ⟨Y11_P00, Y11_P01, Y11_P02⟩ := Y11_P0
  have L11_P0 : w4.heap.size < w11.heap.size := by omega
  have Y11_G2a := X11_G2a
  obtain ⟨Y11_G2a0, Y11_G2a1, Y11_G2a2⟩ := Y11_G2a
  have L11_G2a : w5.heap.size < w11.heap.size := by omega
  clear X10_A0 Y10_A00 Y10_A01 Y10_A02 L10_A0 X10_G1a Y10_G1a0 Y10_G1a1 Y10_G1a2 L10_G1a X10_P0 Y10_P00 Y10_P01 Y10_P02 L10_P0 X10_G2a Y10_G2a0 Y10_G2a1 Y10_G2a2 L10_G2a
  go_wp2_with fail
  go_at_call 14
  refine (markMatrix_any Ra Ca _ _ _ na _ (1) Y2a _ (by omega) (by omega) og2a).mono ?_
  rintro e w12 ⟨rfl, oma, row12, gr12, hr12⟩
  clear og2a
  have s12 : w11.heap.size ≤ w12.heap.size := gr12.size
  have B12 : Below w.heap.size w w12 := B11.grown gr12 B11.size (fun q hq => by have := hr12 q hq; omega)
  have X12_A0 := X11_A0.grown gr12 (by omega) (fun q hq => by have := hr12 q hq; omega)
  have X12_G1a := X11_G1a.grown gr12 (by omega) (fun q hq => by have := hr12 q hq; omega)
  have X12_P0 := X11_P0.grown gr12 (by omega) (fun q hq => by have := hr12 q hq; omega)
  have X12_G2a := X11_G2a.grown gr12 (by omega) (fun q hq => by have := hr12 q hq; omega)
  replace og2b := og2b.kept gr12 (fun q hq => by have := hr12 q hq; omega)
  replace DS1 := DS1.grown gr12 DS1.size (fun q hq => by have := hr12 q hq; omega)
  have Y12_A0 := X12_A0
  obtain ⟨Y12_A00, Y12_A01, Y12_A02⟩ := Y12_A0
  have L12_A0 : w.heap.size < w12.heap.size := by omega
  have Y12_G1a := X12_G1a
  obtain ⟨Y12_G1a0, Y12_G1a1, Y12_G1a2⟩ := Y12_G1a
  have L12_G1a : w3.heap.size < w12.heap.size := by omega
  have Y12_P0 := X12_P0
  obtain ⟨Y12_P00, Y12_P01, Y12_P02⟩ := Y12_P0
  have L12_P0 : w4.heap.size < w12.heap.size := by omega
  have Y12_G2a := X12_G2a
  obtain ⟨Y12_G2a0, Y12_G2a1, Y12_G2a2⟩ := Y12_G2a
  have L12_G2a : w5.heap.size < w12.heap.size := by omega
  clear X11_A0 Y11_A00 Y11_A01 Y11_A02 L11_A0 X11_G1a Y11_G1a0 Y11_G1a1 Y11_G1a2 L11_G1a X11_P0 Y11_P00 Y11_P01 Y11_P02 L11_P0 X11_G2a Y11_G2a0 Y11_G2a1 Y11_G2a2 L11_G2a
  go_wp2_with fail
  go_at_call 20
  refine (markFloat32S_any _ _ _ nb _ (1 + na) Y2b _ (by omega) (by omega) og2b).mono ?_
  rintro e w13 ⟨rfl, omb, row13, gr13, hr13⟩
  clear og2b
  have s13 : w12.heap.size ≤ w13.heap.size := gr13.size
  have B13 : Below w.heap.size w w13 := B12.grown gr13 B12.size (fun q hq => by have := hr13 q hq; omega)
  have X13_A0 := X12_A0.grown gr13 (by omega) (fun q hq => by have := hr13 q hq; omega)
  have X13_G1a := X12_G1a.grown gr13 (by omega) (fun q hq => by have := hr13 q hq; omega)
  have X13_P0 := X12_P0.grown gr13 (by omega) (fun q hq => by have := hr13 q hq; omega)
  have X13_G2a := X12_G2a.grown gr13 (by omega) (fun q hq => by have := hr13 q hq; omega)
  replace oma := oma.kept gr13 (fun q hq => by have := hr13 q hq; omega)
  replace DS1 := DS1.grown gr13 DS1.size (fun q hq => by have := hr13 q hq; omega)
  have Y13_A0 := X13_A0
  obtain ⟨Y13_A00, Y13_A01, Y13_A02⟩ := Y13_A0
  have L13_A0 : w.heap.size < w13.heap.size := by omega
  have Y13_G1a := X13_G1a
  obtain ⟨Y13_G1a0, Y13_G1a1, Y13_G1a2⟩ := Y13_G1a
  have L13_G1a : w3.heap.size < w13.heap.size := by omega
  have Y13_P0 := X13_P0
  obtain ⟨Y13_P00, Y13_P01, Y13_P02⟩ := Y13_P0
  have L13_P0 : w4.heap.size < w13.heap.size := by omega
  have Y13_G2a := X13_G2a
  obtain ⟨Y13_G2a0, Y13_G2a1, Y13_G2a2⟩ := Y13_G2a
  have L13_G2a : w5.heap.size < w13.heap.size := by omega
  clear X12_A0 Y12_A00 Y12_A01 Y12_A02 L12_A0 X12_G1a Y12_G1a0 Y12_G1a1 Y12_G1a2 L12_G1a X12_P0 Y12_P00 Y12_P01 Y12_P02 L12_P0 X12_G2a Y12_G2a0 Y12_G2a1 Y12_G2a2 L12_G2a
  have hq1 : decide (((1 + na : Nat) : Int) < 0) = false := decide_eq_false (by omega)
  have hq2 := hq1
  simp only [Int.natCast_add, Int.natCast_one, Int.cast_ofNat_Int] at hq2
  have hq3 : decide (((1 + na + nb : Nat) : Int) < 0) = false := decide_eq_false (by omega)
  have hq4 := hq3
  simp only [Int.natCast_add, Int.natCast_one, Int.cast_ofNat_Int] at hq4
  go_wp2_with fail
  go_at_call 15
  refine (heldMatrix_any Ra Ca _ na _ (1) _ _ (by omega) (by omega) (Own.fs oma) (fun i hi => rfl)).mono ?_
  rintro e w14 ⟨rfl, b14⟩
  have D14 : Below w13.heap.size w13 w14 := b14
  have s14 : w13.heap.size + 0 ≤ w14.heap.size := by have := b14.size; (try simp at this); omega
  have B14 : Below w.heap.size w w14 := B13.trans (D14.mono B13.size)
  have X14_A0 := X13_A0.below D14 (by omega)
  have X14_G1a := X13_G1a.below D14 (by omega)
  have X14_P0 := X13_P0.below D14 (by omega)
  have X14_G2a := X13_G2a.below D14 (by omega)
  replace oma := oma.kept (below_grew D14) (fun q hq => by cases hq)
  replace omb := omb.kept (below_grew D14) (fun q hq => by cases hq)
  replace DS1 := DS1.trans (D14.mono DS1.size)
  have Y14_A0 := X14_A0
  obtain ⟨Y14_A00, Y14_A01, Y14_A02⟩ := Y14_A0
  have L14_A0 : w.heap.size < w14.heap.size := by omega
  have Y14_G1a := X14_G1a
  obtain ⟨Y14_G1a0, Y14_G1a1, Y14_G1a2⟩ := Y14_G1a
  have L14_G1a : w3.heap.size < w14.heap.size := by omega
  have Y14_P0 := X14_P0
  obtain ⟨Y14_P00, Y14_P01, Y14_P02⟩ := Y14_P0
  have L14_P0 : w4.heap.size < w14.heap.size := by omega
  have Y14_G2a := X14_G2a
  obtain ⟨Y14_G2a0, Y14_G2a1, Y14_G2a2⟩ := Y14_G2a
  have L14_G2a : w5.heap.size < w14.heap.size := by omega
  clear X13_A0 Y13_A00 Y13_A01 Y13_A02 L13_A0 X13_G1a Y13_G1a0 Y13_G1a1 Y13_G1a2 L13_G1a X13_P0 Y13_P00 Y13_P01 Y13_P02 L13_P0 X13_G2a Y13_G2a0 Y13_G2a1 Y13_G2a2 L13_G2a
  go_wp2_with fail
  go_at_call 21
  refine (heldFloat32S_any _ nb _ (1 + na) _ _ (by omega) (by omega) (Own.fs omb) (fun i hi => rfl)).mono ?_
  rintro e w15 ⟨rfl, hw15⟩
  have b15 := below_of_same hw15
  clear hw15
  have D15 : Below w14.heap.size w14 w15 := b15
  have s15 : w14.heap.size + 0 ≤ w15.heap.size := by have := b15.size; (try simp at this); omega
  have B15 : Below w.heap.size w w15 := B14.trans (D15.mono B14.size)
  have X15_A0 := X14_A0.below D15 (by omega)
  have X15_G1a := X14_G1a.below D15 (by omega)
  have X15_P0 := X14_P0.below D15 (by omega)
  have X15_G2a := X14_G2a.below D15 (by omega)
  replace oma := oma.kept (below_grew D15) (fun q hq => by cases hq)
  replace omb := omb.kept (below_grew D15) (fun q hq => by cases hq)
  replace DS1 := DS1.trans (D15.mono DS1.size)
  have Y15_A0 := X15_A0
  obtain ⟨Y15_A00, Y15_A01, Y15_A02⟩ := Y15_A0
  have L15_A0 : w.heap.size < w15.heap.size := by omega
  have Y15_G1a := X15_G1a
  obtain ⟨Y15_G1a0, Y15_G1a1, Y15_G1a2⟩ := Y15_G1a
  have L15_G1a : w3.heap.size < w15.heap.size := by omega
  have Y15_P0 := X15_P0
  obtain ⟨Y15_P00, Y15_P01, Y15_P02⟩ := Y15_P0
  have L15_P0 : w4.heap.size < w15.heap.size := by omega
  have Y15_G2a := X15_G2a
  obtain ⟨Y15_G2a0, Y15_G2a1, Y15_G2a2⟩ := Y15_G2a
  have L15_G2a : w5.heap.size < w15.heap.size := by omega
  clear X14_A0 Y14_A00 Y14_A01 Y14_A02 L14_A0 X14_G1a Y14_G1a0 Y14_G1a1 Y14_G1a2 L14_G1a X14_P0 Y14_P00 Y14_P01 Y14_P02 L14_P0 X14_G2a Y14_G2a0 Y14_G2a1 Y14_G2a2 L14_G2a
  go_wp2_with fail
  go_at_call 11
  refine (toMatrix_any R0 C0 a0 n0 c0 Z0 _ hn0 (h0.below B15 (Nat.le_refl _))).mono ?_
  rintro e w16 ⟨pz0, qz0, rfl, oz0, b16⟩
  have D16 : Below w15.heap.size w15 w16 := b16
  have s16 : w15.heap.size + 0 ≤ w16.heap.size := by have := b16.size; (try simp at this); omega
  have B16 : Below w.heap.size w w16 := B15.trans (D16.mono B15.size)
  have X16_A0 := X15_A0.below D16 (by omega)
  have X16_G1a := X15_G1a.below D16 (by omega)
  have X16_P0 := X15_P0.below D16 (by omega)
  have X16_G2a := X15_G2a.below D16 (by omega)
  replace oma := oma.kept (below_grew D16) (fun q hq => by cases hq)
  replace omb := omb.kept (below_grew D16) (fun q hq => by cases hq)
  replace DS1 := DS1.trans (D16.mono DS1.size)
  have Y16_A0 := X16_A0
  obtain ⟨Y16_A00, Y16_A01, Y16_A02⟩ := Y16_A0
  have L16_A0 : w.heap.size < w16.heap.size := by omega
  have Y16_G1a := X16_G1a
  obtain ⟨Y16_G1a0, Y16_G1a1, Y16_G1a2⟩ := Y16_G1a
  have L16_G1a : w3.heap.size < w16.heap.size := by omega
  have Y16_P0 := X16_P0
  obtain ⟨Y16_P00, Y16_P01, Y16_P02⟩ := Y16_P0
  have L16_P0 : w4.heap.size < w16.heap.size := by omega
  have Y16_G2a := X16_G2a
  obtain ⟨Y16_G2a0, Y16_G2a1, Y16_G2a2⟩ := Y16_G2a
  have L16_G2a : w5.heap.size < w16.heap.size := by omega
  clear X15_A0 Y15_A00 Y15_A01 Y15_A02 L15_A0 X15_G1a Y15_G1a0 Y15_G1a1 Y15_G1a2 L15_G1a X15_P0 Y15_P00 Y15_P01 Y15_P02 L15_P0 X15_G2a Y15_G2a0 Y15_G2a1 Y15_G2a2 L15_G2a
  go_wp2_with fail
  go_at_call 30
  refine (ki _ _ _ (Own.fs oz0)).mono ?_
  rintro e w17 ⟨m3, g3a, d3a, Y3a, g3b, d3b, Y3b, hm3, hm4, rfl, og3a, v3a, og3b, v3b, b17⟩
  have D17 : Below w16.heap.size w16 w17 := b17
  have s17 : w16.heap.size + 0 ≤ w17.heap.size := by have := b17.size; (try simp at this); omega
  have B17 : Below w.heap.size w w17 := B16.trans (D17.mono B16.size)
  have X17_A0 := X16_A0.below D17 (by omega)
  have X17_G1a := X16_G1a.below D17 (by omega)
  have X17_P0 := X16_P0.below D17 (by omega)
  have X17_G2a := X16_G2a.below D17 (by omega)
  replace oma := oma.kept (below_grew D17) (fun q hq => by cases hq)
  replace omb := omb.kept (below_grew D17) (fun q hq => by cases hq)
  replace oz0 := oz0.kept (below_grew D17) (fun q hq => by cases hq)
  replace DS1 := DS1.trans (D17.mono DS1.size)
  have Y17_A0 := X17_A0
  obtain ⟨Y17_A00, Y17_A01, Y17_A02⟩ := Y17_A0
  have L17_A0 : w.heap.size < w17.heap.size := by omega
  have Y17_G1a := X17_G1a
  obtain ⟨Y17_G1a0, Y17_G1a1, Y17_G1a2⟩ := Y17_G1a
  have L17_G1a : w3.heap.size < w17.heap.size := by omega
  have Y17_P0 := X17_P0
  obtain ⟨Y17_P00, Y17_P01, Y17_P02⟩ := Y17_P0
  have L17_P0 : w4.heap.size < w17.heap.size := by omega
  have Y17_G2a := X17_G2a
  obtain ⟨Y17_G2a0, Y17_G2a1, Y17_G2a2⟩ := Y17_G2a
  have L17_G2a : w5.heap.size < w17.heap.size := by omega
  clear X16_A0 Y16_A00 Y16_A01 Y16_A02 L16_A0 X16_G1a Y16_G1a0 Y16_G1a1 Y16_G1a2 L16_G1a X16_P0 Y16_P00 Y16_P01 Y16_P02 L16_P0 X16_G2a Y16_G2a0 Y16_G2a1 Y16_G2a2 L16_G2a
  clear oz0
  go_wp2_with fail
  go_at_call 13
  refine (eqMatrix_any Ra Ca _ _ na _ _ Y3a Y1a _ (by omega) (FS.below (Own.fs og3a) (by repeat first | (with_reducible exact Below.refl _ _) | (with_reducible refine Below.setCell ?_ (by first | exact Nat.le_refl _ | (simp; done) | (simp; omega) | omega) _) | (with_reducible refine Below.alloc ?_ (by first | exact Nat.le_refl _ | (simp; done) | (simp; omega) | omega) _) | (with_reducible refine below_drewN ?_ _) | (with_reducible refine Below.drew ?_)) (Nat.le_refl _)) (FS.below (fs1a_.below DS1 (Nat.le_refl _)) (by repeat first | (with_reducible exact Below.refl _ _) | (with_reducible refine Below.setCell ?_ (by first | exact Nat.le_refl _ | (simp; done) | (simp; omega) | omega) _) | (with_reducible refine Below.alloc ?_ (by first | exact Nat.le_refl _ | (simp; done) | (simp; omega) | omega) _) | (with_reducible refine below_drewN ?_ _) | (with_reducible refine Below.drew ?_)) (Nat.le_refl _)) (fun i hi => (v3a i hi).trans (v1a i hi).symm)).mono ?_
  rintro e w18 ⟨rfl, b18⟩
  have D18 : Below w17.heap.size w17 w18 := Below.trans (by repeat first | (with_reducible exact Below.refl _ _) | (with_reducible refine Below.setCell ?_ (by first | exact Nat.le_refl _ | (simp; done) | (simp; omega) | omega) _) | (with_reducible refine Below.alloc ?_ (by first | exact Nat.le_refl _ | (simp; done) | (simp; omega) | omega) _) | (with_reducible refine below_drewN ?_ _) | (with_reducible refine Below.drew ?_)) (b18.mono (by simp; try omega))
  have s18 : w17.heap.size + 1 ≤ w18.heap.size := by have := b18.size; (try simp at this); omega
  have B18 : Below w.heap.size w w18 := B17.trans (D18.mono B17.size)
  have X18_A0 := X17_A0.below D18 (by omega)
  have X18_G1a := X17_G1a.below D18 (by omega)
  have X18_P0 := X17_P0.below D18 (by omega)
  have X18_G2a := X17_G2a.below D18 (by omega)
  have X18_G3a := (Box.new _ _ _ _ _ _ _).below b18 (by simp)
  replace oma := oma.kept (below_grew D18) (fun q hq => by cases hq)
  replace omb := omb.kept (below_grew D18) (fun q hq => by cases hq)
  replace og3a := og3a.kept (below_grew D18) (fun q hq => by cases hq)
  replace og3b := og3b.kept (below_grew D18) (fun q hq => by cases hq)
  replace DS1 := DS1.trans (D18.mono DS1.size)
  have Y18_A0 := X18_A0
  obtain ⟨Y18_A00, Y18_A01, Y18_A02⟩ := Y18_A0
  have L18_A0 : w.heap.size < w18.heap.size := by omega
  have Y18_G1a := X18_G1a
  obtain ⟨Y18_G1a0, Y18_G1a1, Y18_G1a2⟩ := Y18_G1a
  have L18_G1a : w3.heap.size < w18.heap.size := by omega
  have Y18_P0 := X18_P0
  obtain ⟨Y18_P00, Y18_P01, Y18_P02⟩ := Y18_P0
  have L18_P0 : w4.heap.size < w18.heap.size := by omega
  have Y18_G2a := X18_G2a
  obtain ⟨Y18_G2a0, Y18_G2a1, Y18_G2a2⟩ := Y18_G2a
  have L18_G2a : w5.heap.size < w18.heap.size := by omega
  have Y18_G3a := X18_G3a
  obtain ⟨Y18_G3a0, Y18_G3a1, Y18_G3a2⟩ := Y18_G3a
  have L18_G3a : w17.heap.size < w18.heap.size := by omega
  clear X17_A0 Y17_A00 Y17_A01 Y17_A02 L17_A0 X17_G1a Y17_G1a0 Y17_G1a1 Y17_G1a2 L17_G1a X17_P0 Y17_P00 Y17_P01 Y17_P02 L17_P0 X17_G2a Y17_G2a0 Y17_G2a1 Y17_G2a2 L17_G2a
  go_wp2_with fail
  go_at_call 19
  refine (eqFloat32S_any _ _ nb _ _ Y3b Y1b _ (by omega) (Own.fs og3b) (fs1b_.below DS1 (Nat.le_refl _)) (fun i hi => (v3b i hi).trans (v1b i hi).symm)).mono ?_
  rintro e w19 ⟨rfl, me19, hw19⟩
  have b19 := below_of_drewN hw19
  clear hw19
  have D19 : Below w18.heap.size w18 w19 := b19
  have s19 : w18.heap.size + 0 ≤ w19.heap.size := by have := b19.size; (try simp at this); omega
  have B19 : Below w.heap.size w w19 := B18.trans (D19.mono B18.size)
  have X19_A0 := X18_A0.below D19 (by omega)
  have X19_G1a := X18_G1a.below D19 (by omega)
  have X19_P0 := X18_P0.below D19 (by omega)
  have X19_G2a := X18_G2a.below D19 (by omega)
  have X19_G3a := X18_G3a.below D19 (by omega)
  replace oma := oma.kept (below_grew D19) (fun q hq => by cases hq)
  replace omb := omb.kept (below_grew D19) (fun q hq => by cases hq)
  replace og3a := og3a.kept (below_grew D19) (fun q hq => by cases hq)
  replace og3b := og3b.kept (below_grew D19) (fun q hq => by cases hq)
  replace DS1 := DS1.trans (D19.mono DS1.size)
  have Y19_A0 := X19_A0
  obtain ⟨Y19_A00, Y19_A01, Y19_A02⟩ := Y19_A0
  have L19_A0 : w.heap.size < w19.heap.size := by omega
  have Y19_G1a := X19_G1a
  obtain ⟨Y19_G1a0, Y19_G1a1, Y19_G1a2⟩ := Y19_G1a
  have L19_G1a : w3.heap.size < w19.heap.size := by omega
  have Y19_P0 := X19_P0
  obtain ⟨Y19_P00, Y19_P01, Y19_P02⟩ := Y19_P0
  have L19_P0 : w4.heap.size < w19.heap.size := by omega
  have Y19_G2a := X19_G2a
  obtain ⟨Y19_G2a0, Y19_G2a1, Y19_G2a2⟩ := Y19_G2a
  have L19_G2a : w5.heap.size < w19.heap.size := by omega
  have Y19_G3a := X19_G3a
  obtain ⟨Y19_G3a0, Y19_G3a1, Y19_G3a2⟩ := Y19_G3a
  have L19_G3a : w17.heap.size < w19.heap.size := by omega
  clear X18_A0 Y18_A00 Y18_A01 Y18_A02 L18_A0 X18_G1a Y18_G1a0 Y18_G1a1 Y18_G1a2 L18_G1a X18_P0 Y18_P00 Y18_P01 Y18_P02 L18_P0 X18_G2a Y18_G2a0 Y18_G2a1 Y18_G2a2 L18_G2a X18_G3a Y18_G3a0 Y18_G3a1 Y18_G3a2 L18_G3a
  go_wp2_with fail
  go_at_call 15
  refine (heldMatrix_any Ra Ca _ na _ (1) _ _ (by omega) (by omega) (Own.fs oma) (fun i hi => rfl)).mono ?_
  rintro e w20 ⟨rfl, b20⟩
  have D20 : Below w19.heap.size w19 w20 := b20
  have s20 : w19.heap.size + 0 ≤ w20.heap.size := by have := b20.size; (try simp at this); omega
  have B20 : Below w.heap.size w w20 := B19.trans (D20.mono B19.size)
  have X20_A0 := X19_A0.below D20 (by omega)
  have X20_G1a := X19_G1a.below D20 (by omega)
  have X20_P0 := X19_P0.below D20 (by omega)
  have X20_G2a := X19_G2a.below D20 (by omega)
  have X20_G3a := X19_G3a.below D20 (by omega)
  replace oma := oma.kept (below_grew D20) (fun q hq => by cases hq)
  replace omb := omb.kept (below_grew D20) (fun q hq => by cases hq)
  replace DS1 := DS1.trans (D20.mono DS1.size)
  have Y20_A0 := X20_A0
  obtain ⟨Y20_A00, Y20_A01, Y20_A02⟩ := Y20_A0
  have L20_A0 : w.heap.size < w20.heap.size := by omega
  have Y20_G1a := X20_G1a
  obtain ⟨Y20_G1a0, Y20_G1a1, Y20_G1a2⟩ := Y20_G1a
  have L20_G1a : w3.heap.size < w20.heap.size := by omega
  have Y20_P0 := X20_P0
  obtain ⟨Y20_P00, Y20_P01, Y20_P02⟩ := Y20_P0
  have L20_P0 : w4.heap.size < w20.heap.size := by omega
  have Y20_G2a := X20_G2a
  obtain ⟨Y20_G2a0, Y20_G2a1, Y20_G2a2⟩ := Y20_G2a
  have L20_G2a : w5.heap.size < w20.heap.size := by omega
  have Y20_G3a := X20_G3a
  obtain ⟨Y20_G3a0, Y20_G3a1, Y20_G3a2⟩ := Y20_G3a
  have L20_G3a : w17.heap.size < w20.heap.size := by omega
  clear X19_A0 Y19_A00 Y19_A01 Y19_A02 L19_A0 X19_G1a Y19_G1a0 Y19_G1a1 Y19_G1a2 L19_G1a X19_P0 Y19_P00 Y19_P01 Y19_P02 L19_P0 X19_G2a Y19_G2a0 Y19_G2a1 Y19_G2a2 L19_G2a X19_G3a Y19_G3a0 Y19_G3a1 Y19_G3a2 L19_G3a
  go_wp2_with fail
  go_at_call 21
  refine (heldFloat32S_any _ nb _ (1 + na) _ _ (by omega) (by omega) (Own.fs omb) (fun i hi => rfl)).mono ?_
  rintro e w21 ⟨rfl, hw21⟩
  have b21 := below_of_same hw21
  clear hw21
  have D21 : Below w20.heap.size w20 w21 := b21
  have s21 : w20.heap.size + 0 ≤ w21.heap.size := by have := b21.size; (try simp at this); omega
  have B21 : Below w.heap.size w w21 := B20.trans (D21.mono B20.size)
  have X21_A0 := X20_A0.below D21 (by omega)
  have X21_G1a := X20_G1a.below D21 (by omega)
  have X21_P0 := X20_P0.below D21 (by omega)
  have X21_G2a := X20_G2a.below D21 (by omega)
  have X21_G3a := X20_G3a.below D21 (by omega)
  replace oma := oma.kept (below_grew D21) (fun q hq => by cases hq)
  replace omb := omb.kept (below_grew D21) (fun q hq => by cases hq)
  replace DS1 := DS1.trans (D21.mono DS1.size)
  have Y21_A0 := X21_A0
  obtain ⟨Y21_A00, Y21_A01, Y21_A02⟩ := Y21_A0
  have L21_A0 : w.heap.size < w21.heap.size := by omega
  have Y21_G1a := X21_G1a
  obtain ⟨Y21_G1a0, Y21_G1a1, Y21_G1a2⟩ := Y21_G1a
  have L21_G1a : w3.heap.size < w21.heap.size := by omega
  have Y21_P0 := X21_P0
  obtain ⟨Y21_P00, Y21_P01, Y21_P02⟩ := Y21_P0
  have L21_P0 : w4.heap.size < w21.heap.size := by omega
  have Y21_G2a := X21_G2a
  obtain ⟨Y21_G2a0, Y21_G2a1, Y21_G2a2⟩ := Y21_G2a
  have L21_G2a : w5.heap.size < w21.heap.size := by omega
  have Y21_G3a := X21_G3a
  obtain ⟨Y21_G3a0, Y21_G3a1, Y21_G3a2⟩ := Y21_G3a
  have L21_G3a : w17.heap.size < w21.heap.size := by omega
  clear X20_A0 Y20_A00 Y20_A01 Y20_A02 L20_A0 X20_G1a Y20_G1a0 Y20_G1a1 Y20_G1a2 L20_G1a X20_P0 Y20_P00 Y20_P01 Y20_P02 L20_P0 X20_G2a Y20_G2a0 Y20_G2a1 Y20_G2a2 L20_G2a X20_G3a Y20_G3a0 Y20_G3a1 Y20_G3a2 L20_G3a
  go_wp2_with fail
  go_ret
  exact ⟨rfl, B21⟩
end Go.Proofs.Ytcibjkadlndejaa
