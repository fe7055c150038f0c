/- Helper: the walk of the law FnExactRootShifted. Conditions: none. -/
import Derived.Test.YtmjlhmbnaifhaaaShiftKey
import Derived.Test.YtmjlhmbnaifhaaaMatCopy
import Derived.Test.YtmjlhmbnaifhaaaKeys
import Derived.Test.YtmjlhmbnaifhaaaBoxes
import Derived.Test.YtmjlhmbnaifhaaaMarkMore
import Derived.Deep.RegionHeld3
set_option linter.unusedVariables false
set_option linter.unusedSimpArgs false
namespace Go.Proofs.Ytmjlhmbnaifhaaa
open Go.RowKit

theorem heldS_RootShifted_3_3 {w0 W w' : World} {b1 b2 : Nat} {u0 u1 u2 v0 v1 v2 : Value} (hs : W.cell? ⟨b1, 0, none⟩ = some u0 ∧ W.cell? ⟨b1, 1, none⟩ = some u1 ∧ W.cell? ⟨b1, 2, none⟩ = some u2 ∧ W.cell? ⟨b2, 0, none⟩ = some v0 ∧ W.cell? ⟨b2, 1, none⟩ = some v1 ∧ W.cell? ⟨b2, 2, none⟩ = some v2 ∧ Below w0.heap.size w0 W) (hb : Below W.heap.size W w') (l1 : b1 < w0.heap.size) (l2 : b2 < w0.heap.size) :
    w'.cell? ⟨b1, 0, none⟩ = some u0 ∧ w'.cell? ⟨b1, 1, none⟩ = some u1 ∧ w'.cell? ⟨b1, 2, none⟩ = some u2 ∧ w'.cell? ⟨b2, 0, none⟩ = some v0 ∧ w'.cell? ⟨b2, 1, none⟩ = some v1 ∧ w'.cell? ⟨b2, 2, none⟩ = some v2 ∧ Below w0.heap.size w0 w' := by
  obtain ⟨hu0, hu1, hu2, hv0, hv1, hv2, h6⟩ := hs
  have e1 : b1 < W.heap.size := Nat.lt_of_lt_of_le l1 h6.size
  have e2 : b2 < W.heap.size := Nat.lt_of_lt_of_le l2 h6.size
  exact ⟨(hb.cell (p := ⟨b1, 0, none⟩) e1).trans hu0, (hb.cell (p := ⟨b1, 1, none⟩) e1).trans hu1, (hb.cell (p := ⟨b1, 2, none⟩) e1).trans hu2, (hb.cell (p := ⟨b2, 0, none⟩) e2).trans hv0, (hb.cell (p := ⟨b2, 1, none⟩) e2).trans hv1, (hb.cell (p := ⟨b2, 2, none⟩) e2).trans hv2, h6.trans (hb.mono h6.size)⟩
set_option maxRecDepth 100000 in
set_option maxHeartbeats 4000000 in
theorem law_FnExactRootShifted (w : World) (x0a : Int) (x0b : Int) (a0c : Option Addr) (n0c c0c : Nat) (Z0c : Nat → Nat) (wx0a : (Lit.int .i64 x0a).wf = true) (wx0b : (Lit.int .i64 x0b).wf = true) (h0c : FS .f32 w a0c n0c c0c Z0c) (x1a : Nat) (wx1a : (Lit.float .f32 x1a).wf = true) :
    Calls Try.prog 4 #[.agg #[.int .i64 x0a, .int .i64 x0b, .slice a0c n0c c0c], .float .f32 x1a] w fun e w' => e = .returned (.bool true) ∧ Below w.heap.size w w' := by
  have hm0c : n0c ≤ 9223372036854775807 := by have hh1 := h0c.1; have hh2 := h0c.2.1; unfold maxLen at hh2; omega
  by_cases hl : n0c ≤ 1048576
  case neg =>
    go_enter Try.func4, Try.ntmps4
    go_wp2_with fail
    go_at_call 9
    refine (szMatrix_no _ _ _ _ _ (1048576) _ (by omega) hm0c (by omega)).mono ?_
    rintro e w1 ⟨rfl, b1⟩
    have D1 : Below w.heap.size w w1 := Below.trans (by repeat first | (with_reducible exact Below.refl _ _) | (with_reducible refine Below.setCell ?_ (by first | exact Nat.le_refl _ | (simp; done) | (simp; omega) | omega) _) | (with_reducible refine Below.alloc ?_ (by first | exact Nat.le_refl _ | (simp; done) | (simp; omega) | omega) _) | (with_reducible refine below_drewN ?_ _) | (with_reducible refine Below.drew ?_)) (b1.mono (by simp; try omega))
    have s1 : w.heap.size + 1 ≤ w1.heap.size := by have := b1.size; (try simp at this); omega
    have B1 : Below w.heap.size w w1 := D1
    have X1_A0 : BoxL w1 w.heap.size [.int .i64 x0a, .int .i64 x0b, .slice a0c n0c c0c] := BoxL.below (BoxL.three (by simp [go_sem]) (by simp [go_sem]) (by simp [go_sem])) b1 (by first | (simp; done) | (simp; omega))
    have Y1_A00 := X1_A0 0 _ rfl
    have Y1_A01 := X1_A0 1 _ rfl
    have Y1_A02 := X1_A0 2 _ rfl
    have L1_A0 : w.heap.size < w1.heap.size := by omega
    go_wp2_with fail
    go_ret
    exact ⟨rfl, B1⟩
  have hl0c := hl
  clear hl
  have hn0c : n0c ≤ 1048576 := by omega
  obtain ⟨ok, sAa, sAb, nAc, VAc, XBa, hnrAc, ks, ki⟩ := keyRootShifted x0a x0b n0c Z0c x1a wx0a wx0b hn0c wx1a
  go_enter Try.func4, Try.ntmps4
  go_wp2_with fail
  go_at_call 9
  refine (szMatrix_yes _ _ _ _ _ (1048576) _ (by omega) hl0c).mono ?_
  rintro e w1 ⟨rfl, b1⟩
  have D1 : Below w.heap.size w w1 := Below.trans (by repeat first | (with_reducible exact Below.refl _ _) | (with_reducible refine Below.setCell ?_ (by first | exact Nat.le_refl _ | (simp; done) | (simp; omega) | omega) _) | (with_reducible refine Below.alloc ?_ (by first | exact Nat.le_refl _ | (simp; done) | (simp; omega) | omega) _) | (with_reducible refine below_drewN ?_ _) | (with_reducible refine Below.drew ?_)) (b1.mono (by simp; try omega))
  have s1 : w.heap.size + 1 ≤ w1.heap.size := by have := b1.size; (try simp at this); omega
  have B1 : Below w.heap.size w w1 := D1
  have X1_A0 : BoxL w1 w.heap.size [.int .i64 x0a, .int .i64 x0b, .slice a0c n0c c0c] := BoxL.below (BoxL.three (by simp [go_sem]) (by simp [go_sem]) (by simp [go_sem])) b1 (by first | (simp; done) | (simp; omega))
  have Y1_A00 := X1_A0 0 _ rfl
  have Y1_A01 := X1_A0 1 _ rfl
  have Y1_A02 := X1_A0 2 _ rfl
  have L1_A0 : w.heap.size < w1.heap.size := by omega
  have hdz0 : decide (((1048576 - n0c : Nat) : Int) < 0) = false := decide_eq_false (by omega)
  go_wp2_with fail
  go_at_call 11
  refine (toMatrix_any x0a x0b a0c n0c c0c Z0c _ hn0c (h0c.below B1 (Nat.le_refl _))).mono ?_
  rintro e w2 ⟨ps0c, qs0c, rfl, os0c, b2⟩
  have D2 : Below w1.heap.size w1 w2 := b2
  have s2 : w1.heap.size + 0 ≤ w2.heap.size := by have := b2.size; (try simp at this); omega
  have B2 : Below w.heap.size w w2 := B1.trans (D2.mono B1.size)
  have X2_A0 := X1_A0.below D2 (by omega)
  have Y2_A00 := X2_A0 0 _ rfl
  have Y2_A01 := X2_A0 1 _ rfl
  have Y2_A02 := X2_A0 2 _ rfl
  have L2_A0 : w.heap.size < w2.heap.size := by omega
  clear X1_A0 Y1_A00 Y1_A01 Y1_A02 L1_A0
  go_wp2_with fail
  go_at_call 16
  refine (ks _ _ _ (Own.fs os0c)).mono ?_
  rintro e w3 ⟨g1Ac, d1Ac, Y1Ac, r1Ba, rfl, fg1Ac, v1Ac, v1Ba, b3⟩
  have D3 : Below w2.heap.size w2 w3 := b3
  have s3 : w2.heap.size + 0 ≤ w3.heap.size := by have := b3.size; (try simp at this); omega
  have B3 : Below w.heap.size w w3 := B2.trans (D3.mono B2.size)
  have X3_A0 := X2_A0.below D3 (by omega)
  replace os0c := os0c.kept (below_grew D3) (fun q hq => by cases hq)
  have Y3_A00 := X3_A0 0 _ rfl
  have Y3_A01 := X3_A0 1 _ rfl
  have Y3_A02 := X3_A0 2 _ rfl
  have L3_A0 : w.heap.size < w3.heap.size := by omega
  clear X2_A0 Y2_A00 Y2_A01 Y2_A02 L2_A0
  have fs1Ac_ := fg1Ac
  have DS1 := Below.refl w3.heap.size w3
  clear os0c
  go_wp2_with fail
  go_at_call 11
  refine (toMatrix_any x0a x0b a0c n0c c0c Z0c _ hn0c (FS.below (h0c.below B3 (Nat.le_refl _)) (by repeat first | (with_reducible exact Below.refl _ _) | (with_reducible refine Below.setCell ?_ (by first | exact Nat.le_refl _ | (simp; done) | (simp; omega) | omega) _) | (with_reducible refine Below.alloc ?_ (by first | exact Nat.le_refl _ | (simp; done) | (simp; omega) | omega) _) | (with_reducible refine below_drewN ?_ _) | (with_reducible refine Below.drew ?_)) (Nat.le_refl _))).mono ?_
  rintro e w4 ⟨px0c, qx0c, rfl, ox0c, b4⟩
  replace ox0c := Own.mono (B' := (w3.heap.size + 1)) ox0c (by simp) (Nat.le_refl _) (by omega)
  have D4 : Below w3.heap.size w3 w4 := Below.trans (by repeat first | (with_reducible exact Below.refl _ _) | (with_reducible refine Below.setCell ?_ (by first | exact Nat.le_refl _ | (simp; done) | (simp; omega) | omega) _) | (with_reducible refine Below.alloc ?_ (by first | exact Nat.le_refl _ | (simp; done) | (simp; omega) | omega) _) | (with_reducible refine below_drewN ?_ _) | (with_reducible refine Below.drew ?_)) (b4.mono (by simp; try omega))
  have s4 : w3.heap.size + 1 ≤ w4.heap.size := by have := b4.size; (try simp at this); omega
  have B4 : Below w.heap.size w w4 := B3.trans (D4.mono B3.size)
  have X4_A0 := X3_A0.below D4 (by omega)
  have X4_G1A : BoxL w4 w3.heap.size [.int .i64 sAa, .int .i64 sAb, .slice g1Ac nAc d1Ac] := BoxL.below (BoxL.three (by simp [go_sem]) (by simp [go_sem]) (by simp [go_sem])) b4 (by first | (simp; done) | (simp; omega))
  replace DS1 := DS1.trans (D4.mono DS1.size)
  have Y4_A00 := X4_A0 0 _ rfl
  have Y4_A01 := X4_A0 1 _ rfl
  have Y4_A02 := X4_A0 2 _ rfl
  have L4_A0 : w.heap.size < w4.heap.size := by omega
  have Y4_G1A0 := X4_G1A 0 _ rfl
  have Y4_G1A1 := X4_G1A 1 _ rfl
  have Y4_G1A2 := X4_G1A 2 _ rfl
  have L4_G1A : w3.heap.size < w4.heap.size := by omega
  clear X3_A0 Y3_A00 Y3_A01 Y3_A02 L3_A0
  go_wp2_with fail
  go_at_call 17
  refine (ki _ _ _ (FS.below (Own.fs ox0c) (by repeat first | (with_reducible exact Below.refl _ _) | (with_reducible refine Below.setCell ?_ (by first | exact Nat.le_refl _ | (simp; done) | (simp; omega) | omega) _) | (with_reducible refine Below.alloc ?_ (by first | exact Nat.le_refl _ | (simp; done) | (simp; omega) | omega) _) | (with_reducible refine below_drewN ?_ _) | (with_reducible refine Below.drew ?_)) (Nat.le_refl _))).mono ?_
  rintro e w5 ⟨g2Ac, d2Ac, Y2Ac, r2Ba, rfl, og2Ac, v2Ac, v2Ba, b5⟩
  replace og2Ac := Own.mono (B' := (w4.heap.size + 1)) og2Ac (by simp) (Nat.le_refl _) (by omega)
  have D5 : Below w4.heap.size w4 w5 := Below.trans (by repeat first | (with_reducible exact Below.refl _ _) | (with_reducible refine Below.setCell ?_ (by first | exact Nat.le_refl _ | (simp; done) | (simp; omega) | omega) _) | (with_reducible refine Below.alloc ?_ (by first | exact Nat.le_refl _ | (simp; done) | (simp; omega) | omega) _) | (with_reducible refine below_drewN ?_ _) | (with_reducible refine Below.drew ?_)) (b5.mono (by simp; try omega))
  have s5 : w4.heap.size + 1 ≤ w5.heap.size := by have := b5.size; (try simp at this); omega
  have B5 : Below w.heap.size w w5 := B4.trans (D5.mono B4.size)
  have X5_A0 := X4_A0.below D5 (by omega)
  have X5_G1A := X4_G1A.below D5 (by omega)
  have X5_P0 : BoxL w5 w4.heap.size [.int .i64 x0a, .int .i64 x0b, .slice px0c n0c qx0c] := BoxL.below (BoxL.three (by simp [go_sem]) (by simp [go_sem]) (by simp [go_sem])) b5 (by first | (simp; done) | (simp; omega))
  replace ox0c := ox0c.kept (below_grew D5) (fun q hq => by cases hq)
  replace DS1 := DS1.trans (D5.mono DS1.size)
  have Y5_A00 := X5_A0 0 _ rfl
  have Y5_A01 := X5_A0 1 _ rfl
  have Y5_A02 := X5_A0 2 _ rfl
  have L5_A0 : w.heap.size < w5.heap.size := by omega
  have Y5_G1A0 := X5_G1A 0 _ rfl
  have Y5_G1A1 := X5_G1A 1 _ rfl
  have Y5_G1A2 := X5_G1A 2 _ rfl
  have L5_G1A : w3.heap.size < w5.heap.size := by omega
  have Y5_P00 := X5_P0 0 _ rfl
  have Y5_P01 := X5_P0 1 _ rfl
  have Y5_P02 := X5_P0 2 _ rfl
  have L5_P0 : w4.heap.size < w5.heap.size := by omega
  clear X4_A0 Y4_A00 Y4_A01 Y4_A02 L4_A0 X4_G1A Y4_G1A0 Y4_G1A1 Y4_G1A2 L4_G1A
  go_wp2_with fail
  go_at_call 13
  refine (eqMatrix_any _ _ _ _ _ _ _ _ _ _ (by omega) (FS.below (Own.fs og2Ac) (by repeat first | (with_reducible exact Below.refl _ _) | (with_reducible refine Below.setCell ?_ (by first | exact Nat.le_refl _ | (simp; done) | (simp; omega) | omega) _) | (with_reducible refine Below.alloc ?_ (by first | exact Nat.le_refl _ | (simp; done) | (simp; omega) | omega) _) | (with_reducible refine below_drewN ?_ _) | (with_reducible refine Below.drew ?_)) (Nat.le_refl _)) (FS.below (fs1Ac_.below DS1 (Nat.le_refl _)) (by repeat first | (with_reducible exact Below.refl _ _) | (with_reducible refine Below.setCell ?_ (by first | exact Nat.le_refl _ | (simp; done) | (simp; omega) | omega) _) | (with_reducible refine Below.alloc ?_ (by first | exact Nat.le_refl _ | (simp; done) | (simp; omega) | omega) _) | (with_reducible refine below_drewN ?_ _) | (with_reducible refine Below.drew ?_)) (Nat.le_refl _)) (fun i hi => (v2Ac i hi).trans (v1Ac i hi).symm)).mono ?_
  rintro e w6 ⟨rfl, b6⟩
  have D6 : Below w5.heap.size w5 w6 := Below.trans (by repeat first | (with_reducible exact Below.refl _ _) | (with_reducible refine Below.setCell ?_ (by first | exact Nat.le_refl _ | (simp; done) | (simp; omega) | omega) _) | (with_reducible refine Below.alloc ?_ (by first | exact Nat.le_refl _ | (simp; done) | (simp; omega) | omega) _) | (with_reducible refine below_drewN ?_ _) | (with_reducible refine Below.drew ?_)) (b6.mono (by simp; try omega))
  have s6 : w5.heap.size + 1 ≤ w6.heap.size := by have := b6.size; (try simp at this); omega
  have B6 : Below w.heap.size w w6 := B5.trans (D6.mono B5.size)
  have X6_A0 := X5_A0.below D6 (by omega)
  have X6_G1A := X5_G1A.below D6 (by omega)
  have X6_P0 := X5_P0.below D6 (by omega)
  have X6_G2A : BoxL w6 w5.heap.size [.int .i64 sAa, .int .i64 sAb, .slice g2Ac nAc d2Ac] := BoxL.below (BoxL.three (by simp [go_sem]) (by simp [go_sem]) (by simp [go_sem])) b6 (by first | (simp; done) | (simp; omega))
  replace ox0c := ox0c.kept (below_grew D6) (fun q hq => by cases hq)
  replace og2Ac := og2Ac.kept (below_grew D6) (fun q hq => by cases hq)
  replace DS1 := DS1.trans (D6.mono DS1.size)
  have Y6_A00 := X6_A0 0 _ rfl
  have Y6_A01 := X6_A0 1 _ rfl
  have Y6_A02 := X6_A0 2 _ rfl
  have L6_A0 : w.heap.size < w6.heap.size := by omega
  have Y6_G1A0 := X6_G1A 0 _ rfl
  have Y6_G1A1 := X6_G1A 1 _ rfl
  have Y6_G1A2 := X6_G1A 2 _ rfl
  have L6_G1A : w3.heap.size < w6.heap.size := by omega
  have Y6_P00 := X6_P0 0 _ rfl
  have Y6_P01 := X6_P0 1 _ rfl
  have Y6_P02 := X6_P0 2 _ rfl
  have L6_P0 : w4.heap.size < w6.heap.size := by omega
  have Y6_G2A0 := X6_G2A 0 _ rfl
  have Y6_G2A1 := X6_G2A 1 _ rfl
  have Y6_G2A2 := X6_G2A 2 _ rfl
  have L6_G2A : w5.heap.size < w6.heap.size := by omega
  clear X5_A0 Y5_A00 Y5_A01 Y5_A02 L5_A0 X5_G1A Y5_G1A0 Y5_G1A1 Y5_G1A2 L5_G1A X5_P0 Y5_P00 Y5_P01 Y5_P02 L5_P0
  go_wp2_with (first | (refine wpList_widen rfl _ _ _ rfl _ rfl (by kernel_rfl) Try.underlying37 (by assumption) ?_; intro r m hr) | (go_at_call 18; refine (sameFloat_any _ _ (by assumption) (by assumption) _).mono ?_; rintro e w' ⟨rfl, q1, rfl⟩))
  generalize hd7 : World.drewN w6 _ = w7
  have b7 := below_of_drewN hd7.symm
  clear hd7
  have D7 : Below w6.heap.size w6 w7 := b7
  have s7 : w6.heap.size + 0 ≤ w7.heap.size := by have := b7.size; (try simp at this); omega
  have B7 : Below w.heap.size w w7 := B6.trans (D7.mono B6.size)
  have X7_A0 := X6_A0.below D7 (by omega)
  have X7_G1A := X6_G1A.below D7 (by omega)
  have X7_P0 := X6_P0.below D7 (by omega)
  have X7_G2A := X6_G2A.below D7 (by omega)
  replace ox0c := ox0c.kept (below_grew D7) (fun q hq => by cases hq)
  replace og2Ac := og2Ac.kept (below_grew D7) (fun q hq => by cases hq)
  replace DS1 := DS1.trans (D7.mono DS1.size)
  have Y7_A00 := X7_A0 0 _ rfl
  have Y7_A01 := X7_A0 1 _ rfl
  have Y7_A02 := X7_A0 2 _ rfl
  have L7_A0 : w.heap.size < w7.heap.size := by omega
  have Y7_G1A0 := X7_G1A 0 _ rfl
  have Y7_G1A1 := X7_G1A 1 _ rfl
  have Y7_G1A2 := X7_G1A 2 _ rfl
  have L7_G1A : w3.heap.size < w7.heap.size := by omega
  have Y7_P00 := X7_P0 0 _ rfl
  have Y7_P01 := X7_P0 1 _ rfl
  have Y7_P02 := X7_P0 2 _ rfl
  have L7_P0 : w4.heap.size < w7.heap.size := by omega
  have Y7_G2A0 := X7_G2A 0 _ rfl
  have Y7_G2A1 := X7_G2A 1 _ rfl
  have Y7_G2A2 := X7_G2A 2 _ rfl
  have L7_G2A : w5.heap.size < w7.heap.size := by omega
  clear X6_A0 Y6_A00 Y6_A01 Y6_A02 L6_A0 X6_G1A Y6_G1A0 Y6_G1A1 Y6_G1A2 L6_G1A X6_P0 Y6_P00 Y6_P01 Y6_P02 L6_P0 X6_G2A Y6_G2A0 Y6_G2A1 Y6_G2A2 L6_G2A
  go_wp2_with fail
  go_region_held3 (fun w' => w'.cell? ⟨w4.heap.size, 0, none⟩ = some (.int .i64 x0a) ∧ w'.cell? ⟨w4.heap.size, 1, none⟩ = some (.int .i64 x0b) ∧ w'.cell? ⟨w4.heap.size, 2, none⟩ = some (.slice px0c n0c qx0c) ∧ w'.cell? ⟨w.heap.size, 0, none⟩ = some (.int .i64 x0a) ∧ w'.cell? ⟨w.heap.size, 1, none⟩ = some (.int .i64 x0b) ∧ w'.cell? ⟨w.heap.size, 2, none⟩ = some (.slice a0c n0c c0c) ∧ Below w7.heap.size w7 w')
    (first | exact ⟨Y7_P00, Y7_P01, Y7_P02, Y7_A00, Y7_A01, Y7_A02, (by first | exact (Below.refl _ _).drew | exact (below_drewN (Below.refl _ _) _).drew)⟩ | exact heldS_RootShifted_3_3 (by assumption) (by assumption) (by omega) (by omega))
    (first
      | (go_at_call 11; refine (toMatrix_any x0a x0b a0c n0c c0c Z0c _ hn0c (h0c.below (B7.trans (Below.mono (by go_split_ands; assumption) B7.size)) (Nat.le_refl _))).mono ?_; rintro e wa ⟨pa0c, qa0c, rfl, oa0c, ba⟩)
      | (go_at_call 13; refine (eqMatrix_any _ _ _ _ _ _ _ _ _ _ (by omega) ((Own.fs ox0c).below (by go_split_ands; assumption) (Nat.le_refl _)) (Own.fs oa0c) (fun i hi => rfl)).mono ?_; rintro e w8 ⟨rfl, bb⟩))
  have b8 : Below w7.heap.size w7 w8 := by go_split_ands; assumption
  clear oa0c ba bb
  have D8 : Below w7.heap.size w7 w8 := b8
  have s8 : w7.heap.size + 0 ≤ w8.heap.size := by have := b8.size; (try simp at this); omega
  have B8 : Below w.heap.size w w8 := B7.trans (D8.mono B7.size)
  have X8_A0 := X7_A0.below D8 (by omega)
  have X8_G1A := X7_G1A.below D8 (by omega)
  have X8_P0 := X7_P0.below D8 (by omega)
  have X8_G2A := X7_G2A.below D8 (by omega)
  replace ox0c := ox0c.kept (below_grew D8) (fun q hq => by cases hq)
  replace og2Ac := og2Ac.kept (below_grew D8) (fun q hq => by cases hq)
  replace DS1 := DS1.trans (D8.mono DS1.size)
  have Y8_A00 := X8_A0 0 _ rfl
  have Y8_A01 := X8_A0 1 _ rfl
  have Y8_A02 := X8_A0 2 _ rfl
  have L8_A0 : w.heap.size < w8.heap.size := by omega
  have Y8_G1A0 := X8_G1A 0 _ rfl
  have Y8_G1A1 := X8_G1A 1 _ rfl
  have Y8_G1A2 := X8_G1A 2 _ rfl
  have L8_G1A : w3.heap.size < w8.heap.size := by omega
  have Y8_P00 := X8_P0 0 _ rfl
  have Y8_P01 := X8_P0 1 _ rfl
  have Y8_P02 := X8_P0 2 _ rfl
  have L8_P0 : w4.heap.size < w8.heap.size := by omega
  have Y8_G2A0 := X8_G2A 0 _ rfl
  have Y8_G2A1 := X8_G2A 1 _ rfl
  have Y8_G2A2 := X8_G2A 2 _ rfl
  have L8_G2A : w5.heap.size < w8.heap.size := by omega
  clear X7_A0 Y7_A00 Y7_A01 Y7_A02 L7_A0 X7_G1A Y7_G1A0 Y7_G1A1 Y7_G1A2 L7_G1A X7_P0 Y7_P00 Y7_P01 Y7_P02 L7_P0 X7_G2A Y7_G2A0 Y7_G2A1 Y7_G2A2 L7_G2A
  go_wp2_with fail
  go_at_call 14
  refine (markMatrix_more _ _ ((w3.heap.size + 1)) (w4.heap.size) _ _ _ (1) _ _ (by omega) (by omega) ox0c).mono ?_
  rintro e w9 ⟨rfl, om0c, row9⟩
  have gr9 := Marked.grew row9
  clear row9
  clear ox0c om0c
  have s9 : w8.heap.size ≤ w9.heap.size := gr9.size
  have B9 : Below w.heap.size w w9 := Below.over B8 gr9 (by omega) (by omega)
  have X9_A0 := X8_A0.over gr9 (by omega) (by omega)
  have X9_G1A := X8_G1A.over gr9 (by omega) (by omega)
  have X9_P0 := X8_P0.over gr9 (by omega) (by omega)
  have X9_G2A := X8_G2A.over gr9 (by omega) (by omega)
  replace og2Ac := og2Ac.over gr9 (by omega)
  replace DS1 := Below.over DS1 gr9 (by omega) (by omega)
  have Y9_A00 := X9_A0 0 _ rfl
  have Y9_A01 := X9_A0 1 _ rfl
  have Y9_A02 := X9_A0 2 _ rfl
  have L9_A0 : w.heap.size < w9.heap.size := by omega
  have Y9_G1A0 := X9_G1A 0 _ rfl
  have Y9_G1A1 := X9_G1A 1 _ rfl
  have Y9_G1A2 := X9_G1A 2 _ rfl
  have L9_G1A : w3.heap.size < w9.heap.size := by omega
  have Y9_P00 := X9_P0 0 _ rfl
  have Y9_P01 := X9_P0 1 _ rfl
  have Y9_P02 := X9_P0 2 _ rfl
  have L9_P0 : w4.heap.size < w9.heap.size := by omega
  have Y9_G2A0 := X9_G2A 0 _ rfl
  have Y9_G2A1 := X9_G2A 1 _ rfl
  have Y9_G2A2 := X9_G2A 2 _ rfl
  have L9_G2A : w5.heap.size < w9.heap.size := by omega
  clear X8_A0 Y8_A00 Y8_A01 Y8_A02 L8_A0 X8_G1A Y8_G1A0 Y8_G1A1 Y8_G1A2 L8_G1A X8_P0 Y8_P00 Y8_P01 Y8_P02 L8_P0 X8_G2A Y8_G2A0 Y8_G2A1 Y8_G2A2 L8_G2A
  have hk1 : decide (((1 + n0c : Nat) : Int) < 0) = false := decide_eq_false (by omega)
  have hk2 := hk1
  simp only [Int.natCast_add, Int.natCast_one, Int.cast_ofNat_Int] at hk2
  go_wp2_with fail
  go_at_call 13
  refine (eqMatrix_any _ _ _ _ _ _ _ _ _ _ (by omega) (Own.fs og2Ac) (fs1Ac_.below DS1 (Nat.le_refl _)) (fun i hi => (v2Ac i hi).trans (v1Ac i hi).symm)).mono ?_
  rintro e w10 ⟨rfl, b10⟩
  have D10 : Below w9.heap.size w9 w10 := b10
  have s10 : w9.heap.size + 0 ≤ w10.heap.size := by have := b10.size; (try simp at this); omega
  have B10 : Below w.heap.size w w10 := B9.trans (D10.mono B9.size)
  have X10_A0 := X9_A0.below D10 (by omega)
  have X10_G1A := X9_G1A.below D10 (by omega)
  have X10_P0 := X9_P0.below D10 (by omega)
  have X10_G2A := X9_G2A.below D10 (by omega)
  replace og2Ac := og2Ac.kept (below_grew D10) (fun q hq => by cases hq)
  replace DS1 := DS1.trans (D10.mono DS1.size)
  have Y10_A00 := X10_A0 0 _ rfl
  have Y10_A01 := X10_A0 1 _ rfl
  have Y10_A02 := X10_A0 2 _ rfl
  have L10_A0 : w.heap.size < w10.heap.size := by omega
  have Y10_G1A0 := X10_G1A 0 _ rfl
  have Y10_G1A1 := X10_G1A 1 _ rfl
  have Y10_G1A2 := X10_G1A 2 _ rfl
  have L10_G1A : w3.heap.size < w10.heap.size := by omega
  have Y10_P00 := X10_P0 0 _ rfl
  have Y10_P01 := X10_P0 1 _ rfl
  have Y10_P02 := X10_P0 2 _ rfl
  have L10_P0 : w4.heap.size < w10.heap.size := by omega
  have Y10_G2A0 := X10_G2A 0 _ rfl
  have Y10_G2A1 := X10_G2A 1 _ rfl
  have Y10_G2A2 := X10_G2A 2 _ rfl
  have L10_G2A : w5.heap.size < w10.heap.size := by omega
  clear X9_A0 Y9_A00 Y9_A01 Y9_A02 L9_A0 X9_G1A Y9_G1A0 Y9_G1A1 Y9_G1A2 L9_G1A X9_P0 Y9_P00 Y9_P01 Y9_P02 L9_P0 X9_G2A Y9_G2A0 Y9_G2A1 Y9_G2A2 L9_G2A
  go_wp2_with (first | (refine wpList_widen rfl _ _ _ rfl _ rfl (by kernel_rfl) Try.underlying37 (by assumption) ?_; intro r m hr) | (go_at_call 18; refine (sameFloat_any _ _ (by assumption) (by assumption) _).mono ?_; rintro e w' ⟨rfl, q1, rfl⟩))
  generalize hd11 : World.drewN w10 _ = w11
  have b11 := below_of_drewN hd11.symm
  clear hd11
  have D11 : Below w10.heap.size w10 w11 := b11
  have s11 : w10.heap.size + 0 ≤ w11.heap.size := by have := b11.size; (try simp at this); omega
  have B11 : Below w.heap.size w w11 := B10.trans (D11.mono B10.size)
  have X11_A0 := X10_A0.below D11 (by omega)
  have X11_G1A := X10_G1A.below D11 (by omega)
  have X11_P0 := X10_P0.below D11 (by omega)
  have X11_G2A := X10_G2A.below D11 (by omega)
  replace og2Ac := og2Ac.kept (below_grew D11) (fun q hq => by cases hq)
  replace DS1 := DS1.trans (D11.mono DS1.size)
  have Y11_A00 := X11_A0 0 _ rfl
  have Y11_A01 := X11_A0 1 _ rfl
  have Y11_A02 := X11_A0 2 _ rfl
  have L11_A0 : w.heap.size < w11.heap.size := by omega
  have Y11_G1A0 := X11_G1A 0 _ rfl
  have Y11_G1A1 := X11_G1A 1 _ rfl
  have Y11_G1A2 := X11_G1A 2 _ rfl
  have L11_G1A : w3.heap.size < w11.heap.size := by omega
  have Y11_P00 := X11_P0 0 _ rfl
  have Y11_P01 := X11_P0 1 _ rfl
  have Y11_P02 := X11_P0 2 _ rfl
  have L11_P0 : w4.heap.size < w11.heap.size := by omega
  have Y11_G2A0 := X11_G2A 0 _ rfl
  have Y11_G2A1 := X11_G2A 1 _ rfl
  have Y11_G2A2 := X11_G2A 2 _ rfl
  have L11_G2A : w5.heap.size < w11.heap.size := by omega
  clear X10_A0 Y10_A00 Y10_A01 Y10_A02 L10_A0 X10_G1A Y10_G1A0 Y10_G1A1 Y10_G1A2 L10_G1A X10_P0 Y10_P00 Y10_P01 Y10_P02 L10_P0 X10_G2A Y10_G2A0 Y10_G2A1 Y10_G2A2 L10_G2A
  go_wp2_with fail
  go_at_call 14
  refine (markMatrix_more _ _ (_) (_) _ _ _ (1) _ _ (by omega) (by omega) og2Ac).mono ?_
  rintro e w12 ⟨rfl, omAc, row12⟩
  have gr12 := Marked.grew row12
  clear row12
  clear og2Ac
  have s12 : w11.heap.size ≤ w12.heap.size := gr12.size
  have B12 : Below w.heap.size w w12 := Below.over B11 gr12 (by omega) (by omega)
  have X12_A0 := X11_A0.over gr12 (by omega) (by omega)
  have X12_G1A := X11_G1A.over gr12 (by omega) (by omega)
  have X12_P0 := X11_P0.over gr12 (by omega) (by omega)
  have X12_G2A := X11_G2A.over gr12 (by omega) (by omega)
  replace DS1 := Below.over DS1 gr12 (by omega) (by omega)
  have Y12_A00 := X12_A0 0 _ rfl
  have Y12_A01 := X12_A0 1 _ rfl
  have Y12_A02 := X12_A0 2 _ rfl
  have L12_A0 : w.heap.size < w12.heap.size := by omega
  have Y12_G1A0 := X12_G1A 0 _ rfl
  have Y12_G1A1 := X12_G1A 1 _ rfl
  have Y12_G1A2 := X12_G1A 2 _ rfl
  have L12_G1A : w3.heap.size < w12.heap.size := by omega
  have Y12_P00 := X12_P0 0 _ rfl
  have Y12_P01 := X12_P0 1 _ rfl
  have Y12_P02 := X12_P0 2 _ rfl
  have L12_P0 : w4.heap.size < w12.heap.size := by omega
  have Y12_G2A0 := X12_G2A 0 _ rfl
  have Y12_G2A1 := X12_G2A 1 _ rfl
  have Y12_G2A2 := X12_G2A 2 _ rfl
  have L12_G2A : w5.heap.size < w12.heap.size := by omega
  clear X11_A0 Y11_A00 Y11_A01 Y11_A02 L11_A0 X11_G1A Y11_G1A0 Y11_G1A1 Y11_G1A2 L11_G1A X11_P0 Y11_P00 Y11_P01 Y11_P02 L11_P0 X11_G2A Y11_G2A0 Y11_G2A1 Y11_G2A2 L11_G2A
  have hq1 : decide (((1 + nAc : Nat) : Int) < 0) = false := decide_eq_false (by omega)
  have hq2 := hq1
  simp only [Int.natCast_add, Int.natCast_one, Int.cast_ofNat_Int] at hq2
  go_wp2_with fail
  go_at_call 15
  refine (heldMatrix_any _ _ _ _ _ (1) _ _ (by omega) (by omega) (Own.fs omAc) (fun i hi => rfl)).mono ?_
  rintro e w13 ⟨rfl, b13⟩
  have D13 : Below w12.heap.size w12 w13 := b13
  have s13 : w12.heap.size + 0 ≤ w13.heap.size := by have := b13.size; (try simp at this); omega
  have B13 : Below w.heap.size w w13 := B12.trans (D13.mono B12.size)
  have X13_A0 := X12_A0.below D13 (by omega)
  have X13_G1A := X12_G1A.below D13 (by omega)
  have X13_P0 := X12_P0.below D13 (by omega)
  have X13_G2A := X12_G2A.below D13 (by omega)
  replace omAc := omAc.kept (below_grew D13) (fun q hq => by cases hq)
  replace DS1 := DS1.trans (D13.mono DS1.size)
  have Y13_A00 := X13_A0 0 _ rfl
  have Y13_A01 := X13_A0 1 _ rfl
  have Y13_A02 := X13_A0 2 _ rfl
  have L13_A0 : w.heap.size < w13.heap.size := by omega
  have Y13_G1A0 := X13_G1A 0 _ rfl
  have Y13_G1A1 := X13_G1A 1 _ rfl
  have Y13_G1A2 := X13_G1A 2 _ rfl
  have L13_G1A : w3.heap.size < w13.heap.size := by omega
  have Y13_P00 := X13_P0 0 _ rfl
  have Y13_P01 := X13_P0 1 _ rfl
  have Y13_P02 := X13_P0 2 _ rfl
  have L13_P0 : w4.heap.size < w13.heap.size := by omega
  have Y13_G2A0 := X13_G2A 0 _ rfl
  have Y13_G2A1 := X13_G2A 1 _ rfl
  have Y13_G2A2 := X13_G2A 2 _ rfl
  have L13_G2A : w5.heap.size < w13.heap.size := by omega
  clear X12_A0 Y12_A00 Y12_A01 Y12_A02 L12_A0 X12_G1A Y12_G1A0 Y12_G1A1 Y12_G1A2 L12_G1A X12_P0 Y12_P00 Y12_P01 Y12_P02 L12_P0 X12_G2A Y12_G2A0 Y12_G2A1 Y12_G2A2 L12_G2A
  go_wp2_with fail
  go_at_call 11
  refine (toMatrix_any x0a x0b a0c n0c c0c Z0c _ hn0c (h0c.below B13 (Nat.le_refl _))).mono ?_
  rintro e w14 ⟨pz0c, qz0c, rfl, oz0c, b14⟩
  have D14 : Below w13.heap.size w13 w14 := b14
  have s14 : w13.heap.size + 0 ≤ w14.heap.size := by have := b14.size; (try simp at this); omega
  have B14 : Below w.heap.size w w14 := B13.trans (D14.mono B13.size)
  have X14_A0 := X13_A0.below D14 (by omega)
  have X14_G1A := X13_G1A.below D14 (by omega)
  have X14_P0 := X13_P0.below D14 (by omega)
  have X14_G2A := X13_G2A.below D14 (by omega)
  replace omAc := omAc.kept (below_grew D14) (fun q hq => by cases hq)
  replace DS1 := DS1.trans (D14.mono DS1.size)
  have Y14_A00 := X14_A0 0 _ rfl
  have Y14_A01 := X14_A0 1 _ rfl
  have Y14_A02 := X14_A0 2 _ rfl
  have L14_A0 : w.heap.size < w14.heap.size := by omega
  have Y14_G1A0 := X14_G1A 0 _ rfl
  have Y14_G1A1 := X14_G1A 1 _ rfl
  have Y14_G1A2 := X14_G1A 2 _ rfl
  have L14_G1A : w3.heap.size < w14.heap.size := by omega
  have Y14_P00 := X14_P0 0 _ rfl
  have Y14_P01 := X14_P0 1 _ rfl
  have Y14_P02 := X14_P0 2 _ rfl
  have L14_P0 : w4.heap.size < w14.heap.size := by omega
  have Y14_G2A0 := X14_G2A 0 _ rfl
  have Y14_G2A1 := X14_G2A 1 _ rfl
  have Y14_G2A2 := X14_G2A 2 _ rfl
  have L14_G2A : w5.heap.size < w14.heap.size := by omega
  clear X13_A0 Y13_A00 Y13_A01 Y13_A02 L13_A0 X13_G1A Y13_G1A0 Y13_G1A1 Y13_G1A2 L13_G1A X13_P0 Y13_P00 Y13_P01 Y13_P02 L13_P0 X13_G2A Y13_G2A0 Y13_G2A1 Y13_G2A2 L13_G2A
  go_wp2_with fail
  go_at_call 17
  refine (ki _ _ _ (Own.fs oz0c)).mono ?_
  rintro e w15 ⟨g3Ac, d3Ac, Y3Ac, r3Ba, rfl, og3Ac, v3Ac, v3Ba, b15⟩
  have D15 : Below w14.heap.size w14 w15 := b15
  have s15 : w14.heap.size + 0 ≤ w15.heap.size := by have := b15.size; (try simp at this); omega
  have B15 : Below w.heap.size w w15 := B14.trans (D15.mono B14.size)
  have X15_A0 := X14_A0.below D15 (by omega)
  have X15_G1A := X14_G1A.below D15 (by omega)
  have X15_P0 := X14_P0.below D15 (by omega)
  have X15_G2A := X14_G2A.below D15 (by omega)
  replace omAc := omAc.kept (below_grew D15) (fun q hq => by cases hq)
  replace oz0c := oz0c.kept (below_grew D15) (fun q hq => by cases hq)
  replace DS1 := DS1.trans (D15.mono DS1.size)
  have Y15_A00 := X15_A0 0 _ rfl
  have Y15_A01 := X15_A0 1 _ rfl
  have Y15_A02 := X15_A0 2 _ rfl
  have L15_A0 : w.heap.size < w15.heap.size := by omega
  have Y15_G1A0 := X15_G1A 0 _ rfl
  have Y15_G1A1 := X15_G1A 1 _ rfl
  have Y15_G1A2 := X15_G1A 2 _ rfl
  have L15_G1A : w3.heap.size < w15.heap.size := by omega
  have Y15_P00 := X15_P0 0 _ rfl
  have Y15_P01 := X15_P0 1 _ rfl
  have Y15_P02 := X15_P0 2 _ rfl
  have L15_P0 : w4.heap.size < w15.heap.size := by omega
  have Y15_G2A0 := X15_G2A 0 _ rfl
  have Y15_G2A1 := X15_G2A 1 _ rfl
  have Y15_G2A2 := X15_G2A 2 _ rfl
  have L15_G2A : w5.heap.size < w15.heap.size := by omega
  clear X14_A0 Y14_A00 Y14_A01 Y14_A02 L14_A0 X14_G1A Y14_G1A0 Y14_G1A1 Y14_G1A2 L14_G1A X14_P0 Y14_P00 Y14_P01 Y14_P02 L14_P0 X14_G2A Y14_G2A0 Y14_G2A1 Y14_G2A2 L14_G2A
  clear oz0c
  go_wp2_with fail
  go_at_call 13
  refine (eqMatrix_any _ _ _ _ _ _ _ _ _ _ (by omega) (FS.below (Own.fs og3Ac) (by repeat first | (with_reducible exact Below.refl _ _) | (with_reducible refine Below.setCell ?_ (by first | exact Nat.le_refl _ | (simp; done) | (simp; omega) | omega) _) | (with_reducible refine Below.alloc ?_ (by first | exact Nat.le_refl _ | (simp; done) | (simp; omega) | omega) _) | (with_reducible refine below_drewN ?_ _) | (with_reducible refine Below.drew ?_)) (Nat.le_refl _)) (FS.below (fs1Ac_.below DS1 (Nat.le_refl _)) (by repeat first | (with_reducible exact Below.refl _ _) | (with_reducible refine Below.setCell ?_ (by first | exact Nat.le_refl _ | (simp; done) | (simp; omega) | omega) _) | (with_reducible refine Below.alloc ?_ (by first | exact Nat.le_refl _ | (simp; done) | (simp; omega) | omega) _) | (with_reducible refine below_drewN ?_ _) | (with_reducible refine Below.drew ?_)) (Nat.le_refl _)) (fun i hi => (v3Ac i hi).trans (v1Ac i hi).symm)).mono ?_
  rintro e w16 ⟨rfl, b16⟩
  have D16 : Below w15.heap.size w15 w16 := Below.trans (by repeat first | (with_reducible exact Below.refl _ _) | (with_reducible refine Below.setCell ?_ (by first | exact Nat.le_refl _ | (simp; done) | (simp; omega) | omega) _) | (with_reducible refine Below.alloc ?_ (by first | exact Nat.le_refl _ | (simp; done) | (simp; omega) | omega) _) | (with_reducible refine below_drewN ?_ _) | (with_reducible refine Below.drew ?_)) (b16.mono (by simp; try omega))
  have s16 : w15.heap.size + 1 ≤ w16.heap.size := by have := b16.size; (try simp at this); omega
  have B16 : Below w.heap.size w w16 := B15.trans (D16.mono B15.size)
  have X16_A0 := X15_A0.below D16 (by omega)
  have X16_G1A := X15_G1A.below D16 (by omega)
  have X16_P0 := X15_P0.below D16 (by omega)
  have X16_G2A := X15_G2A.below D16 (by omega)
  have X16_G3A : BoxL w16 w15.heap.size [.int .i64 sAa, .int .i64 sAb, .slice g3Ac nAc d3Ac] := BoxL.below (BoxL.three (by simp [go_sem]) (by simp [go_sem]) (by simp [go_sem])) b16 (by first | (simp; done) | (simp; omega))
  replace omAc := omAc.kept (below_grew D16) (fun q hq => by cases hq)
  replace og3Ac := og3Ac.kept (below_grew D16) (fun q hq => by cases hq)
  replace DS1 := DS1.trans (D16.mono DS1.size)
  have Y16_A00 := X16_A0 0 _ rfl
  have Y16_A01 := X16_A0 1 _ rfl
  have Y16_A02 := X16_A0 2 _ rfl
  have L16_A0 : w.heap.size < w16.heap.size := by omega
  have Y16_G1A0 := X16_G1A 0 _ rfl
  have Y16_G1A1 := X16_G1A 1 _ rfl
  have Y16_G1A2 := X16_G1A 2 _ rfl
  have L16_G1A : w3.heap.size < w16.heap.size := by omega
  have Y16_P00 := X16_P0 0 _ rfl
  have Y16_P01 := X16_P0 1 _ rfl
  have Y16_P02 := X16_P0 2 _ rfl
  have L16_P0 : w4.heap.size < w16.heap.size := by omega
  have Y16_G2A0 := X16_G2A 0 _ rfl
  have Y16_G2A1 := X16_G2A 1 _ rfl
  have Y16_G2A2 := X16_G2A 2 _ rfl
  have L16_G2A : w5.heap.size < w16.heap.size := by omega
  have Y16_G3A0 := X16_G3A 0 _ rfl
  have Y16_G3A1 := X16_G3A 1 _ rfl
  have Y16_G3A2 := X16_G3A 2 _ rfl
  have L16_G3A : w15.heap.size < w16.heap.size := by omega
  clear X15_A0 Y15_A00 Y15_A01 Y15_A02 L15_A0 X15_G1A Y15_G1A0 Y15_G1A1 Y15_G1A2 L15_G1A X15_P0 Y15_P00 Y15_P01 Y15_P02 L15_P0 X15_G2A Y15_G2A0 Y15_G2A1 Y15_G2A2 L15_G2A
  go_wp2_with (first | (refine wpList_widen rfl _ _ _ rfl _ rfl (by kernel_rfl) Try.underlying37 (by assumption) ?_; intro r m hr) | (go_at_call 18; refine (sameFloat_any _ _ (by assumption) (by assumption) _).mono ?_; rintro e w' ⟨rfl, q1, rfl⟩))
  generalize hd17 : World.drewN w16 _ = w17
  have b17 := below_of_drewN hd17.symm
  clear hd17
  have D17 : Below w16.heap.size w16 w17 := b17
  have s17 : w16.heap.size + 0 ≤ w17.heap.size := by have := b17.size; (try simp at this); omega
  have B17 : Below w.heap.size w w17 := B16.trans (D17.mono B16.size)
  have X17_A0 := X16_A0.below D17 (by omega)
  have X17_G1A := X16_G1A.below D17 (by omega)
  have X17_P0 := X16_P0.below D17 (by omega)
  have X17_G2A := X16_G2A.below D17 (by omega)
  have X17_G3A := X16_G3A.below D17 (by omega)
  replace omAc := omAc.kept (below_grew D17) (fun q hq => by cases hq)
  replace og3Ac := og3Ac.kept (below_grew D17) (fun q hq => by cases hq)
  replace DS1 := DS1.trans (D17.mono DS1.size)
  have Y17_A00 := X17_A0 0 _ rfl
  have Y17_A01 := X17_A0 1 _ rfl
  have Y17_A02 := X17_A0 2 _ rfl
  have L17_A0 : w.heap.size < w17.heap.size := by omega
  have Y17_G1A0 := X17_G1A 0 _ rfl
  have Y17_G1A1 := X17_G1A 1 _ rfl
  have Y17_G1A2 := X17_G1A 2 _ rfl
  have L17_G1A : w3.heap.size < w17.heap.size := by omega
  have Y17_P00 := X17_P0 0 _ rfl
  have Y17_P01 := X17_P0 1 _ rfl
  have Y17_P02 := X17_P0 2 _ rfl
  have L17_P0 : w4.heap.size < w17.heap.size := by omega
  have Y17_G2A0 := X17_G2A 0 _ rfl
  have Y17_G2A1 := X17_G2A 1 _ rfl
  have Y17_G2A2 := X17_G2A 2 _ rfl
  have L17_G2A : w5.heap.size < w17.heap.size := by omega
  have Y17_G3A0 := X17_G3A 0 _ rfl
  have Y17_G3A1 := X17_G3A 1 _ rfl
  have Y17_G3A2 := X17_G3A 2 _ rfl
  have L17_G3A : w15.heap.size < w17.heap.size := by omega
  clear X16_A0 Y16_A00 Y16_A01 Y16_A02 L16_A0 X16_G1A Y16_G1A0 Y16_G1A1 Y16_G1A2 L16_G1A X16_P0 Y16_P00 Y16_P01 Y16_P02 L16_P0 X16_G2A Y16_G2A0 Y16_G2A1 Y16_G2A2 L16_G2A X16_G3A Y16_G3A0 Y16_G3A1 Y16_G3A2 L16_G3A
  go_wp2_with fail
  go_at_call 15
  refine (heldMatrix_any _ _ _ _ _ (1) _ _ (by omega) (by omega) (Own.fs omAc) (fun i hi => rfl)).mono ?_
  rintro e w18 ⟨rfl, b18⟩
  have D18 : Below w17.heap.size w17 w18 := b18
  have s18 : w17.heap.size + 0 ≤ w18.heap.size := by have := b18.size; (try simp at this); omega
  have B18 : Below w.heap.size w w18 := B17.trans (D18.mono B17.size)
  have X18_A0 := X17_A0.below D18 (by omega)
  have X18_G1A := X17_G1A.below D18 (by omega)
  have X18_P0 := X17_P0.below D18 (by omega)
  have X18_G2A := X17_G2A.below D18 (by omega)
  have X18_G3A := X17_G3A.below D18 (by omega)
  replace omAc := omAc.kept (below_grew D18) (fun q hq => by cases hq)
  replace DS1 := DS1.trans (D18.mono DS1.size)
  have Y18_A00 := X18_A0 0 _ rfl
  have Y18_A01 := X18_A0 1 _ rfl
  have Y18_A02 := X18_A0 2 _ rfl
  have L18_A0 : w.heap.size < w18.heap.size := by omega
  have Y18_G1A0 := X18_G1A 0 _ rfl
  have Y18_G1A1 := X18_G1A 1 _ rfl
  have Y18_G1A2 := X18_G1A 2 _ rfl
  have L18_G1A : w3.heap.size < w18.heap.size := by omega
  have Y18_P00 := X18_P0 0 _ rfl
  have Y18_P01 := X18_P0 1 _ rfl
  have Y18_P02 := X18_P0 2 _ rfl
  have L18_P0 : w4.heap.size < w18.heap.size := by omega
  have Y18_G2A0 := X18_G2A 0 _ rfl
  have Y18_G2A1 := X18_G2A 1 _ rfl
  have Y18_G2A2 := X18_G2A 2 _ rfl
  have L18_G2A : w5.heap.size < w18.heap.size := by omega
  have Y18_G3A0 := X18_G3A 0 _ rfl
  have Y18_G3A1 := X18_G3A 1 _ rfl
  have Y18_G3A2 := X18_G3A 2 _ rfl
  have L18_G3A : w15.heap.size < w18.heap.size := by omega
  clear X17_A0 Y17_A00 Y17_A01 Y17_A02 L17_A0 X17_G1A Y17_G1A0 Y17_G1A1 Y17_G1A2 L17_G1A X17_P0 Y17_P00 Y17_P01 Y17_P02 L17_P0 X17_G2A Y17_G2A0 Y17_G2A1 Y17_G2A2 L17_G2A X17_G3A Y17_G3A0 Y17_G3A1 Y17_G3A2 L17_G3A
  go_wp2_with fail
  go_ret
  exact ⟨rfl, B18⟩
end Go.Proofs.Ytmjlhmbnaifhaaa
