/- Helper: the walk of the law FnExactKroneckerMatrix. Conditions: none. -/
import Derived.Test.YtmddhhmgfhljiaaKronKey
import Derived.Test.YtmddhhmgfhljiaaMatCopy
import Derived.Test.YtmddhhmgfhljiaaKeys
import Derived.Test.YtmddhhmgfhljiaaTwo
import Derived.Test.YtmddhhmgfhljiaaMarkMore
import Derived.Deep.RegionHeld3
set_option linter.unusedVariables false
set_option linter.unusedSimpArgs false
namespace Go.Proofs.Ytmddhhmgfhljiaa
open Go.RowKit

set_option maxRecDepth 100000 in
set_option maxHeartbeats 4000000 in
theorem law_FnExactKroneckerMatrix (w : World) (R0 C0 : Int) (wR0 : (Lit.int .i64 R0).wf = true) (wC0 : (Lit.int .i64 C0).wf = true) (a0 : Option Addr) (n0 c0 : Nat) (Z0 : Nat → Nat) (h0 : FS .f32 w a0 n0 c0 Z0) (R1 C1 : Int) (wR1 : (Lit.int .i64 R1).wf = true) (wC1 : (Lit.int .i64 C1).wf = true) (a1 : Option Addr) (n1 c1 : Nat) (Z1 : Nat → Nat) (h1 : FS .f32 w a1 n1 c1 Z1) :
    Calls Try.prog 8 #[.agg #[.int .i64 R0, .int .i64 C0, .slice a0 n0 c0], .agg #[.int .i64 R1, .int .i64 C1, .slice a1 n1 c1]] w fun e w' => e = .returned (.bool true) ∧ Below w.heap.size w w' := by
  have hm0 : n0 ≤ 9223372036854775807 := by have hh1 := h0.1; have hh2 := h0.2.1; unfold maxLen at hh2; omega
  have hm1 : n1 ≤ 9223372036854775807 := by have hh1 := h1.1; have hh2 := h1.2.1; unfold maxLen at hh2; omega
  by_cases hl0 : n0 ≤ 1048576
  case neg =>
    go_enter Try.func8, Try.ntmps8
    go_wp2_with fail
    go_at_call 21
    refine (szMatrix_no _ _ _ _ _ (1048576) _ (by omega) hm0 (by omega)).mono ?_
    rintro e w1 ⟨rfl, b1⟩
    have D1 : Below w.heap.size w w1 := Below.trans (by repeat first | (with_reducible exact Below.refl _ _) | (with_reducible refine Below.setCell ?_ (by first | exact Nat.le_refl _ | (simp; done) | (simp; omega) | omega) _) | (with_reducible refine Below.alloc ?_ (by first | exact Nat.le_refl _ | (simp; done) | (simp; omega) | omega) _) | (with_reducible refine below_drewN ?_ _) | (with_reducible refine Below.drew ?_)) (b1.mono (by simp; try omega))
    have s1 : w.heap.size + 2 ≤ w1.heap.size := by have := b1.size; (try simp at this); omega
    have B1 : Below w.heap.size w w1 := D1
    have X1_A0 : Box w1 w.heap.size R0 C0 a0 n0 c0 := ((Box.new _ _ _ _ _ _ _).below (Below.alloc (Below.refl _ _) (Nat.le_refl _) _) (by simp)).below b1 (by simp; omega)
    have X1_A1 : Box w1 (w.heap.size + 1) R1 C1 a1 n1 c1 := by have hX := (Box.new _ _ _ _ _ _ _).below b1 (by simp); simpa using hX
    have Y1_A0 := X1_A0
    obtain ⟨Y1_A00, Y1_A01, Y1_A02⟩ := Y1_A0
    have L1_A0 : w.heap.size < w1.heap.size := by omega
    have Y1_A1 := X1_A1
    obtain ⟨Y1_A10, Y1_A11, Y1_A12⟩ := Y1_A1
    have L1_A1 : (w.heap.size + 1) < w1.heap.size := by omega
    go_wp2_with fail
    go_ret
    exact ⟨rfl, B1⟩
  by_cases hl1 : n1 ≤ 1048576 - n0
  case neg =>
    go_enter Try.func8, Try.ntmps8
    go_wp2_with fail
    go_at_call 21
    refine (szMatrix_yes _ _ _ _ _ (1048576) _ (by omega) hl0).mono ?_
    rintro e w1 ⟨rfl, b1⟩
    have D1 : Below w.heap.size w w1 := Below.trans (by repeat first | (with_reducible exact Below.refl _ _) | (with_reducible refine Below.setCell ?_ (by first | exact Nat.le_refl _ | (simp; done) | (simp; omega) | omega) _) | (with_reducible refine Below.alloc ?_ (by first | exact Nat.le_refl _ | (simp; done) | (simp; omega) | omega) _) | (with_reducible refine below_drewN ?_ _) | (with_reducible refine Below.drew ?_)) (b1.mono (by simp; try omega))
    have s1 : w.heap.size + 2 ≤ w1.heap.size := by have := b1.size; (try simp at this); omega
    have B1 : Below w.heap.size w w1 := D1
    have X1_A0 : Box w1 w.heap.size R0 C0 a0 n0 c0 := ((Box.new _ _ _ _ _ _ _).below (Below.alloc (Below.refl _ _) (Nat.le_refl _) _) (by simp)).below b1 (by simp; omega)
    have X1_A1 : Box w1 (w.heap.size + 1) R1 C1 a1 n1 c1 := by have hX := (Box.new _ _ _ _ _ _ _).below b1 (by simp); simpa using hX
    have Y1_A0 := X1_A0
    obtain ⟨Y1_A00, Y1_A01, Y1_A02⟩ := Y1_A0
    have L1_A0 : w.heap.size < w1.heap.size := by omega
    have Y1_A1 := X1_A1
    obtain ⟨Y1_A10, Y1_A11, Y1_A12⟩ := Y1_A1
    have L1_A1 : (w.heap.size + 1) < w1.heap.size := by omega
    have hd0_ : decide (((1048576 - n0 : Nat) : Int) < 0) = false := decide_eq_false (by omega)
    go_wp2_with fail
    go_at_call 21
    refine (szMatrix_no _ _ _ _ _ (1048576 - n0) _ (by omega) hm1 (by omega)).mono ?_
    rintro e w2 ⟨rfl, b2⟩
    have D2 : Below w1.heap.size w1 w2 := b2
    have s2 : w1.heap.size + 0 ≤ w2.heap.size := by have := b2.size; (try simp at this); omega
    have B2 : Below w.heap.size w w2 := B1.trans (D2.mono B1.size)
    have X2_A0 := X1_A0.below D2 (by omega)
    have X2_A1 := X1_A1.below D2 (by omega)
    have Y2_A0 := X2_A0
    obtain ⟨Y2_A00, Y2_A01, Y2_A02⟩ := Y2_A0
    have L2_A0 : w.heap.size < w2.heap.size := by omega
    have Y2_A1 := X2_A1
    obtain ⟨Y2_A10, Y2_A11, Y2_A12⟩ := Y2_A1
    have L2_A1 : (w.heap.size + 1) < w2.heap.size := by omega
    clear X1_A0 Y1_A00 Y1_A01 Y1_A02 L1_A0 X1_A1 Y1_A10 Y1_A11 Y1_A12 L1_A1
    go_wp2_with fail
    go_ret
    exact ⟨rfl, B2⟩
  have hn0 : n0 ≤ 1048576 := by omega
  have hn1 : n1 ≤ 1048576 := by omega
  obtain ⟨ok, Ra, Ca, na, Va, hnra, ks, ki⟩ := keyKroneckerMatrix R0 C0 n0 Z0 R1 C1 n1 Z1 hn0 hn1 
  go_enter Try.func8, Try.ntmps8
  go_wp2_with fail
  go_at_call 21
  refine (szMatrix_yes _ _ _ _ _ (1048576) _ (by omega) hl0).mono ?_
  rintro e w1 ⟨rfl, b1⟩
  have D1 : Below w.heap.size w w1 := Below.trans (by repeat first | (with_reducible exact Below.refl _ _) | (with_reducible refine Below.setCell ?_ (by first | exact Nat.le_refl _ | (simp; done) | (simp; omega) | omega) _) | (with_reducible refine Below.alloc ?_ (by first | exact Nat.le_refl _ | (simp; done) | (simp; omega) | omega) _) | (with_reducible refine below_drewN ?_ _) | (with_reducible refine Below.drew ?_)) (b1.mono (by simp; try omega))
  have s1 : w.heap.size + 2 ≤ w1.heap.size := by have := b1.size; (try simp at this); omega
  have B1 : Below w.heap.size w w1 := D1
  have X1_A0 : Box w1 w.heap.size R0 C0 a0 n0 c0 := ((Box.new _ _ _ _ _ _ _).below (Below.alloc (Below.refl _ _) (Nat.le_refl _) _) (by simp)).below b1 (by simp; omega)
  have X1_A1 : Box w1 (w.heap.size + 1) R1 C1 a1 n1 c1 := by have hX := (Box.new _ _ _ _ _ _ _).below b1 (by simp); simpa using hX
  have Y1_A0 := X1_A0
  obtain ⟨Y1_A00, Y1_A01, Y1_A02⟩ := Y1_A0
  have L1_A0 : w.heap.size < w1.heap.size := by omega
  have Y1_A1 := X1_A1
  obtain ⟨Y1_A10, Y1_A11, Y1_A12⟩ := Y1_A1
  have L1_A1 : (w.heap.size + 1) < w1.heap.size := by omega
  have hd0_ : decide (((1048576 - n0 : Nat) : Int) < 0) = false := decide_eq_false (by omega)
  go_wp2_with fail
  go_at_call 21
  refine (szMatrix_yes _ _ _ _ _ (1048576 - n0) _ (by omega) hl1).mono ?_
  rintro e w2 ⟨rfl, b2⟩
  have D2 : Below w1.heap.size w1 w2 := b2
  have s2 : w1.heap.size + 0 ≤ w2.heap.size := by have := b2.size; (try simp at this); omega
  have B2 : Below w.heap.size w w2 := B1.trans (D2.mono B1.size)
  have X2_A0 := X1_A0.below D2 (by omega)
  have X2_A1 := X1_A1.below D2 (by omega)
  have Y2_A0 := X2_A0
  obtain ⟨Y2_A00, Y2_A01, Y2_A02⟩ := Y2_A0
  have L2_A0 : w.heap.size < w2.heap.size := by omega
  have Y2_A1 := X2_A1
  obtain ⟨Y2_A10, Y2_A11, Y2_A12⟩ := Y2_A1
  have L2_A1 : (w.heap.size + 1) < w2.heap.size := by omega
  clear X1_A0 Y1_A00 Y1_A01 Y1_A02 L1_A0 X1_A1 Y1_A10 Y1_A11 Y1_A12 L1_A1
  have hd1_ : decide (((1048576 - n0 - n1 : Nat) : Int) < 0) = false := decide_eq_false (by omega)
  go_wp2_with fail
  go_region_held3 (fun w' => w'.cell? ⟨w.heap.size, 0, none⟩ = some (.int .i64 R0) ∧ w'.cell? ⟨w.heap.size, 1, none⟩ = some (.int .i64 C0) ∧ w'.cell? ⟨w.heap.size, 2, none⟩ = some (.slice a0 n0 c0) ∧ w'.cell? ⟨(w.heap.size + 1), 0, none⟩ = some (.int .i64 R1) ∧ w'.cell? ⟨(w.heap.size + 1), 1, none⟩ = some (.int .i64 C1) ∧ w'.cell? ⟨(w.heap.size + 1), 2, none⟩ = some (.slice a1 n1 c1) ∧ Below w2.heap.size w2 w')
    (first | exact ⟨Y2_A00, Y2_A01, Y2_A02, Y2_A10, Y2_A11, Y2_A12, (by first | exact (Below.refl _ _).drew | exact (below_drewN (Below.refl _ _) _).drew)⟩ | exact held2 (by assumption) (by assumption) (by omega) (by omega) | exact held2 (w0 := w2) (W := w2) ⟨Y2_A00, Y2_A01, Y2_A02, Y2_A10, Y2_A11, Y2_A12, Below.refl _ _⟩ (by go_split_ands; repeat (first | assumption | (with_reducible exact Below.refl _ _) | exact Below.remade (by assumption) (by omega) | (with_reducible refine Below.setCell ?_ (by first | exact Nat.le_refl _ | exact Below.size (by assumption) | (simp; done) | (simp; omega) | omega) _) | (with_reducible refine Below.alloc ?_ (by first | exact Nat.le_refl _ | exact Below.size (by assumption) | (simp; done) | (simp; omega) | omega) _) | (with_reducible refine below_drewN ?_ _) | (with_reducible refine Below.drew ?_))) (by omega) (by omega))
    (first
      | (go_at_call 23; (with_reducible refine (toMatrix_any R0 C0 a0 n0 c0 Z0 _ hn0 ?_).mono ?_); exact (h0.below (B2.trans (Below.mono (by go_split_ands; assumption) B2.size)) (Nat.le_refl _)); rintro e wt0 ⟨pt0, qt0, rfl, ot0, bt0⟩; have st0 := bt0.size; (try simp at st0); (first | (have zb0 := ZB.new bt0) | (have zb0 := ZB.newD bt0) | (have zb0 := zb_on zbNone bt0) | skip))
      | (go_at_call 23; (with_reducible refine (toMatrix_any R1 C1 a1 n1 c1 Z1 _ hn1 ?_).mono ?_); exact (h1.below (B2.trans (Below.mono (by go_split_ands; assumption) B2.size)) (Nat.le_refl _)); rintro e wt1 ⟨pt1, qt1, rfl, ot1, bt1⟩; have st1 := bt1.size; (try simp at st1); (first | (have zb1 := ZB.new bt1) | (have zb1 := ZB.newD bt1) | (have zb1 := zb_on zb0 bt1) | skip))
      | (go_at_call 33; refine (ks _ _ _ _ _ (by first | exact Own.fs ot0 | exact (Own.fs ot0).below bt1 (Nat.le_refl _) | exact FS.made ((Own.fs ot0).below bt1 (Nat.le_refl _)) | exact FS.made (Own.fs ot0) | exact (FS.made (Own.fs ot0)).below bt1 (Nat.le_refl _)) (by first | exact Own.fs ot1 | exact (Own.fs ot1).below bt0 (Nat.le_refl _) | exact FS.made ((Own.fs ot1).below bt0 (Nat.le_refl _)) | exact FS.made (Own.fs ot1) | exact (FS.made (Own.fs ot1)).below bt0 (Nat.le_refl _))).mono ?_; rintro e wc1 ⟨g1a, d1a, Y1a, rfl, fg1a, v1a, bb⟩; have st2 := bb.size; (try simp at st2); (first | (have zb2 := ZB.new bb) | (have zb2 := zb_on zb1 bb) | skip); (try obtain ⟨q1, hq, zb⟩ := zb2); (try (have zo := zb; obtain ⟨⟨zz0, zz1, zz2⟩, zi, zl⟩ := zo; (try rw [hq] at zz0 zz1 zz2 zi zl)))))
  all_goals
    first
      | (rw [← hq]; have hG := zb.filled Ra Ca g1a na d1a; have hF := fg1a.filled zb Ra Ca g1a na d1a; have hK : Below w2.heap.size w2 (((wc1.setCell ⟨q1, 0, none⟩ (.int .i64 Ra)).setCell ⟨q1, 1, none⟩ (.int .i64 Ca)).setCell ⟨q1, 2, none⟩ (.slice g1a na d1a)) := (by rw [hq]; go_split_ands; assumption); have hL : q1 < (((wc1.setCell ⟨q1, 0, none⟩ (.int .i64 Ra)).setCell ⟨q1, 1, none⟩ (.int .i64 Ca)).setCell ⟨q1, 2, none⟩ (.slice g1a na d1a)).heap.size := (by simpa [World.setCell] using zb.2.2); clear hq zz0 zz1 zz2 zi zl zb; generalize (((wc1.setCell ⟨q1, 0, none⟩ (.int .i64 Ra)).setCell ⟨q1, 1, none⟩ (.int .i64 Ca)).setCell ⟨q1, 2, none⟩ (.slice g1a na d1a)) = w3 at hG hF hK hL ⊢)
      | (have hG := Box.new wc1 31 Ra Ca g1a na d1a; have hF := FS.made (o := .cells #[.int .i64 Ra, .int .i64 Ca, .slice g1a na d1a] 31) fg1a; have hK : Below w2.heap.size w2 (wc1.alloc (.cells #[.int .i64 Ra, .int .i64 Ca, .slice g1a na d1a] 31)) := (by go_split_ands; assumption); have hL : wc1.heap.size < (wc1.alloc (.cells #[.int .i64 Ra, .int .i64 Ca, .slice g1a na d1a] 31)).heap.size := (by simp); generalize (wc1.alloc (.cells #[.int .i64 Ra, .int .i64 Ca, .slice g1a na d1a] 31)) = w3 at hG hF hK hL ⊢; generalize wc1.heap.size = q1 at hG hL ⊢)
    have b3 : Below w2.heap.size w2 w3 := hK
    clear fg1a
    clear ot0 bt0 ot1 bt1 bb
    have D3 : Below w2.heap.size w2 w3 := b3
    have s3 : w2.heap.size + 0 ≤ w3.heap.size := by have := b3.size; (try simp at this); omega
    have B3 : Below w.heap.size w w3 := B2.trans (D3.mono B2.size)
    have X3_A0 := X2_A0.below D3 (by omega)
    have X3_A1 := X2_A1.below D3 (by omega)
    have Y3_A0 := X3_A0
    obtain ⟨Y3_A00, Y3_A01, Y3_A02⟩ := Y3_A0
    have L3_A0 : w.heap.size < w3.heap.size := by omega
    have Y3_A1 := X3_A1
    obtain ⟨Y3_A10, Y3_A11, Y3_A12⟩ := Y3_A1
    have L3_A1 : (w.heap.size + 1) < w3.heap.size := by omega
    clear X2_A0 Y2_A00 Y2_A01 Y2_A02 L2_A0 X2_A1 Y2_A10 Y2_A11 Y2_A12 L2_A1
    have fs1a_ := hF
    have X3_G1a := hG
    have Y3_G1a := hG
    obtain ⟨Y3_G1a0, Y3_G1a1, Y3_G1a2⟩ := Y3_G1a
    have L3_G1a := hL
    have lq1 := hL
    clear hF hG hK hL
    have DS1 := Below.refl w3.heap.size w3
    go_wp2_with fail
    go_at_call 23
    refine (toMatrix_any R0 C0 a0 n0 c0 Z0 _ hn0 (h0.below B3 (Nat.le_refl _))).mono ?_
    rintro e w4 ⟨px0, qx0, rfl, ox0, b4⟩
    have D4 : Below w3.heap.size w3 w4 := b4
    have s4 : w3.heap.size + 0 ≤ w4.heap.size := by have := b4.size; (try simp at this); omega
    have B4 : Below w.heap.size w w4 := B3.trans (D4.mono B3.size)
    have X4_A0 := X3_A0.below D4 (by omega)
    have X4_A1 := X3_A1.below D4 (by omega)
    have X4_G1a := X3_G1a.below D4 (by omega)
    replace DS1 := DS1.trans (D4.mono DS1.size)
    have Y4_A0 := X4_A0
    obtain ⟨Y4_A00, Y4_A01, Y4_A02⟩ := Y4_A0
    have L4_A0 : w.heap.size < w4.heap.size := by omega
    have Y4_A1 := X4_A1
    obtain ⟨Y4_A10, Y4_A11, Y4_A12⟩ := Y4_A1
    have L4_A1 : (w.heap.size + 1) < w4.heap.size := by omega
    have Y4_G1a := X4_G1a
    obtain ⟨Y4_G1a0, Y4_G1a1, Y4_G1a2⟩ := Y4_G1a
    have L4_G1a : q1 < w4.heap.size := by omega
    clear X3_A0 Y3_A00 Y3_A01 Y3_A02 L3_A0 X3_A1 Y3_A10 Y3_A11 Y3_A12 L3_A1 X3_G1a Y3_G1a0 Y3_G1a1 Y3_G1a2 L3_G1a
    go_wp2_with fail
    go_at_call 23
    refine (toMatrix_any R1 C1 a1 n1 c1 Z1 _ hn1 (FS.below (h1.below B4 (Nat.le_refl _)) (by repeat first | (with_reducible exact Below.refl _ _) | (with_reducible refine Below.setCell ?_ (by first | exact Nat.le_refl _ | (simp; done) | (simp; omega) | omega) _) | (with_reducible refine Below.alloc ?_ (by first | exact Nat.le_refl _ | (simp; done) | (simp; omega) | omega) _) | (with_reducible refine below_drewN ?_ _) | (with_reducible refine Below.drew ?_)) (Nat.le_refl _))).mono ?_
    rintro e w5 ⟨px1, qx1, rfl, ox1, b5⟩
    replace ox1 := Own.mono (B' := (w4.heap.size + 1)) ox1 (by simp) (Nat.le_refl _) (Nat.le_refl _)
    have D5 : Below w4.heap.size w4 w5 := Below.trans (by repeat first | (with_reducible exact Below.refl _ _) | (with_reducible refine Below.setCell ?_ (by first | exact Nat.le_refl _ | (simp; done) | (simp; omega) | omega) _) | (with_reducible refine Below.alloc ?_ (by first | exact Nat.le_refl _ | (simp; done) | (simp; omega) | omega) _) | (with_reducible refine below_drewN ?_ _) | (with_reducible refine Below.drew ?_)) (b5.mono (by simp; try omega))
    have s5 : w4.heap.size + 1 ≤ w5.heap.size := by have := b5.size; (try simp at this); omega
    have B5 : Below w.heap.size w w5 := B4.trans (D5.mono B4.size)
    have X5_A0 := X4_A0.below D5 (by omega)
    have X5_A1 := X4_A1.below D5 (by omega)
    have X5_G1a := X4_G1a.below D5 (by omega)
    have X5_P0 := (Box.new _ _ _ _ _ _ _).below b5 (by simp)
    replace ox0 := ox0.kept (below_grew D5) (fun q hq => by cases hq)
    replace DS1 := DS1.trans (D5.mono DS1.size)
    have Y5_A0 := X5_A0
    obtain ⟨Y5_A00, Y5_A01, Y5_A02⟩ := Y5_A0
    have L5_A0 : w.heap.size < w5.heap.size := by omega
    have Y5_A1 := X5_A1
    obtain ⟨Y5_A10, Y5_A11, Y5_A12⟩ := Y5_A1
    have L5_A1 : (w.heap.size + 1) < w5.heap.size := by omega
    have Y5_G1a := X5_G1a
    obtain ⟨Y5_G1a0, Y5_G1a1, Y5_G1a2⟩ := Y5_G1a
    have L5_G1a : q1 < w5.heap.size := by omega
    have Y5_P0 := X5_P0
    obtain ⟨Y5_P00, Y5_P01, Y5_P02⟩ := Y5_P0
    have L5_P0 : w4.heap.size < w5.heap.size := by omega
    clear X4_A0 Y4_A00 Y4_A01 Y4_A02 L4_A0 X4_A1 Y4_A10 Y4_A11 Y4_A12 L4_A1 X4_G1a Y4_G1a0 Y4_G1a1 Y4_G1a2 L4_G1a
    go_wp2_with fail
    go_at_call 34
    refine (ki _ _ _ _ _ (FS.below (Own.fs ox0) (by repeat first | (with_reducible exact Below.refl _ _) | (with_reducible refine Below.setCell ?_ (by first | exact Nat.le_refl _ | (simp; done) | (simp; omega) | omega) _) | (with_reducible refine Below.alloc ?_ (by first | exact Nat.le_refl _ | (simp; done) | (simp; omega) | omega) _) | (with_reducible refine below_drewN ?_ _) | (with_reducible refine Below.drew ?_)) (Nat.le_refl _)) (FS.below (Own.fs ox1) (by repeat first | (with_reducible exact Below.refl _ _) | (with_reducible refine Below.setCell ?_ (by first | exact Nat.le_refl _ | (simp; done) | (simp; omega) | omega) _) | (with_reducible refine Below.alloc ?_ (by first | exact Nat.le_refl _ | (simp; done) | (simp; omega) | omega) _) | (with_reducible refine below_drewN ?_ _) | (with_reducible refine Below.drew ?_)) (Nat.le_refl _))).mono ?_
    rintro e w6 ⟨g2a, d2a, Y2a, rfl, og2a, v2a, b6⟩
    replace og2a := Own.mono (B' := (w5.heap.size + 1)) og2a (by simp) (Nat.le_refl _) (Nat.le_refl _)
    have D6 : Below w5.heap.size w5 w6 := Below.trans (by repeat first | (with_reducible exact Below.refl _ _) | (with_reducible refine Below.setCell ?_ (by first | exact Nat.le_refl _ | (simp; done) | (simp; omega) | omega) _) | (with_reducible refine Below.alloc ?_ (by first | exact Nat.le_refl _ | (simp; done) | (simp; omega) | omega) _) | (with_reducible refine below_drewN ?_ _) | (with_reducible refine Below.drew ?_)) (b6.mono (by simp; try omega))
    have s6 : w5.heap.size + 1 ≤ w6.heap.size := by have := b6.size; (try simp at this); omega
    have B6 : Below w.heap.size w w6 := B5.trans (D6.mono B5.size)
    have X6_A0 := X5_A0.below D6 (by omega)
    have X6_A1 := X5_A1.below D6 (by omega)
    have X6_G1a := X5_G1a.below D6 (by omega)
    have X6_P0 := X5_P0.below D6 (by omega)
    have X6_P1 := (Box.new _ _ _ _ _ _ _).below b6 (by simp)
    replace ox0 := ox0.kept (below_grew D6) (fun q hq => by cases hq)
    replace ox1 := ox1.kept (below_grew D6) (fun q hq => by cases hq)
    replace DS1 := DS1.trans (D6.mono DS1.size)
    have Y6_A0 := X6_A0
    obtain ⟨Y6_A00, Y6_A01, Y6_A02⟩ := Y6_A0
    have L6_A0 : w.heap.size < w6.heap.size := by omega
    have Y6_A1 := X6_A1
    obtain ⟨Y6_A10, Y6_A11, Y6_A12⟩ := Y6_A1
    have L6_A1 : (w.heap.size + 1) < w6.heap.size := by omega
    have Y6_G1a := X6_G1a
    obtain ⟨Y6_G1a0, Y6_G1a1, Y6_G1a2⟩ := Y6_G1a
    have L6_G1a : q1 < w6.heap.size := by omega
    have Y6_P0 := X6_P0
    obtain ⟨Y6_P00, Y6_P01, Y6_P02⟩ := Y6_P0
    have L6_P0 : w4.heap.size < w6.heap.size := by omega
    have Y6_P1 := X6_P1
    obtain ⟨Y6_P10, Y6_P11, Y6_P12⟩ := Y6_P1
    have L6_P1 : w5.heap.size < w6.heap.size := by omega
    clear X5_A0 Y5_A00 Y5_A01 Y5_A02 L5_A0 X5_A1 Y5_A10 Y5_A11 Y5_A12 L5_A1 X5_G1a Y5_G1a0 Y5_G1a1 Y5_G1a2 L5_G1a X5_P0 Y5_P00 Y5_P01 Y5_P02 L5_P0
    go_wp2_with fail
    go_at_call 26
    refine (eqMatrix_any Ra Ca _ _ na _ _ Y2a Y1a _ (by omega) (FS.below (Own.fs og2a) (by repeat first | (with_reducible exact Below.refl _ _) | (with_reducible refine Below.setCell ?_ (by first | exact Nat.le_refl _ | (simp; done) | (simp; omega) | omega) _) | (with_reducible refine Below.alloc ?_ (by first | exact Nat.le_refl _ | (simp; done) | (simp; omega) | omega) _) | (with_reducible refine below_drewN ?_ _) | (with_reducible refine Below.drew ?_)) (Nat.le_refl _)) (FS.below (fs1a_.below DS1 (Nat.le_refl _)) (by repeat first | (with_reducible exact Below.refl _ _) | (with_reducible refine Below.setCell ?_ (by first | exact Nat.le_refl _ | (simp; done) | (simp; omega) | omega) _) | (with_reducible refine Below.alloc ?_ (by first | exact Nat.le_refl _ | (simp; done) | (simp; omega) | omega) _) | (with_reducible refine below_drewN ?_ _) | (with_reducible refine Below.drew ?_)) (Nat.le_refl _)) (fun i hi => (v2a i hi).trans (v1a i hi).symm)).mono ?_
    rintro e w7 ⟨rfl, b7⟩
    have D7 : Below w6.heap.size w6 w7 := Below.trans (by repeat first | (with_reducible exact Below.refl _ _) | (with_reducible refine Below.setCell ?_ (by first | exact Nat.le_refl _ | (simp; done) | (simp; omega) | omega) _) | (with_reducible refine Below.alloc ?_ (by first | exact Nat.le_refl _ | (simp; done) | (simp; omega) | omega) _) | (with_reducible refine below_drewN ?_ _) | (with_reducible refine Below.drew ?_)) (b7.mono (by simp; try omega))
    have s7 : w6.heap.size + 1 ≤ w7.heap.size := by have := b7.size; (try simp at this); omega
    have B7 : Below w.heap.size w w7 := B6.trans (D7.mono B6.size)
    have X7_A0 := X6_A0.below D7 (by omega)
    have X7_A1 := X6_A1.below D7 (by omega)
    have X7_G1a := X6_G1a.below D7 (by omega)
    have X7_P0 := X6_P0.below D7 (by omega)
    have X7_P1 := X6_P1.below D7 (by omega)
    have X7_G2a := (Box.new _ _ _ _ _ _ _).below b7 (by simp)
    replace ox0 := ox0.kept (below_grew D7) (fun q hq => by cases hq)
    replace ox1 := ox1.kept (below_grew D7) (fun q hq => by cases hq)
    replace og2a := og2a.kept (below_grew D7) (fun q hq => by cases hq)
    replace DS1 := DS1.trans (D7.mono DS1.size)
    have Y7_A0 := X7_A0
    obtain ⟨Y7_A00, Y7_A01, Y7_A02⟩ := Y7_A0
    have L7_A0 : w.heap.size < w7.heap.size := by omega
    have Y7_A1 := X7_A1
    obtain ⟨Y7_A10, Y7_A11, Y7_A12⟩ := Y7_A1
    have L7_A1 : (w.heap.size + 1) < w7.heap.size := by omega
    have Y7_G1a := X7_G1a
    obtain ⟨Y7_G1a0, Y7_G1a1, Y7_G1a2⟩ := Y7_G1a
    have L7_G1a : q1 < w7.heap.size := by omega
    have Y7_P0 := X7_P0
    obtain ⟨Y7_P00, Y7_P01, Y7_P02⟩ := Y7_P0
    have L7_P0 : w4.heap.size < w7.heap.size := by omega
    have Y7_P1 := X7_P1
    obtain ⟨Y7_P10, Y7_P11, Y7_P12⟩ := Y7_P1
    have L7_P1 : w5.heap.size < w7.heap.size := by omega
    have Y7_G2a := X7_G2a
    obtain ⟨Y7_G2a0, Y7_G2a1, Y7_G2a2⟩ := Y7_G2a
    have L7_G2a : w6.heap.size < w7.heap.size := by omega
    clear X6_A0 Y6_A00 Y6_A01 Y6_A02 L6_A0 X6_A1 Y6_A10 Y6_A11 Y6_A12 L6_A1 X6_G1a Y6_G1a0 Y6_G1a1 Y6_G1a2 L6_G1a X6_P0 Y6_P00 Y6_P01 Y6_P02 L6_P0 X6_P1 Y6_P10 Y6_P11 Y6_P12 L6_P1
    go_wp2_with fail
    go_region_held3 (fun w' => w'.cell? ⟨w4.heap.size, 0, none⟩ = some (.int .i64 R0) ∧ w'.cell? ⟨w4.heap.size, 1, none⟩ = some (.int .i64 C0) ∧ w'.cell? ⟨w4.heap.size, 2, none⟩ = some (.slice px0 n0 qx0) ∧ w'.cell? ⟨w.heap.size, 0, none⟩ = some (.int .i64 R0) ∧ w'.cell? ⟨w.heap.size, 1, none⟩ = some (.int .i64 C0) ∧ w'.cell? ⟨w.heap.size, 2, none⟩ = some (.slice a0 n0 c0) ∧ Below w7.heap.size w7 w')
      (first | exact ⟨Y7_P00, Y7_P01, Y7_P02, Y7_A00, Y7_A01, Y7_A02, (by first | exact (Below.refl _ _).drew | exact (below_drewN (Below.refl _ _) _).drew)⟩ | exact held2 (by assumption) (by assumption) (by omega) (by omega))
      (first
        | (go_at_call 23; refine (toMatrix_any R0 C0 a0 n0 c0 Z0 _ hn0 (h0.below (B7.trans (Below.mono (by go_split_ands; assumption) B7.size)) (Nat.le_refl _))).mono ?_; rintro e wa ⟨pa, qa, rfl, oa, ba⟩)
        | (go_at_call 26; refine (eqMatrix_any R0 C0 _ _ n0 _ _ Z0 Z0 _ hn0 ((Own.fs ox0).below (by go_split_ands; assumption) (Nat.le_refl _)) oa.fs (fun i hi => rfl)).mono ?_; rintro e w8 ⟨rfl, bb⟩))
    have b8 : Below w7.heap.size w7 w8 := by go_split_ands; assumption
    clear oa ba bb
    have D8 : Below w7.heap.size w7 w8 := b8
    have s8 : w7.heap.size + 0 ≤ w8.heap.size := by have := b8.size; (try simp at this); omega
    have B8 : Below w.heap.size w w8 := B7.trans (D8.mono B7.size)
    have X8_A0 := X7_A0.below D8 (by omega)
    have X8_A1 := X7_A1.below D8 (by omega)
    have X8_G1a := X7_G1a.below D8 (by omega)
    have X8_P0 := X7_P0.below D8 (by omega)
    have X8_P1 := X7_P1.below D8 (by omega)
    have X8_G2a := X7_G2a.below D8 (by omega)
    replace ox0 := ox0.kept (below_grew D8) (fun q hq => by cases hq)
    replace ox1 := ox1.kept (below_grew D8) (fun q hq => by cases hq)
    replace og2a := og2a.kept (below_grew D8) (fun q hq => by cases hq)
    replace DS1 := DS1.trans (D8.mono DS1.size)
    have Y8_A0 := X8_A0
    obtain ⟨Y8_A00, Y8_A01, Y8_A02⟩ := Y8_A0
    have L8_A0 : w.heap.size < w8.heap.size := by omega
    have Y8_A1 := X8_A1
    obtain ⟨Y8_A10, Y8_A11, Y8_A12⟩ := Y8_A1
    have L8_A1 : (w.heap.size + 1) < w8.heap.size := by omega
    have Y8_G1a := X8_G1a
    obtain ⟨Y8_G1a0, Y8_G1a1, Y8_G1a2⟩ := Y8_G1a
    have L8_G1a : q1 < w8.heap.size := by omega
    have Y8_P0 := X8_P0
    obtain ⟨Y8_P00, Y8_P01, Y8_P02⟩ := Y8_P0
    have L8_P0 : w4.heap.size < w8.heap.size := by omega
    have Y8_P1 := X8_P1
    obtain ⟨Y8_P10, Y8_P11, Y8_P12⟩ := Y8_P1
    have L8_P1 : w5.heap.size < w8.heap.size := by omega
    have Y8_G2a := X8_G2a
    obtain ⟨Y8_G2a0, Y8_G2a1, Y8_G2a2⟩ := Y8_G2a
    have L8_G2a : w6.heap.size < w8.heap.size := by omega
    clear X7_A0 Y7_A00 Y7_A01 Y7_A02 L7_A0 X7_A1 Y7_A10 Y7_A11 Y7_A12 L7_A1 X7_G1a Y7_G1a0 Y7_G1a1 Y7_G1a2 L7_G1a X7_P0 Y7_P00 Y7_P01 Y7_P02 L7_P0 X7_P1 Y7_P10 Y7_P11 Y7_P12 L7_P1 X7_G2a Y7_G2a0 Y7_G2a1 Y7_G2a2 L7_G2a
    go_wp2_with fail
    go_region_held3 (fun w' => w'.cell? ⟨w5.heap.size, 0, none⟩ = some (.int .i64 R1) ∧ w'.cell? ⟨w5.heap.size, 1, none⟩ = some (.int .i64 C1) ∧ w'.cell? ⟨w5.heap.size, 2, none⟩ = some (.slice px1 n1 qx1) ∧ w'.cell? ⟨(w.heap.size + 1), 0, none⟩ = some (.int .i64 R1) ∧ w'.cell? ⟨(w.heap.size + 1), 1, none⟩ = some (.int .i64 C1) ∧ w'.cell? ⟨(w.heap.size + 1), 2, none⟩ = some (.slice a1 n1 c1) ∧ Below w8.heap.size w8 w')
      (first | exact ⟨Y8_P10, Y8_P11, Y8_P12, Y8_A10, Y8_A11, Y8_A12, (by first | exact (Below.refl _ _).drew | exact (below_drewN (Below.refl _ _) _).drew)⟩ | exact held2 (by assumption) (by assumption) (by omega) (by omega))
      (first
        | (go_at_call 23; refine (toMatrix_any R1 C1 a1 n1 c1 Z1 _ hn1 (h1.below (B8.trans (Below.mono (by go_split_ands; assumption) B8.size)) (Nat.le_refl _))).mono ?_; rintro e wa ⟨pa, qa, rfl, oa, ba⟩)
        | (go_at_call 26; refine (eqMatrix_any R1 C1 _ _ n1 _ _ Z1 Z1 _ hn1 ((Own.fs ox1).below (by go_split_ands; assumption) (Nat.le_refl _)) oa.fs (fun i hi => rfl)).mono ?_; rintro e w9 ⟨rfl, bb⟩))
    have b9 : Below w8.heap.size w8 w9 := by go_split_ands; assumption
    clear oa ba bb
    have D9 : Below w8.heap.size w8 w9 := b9
    have s9 : w8.heap.size + 0 ≤ w9.heap.size := by have := b9.size; (try simp at this); omega
    have B9 : Below w.heap.size w w9 := B8.trans (D9.mono B8.size)
    have X9_A0 := X8_A0.below D9 (by omega)
    have X9_A1 := X8_A1.below D9 (by omega)
    have X9_G1a := X8_G1a.below D9 (by omega)
    have X9_P0 := X8_P0.below D9 (by omega)
    have X9_P1 := X8_P1.below D9 (by omega)
    have X9_G2a := X8_G2a.below D9 (by omega)
    replace ox0 := ox0.kept (below_grew D9) (fun q hq => by cases hq)
    replace ox1 := ox1.kept (below_grew D9) (fun q hq => by cases hq)
    replace og2a := og2a.kept (below_grew D9) (fun q hq => by cases hq)
    replace DS1 := DS1.trans (D9.mono DS1.size)
    have Y9_A0 := X9_A0
    obtain ⟨Y9_A00, Y9_A01, Y9_A02⟩ := Y9_A0
    have L9_A0 : w.heap.size < w9.heap.size := by omega
    have Y9_A1 := X9_A1
    obtain ⟨Y9_A10, Y9_A11, Y9_A12⟩ := Y9_A1
    have L9_A1 : (w.heap.size + 1) < w9.heap.size := by omega
    have Y9_G1a := X9_G1a
    obtain ⟨Y9_G1a0, Y9_G1a1, Y9_G1a2⟩ := Y9_G1a
    have L9_G1a : q1 < w9.heap.size := by omega
    have Y9_P0 := X9_P0
    obtain ⟨Y9_P00, Y9_P01, Y9_P02⟩ := Y9_P0
    have L9_P0 : w4.heap.size < w9.heap.size := by omega
    have Y9_P1 := X9_P1
    obtain ⟨Y9_P10, Y9_P11, Y9_P12⟩ := Y9_P1
    have L9_P1 : w5.heap.size < w9.heap.size := by omega
    have Y9_G2a := X9_G2a
    obtain ⟨Y9_G2a0, Y9_G2a1, Y9_G2a2⟩ := Y9_G2a
    have L9_G2a : w6.heap.size < w9.heap.size := by omega
    clear X8_A0 Y8_A00 Y8_A01 Y8_A02 L8_A0 X8_A1 Y8_A10 Y8_A11 Y8_A12 L8_A1 X8_G1a Y8_G1a0 Y8_G1a1 Y8_G1a2 L8_G1a X8_P0 Y8_P00 Y8_P01 Y8_P02 L8_P0 X8_P1 Y8_P10 Y8_P11 Y8_P12 L8_P1 X8_G2a Y8_G2a0 Y8_G2a1 Y8_G2a2 L8_G2a
    go_wp2_with fail
    go_at_call 29
    refine (markMatrix_any R0 C0 _ _ _ n0 _ (1) Z0 _ hn0 (by omega) ox0).mono ?_
    rintro e w10 ⟨rfl, om0, row10, gr10, hr10⟩
    clear ox0
    have s10 : w9.heap.size ≤ w10.heap.size := gr10.size
    have B10 : Below w.heap.size w w10 := B9.grown gr10 B9.size (fun q hq => by have := hr10 q hq; omega)
    have X10_A0 := X9_A0.grown gr10 (by omega) (fun q hq => by have := hr10 q hq; omega)
    have X10_A1 := X9_A1.grown gr10 (by omega) (fun q hq => by have := hr10 q hq; omega)
    have X10_G1a := X9_G1a.grown gr10 (by omega) (fun q hq => by have := hr10 q hq; omega)
    have X10_P0 := X9_P0.grown gr10 (by omega) (fun q hq => by have := hr10 q hq; omega)
    have X10_P1 := X9_P1.grown gr10 (by omega) (fun q hq => by have := hr10 q hq; omega)
    have X10_G2a := X9_G2a.grown gr10 (by omega) (fun q hq => by have := hr10 q hq; omega)
    replace ox1 := ox1.kept gr10 (fun q hq => by have := hr10 q hq; omega)
    replace og2a := og2a.kept gr10 (fun q hq => by have := hr10 q hq; omega)
    replace DS1 := DS1.grown gr10 DS1.size (fun q hq => by have := hr10 q hq; omega)
    have Y10_A0 := X10_A0
    obtain ⟨Y10_A00, Y10_A01, Y10_A02⟩ := Y10_A0
    have L10_A0 : w.heap.size < w10.heap.size := by omega
    have Y10_A1 := X10_A1
    obtain ⟨Y10_A10, Y10_A11, Y10_A12⟩ := Y10_A1
    have L10_A1 : (w.heap.size + 1) < w10.heap.size := by omega
    have Y10_G1a := X10_G1a
    obtain ⟨Y10_G1a0, Y10_G1a1, Y10_G1a2⟩ := Y10_G1a
    have L10_G1a : q1 < w10.heap.size := by omega
    have Y10_P0 := X10_P0
    obtain ⟨Y10_P00, Y10_P01, Y10_P02⟩ := Y10_P0
    have L10_P0 : w4.heap.size < w10.heap.size := by omega
    have Y10_P1 := X10_P1
    obtain ⟨Y10_P10, Y10_P11, Y10_P12⟩ := Y10_P1
    have L10_P1 : w5.heap.size < w10.heap.size := by omega
    have Y10_G2a := X10_G2a
    obtain ⟨Y10_G2a0, Y10_G2a1, Y10_G2a2⟩ := Y10_G2a
    have L10_G2a : w6.heap.size < w10.heap.size := by omega
    clear X9_A0 Y9_A00 Y9_A01 Y9_A02 L9_A0 X9_A1 Y9_A10 Y9_A11 Y9_A12 L9_A1 X9_G1a Y9_G1a0 Y9_G1a1 Y9_G1a2 L9_G1a X9_P0 Y9_P00 Y9_P01 Y9_P02 L9_P0 X9_P1 Y9_P10 Y9_P11 Y9_P12 L9_P1 X9_G2a Y9_G2a0 Y9_G2a1 Y9_G2a2 L9_G2a
    clear om0
    go_wp2_with fail
    go_at_call 29
    refine (markMatrix_more R1 C1 _ _ _ n1 _ (1 + n0) Z1 _ hn1 (by omega) ox1).mono ?_
    rintro e w11 ⟨rfl, om1, row11, gr11, hr11⟩
    clear ox1
    have s11 : w10.heap.size ≤ w11.heap.size := gr11.size
    have B11 : Below w.heap.size w w11 := B10.grown gr11 B10.size (fun q hq => by have := hr11 q hq; omega)
    have X11_A0 := X10_A0.grown gr11 (by omega) (fun q hq => by have := hr11 q hq; omega)
    have X11_A1 := X10_A1.grown gr11 (by omega) (fun q hq => by have := hr11 q hq; omega)
    have X11_G1a := X10_G1a.grown gr11 (by omega) (fun q hq => by have := hr11 q hq; omega)
    have X11_P0 := X10_P0.grown gr11 (by omega) (fun q hq => by have := hr11 q hq; omega)
    have X11_P1 := X10_P1.grown gr11 (by omega) (fun q hq => by have := hr11 q hq; omega)
    have X11_G2a := X10_G2a.grown gr11 (by omega) (fun q hq => by have := hr11 q hq; omega)
    replace og2a := og2a.kept gr11 (fun q hq => by have := hr11 q hq; omega)
    replace DS1 := DS1.grown gr11 DS1.size (fun q hq => by have := hr11 q hq; omega)
    have Y11_A0 := X11_A0
    obtain ⟨Y11_A00, Y11_A01, Y11_A02⟩ := Y11_A0
    have L11_A0 : w.heap.size < w11.heap.size := by omega
    have Y11_A1 := X11_A1
    obtain ⟨Y11_A10, Y11_A11, Y11_A12⟩ := Y11_A1
    have L11_A1 : (w.heap.size + 1) < w11.heap.size := by omega
    have Y11_G1a := X11_G1a
    obtain ⟨Y11_G1a0, Y11_G1a1, Y11_G1a2⟩ := Y11_G1a
    have L11_G1a : q1 < w11.heap.size := by omega
    have Y11_P0 := X11_P0
    obtain ⟨Y11_P00, Y11_P01, Y11_P02⟩ := Y11_P0
    have L11_P0 : w4.heap.size < w11.heap.size := by omega
    have Y11_P1 := X11_P1
    obtain ⟨Y11_P10, Y11_P11, Y11_P12⟩ := Y11_P1
    have L11_P1 : w5.heap.size < w11.heap.size := by omega
    have Y11_G2a := X11_G2a
    obtain ⟨Y11_G2a0, Y11_G2a1, Y11_G2a2⟩ := Y11_G2a
    have L11_G2a : w6.heap.size < w11.heap.size := by omega
    clear X10_A0 Y10_A00 Y10_A01 Y10_A02 L10_A0 X10_A1 Y10_A10 Y10_A11 Y10_A12 L10_A1 X10_G1a Y10_G1a0 Y10_G1a1 Y10_G1a2 L10_G1a X10_P0 Y10_P00 Y10_P01 Y10_P02 L10_P0 X10_P1 Y10_P10 Y10_P11 Y10_P12 L10_P1 X10_G2a Y10_G2a0 Y10_G2a1 Y10_G2a2 L10_G2a
    clear om1
    have hk1 : decide (((1 + n0 + n1 : Nat) : Int) < 0) = false := decide_eq_false (by omega)
    have hk2 := hk1
    simp only [Int.natCast_add, Int.natCast_one, Int.cast_ofNat_Int] at hk2
    go_wp2_with fail
    go_at_call 26
    refine (eqMatrix_any Ra Ca _ _ na _ _ Y2a Y1a _ (by omega) (Own.fs og2a) (fs1a_.below DS1 (Nat.le_refl _)) (fun i hi => (v2a i hi).trans (v1a i hi).symm)).mono ?_
    rintro e w12 ⟨rfl, b12⟩
    have D12 : Below w11.heap.size w11 w12 := b12
    have s12 : w11.heap.size + 0 ≤ w12.heap.size := by have := b12.size; (try simp at this); omega
    have B12 : Below w.heap.size w w12 := B11.trans (D12.mono B11.size)
    have X12_A0 := X11_A0.below D12 (by omega)
    have X12_A1 := X11_A1.below D12 (by omega)
    have X12_G1a := X11_G1a.below D12 (by omega)
    have X12_P0 := X11_P0.below D12 (by omega)
    have X12_P1 := X11_P1.below D12 (by omega)
    have X12_G2a := X11_G2a.below D12 (by omega)
    replace og2a := og2a.kept (below_grew D12) (fun q hq => by cases hq)
    replace DS1 := DS1.trans (D12.mono DS1.size)
    have Y12_A0 := X12_A0
    obtain ⟨Y12_A00, Y12_A01, Y12_A02⟩ := Y12_A0
    have L12_A0 : w.heap.size < w12.heap.size := by omega
    have Y12_A1 := X12_A1
    obtain ⟨Y12_A10, Y12_A11, Y12_A12⟩ := Y12_A1
    have L12_A1 : (w.heap.size + 1) < w12.heap.size := by omega
    have Y12_G1a := X12_G1a
    obtain ⟨Y12_G1a0, Y12_G1a1, Y12_G1a2⟩ := Y12_G1a
    have L12_G1a : q1 < w12.heap.size := by omega
    have Y12_P0 := X12_P0
    obtain ⟨Y12_P00, Y12_P01, Y12_P02⟩ := Y12_P0
    have L12_P0 : w4.heap.size < w12.heap.size := by omega
    have Y12_P1 := X12_P1
    obtain ⟨Y12_P10, Y12_P11, Y12_P12⟩ := Y12_P1
    have L12_P1 : w5.heap.size < w12.heap.size := by omega
    have Y12_G2a := X12_G2a
    obtain ⟨Y12_G2a0, Y12_G2a1, Y12_G2a2⟩ := Y12_G2a
    have L12_G2a : w6.heap.size < w12.heap.size := by omega
    clear X11_A0 Y11_A00 Y11_A01 Y11_A02 L11_A0 X11_A1 Y11_A10 Y11_A11 Y11_A12 L11_A1 X11_G1a Y11_G1a0 Y11_G1a1 Y11_G1a2 L11_G1a X11_P0 Y11_P00 Y11_P01 Y11_P02 L11_P0 X11_P1 Y11_P10 Y11_P11 Y11_P12 L11_P1 X11_G2a Y11_G2a0 Y11_G2a1 Y11_G2a2 L11_G2a
    go_wp2_with fail
    go_at_call 29
    refine (markMatrix_any Ra Ca _ _ _ na _ (1) Y2a _ (by omega) (by omega) og2a).mono ?_
    rintro e w13 ⟨rfl, oma, row13, gr13, hr13⟩
    clear og2a
    have s13 : w12.heap.size ≤ w13.heap.size := gr13.size
    have B13 : Below w.heap.size w w13 := B12.grown gr13 B12.size (fun q hq => by have := hr13 q hq; omega)
    have X13_A0 := X12_A0.grown gr13 (by omega) (fun q hq => by have := hr13 q hq; omega)
    have X13_A1 := X12_A1.grown gr13 (by omega) (fun q hq => by have := hr13 q hq; omega)
    have X13_G1a := X12_G1a.grown gr13 (by omega) (fun q hq => by have := hr13 q hq; omega)
    have X13_P0 := X12_P0.grown gr13 (by omega) (fun q hq => by have := hr13 q hq; omega)
    have X13_P1 := X12_P1.grown gr13 (by omega) (fun q hq => by have := hr13 q hq; omega)
    have X13_G2a := X12_G2a.grown gr13 (by omega) (fun q hq => by have := hr13 q hq; omega)
    replace DS1 := DS1.grown gr13 DS1.size (fun q hq => by have := hr13 q hq; omega)
    have Y13_A0 := X13_A0
    obtain ⟨Y13_A00, Y13_A01, Y13_A02⟩ := Y13_A0
    have L13_A0 : w.heap.size < w13.heap.size := by omega
    have Y13_A1 := X13_A1
    obtain ⟨Y13_A10, Y13_A11, Y13_A12⟩ := Y13_A1
    have L13_A1 : (w.heap.size + 1) < w13.heap.size := by omega
    have Y13_G1a := X13_G1a
    obtain ⟨Y13_G1a0, Y13_G1a1, Y13_G1a2⟩ := Y13_G1a
    have L13_G1a : q1 < w13.heap.size := by omega
    have Y13_P0 := X13_P0
    obtain ⟨Y13_P00, Y13_P01, Y13_P02⟩ := Y13_P0
    have L13_P0 : w4.heap.size < w13.heap.size := by omega
    have Y13_P1 := X13_P1
    obtain ⟨Y13_P10, Y13_P11, Y13_P12⟩ := Y13_P1
    have L13_P1 : w5.heap.size < w13.heap.size := by omega
    have Y13_G2a := X13_G2a
    obtain ⟨Y13_G2a0, Y13_G2a1, Y13_G2a2⟩ := Y13_G2a
    have L13_G2a : w6.heap.size < w13.heap.size := by omega
    clear X12_A0 Y12_A00 Y12_A01 Y12_A02 L12_A0 X12_A1 Y12_A10 Y12_A11 Y12_A12 L12_A1 X12_G1a Y12_G1a0 Y12_G1a1 Y12_G1a2 L12_G1a X12_P0 Y12_P00 Y12_P01 Y12_P02 L12_P0 X12_P1 Y12_P10 Y12_P11 Y12_P12 L12_P1 X12_G2a Y12_G2a0 Y12_G2a1 Y12_G2a2 L12_G2a
    have hq1 : decide (((1 + na : Nat) : Int) < 0) = false := decide_eq_false (by omega)
    have hq2 := hq1
    simp only [Int.natCast_add, Int.natCast_one, Int.cast_ofNat_Int] at hq2
    go_wp2_with fail
    go_at_call 30
    refine (heldMatrix_any Ra Ca _ na _ (1) _ _ (by omega) (by omega) (Own.fs oma) (fun i hi => rfl)).mono ?_
    rintro e w14 ⟨rfl, b14⟩
    have D14 : Below w13.heap.size w13 w14 := b14
    have s14 : w13.heap.size + 0 ≤ w14.heap.size := by have := b14.size; (try simp at this); omega
    have B14 : Below w.heap.size w w14 := B13.trans (D14.mono B13.size)
    have X14_A0 := X13_A0.below D14 (by omega)
    have X14_A1 := X13_A1.below D14 (by omega)
    have X14_G1a := X13_G1a.below D14 (by omega)
    have X14_P0 := X13_P0.below D14 (by omega)
    have X14_P1 := X13_P1.below D14 (by omega)
    have X14_G2a := X13_G2a.below D14 (by omega)
    replace oma := oma.kept (below_grew D14) (fun q hq => by cases hq)
    replace DS1 := DS1.trans (D14.mono DS1.size)
    have Y14_A0 := X14_A0
    obtain ⟨Y14_A00, Y14_A01, Y14_A02⟩ := Y14_A0
    have L14_A0 : w.heap.size < w14.heap.size := by omega
    have Y14_A1 := X14_A1
    obtain ⟨Y14_A10, Y14_A11, Y14_A12⟩ := Y14_A1
    have L14_A1 : (w.heap.size + 1) < w14.heap.size := by omega
    have Y14_G1a := X14_G1a
    obtain ⟨Y14_G1a0, Y14_G1a1, Y14_G1a2⟩ := Y14_G1a
    have L14_G1a : q1 < w14.heap.size := by omega
    have Y14_P0 := X14_P0
    obtain ⟨Y14_P00, Y14_P01, Y14_P02⟩ := Y14_P0
    have L14_P0 : w4.heap.size < w14.heap.size := by omega
    have Y14_P1 := X14_P1
    obtain ⟨Y14_P10, Y14_P11, Y14_P12⟩ := Y14_P1
    have L14_P1 : w5.heap.size < w14.heap.size := by omega
    have Y14_G2a := X14_G2a
    obtain ⟨Y14_G2a0, Y14_G2a1, Y14_G2a2⟩ := Y14_G2a
    have L14_G2a : w6.heap.size < w14.heap.size := by omega
    clear X13_A0 Y13_A00 Y13_A01 Y13_A02 L13_A0 X13_A1 Y13_A10 Y13_A11 Y13_A12 L13_A1 X13_G1a Y13_G1a0 Y13_G1a1 Y13_G1a2 L13_G1a X13_P0 Y13_P00 Y13_P01 Y13_P02 L13_P0 X13_P1 Y13_P10 Y13_P11 Y13_P12 L13_P1 X13_G2a Y13_G2a0 Y13_G2a1 Y13_G2a2 L13_G2a
    go_wp2_with fail
    go_region_held3 (fun w' => w'.cell? ⟨w.heap.size, 0, none⟩ = some (.int .i64 R0) ∧ w'.cell? ⟨w.heap.size, 1, none⟩ = some (.int .i64 C0) ∧ w'.cell? ⟨w.heap.size, 2, none⟩ = some (.slice a0 n0 c0) ∧ w'.cell? ⟨(w.heap.size + 1), 0, none⟩ = some (.int .i64 R1) ∧ w'.cell? ⟨(w.heap.size + 1), 1, none⟩ = some (.int .i64 C1) ∧ w'.cell? ⟨(w.heap.size + 1), 2, none⟩ = some (.slice a1 n1 c1) ∧ Below w14.heap.size w14 w')
      (first | exact ⟨Y14_A00, Y14_A01, Y14_A02, Y14_A10, Y14_A11, Y14_A12, (by first | exact (Below.refl _ _).drew | exact (below_drewN (Below.refl _ _) _).drew)⟩ | exact held2 (by assumption) (by assumption) (by omega) (by omega) | exact held2 (w0 := w14) (W := w14) ⟨Y14_A00, Y14_A01, Y14_A02, Y14_A10, Y14_A11, Y14_A12, Below.refl _ _⟩ (by go_split_ands; repeat (first | assumption | (with_reducible exact Below.refl _ _) | exact Below.remade (by assumption) (by omega) | (with_reducible refine Below.setCell ?_ (by first | exact Nat.le_refl _ | exact Below.size (by assumption) | (simp; done) | (simp; omega) | omega) _) | (with_reducible refine Below.alloc ?_ (by first | exact Nat.le_refl _ | exact Below.size (by assumption) | (simp; done) | (simp; omega) | omega) _) | (with_reducible refine below_drewN ?_ _) | (with_reducible refine Below.drew ?_))) (by omega) (by omega))
      (first
        | (go_at_call 23; (with_reducible refine (toMatrix_any R0 C0 a0 n0 c0 Z0 _ hn0 ?_).mono ?_); exact (h0.below (B14.trans (Below.mono (by go_split_ands; assumption) B14.size)) (Nat.le_refl _)); rintro e wt0 ⟨pt0, qt0, rfl, ot0, bt0⟩; have st0 := bt0.size; (try simp at st0); (first | (have zb0 := ZB.new bt0) | (have zb0 := ZB.newD bt0) | (have zb0 := zb_on zbNone bt0) | skip))
        | (go_at_call 23; (with_reducible refine (toMatrix_any R1 C1 a1 n1 c1 Z1 _ hn1 ?_).mono ?_); exact (h1.below (B14.trans (Below.mono (by go_split_ands; assumption) B14.size)) (Nat.le_refl _)); rintro e wt1 ⟨pt1, qt1, rfl, ot1, bt1⟩; have st1 := bt1.size; (try simp at st1); (first | (have zb1 := ZB.new bt1) | (have zb1 := ZB.newD bt1) | (have zb1 := zb_on zb0 bt1) | skip))
        | (go_at_call 34; refine (ki _ _ _ _ _ (by first | exact Own.fs ot0 | exact (Own.fs ot0).below bt1 (Nat.le_refl _) | exact FS.made ((Own.fs ot0).below bt1 (Nat.le_refl _)) | exact FS.made (Own.fs ot0) | exact (FS.made (Own.fs ot0)).below bt1 (Nat.le_refl _)) (by first | exact Own.fs ot1 | exact (Own.fs ot1).below bt0 (Nat.le_refl _) | exact FS.made ((Own.fs ot1).below bt0 (Nat.le_refl _)) | exact FS.made (Own.fs ot1) | exact (FS.made (Own.fs ot1)).below bt0 (Nat.le_refl _))).mono ?_; rintro e wc3 ⟨g3a, d3a, Y3a, rfl, og3a, v3a, bb⟩; have st2 := bb.size; (try simp at st2); have fg3a := Own.fs og3a; clear og3a; (first | (have zb2 := ZB.new bb) | (have zb2 := zb_on zb1 bb) | skip); (try obtain ⟨q3, hq, zb⟩ := zb2); (try (have zo := zb; obtain ⟨⟨zz0, zz1, zz2⟩, zi, zl⟩ := zo; (try rw [hq] at zz0 zz1 zz2 zi zl)))))
    all_goals
      first
        | (rw [← hq]; have hG := zb.filled Ra Ca g3a na d3a; have hF := fg3a.filled zb Ra Ca g3a na d3a; have hK : Below w14.heap.size w14 (((wc3.setCell ⟨q3, 0, none⟩ (.int .i64 Ra)).setCell ⟨q3, 1, none⟩ (.int .i64 Ca)).setCell ⟨q3, 2, none⟩ (.slice g3a na d3a)) := (by rw [hq]; go_split_ands; assumption); have hL : q3 < (((wc3.setCell ⟨q3, 0, none⟩ (.int .i64 Ra)).setCell ⟨q3, 1, none⟩ (.int .i64 Ca)).setCell ⟨q3, 2, none⟩ (.slice g3a na d3a)).heap.size := (by simpa [World.setCell] using zb.2.2); clear hq zz0 zz1 zz2 zi zl zb; generalize (((wc3.setCell ⟨q3, 0, none⟩ (.int .i64 Ra)).setCell ⟨q3, 1, none⟩ (.int .i64 Ca)).setCell ⟨q3, 2, none⟩ (.slice g3a na d3a)) = w15 at hG hF hK hL ⊢)
        | (have hG := Box.new wc3 31 Ra Ca g3a na d3a; have hF := FS.made (o := .cells #[.int .i64 Ra, .int .i64 Ca, .slice g3a na d3a] 31) fg3a; have hK : Below w14.heap.size w14 (wc3.alloc (.cells #[.int .i64 Ra, .int .i64 Ca, .slice g3a na d3a] 31)) := (by go_split_ands; assumption); have hL : wc3.heap.size < (wc3.alloc (.cells #[.int .i64 Ra, .int .i64 Ca, .slice g3a na d3a] 31)).heap.size := (by simp); generalize (wc3.alloc (.cells #[.int .i64 Ra, .int .i64 Ca, .slice g3a na d3a] 31)) = w15 at hG hF hK hL ⊢; generalize wc3.heap.size = q3 at hG hL ⊢)
      have b15 : Below w14.heap.size w14 w15 := hK
      clear fg3a
      clear ot0 bt0 ot1 bt1 bb
      have D15 : Below w14.heap.size w14 w15 := b15
      have s15 : w14.heap.size + 0 ≤ w15.heap.size := by have := b15.size; (try simp at this); omega
      have B15 : Below w.heap.size w w15 := B14.trans (D15.mono B14.size)
      have X15_A0 := X14_A0.below D15 (by omega)
      have X15_A1 := X14_A1.below D15 (by omega)
      have X15_G1a := X14_G1a.below D15 (by omega)
      have X15_P0 := X14_P0.below D15 (by omega)
      have X15_P1 := X14_P1.below D15 (by omega)
      have X15_G2a := X14_G2a.below D15 (by omega)
      replace oma := oma.kept (below_grew D15) (fun q hq => by cases hq)
      replace DS1 := DS1.trans (D15.mono DS1.size)
      have Y15_A0 := X15_A0
      obtain ⟨Y15_A00, Y15_A01, Y15_A02⟩ := Y15_A0
      have L15_A0 : w.heap.size < w15.heap.size := by omega
      have Y15_A1 := X15_A1
      obtain ⟨Y15_A10, Y15_A11, Y15_A12⟩ := Y15_A1
      have L15_A1 : (w.heap.size + 1) < w15.heap.size := by omega
      have Y15_G1a := X15_G1a
      obtain ⟨Y15_G1a0, Y15_G1a1, Y15_G1a2⟩ := Y15_G1a
      have L15_G1a : q1 < w15.heap.size := by omega
      have Y15_P0 := X15_P0
      obtain ⟨Y15_P00, Y15_P01, Y15_P02⟩ := Y15_P0
      have L15_P0 : w4.heap.size < w15.heap.size := by omega
      have Y15_P1 := X15_P1
      obtain ⟨Y15_P10, Y15_P11, Y15_P12⟩ := Y15_P1
      have L15_P1 : w5.heap.size < w15.heap.size := by omega
      have Y15_G2a := X15_G2a
      obtain ⟨Y15_G2a0, Y15_G2a1, Y15_G2a2⟩ := Y15_G2a
      have L15_G2a : w6.heap.size < w15.heap.size := by omega
      clear X14_A0 Y14_A00 Y14_A01 Y14_A02 L14_A0 X14_A1 Y14_A10 Y14_A11 Y14_A12 L14_A1 X14_G1a Y14_G1a0 Y14_G1a1 Y14_G1a2 L14_G1a X14_P0 Y14_P00 Y14_P01 Y14_P02 L14_P0 X14_P1 Y14_P10 Y14_P11 Y14_P12 L14_P1 X14_G2a Y14_G2a0 Y14_G2a1 Y14_G2a2 L14_G2a
      have fs3a_ := hF
      have X15_G3a := hG
      have Y15_G3a := hG
      obtain ⟨Y15_G3a0, Y15_G3a1, Y15_G3a2⟩ := Y15_G3a
      have L15_G3a := hL
      have lq3 := hL
      clear hF hG hK hL
      have DS3 := Below.refl w15.heap.size w15
      go_wp2_with fail
      go_at_call 26
      refine (eqMatrix_any Ra Ca _ _ na _ _ Y3a Y1a _ (by omega) (fs3a_.below DS3 (Nat.le_refl _)) (fs1a_.below DS1 (Nat.le_refl _)) (fun i hi => (v3a i hi).trans (v1a i hi).symm)).mono ?_
      rintro e w16 ⟨rfl, b16⟩
      have D16 : Below w15.heap.size w15 w16 := b16
      have s16 : w15.heap.size + 0 ≤ w16.heap.size := by have := b16.size; (try simp at this); omega
      have B16 : Below w.heap.size w w16 := B15.trans (D16.mono B15.size)
      have X16_A0 := X15_A0.below D16 (by omega)
      have X16_A1 := X15_A1.below D16 (by omega)
      have X16_G1a := X15_G1a.below D16 (by omega)
      have X16_P0 := X15_P0.below D16 (by omega)
      have X16_P1 := X15_P1.below D16 (by omega)
      have X16_G2a := X15_G2a.below D16 (by omega)
      have X16_G3a := X15_G3a.below D16 (by omega)
      replace oma := oma.kept (below_grew D16) (fun q hq => by cases hq)
      replace DS1 := DS1.trans (D16.mono DS1.size)
      replace DS3 := DS3.trans (D16.mono DS3.size)
      have Y16_A0 := X16_A0
      obtain ⟨Y16_A00, Y16_A01, Y16_A02⟩ := Y16_A0
      have L16_A0 : w.heap.size < w16.heap.size := by omega
      have Y16_A1 := X16_A1
      obtain ⟨Y16_A10, Y16_A11, Y16_A12⟩ := Y16_A1
      have L16_A1 : (w.heap.size + 1) < w16.heap.size := by omega
      have Y16_G1a := X16_G1a
      obtain ⟨Y16_G1a0, Y16_G1a1, Y16_G1a2⟩ := Y16_G1a
      have L16_G1a : q1 < w16.heap.size := by omega
      have Y16_P0 := X16_P0
      obtain ⟨Y16_P00, Y16_P01, Y16_P02⟩ := Y16_P0
      have L16_P0 : w4.heap.size < w16.heap.size := by omega
      have Y16_P1 := X16_P1
      obtain ⟨Y16_P10, Y16_P11, Y16_P12⟩ := Y16_P1
      have L16_P1 : w5.heap.size < w16.heap.size := by omega
      have Y16_G2a := X16_G2a
      obtain ⟨Y16_G2a0, Y16_G2a1, Y16_G2a2⟩ := Y16_G2a
      have L16_G2a : w6.heap.size < w16.heap.size := by omega
      have Y16_G3a := X16_G3a
      obtain ⟨Y16_G3a0, Y16_G3a1, Y16_G3a2⟩ := Y16_G3a
      have L16_G3a : q3 < w16.heap.size := by omega
      clear X15_A0 Y15_A00 Y15_A01 Y15_A02 L15_A0 X15_A1 Y15_A10 Y15_A11 Y15_A12 L15_A1 X15_G1a Y15_G1a0 Y15_G1a1 Y15_G1a2 L15_G1a X15_P0 Y15_P00 Y15_P01 Y15_P02 L15_P0 X15_P1 Y15_P10 Y15_P11 Y15_P12 L15_P1 X15_G2a Y15_G2a0 Y15_G2a1 Y15_G2a2 L15_G2a X15_G3a Y15_G3a0 Y15_G3a1 Y15_G3a2 L15_G3a
      go_wp2_with fail
      go_at_call 30
      refine (heldMatrix_any Ra Ca _ na _ (1) _ _ (by omega) (by omega) (Own.fs oma) (fun i hi => rfl)).mono ?_
      rintro e w17 ⟨rfl, b17⟩
      have D17 : Below w16.heap.size w16 w17 := b17
      have s17 : w16.heap.size + 0 ≤ w17.heap.size := by have := b17.size; (try simp at this); omega
      have B17 : Below w.heap.size w w17 := B16.trans (D17.mono B16.size)
      have X17_A0 := X16_A0.below D17 (by omega)
      have X17_A1 := X16_A1.below D17 (by omega)
      have X17_G1a := X16_G1a.below D17 (by omega)
      have X17_P0 := X16_P0.below D17 (by omega)
      have X17_P1 := X16_P1.below D17 (by omega)
      have X17_G2a := X16_G2a.below D17 (by omega)
      have X17_G3a := X16_G3a.below D17 (by omega)
      replace oma := oma.kept (below_grew D17) (fun q hq => by cases hq)
      replace DS1 := DS1.trans (D17.mono DS1.size)
      replace DS3 := DS3.trans (D17.mono DS3.size)
      have Y17_A0 := X17_A0
      obtain ⟨Y17_A00, Y17_A01, Y17_A02⟩ := Y17_A0
      have L17_A0 : w.heap.size < w17.heap.size := by omega
      have Y17_A1 := X17_A1
      obtain ⟨Y17_A10, Y17_A11, Y17_A12⟩ := Y17_A1
      have L17_A1 : (w.heap.size + 1) < w17.heap.size := by omega
      have Y17_G1a := X17_G1a
      obtain ⟨Y17_G1a0, Y17_G1a1, Y17_G1a2⟩ := Y17_G1a
      have L17_G1a : q1 < w17.heap.size := by omega
      have Y17_P0 := X17_P0
      obtain ⟨Y17_P00, Y17_P01, Y17_P02⟩ := Y17_P0
      have L17_P0 : w4.heap.size < w17.heap.size := by omega
      have Y17_P1 := X17_P1
      obtain ⟨Y17_P10, Y17_P11, Y17_P12⟩ := Y17_P1
      have L17_P1 : w5.heap.size < w17.heap.size := by omega
      have Y17_G2a := X17_G2a
      obtain ⟨Y17_G2a0, Y17_G2a1, Y17_G2a2⟩ := Y17_G2a
      have L17_G2a : w6.heap.size < w17.heap.size := by omega
      have Y17_G3a := X17_G3a
      obtain ⟨Y17_G3a0, Y17_G3a1, Y17_G3a2⟩ := Y17_G3a
      have L17_G3a : q3 < w17.heap.size := by omega
      clear X16_A0 Y16_A00 Y16_A01 Y16_A02 L16_A0 X16_A1 Y16_A10 Y16_A11 Y16_A12 L16_A1 X16_G1a Y16_G1a0 Y16_G1a1 Y16_G1a2 L16_G1a X16_P0 Y16_P00 Y16_P01 Y16_P02 L16_P0 X16_P1 Y16_P10 Y16_P11 Y16_P12 L16_P1 X16_G2a Y16_G2a0 Y16_G2a1 Y16_G2a2 L16_G2a X16_G3a Y16_G3a0 Y16_G3a1 Y16_G3a2 L16_G3a
      go_wp2_with fail
      go_ret
      exact ⟨rfl, B17⟩
end Go.Proofs.Ytmddhhmgfhljiaa
