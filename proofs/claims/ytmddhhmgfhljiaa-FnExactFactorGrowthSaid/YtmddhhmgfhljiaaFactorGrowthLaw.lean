/- Helper: the walk of the law FnExactFactorGrowth. Conditions: none. -/
import Derived.Test.YtmddhhmgfhljiaaGrowthKey
import Derived.Test.YtmddhhmgfhljiaaFactor
import Derived.Test.YtmddhhmgfhljiaaMatCopy
import Derived.Test.YtmddhhmgfhljiaaKeys
import Derived.Test.YtmddhhmgfhljiaaBoxes
import Derived.Test.YtmddhhmgfhljiaaIntLaw
import Derived.Test.YtmddhhmgfhljiaaMarkMore
import Derived.Deep.RegionHeld3
set_option linter.unusedVariables false
set_option linter.unusedSimpArgs false
namespace Go.Proofs.Ytmddhhmgfhljiaa
open Go.RowKit

theorem heldS_FactorGrowth_3_3 {w0 W w' : World} {b1 b2 : Nat} {u0 u1 u2 v0 v1 v2 : Value} (hs : W.cell? ⟨b1, 0, none⟩ = some u0 ∧ W.cell? ⟨b1, 1, none⟩ = some u1 ∧ W.cell? ⟨b1, 2, none⟩ = some u2 ∧ W.cell? ⟨b2, 0, none⟩ = some v0 ∧ W.cell? ⟨b2, 1, none⟩ = some v1 ∧ W.cell? ⟨b2, 2, none⟩ = some v2 ∧ Below w0.heap.size w0 W) (hb : Below W.heap.size W w') (l1 : b1 < w0.heap.size) (l2 : b2 < w0.heap.size) :
    w'.cell? ⟨b1, 0, none⟩ = some u0 ∧ w'.cell? ⟨b1, 1, none⟩ = some u1 ∧ w'.cell? ⟨b1, 2, none⟩ = some u2 ∧ w'.cell? ⟨b2, 0, none⟩ = some v0 ∧ w'.cell? ⟨b2, 1, none⟩ = some v1 ∧ w'.cell? ⟨b2, 2, none⟩ = some v2 ∧ Below w0.heap.size w0 w' := by
  obtain ⟨hu0, hu1, hu2, hv0, hv1, hv2, h6⟩ := hs
  have e1 : b1 < W.heap.size := Nat.lt_of_lt_of_le l1 h6.size
  have e2 : b2 < W.heap.size := Nat.lt_of_lt_of_le l2 h6.size
  exact ⟨(hb.cell (p := ⟨b1, 0, none⟩) e1).trans hu0, (hb.cell (p := ⟨b1, 1, none⟩) e1).trans hu1, (hb.cell (p := ⟨b1, 2, none⟩) e1).trans hu2, (hb.cell (p := ⟨b2, 0, none⟩) e2).trans hv0, (hb.cell (p := ⟨b2, 1, none⟩) e2).trans hv1, (hb.cell (p := ⟨b2, 2, none⟩) e2).trans hv2, h6.trans (hb.mono h6.size)⟩
theorem heldS_FactorGrowth_3_4 {w0 W w' : World} {b1 b2 : Nat} {u0 u1 u2 v0 v1 v2 v3 : Value} (hs : W.cell? ⟨b1, 0, none⟩ = some u0 ∧ W.cell? ⟨b1, 1, none⟩ = some u1 ∧ W.cell? ⟨b1, 2, none⟩ = some u2 ∧ W.cell? ⟨b2, 0, none⟩ = some v0 ∧ W.cell? ⟨b2, 1, none⟩ = some v1 ∧ W.cell? ⟨b2, 2, none⟩ = some v2 ∧ W.cell? ⟨b2, 3, none⟩ = some v3 ∧ Below w0.heap.size w0 W) (hb : Below W.heap.size W w') (l1 : b1 < w0.heap.size) (l2 : b2 < w0.heap.size) :
    w'.cell? ⟨b1, 0, none⟩ = some u0 ∧ w'.cell? ⟨b1, 1, none⟩ = some u1 ∧ w'.cell? ⟨b1, 2, none⟩ = some u2 ∧ w'.cell? ⟨b2, 0, none⟩ = some v0 ∧ w'.cell? ⟨b2, 1, none⟩ = some v1 ∧ w'.cell? ⟨b2, 2, none⟩ = some v2 ∧ w'.cell? ⟨b2, 3, none⟩ = some v3 ∧ Below w0.heap.size w0 w' := by
  obtain ⟨hu0, hu1, hu2, hv0, hv1, hv2, hv3, h6⟩ := hs
  have e1 : b1 < W.heap.size := Nat.lt_of_lt_of_le l1 h6.size
  have e2 : b2 < W.heap.size := Nat.lt_of_lt_of_le l2 h6.size
  exact ⟨(hb.cell (p := ⟨b1, 0, none⟩) e1).trans hu0, (hb.cell (p := ⟨b1, 1, none⟩) e1).trans hu1, (hb.cell (p := ⟨b1, 2, none⟩) e1).trans hu2, (hb.cell (p := ⟨b2, 0, none⟩) e2).trans hv0, (hb.cell (p := ⟨b2, 1, none⟩) e2).trans hv1, (hb.cell (p := ⟨b2, 2, none⟩) e2).trans hv2, (hb.cell (p := ⟨b2, 3, none⟩) e2).trans hv3, h6.trans (hb.mono h6.size)⟩
theorem heldS_FactorGrowth_4_4 {w0 W w' : World} {b1 b2 : Nat} {u0 u1 u2 u3 v0 v1 v2 v3 : Value} (hs : W.cell? ⟨b1, 0, none⟩ = some u0 ∧ W.cell? ⟨b1, 1, none⟩ = some u1 ∧ W.cell? ⟨b1, 2, none⟩ = some u2 ∧ W.cell? ⟨b1, 3, none⟩ = some u3 ∧ W.cell? ⟨b2, 0, none⟩ = some v0 ∧ W.cell? ⟨b2, 1, none⟩ = some v1 ∧ W.cell? ⟨b2, 2, none⟩ = some v2 ∧ W.cell? ⟨b2, 3, none⟩ = some v3 ∧ Below w0.heap.size w0 W) (hb : Below W.heap.size W w') (l1 : b1 < w0.heap.size) (l2 : b2 < w0.heap.size) :
    w'.cell? ⟨b1, 0, none⟩ = some u0 ∧ w'.cell? ⟨b1, 1, none⟩ = some u1 ∧ w'.cell? ⟨b1, 2, none⟩ = some u2 ∧ w'.cell? ⟨b1, 3, none⟩ = some u3 ∧ w'.cell? ⟨b2, 0, none⟩ = some v0 ∧ w'.cell? ⟨b2, 1, none⟩ = some v1 ∧ w'.cell? ⟨b2, 2, none⟩ = some v2 ∧ w'.cell? ⟨b2, 3, none⟩ = some v3 ∧ Below w0.heap.size w0 w' := by
  obtain ⟨hu0, hu1, hu2, hu3, hv0, hv1, hv2, hv3, h6⟩ := hs
  have e1 : b1 < W.heap.size := Nat.lt_of_lt_of_le l1 h6.size
  have e2 : b2 < W.heap.size := Nat.lt_of_lt_of_le l2 h6.size
  exact ⟨(hb.cell (p := ⟨b1, 0, none⟩) e1).trans hu0, (hb.cell (p := ⟨b1, 1, none⟩) e1).trans hu1, (hb.cell (p := ⟨b1, 2, none⟩) e1).trans hu2, (hb.cell (p := ⟨b1, 3, none⟩) e1).trans hu3, (hb.cell (p := ⟨b2, 0, none⟩) e2).trans hv0, (hb.cell (p := ⟨b2, 1, none⟩) e2).trans hv1, (hb.cell (p := ⟨b2, 2, none⟩) e2).trans hv2, (hb.cell (p := ⟨b2, 3, none⟩) e2).trans hv3, h6.trans (hb.mono h6.size)⟩
set_option maxRecDepth 100000 in
set_option maxHeartbeats 4000000 in
theorem law_FnExactFactorGrowth (w : World) (x0a : Int) (x0b : Int) (a0c : Option Addr) (n0c c0c : Nat) (Z0c : Nat → Nat) (wx0a : (Lit.int .i64 x0a).wf = true) (wx0b : (Lit.int .i64 x0b).wf = true) (h0c : FS .f32 w a0c n0c c0c Z0c) (x1a : Int) (x1b : Int) (a1c : Option Addr) (n1c c1c : Nat) (Z1c : Nat → Nat) (a1d : Option Addr) (n1d c1d : Nat) (Z1d : Nat → Int) (wx1a : (Lit.int .i64 x1a).wf = true) (wx1b : (Lit.int .i64 x1b).wf = true) (h1c : FS .f32 w a1c n1c c1c Z1c) (h1d : IS .i64 w a1d n1d c1d Z1d) :
    Calls Try.prog 5 #[.agg #[.int .i64 x0a, .int .i64 x0b, .slice a0c n0c c0c], .agg #[.int .i64 x1a, .int .i64 x1b, .slice a1c n1c c1c, .slice a1d n1d c1d]] w fun e w' => e = .returned (.bool true) ∧ Below w.heap.size w w' := by
  have hm0c : n0c ≤ 9223372036854775807 := by have hh1 := h0c.1; have hh2 := h0c.2.1; unfold maxLen at hh2; omega
  have hm1c : n1c ≤ 9223372036854775807 := by have hh1 := h1c.1; have hh2 := h1c.2.1; unfold maxLen at hh2; omega
  have hm1d : n1d ≤ 9223372036854775807 := by have hh1 := h1d.1; have hh2 := h1d.2.1; unfold maxLen at hh2; omega
  by_cases hl : n0c ≤ 1048576
  case neg =>
    go_enter Try.func5, Try.ntmps5
    go_wp2_with fail
    go_at_call 21
    refine (szMatrix_no _ _ _ _ _ (1048576) _ (by omega) hm0c (by omega)).mono ?_
    rintro e w1 ⟨rfl, b1⟩
    have D1 : Below w.heap.size w w1 := Below.trans (by repeat first | (with_reducible exact Below.refl _ _) | (with_reducible refine Below.setCell ?_ (by first | exact Nat.le_refl _ | (simp; done) | (simp; omega) | omega) _) | (with_reducible refine Below.alloc ?_ (by first | exact Nat.le_refl _ | (simp; done) | (simp; omega) | omega) _) | (with_reducible refine below_drewN ?_ _) | (with_reducible refine Below.drew ?_)) (b1.mono (by simp; try omega))
    have s1 : w.heap.size + 2 ≤ w1.heap.size := by have := b1.size; (try simp at this); omega
    have B1 : Below w.heap.size w w1 := D1
    have X1_A0 : BoxL w1 w.heap.size [.int .i64 x0a, .int .i64 x0b, .slice a0c n0c c0c] := BoxL.below (BoxL.three (by simp [go_sem]) (by simp [go_sem]) (by simp [go_sem])) b1 (by first | (simp; done) | (simp; omega))
    have X1_A1 : BoxL w1 (w.heap.size + 1) [.int .i64 x1a, .int .i64 x1b, .slice a1c n1c c1c, .slice a1d n1d c1d] := BoxL.below (BoxL.four (by simp [go_sem]) (by simp [go_sem]) (by simp [go_sem]) (by simp [go_sem])) b1 (by first | (simp; done) | (simp; omega))
    have Y1_A00 := X1_A0 0 _ rfl
    have Y1_A01 := X1_A0 1 _ rfl
    have Y1_A02 := X1_A0 2 _ rfl
    have L1_A0 : w.heap.size < w1.heap.size := by omega
    have Y1_A10 := X1_A1 0 _ rfl
    have Y1_A11 := X1_A1 1 _ rfl
    have Y1_A12 := X1_A1 2 _ rfl
    have Y1_A13 := X1_A1 3 _ rfl
    have L1_A1 : (w.heap.size + 1) < w1.heap.size := by omega
    go_wp2_with fail
    go_ret
    exact ⟨rfl, B1⟩
  have hl0c := hl
  clear hl
  have hn0c : n0c ≤ 1048576 := by omega
  by_cases hl : n1c ≤ 1048576 - n0c ∧ n1d ≤ 1048576 - n0c - n1c
  case neg =>
    go_enter Try.func5, Try.ntmps5
    go_wp2_with fail
    go_at_call 21
    refine (szMatrix_yes _ _ _ _ _ (1048576) _ (by omega) hl0c).mono ?_
    rintro e w1 ⟨rfl, b1⟩
    have D1 : Below w.heap.size w w1 := Below.trans (by repeat first | (with_reducible exact Below.refl _ _) | (with_reducible refine Below.setCell ?_ (by first | exact Nat.le_refl _ | (simp; done) | (simp; omega) | omega) _) | (with_reducible refine Below.alloc ?_ (by first | exact Nat.le_refl _ | (simp; done) | (simp; omega) | omega) _) | (with_reducible refine below_drewN ?_ _) | (with_reducible refine Below.drew ?_)) (b1.mono (by simp; try omega))
    have s1 : w.heap.size + 2 ≤ w1.heap.size := by have := b1.size; (try simp at this); omega
    have B1 : Below w.heap.size w w1 := D1
    have X1_A0 : BoxL w1 w.heap.size [.int .i64 x0a, .int .i64 x0b, .slice a0c n0c c0c] := BoxL.below (BoxL.three (by simp [go_sem]) (by simp [go_sem]) (by simp [go_sem])) b1 (by first | (simp; done) | (simp; omega))
    have X1_A1 : BoxL w1 (w.heap.size + 1) [.int .i64 x1a, .int .i64 x1b, .slice a1c n1c c1c, .slice a1d n1d c1d] := BoxL.below (BoxL.four (by simp [go_sem]) (by simp [go_sem]) (by simp [go_sem]) (by simp [go_sem])) b1 (by first | (simp; done) | (simp; omega))
    have Y1_A00 := X1_A0 0 _ rfl
    have Y1_A01 := X1_A0 1 _ rfl
    have Y1_A02 := X1_A0 2 _ rfl
    have L1_A0 : w.heap.size < w1.heap.size := by omega
    have Y1_A10 := X1_A1 0 _ rfl
    have Y1_A11 := X1_A1 1 _ rfl
    have Y1_A12 := X1_A1 2 _ rfl
    have Y1_A13 := X1_A1 3 _ rfl
    have L1_A1 : (w.heap.size + 1) < w1.heap.size := by omega
    have hdz0 : decide (((1048576 - n0c : Nat) : Int) < 0) = false := decide_eq_false (by omega)
    go_wp2_with fail
    go_at_call 9
    refine (szFactor_no _ _ _ _ _ _ _ _ (1048576 - n0c) _ (by omega) hm1c hm1d hl).mono ?_
    rintro e w2 ⟨rfl, b2⟩
    have D2 : Below w1.heap.size w1 w2 := b2
    have s2 : w1.heap.size + 0 ≤ w2.heap.size := by have := b2.size; (try simp at this); omega
    have B2 : Below w.heap.size w w2 := B1.trans (D2.mono B1.size)
    have X2_A0 := X1_A0.below D2 (by omega)
    have X2_A1 := X1_A1.below D2 (by omega)
    have Y2_A00 := X2_A0 0 _ rfl
    have Y2_A01 := X2_A0 1 _ rfl
    have Y2_A02 := X2_A0 2 _ rfl
    have L2_A0 : w.heap.size < w2.heap.size := by omega
    have Y2_A10 := X2_A1 0 _ rfl
    have Y2_A11 := X2_A1 1 _ rfl
    have Y2_A12 := X2_A1 2 _ rfl
    have Y2_A13 := X2_A1 3 _ rfl
    have L2_A1 : (w.heap.size + 1) < w2.heap.size := by omega
    clear X1_A0 Y1_A00 Y1_A01 Y1_A02 L1_A0 X1_A1 Y1_A10 Y1_A11 Y1_A12 Y1_A13 L1_A1
    go_wp2_with fail
    go_ret
    exact ⟨rfl, B2⟩
  obtain ⟨hl1c, hl1d⟩ := hl
  have hn1c : n1c ≤ 1048576 := by omega
  have hn1d : n1d ≤ 1048576 := by omega
  obtain ⟨ok, XAa, ks, ki⟩ := keyFactorGrowth x0a x0b n0c Z0c x1a x1b n1c Z1c n1d Z1d wx0a wx0b hn0c wx1a wx1b hn1c hn1d
  go_enter Try.func5, Try.ntmps5
  go_wp2_with fail
  go_at_call 21
  refine (szMatrix_yes _ _ _ _ _ (1048576) _ (by omega) hl0c).mono ?_
  rintro e w1 ⟨rfl, b1⟩
  have D1 : Below w.heap.size w w1 := Below.trans (by repeat first | (with_reducible exact Below.refl _ _) | (with_reducible refine Below.setCell ?_ (by first | exact Nat.le_refl _ | (simp; done) | (simp; omega) | omega) _) | (with_reducible refine Below.alloc ?_ (by first | exact Nat.le_refl _ | (simp; done) | (simp; omega) | omega) _) | (with_reducible refine below_drewN ?_ _) | (with_reducible refine Below.drew ?_)) (b1.mono (by simp; try omega))
  have s1 : w.heap.size + 2 ≤ w1.heap.size := by have := b1.size; (try simp at this); omega
  have B1 : Below w.heap.size w w1 := D1
  have X1_A0 : BoxL w1 w.heap.size [.int .i64 x0a, .int .i64 x0b, .slice a0c n0c c0c] := BoxL.below (BoxL.three (by simp [go_sem]) (by simp [go_sem]) (by simp [go_sem])) b1 (by first | (simp; done) | (simp; omega))
  have X1_A1 : BoxL w1 (w.heap.size + 1) [.int .i64 x1a, .int .i64 x1b, .slice a1c n1c c1c, .slice a1d n1d c1d] := BoxL.below (BoxL.four (by simp [go_sem]) (by simp [go_sem]) (by simp [go_sem]) (by simp [go_sem])) b1 (by first | (simp; done) | (simp; omega))
  have Y1_A00 := X1_A0 0 _ rfl
  have Y1_A01 := X1_A0 1 _ rfl
  have Y1_A02 := X1_A0 2 _ rfl
  have L1_A0 : w.heap.size < w1.heap.size := by omega
  have Y1_A10 := X1_A1 0 _ rfl
  have Y1_A11 := X1_A1 1 _ rfl
  have Y1_A12 := X1_A1 2 _ rfl
  have Y1_A13 := X1_A1 3 _ rfl
  have L1_A1 : (w.heap.size + 1) < w1.heap.size := by omega
  have hdz0 : decide (((1048576 - n0c : Nat) : Int) < 0) = false := decide_eq_false (by omega)
  go_wp2_with fail
  go_at_call 9
  refine (szFactor_yes _ _ _ _ _ _ _ _ (1048576 - n0c) _ (by omega) hl1c hl1d).mono ?_
  rintro e w2 ⟨rfl, b2⟩
  have D2 : Below w1.heap.size w1 w2 := b2
  have s2 : w1.heap.size + 0 ≤ w2.heap.size := by have := b2.size; (try simp at this); omega
  have B2 : Below w.heap.size w w2 := B1.trans (D2.mono B1.size)
  have X2_A0 := X1_A0.below D2 (by omega)
  have X2_A1 := X1_A1.below D2 (by omega)
  have Y2_A00 := X2_A0 0 _ rfl
  have Y2_A01 := X2_A0 1 _ rfl
  have Y2_A02 := X2_A0 2 _ rfl
  have L2_A0 : w.heap.size < w2.heap.size := by omega
  have Y2_A10 := X2_A1 0 _ rfl
  have Y2_A11 := X2_A1 1 _ rfl
  have Y2_A12 := X2_A1 2 _ rfl
  have Y2_A13 := X2_A1 3 _ rfl
  have L2_A1 : (w.heap.size + 1) < w2.heap.size := by omega
  clear X1_A0 Y1_A00 Y1_A01 Y1_A02 L1_A0 X1_A1 Y1_A10 Y1_A11 Y1_A12 Y1_A13 L1_A1
  have hdz1 : decide (((1048576 - n0c - n1c - n1d : Nat) : Int) < 0) = false := decide_eq_false (by omega)
  go_wp2_with fail
  go_region_held3 (fun w' => w'.cell? ⟨w.heap.size, 0, none⟩ = some (.int .i64 x0a) ∧ w'.cell? ⟨w.heap.size, 1, none⟩ = some (.int .i64 x0b) ∧ w'.cell? ⟨w.heap.size, 2, none⟩ = some (.slice a0c n0c c0c) ∧ w'.cell? ⟨(w.heap.size + 1), 0, none⟩ = some (.int .i64 x1a) ∧ w'.cell? ⟨(w.heap.size + 1), 1, none⟩ = some (.int .i64 x1b) ∧ w'.cell? ⟨(w.heap.size + 1), 2, none⟩ = some (.slice a1c n1c c1c) ∧ w'.cell? ⟨(w.heap.size + 1), 3, none⟩ = some (.slice a1d n1d c1d) ∧ Below w2.heap.size w2 w')
    (first | exact ⟨Y2_A00, Y2_A01, Y2_A02, Y2_A10, Y2_A11, Y2_A12, Y2_A13, (by first | exact (Below.refl _ _).drew | exact (below_drewN (Below.refl _ _) _).drew)⟩ | exact heldS_FactorGrowth_3_4 (by assumption) (by assumption) (by omega) (by omega))
    (first
      | (go_at_call 23; (with_reducible refine (toMatrix_any x0a x0b a0c n0c c0c Z0c _ hn0c ?_).mono ?_); exact (h0c.below (B2.trans (Below.mono (by go_split_ands; assumption) B2.size)) (Nat.le_refl _)); rintro e wt0 ⟨pt0c, qt0c, rfl, ot0c, bt0⟩)
      | (go_at_call 11; (with_reducible refine (toFactor_sep x1a x1b a1c n1c c1c Z1c a1d n1d c1d Z1d _ hn1c hn1d ?_ ?_).mono ?_); exact (h1c.below (B2.trans (Below.mono (by go_split_ands; assumption) B2.size)) (Nat.le_refl _)); exact (h1d.below (B2.trans (Below.mono (by go_split_ands; assumption) B2.size)) (Nat.le_refl _)); rintro e wt1 ⟨pt1c, qt1c, pt1d, qt1d, Mt1c, rfl, mt1c, mt1d, ot1c, ot1d, bt1⟩)
      | (go_at_call 22; refine (ks _ _ _ _ _ _ _ ((Own.fs ot0c).below bt1 (Nat.le_refl _)) (Own.fs ot1c) (OwnI.is ot1d)).mono ?_; rintro e w3 ⟨r1Aa, rfl, v1Aa, bb⟩))
  have b3 : Below w2.heap.size w2 w3 := by go_split_ands; assumption
  clear ot0c ot1c ot1d bt0 bt1 bb
  have D3 : Below w2.heap.size w2 w3 := b3
  have s3 : w2.heap.size + 0 ≤ w3.heap.size := by have := b3.size; (try simp at this); omega
  have B3 : Below w.heap.size w w3 := B2.trans (D3.mono B2.size)
  have X3_A0 := X2_A0.below D3 (by omega)
  have X3_A1 := X2_A1.below D3 (by omega)
  have Y3_A00 := X3_A0 0 _ rfl
  have Y3_A01 := X3_A0 1 _ rfl
  have Y3_A02 := X3_A0 2 _ rfl
  have L3_A0 : w.heap.size < w3.heap.size := by omega
  have Y3_A10 := X3_A1 0 _ rfl
  have Y3_A11 := X3_A1 1 _ rfl
  have Y3_A12 := X3_A1 2 _ rfl
  have Y3_A13 := X3_A1 3 _ rfl
  have L3_A1 : (w.heap.size + 1) < w3.heap.size := by omega
  clear X2_A0 Y2_A00 Y2_A01 Y2_A02 L2_A0 X2_A1 Y2_A10 Y2_A11 Y2_A12 Y2_A13 L2_A1
  go_wp2_with fail
  go_at_call 23
  refine (toMatrix_any x0a x0b a0c n0c c0c Z0c _ hn0c (h0c.below B3 (Nat.le_refl _))).mono ?_
  rintro e w4 ⟨px0c, qx0c, rfl, ox0c, b4⟩
  have D4 : Below w3.heap.size w3 w4 := b4
  have s4 : w3.heap.size + 0 ≤ w4.heap.size := by have := b4.size; (try simp at this); omega
  have B4 : Below w.heap.size w w4 := B3.trans (D4.mono B3.size)
  have X4_A0 := X3_A0.below D4 (by omega)
  have X4_A1 := X3_A1.below D4 (by omega)
  have Y4_A00 := X4_A0 0 _ rfl
  have Y4_A01 := X4_A0 1 _ rfl
  have Y4_A02 := X4_A0 2 _ rfl
  have L4_A0 : w.heap.size < w4.heap.size := by omega
  have Y4_A10 := X4_A1 0 _ rfl
  have Y4_A11 := X4_A1 1 _ rfl
  have Y4_A12 := X4_A1 2 _ rfl
  have Y4_A13 := X4_A1 3 _ rfl
  have L4_A1 : (w.heap.size + 1) < w4.heap.size := by omega
  clear X3_A0 Y3_A00 Y3_A01 Y3_A02 L3_A0 X3_A1 Y3_A10 Y3_A11 Y3_A12 Y3_A13 L3_A1
  go_wp2_with fail
  go_at_call 11
  refine (toFactor_sep x1a x1b a1c n1c c1c Z1c a1d n1d c1d Z1d _ hn1c hn1d (FS.below (h1c.below B4 (Nat.le_refl _)) (by repeat first | (with_reducible exact Below.refl _ _) | (with_reducible refine Below.setCell ?_ (by first | exact Nat.le_refl _ | (simp; done) | (simp; omega) | omega) _) | (with_reducible refine Below.alloc ?_ (by first | exact Nat.le_refl _ | (simp; done) | (simp; omega) | omega) _) | (with_reducible refine below_drewN ?_ _) | (with_reducible refine Below.drew ?_)) (Nat.le_refl _)) (IS.below (h1d.below B4 (Nat.le_refl _)) (by repeat first | (with_reducible exact Below.refl _ _) | (with_reducible refine Below.setCell ?_ (by first | exact Nat.le_refl _ | (simp; done) | (simp; omega) | omega) _) | (with_reducible refine Below.alloc ?_ (by first | exact Nat.le_refl _ | (simp; done) | (simp; omega) | omega) _) | (with_reducible refine below_drewN ?_ _) | (with_reducible refine Below.drew ?_)) (Nat.le_refl _))).mono ?_
  rintro e w5 ⟨px1c, qx1c, px1d, qx1d, Mx1c, rfl, mx1c, mx1d, ox1c, ox1d, b5⟩
  replace ox1c := Own.mono (B' := (w4.heap.size + 1)) ox1c (by simp) (Nat.le_refl _) (by omega)
  have mmx1c : (w4.heap.size + 1) ≤ Mx1c := by (try simp at mx1c); omega
  have D5 : Below w4.heap.size w4 w5 := Below.trans (by repeat first | (with_reducible exact Below.refl _ _) | (with_reducible refine Below.setCell ?_ (by first | exact Nat.le_refl _ | (simp; done) | (simp; omega) | omega) _) | (with_reducible refine Below.alloc ?_ (by first | exact Nat.le_refl _ | (simp; done) | (simp; omega) | omega) _) | (with_reducible refine below_drewN ?_ _) | (with_reducible refine Below.drew ?_)) (b5.mono (by simp; try omega))
  have s5 : w4.heap.size + 1 ≤ w5.heap.size := by have := b5.size; (try simp at this); omega
  have B5 : Below w.heap.size w w5 := B4.trans (D5.mono B4.size)
  have X5_A0 := X4_A0.below D5 (by omega)
  have X5_A1 := X4_A1.below D5 (by omega)
  have X5_P0 : BoxL w5 w4.heap.size [.int .i64 x0a, .int .i64 x0b, .slice px0c n0c qx0c] := BoxL.below (BoxL.three (by simp [go_sem]) (by simp [go_sem]) (by simp [go_sem])) b5 (by first | (simp; done) | (simp; omega))
  replace ox0c := ox0c.kept (below_grew D5) (fun q hq => by cases hq)
  have Y5_A00 := X5_A0 0 _ rfl
  have Y5_A01 := X5_A0 1 _ rfl
  have Y5_A02 := X5_A0 2 _ rfl
  have L5_A0 : w.heap.size < w5.heap.size := by omega
  have Y5_A10 := X5_A1 0 _ rfl
  have Y5_A11 := X5_A1 1 _ rfl
  have Y5_A12 := X5_A1 2 _ rfl
  have Y5_A13 := X5_A1 3 _ rfl
  have L5_A1 : (w.heap.size + 1) < w5.heap.size := by omega
  have Y5_P00 := X5_P0 0 _ rfl
  have Y5_P01 := X5_P0 1 _ rfl
  have Y5_P02 := X5_P0 2 _ rfl
  have L5_P0 : w4.heap.size < w5.heap.size := by omega
  clear X4_A0 Y4_A00 Y4_A01 Y4_A02 L4_A0 X4_A1 Y4_A10 Y4_A11 Y4_A12 Y4_A13 L4_A1
  go_wp2_with fail
  go_at_call 24
  refine (ki _ _ _ _ _ _ _ (FS.below (Own.fs ox0c) (by repeat first | (with_reducible exact Below.refl _ _) | (with_reducible refine Below.setCell ?_ (by first | exact Nat.le_refl _ | (simp; done) | (simp; omega) | omega) _) | (with_reducible refine Below.alloc ?_ (by first | exact Nat.le_refl _ | (simp; done) | (simp; omega) | omega) _) | (with_reducible refine below_drewN ?_ _) | (with_reducible refine Below.drew ?_)) (Nat.le_refl _)) (FS.below (Own.fs ox1c) (by repeat first | (with_reducible exact Below.refl _ _) | (with_reducible refine Below.setCell ?_ (by first | exact Nat.le_refl _ | (simp; done) | (simp; omega) | omega) _) | (with_reducible refine Below.alloc ?_ (by first | exact Nat.le_refl _ | (simp; done) | (simp; omega) | omega) _) | (with_reducible refine below_drewN ?_ _) | (with_reducible refine Below.drew ?_)) (Nat.le_refl _)) (IS.below (OwnI.is ox1d) (by repeat first | (with_reducible exact Below.refl _ _) | (with_reducible refine Below.setCell ?_ (by first | exact Nat.le_refl _ | (simp; done) | (simp; omega) | omega) _) | (with_reducible refine Below.alloc ?_ (by first | exact Nat.le_refl _ | (simp; done) | (simp; omega) | omega) _) | (with_reducible refine below_drewN ?_ _) | (with_reducible refine Below.drew ?_)) (Nat.le_refl _))).mono ?_
  rintro e w6 ⟨r2Aa, rfl, v2Aa, b6⟩
  have D6 : Below w5.heap.size w5 w6 := Below.trans (by repeat first | (with_reducible exact Below.refl _ _) | (with_reducible refine Below.setCell ?_ (by first | exact Nat.le_refl _ | (simp; done) | (simp; omega) | omega) _) | (with_reducible refine Below.alloc ?_ (by first | exact Nat.le_refl _ | (simp; done) | (simp; omega) | omega) _) | (with_reducible refine below_drewN ?_ _) | (with_reducible refine Below.drew ?_)) (b6.mono (by simp; try omega))
  have s6 : w5.heap.size + 1 ≤ w6.heap.size := by have := b6.size; (try simp at this); omega
  have B6 : Below w.heap.size w w6 := B5.trans (D6.mono B5.size)
  have X6_A0 := X5_A0.below D6 (by omega)
  have X6_A1 := X5_A1.below D6 (by omega)
  have X6_P0 := X5_P0.below D6 (by omega)
  have X6_P1 : BoxL w6 w5.heap.size [.int .i64 x1a, .int .i64 x1b, .slice px1c n1c qx1c, .slice px1d n1d qx1d] := BoxL.below (BoxL.four (by simp [go_sem]) (by simp [go_sem]) (by simp [go_sem]) (by simp [go_sem])) b6 (by first | (simp; done) | (simp; omega))
  replace ox0c := ox0c.kept (below_grew D6) (fun q hq => by cases hq)
  replace ox1c := ox1c.kept (below_grew D6) (fun q hq => by cases hq)
  replace ox1d := ox1d.kept (below_grew D6) (fun q hq => by cases hq)
  have Y6_A00 := X6_A0 0 _ rfl
  have Y6_A01 := X6_A0 1 _ rfl
  have Y6_A02 := X6_A0 2 _ rfl
  have L6_A0 : w.heap.size < w6.heap.size := by omega
  have Y6_A10 := X6_A1 0 _ rfl
  have Y6_A11 := X6_A1 1 _ rfl
  have Y6_A12 := X6_A1 2 _ rfl
  have Y6_A13 := X6_A1 3 _ rfl
  have L6_A1 : (w.heap.size + 1) < w6.heap.size := by omega
  have Y6_P00 := X6_P0 0 _ rfl
  have Y6_P01 := X6_P0 1 _ rfl
  have Y6_P02 := X6_P0 2 _ rfl
  have L6_P0 : w4.heap.size < w6.heap.size := by omega
  have Y6_P10 := X6_P1 0 _ rfl
  have Y6_P11 := X6_P1 1 _ rfl
  have Y6_P12 := X6_P1 2 _ rfl
  have Y6_P13 := X6_P1 3 _ rfl
  have L6_P1 : w5.heap.size < w6.heap.size := by omega
  clear X5_A0 Y5_A00 Y5_A01 Y5_A02 L5_A0 X5_A1 Y5_A10 Y5_A11 Y5_A12 Y5_A13 L5_A1 X5_P0 Y5_P00 Y5_P01 Y5_P02 L5_P0
  go_wp2_with (first | (refine wpList_widen rfl _ _ _ rfl _ rfl (by kernel_rfl) Try.underlying49 (by assumption) ?_; intro r m hr) | (go_at_call 25; refine (sameFloat_any _ _ (by assumption) (by assumption) _).mono ?_; rintro e w' ⟨rfl, q1, rfl⟩))
  generalize hd7 : World.drewN w6 _ = w7
  have b7 := below_of_drewN hd7.symm
  clear hd7
  have D7 : Below w6.heap.size w6 w7 := b7
  have s7 : w6.heap.size + 0 ≤ w7.heap.size := by have := b7.size; (try simp at this); omega
  have B7 : Below w.heap.size w w7 := B6.trans (D7.mono B6.size)
  have X7_A0 := X6_A0.below D7 (by omega)
  have X7_A1 := X6_A1.below D7 (by omega)
  have X7_P0 := X6_P0.below D7 (by omega)
  have X7_P1 := X6_P1.below D7 (by omega)
  replace ox0c := ox0c.kept (below_grew D7) (fun q hq => by cases hq)
  replace ox1c := ox1c.kept (below_grew D7) (fun q hq => by cases hq)
  replace ox1d := ox1d.kept (below_grew D7) (fun q hq => by cases hq)
  have Y7_A00 := X7_A0 0 _ rfl
  have Y7_A01 := X7_A0 1 _ rfl
  have Y7_A02 := X7_A0 2 _ rfl
  have L7_A0 : w.heap.size < w7.heap.size := by omega
  have Y7_A10 := X7_A1 0 _ rfl
  have Y7_A11 := X7_A1 1 _ rfl
  have Y7_A12 := X7_A1 2 _ rfl
  have Y7_A13 := X7_A1 3 _ rfl
  have L7_A1 : (w.heap.size + 1) < w7.heap.size := by omega
  have Y7_P00 := X7_P0 0 _ rfl
  have Y7_P01 := X7_P0 1 _ rfl
  have Y7_P02 := X7_P0 2 _ rfl
  have L7_P0 : w4.heap.size < w7.heap.size := by omega
  have Y7_P10 := X7_P1 0 _ rfl
  have Y7_P11 := X7_P1 1 _ rfl
  have Y7_P12 := X7_P1 2 _ rfl
  have Y7_P13 := X7_P1 3 _ rfl
  have L7_P1 : w5.heap.size < w7.heap.size := by omega
  clear X6_A0 Y6_A00 Y6_A01 Y6_A02 L6_A0 X6_A1 Y6_A10 Y6_A11 Y6_A12 Y6_A13 L6_A1 X6_P0 Y6_P00 Y6_P01 Y6_P02 L6_P0 X6_P1 Y6_P10 Y6_P11 Y6_P12 Y6_P13 L6_P1
  go_wp2_with fail
  go_region_held3 (fun w' => w'.cell? ⟨w4.heap.size, 0, none⟩ = some (.int .i64 x0a) ∧ w'.cell? ⟨w4.heap.size, 1, none⟩ = some (.int .i64 x0b) ∧ w'.cell? ⟨w4.heap.size, 2, none⟩ = some (.slice px0c n0c qx0c) ∧ w'.cell? ⟨w.heap.size, 0, none⟩ = some (.int .i64 x0a) ∧ w'.cell? ⟨w.heap.size, 1, none⟩ = some (.int .i64 x0b) ∧ w'.cell? ⟨w.heap.size, 2, none⟩ = some (.slice a0c n0c c0c) ∧ Below w7.heap.size w7 w')
    (first | exact ⟨Y7_P00, Y7_P01, Y7_P02, Y7_A00, Y7_A01, Y7_A02, (by first | exact (Below.refl _ _).drew | exact (below_drewN (Below.refl _ _) _).drew)⟩ | exact heldS_FactorGrowth_3_3 (by assumption) (by assumption) (by omega) (by omega))
    (first
      | (go_at_call 23; refine (toMatrix_any x0a x0b a0c n0c c0c Z0c _ hn0c (h0c.below (B7.trans (Below.mono (by go_split_ands; assumption) B7.size)) (Nat.le_refl _))).mono ?_; rintro e wa ⟨pa0c, qa0c, rfl, oa0c, ba⟩)
      | (go_at_call 26; refine (eqMatrix_any _ _ _ _ _ _ _ _ _ _ (by omega) ((Own.fs ox0c).below (by go_split_ands; assumption) (Nat.le_refl _)) (Own.fs oa0c) (fun i hi => rfl)).mono ?_; rintro e w8 ⟨rfl, bb⟩))
  have b8 : Below w7.heap.size w7 w8 := by go_split_ands; assumption
  clear oa0c ba bb
  have D8 : Below w7.heap.size w7 w8 := b8
  have s8 : w7.heap.size + 0 ≤ w8.heap.size := by have := b8.size; (try simp at this); omega
  have B8 : Below w.heap.size w w8 := B7.trans (D8.mono B7.size)
  have X8_A0 := X7_A0.below D8 (by omega)
  have X8_A1 := X7_A1.below D8 (by omega)
  have X8_P0 := X7_P0.below D8 (by omega)
  have X8_P1 := X7_P1.below D8 (by omega)
  replace ox0c := ox0c.kept (below_grew D8) (fun q hq => by cases hq)
  replace ox1c := ox1c.kept (below_grew D8) (fun q hq => by cases hq)
  replace ox1d := ox1d.kept (below_grew D8) (fun q hq => by cases hq)
  have Y8_A00 := X8_A0 0 _ rfl
  have Y8_A01 := X8_A0 1 _ rfl
  have Y8_A02 := X8_A0 2 _ rfl
  have L8_A0 : w.heap.size < w8.heap.size := by omega
  have Y8_A10 := X8_A1 0 _ rfl
  have Y8_A11 := X8_A1 1 _ rfl
  have Y8_A12 := X8_A1 2 _ rfl
  have Y8_A13 := X8_A1 3 _ rfl
  have L8_A1 : (w.heap.size + 1) < w8.heap.size := by omega
  have Y8_P00 := X8_P0 0 _ rfl
  have Y8_P01 := X8_P0 1 _ rfl
  have Y8_P02 := X8_P0 2 _ rfl
  have L8_P0 : w4.heap.size < w8.heap.size := by omega
  have Y8_P10 := X8_P1 0 _ rfl
  have Y8_P11 := X8_P1 1 _ rfl
  have Y8_P12 := X8_P1 2 _ rfl
  have Y8_P13 := X8_P1 3 _ rfl
  have L8_P1 : w5.heap.size < w8.heap.size := by omega
  clear X7_A0 Y7_A00 Y7_A01 Y7_A02 L7_A0 X7_A1 Y7_A10 Y7_A11 Y7_A12 Y7_A13 L7_A1 X7_P0 Y7_P00 Y7_P01 Y7_P02 L7_P0 X7_P1 Y7_P10 Y7_P11 Y7_P12 Y7_P13 L7_P1
  go_wp2_with fail
  go_region_held3 (fun w' => w'.cell? ⟨w5.heap.size, 0, none⟩ = some (.int .i64 x1a) ∧ w'.cell? ⟨w5.heap.size, 1, none⟩ = some (.int .i64 x1b) ∧ w'.cell? ⟨w5.heap.size, 2, none⟩ = some (.slice px1c n1c qx1c) ∧ w'.cell? ⟨w5.heap.size, 3, none⟩ = some (.slice px1d n1d qx1d) ∧ w'.cell? ⟨(w.heap.size + 1), 0, none⟩ = some (.int .i64 x1a) ∧ w'.cell? ⟨(w.heap.size + 1), 1, none⟩ = some (.int .i64 x1b) ∧ w'.cell? ⟨(w.heap.size + 1), 2, none⟩ = some (.slice a1c n1c c1c) ∧ w'.cell? ⟨(w.heap.size + 1), 3, none⟩ = some (.slice a1d n1d c1d) ∧ Below w8.heap.size w8 w')
    (first | exact ⟨Y8_P10, Y8_P11, Y8_P12, Y8_P13, Y8_A10, Y8_A11, Y8_A12, Y8_A13, (by first | exact (Below.refl _ _).drew | exact (below_drewN (Below.refl _ _) _).drew)⟩ | exact heldS_FactorGrowth_4_4 (by assumption) (by assumption) (by omega) (by omega))
    (first
      | (go_at_call 11; refine (toFactor_sep x1a x1b a1c n1c c1c Z1c a1d n1d c1d Z1d _ hn1c hn1d (h1c.below (B8.trans (Below.mono (by go_split_ands; assumption) B8.size)) (Nat.le_refl _)) (h1d.below (B8.trans (Below.mono (by go_split_ands; assumption) B8.size)) (Nat.le_refl _))).mono ?_; rintro e wa ⟨pa1c, qa1c, pa1d, qa1d, Ma1c, rfl, ma1c, ma1d, oa1c, oa1d, ba⟩)
      | (go_at_call 15; refine (eqFactor_any _ _ _ _ _ _ _ _ _ _ _ _ _ _ _ _ _ (by omega) (by omega) ((Own.fs ox1c).below (by go_split_ands; assumption) (Nat.le_refl _)) (Own.fs oa1c) ((OwnI.is ox1d).below (by go_split_ands; assumption) (Nat.le_refl _)) (OwnI.is oa1d) (fun i hi => rfl) (fun i hi => rfl)).mono ?_; rintro e w9 ⟨rfl, bb⟩))
  have b9 : Below w8.heap.size w8 w9 := by go_split_ands; assumption
  clear oa1c oa1d ba bb
  have D9 : Below w8.heap.size w8 w9 := b9
  have s9 : w8.heap.size + 0 ≤ w9.heap.size := by have := b9.size; (try simp at this); omega
  have B9 : Below w.heap.size w w9 := B8.trans (D9.mono B8.size)
  have X9_A0 := X8_A0.below D9 (by omega)
  have X9_A1 := X8_A1.below D9 (by omega)
  have X9_P0 := X8_P0.below D9 (by omega)
  have X9_P1 := X8_P1.below D9 (by omega)
  replace ox0c := ox0c.kept (below_grew D9) (fun q hq => by cases hq)
  replace ox1c := ox1c.kept (below_grew D9) (fun q hq => by cases hq)
  replace ox1d := ox1d.kept (below_grew D9) (fun q hq => by cases hq)
  have Y9_A00 := X9_A0 0 _ rfl
  have Y9_A01 := X9_A0 1 _ rfl
  have Y9_A02 := X9_A0 2 _ rfl
  have L9_A0 : w.heap.size < w9.heap.size := by omega
  have Y9_A10 := X9_A1 0 _ rfl
  have Y9_A11 := X9_A1 1 _ rfl
  have Y9_A12 := X9_A1 2 _ rfl
  have Y9_A13 := X9_A1 3 _ rfl
  have L9_A1 : (w.heap.size + 1) < w9.heap.size := by omega
  have Y9_P00 := X9_P0 0 _ rfl
  have Y9_P01 := X9_P0 1 _ rfl
  have Y9_P02 := X9_P0 2 _ rfl
  have L9_P0 : w4.heap.size < w9.heap.size := by omega
  have Y9_P10 := X9_P1 0 _ rfl
  have Y9_P11 := X9_P1 1 _ rfl
  have Y9_P12 := X9_P1 2 _ rfl
  have Y9_P13 := X9_P1 3 _ rfl
  have L9_P1 : w5.heap.size < w9.heap.size := by omega
  clear X8_A0 Y8_A00 Y8_A01 Y8_A02 L8_A0 X8_A1 Y8_A10 Y8_A11 Y8_A12 Y8_A13 L8_A1 X8_P0 Y8_P00 Y8_P01 Y8_P02 L8_P0 X8_P1 Y8_P10 Y8_P11 Y8_P12 Y8_P13 L8_P1
  go_wp2_with fail
  go_ret
  exact ⟨rfl, B9⟩
end Go.Proofs.Ytmddhhmgfhljiaa
