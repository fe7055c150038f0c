/- Helper: the walk of the law FnExactSparseTimes. Conditions: none. -/
import Derived.Test.YtmjlhmbnaifhaabSpTimesKey
import Derived.Test.YtmjlhmbnaifhaabSparse
import Derived.Test.YtmjlhmbnaifhaabMatCopy
import Derived.Test.YtmjlhmbnaifhaabKeys
import Derived.Test.YtmjlhmbnaifhaabBoxes
import Derived.Test.YtmjlhmbnaifhaabIntLaw
import Derived.Test.YtmjlhmbnaifhaabMarkMore
import Derived.Deep.RegionHeld3
set_option linter.unusedVariables false
set_option linter.unusedSimpArgs false
namespace Go.Proofs.Ytmjlhmbnaifhaab
open Go.RowKit

theorem heldS_SparseTimes_4_4 {w0 W w' : World} {b1 b2 : Nat} {u0 u1 u2 u3 v0 v1 v2 v3 : Value} (hs : W.cell? ⟨b1, 0, none⟩ = some u0 ∧ W.cell? ⟨b1, 1, none⟩ = some u1 ∧ W.cell? ⟨b1, 2, none⟩ = some u2 ∧ W.cell? ⟨b1, 3, none⟩ = some u3 ∧ W.cell? ⟨b2, 0, none⟩ = some v0 ∧ W.cell? ⟨b2, 1, none⟩ = some v1 ∧ W.cell? ⟨b2, 2, none⟩ = some v2 ∧ W.cell? ⟨b2, 3, none⟩ = some v3 ∧ Below w0.heap.size w0 W) (hb : Below W.heap.size W w') (l1 : b1 < w0.heap.size) (l2 : b2 < w0.heap.size) :
    w'.cell? ⟨b1, 0, none⟩ = some u0 ∧ w'.cell? ⟨b1, 1, none⟩ = some u1 ∧ w'.cell? ⟨b1, 2, none⟩ = some u2 ∧ w'.cell? ⟨b1, 3, none⟩ = some u3 ∧ w'.cell? ⟨b2, 0, none⟩ = some v0 ∧ w'.cell? ⟨b2, 1, none⟩ = some v1 ∧ w'.cell? ⟨b2, 2, none⟩ = some v2 ∧ w'.cell? ⟨b2, 3, none⟩ = some v3 ∧ Below w0.heap.size w0 w' := by
  obtain ⟨hu0, hu1, hu2, hu3, hv0, hv1, hv2, hv3, h6⟩ := hs
  have e1 : b1 < W.heap.size := Nat.lt_of_lt_of_le l1 h6.size
  have e2 : b2 < W.heap.size := Nat.lt_of_lt_of_le l2 h6.size
  exact ⟨(hb.cell (p := ⟨b1, 0, none⟩) e1).trans hu0, (hb.cell (p := ⟨b1, 1, none⟩) e1).trans hu1, (hb.cell (p := ⟨b1, 2, none⟩) e1).trans hu2, (hb.cell (p := ⟨b1, 3, none⟩) e1).trans hu3, (hb.cell (p := ⟨b2, 0, none⟩) e2).trans hv0, (hb.cell (p := ⟨b2, 1, none⟩) e2).trans hv1, (hb.cell (p := ⟨b2, 2, none⟩) e2).trans hv2, (hb.cell (p := ⟨b2, 3, none⟩) e2).trans hv3, h6.trans (hb.mono h6.size)⟩
set_option maxRecDepth 100000 in
set_option maxHeartbeats 4000000 in
theorem law_FnExactSparseTimes (w : World) (x0a : Int) (a0b : Option Addr) (n0b c0b : Nat) (Z0b : Nat → Int) (a0c : Option Addr) (n0c c0c : Nat) (Z0c : Nat → Int) (a0d : Option Addr) (n0d c0d : Nat) (Z0d : Nat → Nat) (wx0a : (Lit.int .i64 x0a).wf = true) (h0b : IS .i64 w a0b n0b c0b Z0b) (h0c : IS .i64 w a0c n0c c0c Z0c) (h0d : FS .f32 w a0d n0d c0d Z0d) (a1a : Option Addr) (n1a c1a : Nat) (Z1a : Nat → Nat) (h1a : FS .f32 w a1a n1a c1a Z1a) :
    Calls Try.prog 4 #[.agg #[.int .i64 x0a, .slice a0b n0b c0b, .slice a0c n0c c0c, .slice a0d n0d c0d], .slice a1a n1a c1a] w fun e w' => e = .returned (.bool true) ∧ Below w.heap.size w w' := by
  have hm0b : n0b ≤ 9223372036854775807 := by have hh1 := h0b.1; have hh2 := h0b.2.1; unfold maxLen at hh2; omega
  have hm0c : n0c ≤ 9223372036854775807 := by have hh1 := h0c.1; have hh2 := h0c.2.1; unfold maxLen at hh2; omega
  have hm0d : n0d ≤ 9223372036854775807 := by have hh1 := h0d.1; have hh2 := h0d.2.1; unfold maxLen at hh2; omega
  have hm1a : n1a ≤ 9223372036854775807 := by have hh1 := h1a.1; have hh2 := h1a.2.1; unfold maxLen at hh2; omega
  by_cases hbig1a : 1048576 < n1a
  · have hd1a : decide ((1048576 : Int) < n1a) = true := decide_eq_true (by omega)
    go_enter Try.func4, Try.ntmps4
    go_wp2
    go_ret
    exact ⟨rfl, (by repeat first | (with_reducible exact Below.refl _ _) | (with_reducible refine Below.setCell ?_ (by first | exact Nat.le_refl _ | (simp; done) | (simp; omega) | omega) _) | (with_reducible refine Below.alloc ?_ (by first | exact Nat.le_refl _ | (simp; done) | (simp; omega) | omega) _) | (with_reducible refine below_drewN ?_ _) | (with_reducible refine Below.drew ?_))⟩
  have hn1a : n1a ≤ 1048576 := by omega
  have hd1a : decide ((1048576 : Int) < n1a) = false := decide_eq_false (by omega)
  by_cases hl : n0b ≤ 1048576 ∧ n0c ≤ 1048576 - n0b ∧ n0d ≤ 1048576 - n0b - n0c
  case neg =>
    go_enter Try.func4, Try.ntmps4
    go_wp2_with fail
    go_at_call 9
    refine (szSparse_no _ _ _ _ _ _ _ _ _ _ (1048576) _ (by omega) hm0b hm0c hm0d hl).mono ?_
    rintro e w1 ⟨rfl, b1⟩
    have D1 : Below w.heap.size w w1 := Below.trans (by repeat first | (with_reducible exact Below.refl _ _) | (with_reducible refine Below.setCell ?_ (by first | exact Nat.le_refl _ | (simp; done) | (simp; omega) | omega) _) | (with_reducible refine Below.alloc ?_ (by first | exact Nat.le_refl _ | (simp; done) | (simp; omega) | omega) _) | (with_reducible refine below_drewN ?_ _) | (with_reducible refine Below.drew ?_)) (b1.mono (by simp; try omega))
    have s1 : w.heap.size + 1 ≤ w1.heap.size := by have := b1.size; (try simp at this); omega
    have B1 : Below w.heap.size w w1 := D1
    have X1_A0 : BoxL w1 w.heap.size [.int .i64 x0a, .slice a0b n0b c0b, .slice a0c n0c c0c, .slice a0d n0d c0d] := BoxL.below (BoxL.four (by simp [go_sem]) (by simp [go_sem]) (by simp [go_sem]) (by simp [go_sem])) b1 (by first | (simp; done) | (simp; omega))
    have Y1_A00 := X1_A0 0 _ rfl
    have Y1_A01 := X1_A0 1 _ rfl
    have Y1_A02 := X1_A0 2 _ rfl
    have Y1_A03 := X1_A0 3 _ rfl
    have L1_A0 : w.heap.size < w1.heap.size := by omega
    go_wp2_with fail
    go_ret
    exact ⟨rfl, B1⟩
  obtain ⟨hl0b, hl0c, hl0d⟩ := hl
  have hn0b : n0b ≤ 1048576 := by omega
  have hn0c : n0c ≤ 1048576 := by omega
  have hn0d : n0d ≤ 1048576 := by omega
  obtain ⟨ok, nAa, VAa, hnrAa, ks, ki⟩ := keySparseTimes x0a n0b Z0b n0c Z0c n0d Z0d n1a Z1a wx0a hn0b hn0c hn0d hn1a
  go_enter Try.func4, Try.ntmps4
  go_wp2_with fail
  go_at_call 9
  refine (szSparse_yes _ _ _ _ _ _ _ _ _ _ (1048576) _ (by omega) hl0b hl0c hl0d).mono ?_
  rintro e w1 ⟨rfl, b1⟩
  have D1 : Below w.heap.size w w1 := Below.trans (by repeat first | (with_reducible exact Below.refl _ _) | (with_reducible refine Below.setCell ?_ (by first | exact Nat.le_refl _ | (simp; done) | (simp; omega) | omega) _) | (with_reducible refine Below.alloc ?_ (by first | exact Nat.le_refl _ | (simp; done) | (simp; omega) | omega) _) | (with_reducible refine below_drewN ?_ _) | (with_reducible refine Below.drew ?_)) (b1.mono (by simp; try omega))
  have s1 : w.heap.size + 1 ≤ w1.heap.size := by have := b1.size; (try simp at this); omega
  have B1 : Below w.heap.size w w1 := D1
  have X1_A0 : BoxL w1 w.heap.size [.int .i64 x0a, .slice a0b n0b c0b, .slice a0c n0c c0c, .slice a0d n0d c0d] := BoxL.below (BoxL.four (by simp [go_sem]) (by simp [go_sem]) (by simp [go_sem]) (by simp [go_sem])) b1 (by first | (simp; done) | (simp; omega))
  have Y1_A00 := X1_A0 0 _ rfl
  have Y1_A01 := X1_A0 1 _ rfl
  have Y1_A02 := X1_A0 2 _ rfl
  have Y1_A03 := X1_A0 3 _ rfl
  have L1_A0 : w.heap.size < w1.heap.size := by omega
  have hdz0 : decide (((1048576 - n0b - n0c - n0d : Nat) : Int) < 0) = false := decide_eq_false (by omega)
  go_wp2_with fail
  go_at_call 11
  refine (toSparse_sep x0a a0b n0b c0b Z0b a0c n0c c0c Z0c a0d n0d c0d Z0d _ hn0b hn0c hn0d (h0b.below B1 (Nat.le_refl _)) (h0c.below B1 (Nat.le_refl _)) (h0d.below B1 (Nat.le_refl _))).mono ?_
  rintro e w2 ⟨ps0b, qs0b, ps0c, qs0c, ps0d, qs0d, Ms0b, Ms0c, rfl, ms0b, ms0c, ms0d, os0b, os0c, os0d, b2⟩
  have D2 : Below w1.heap.size w1 w2 := b2
  have s2 : w1.heap.size + 0 ≤ w2.heap.size := by have := b2.size; (try simp at this); omega
  have B2 : Below w.heap.size w w2 := B1.trans (D2.mono B1.size)
  have X2_A0 := X1_A0.below D2 (by omega)
  have Y2_A00 := X2_A0 0 _ rfl
  have Y2_A01 := X2_A0 1 _ rfl
  have Y2_A02 := X2_A0 2 _ rfl
  have Y2_A03 := X2_A0 3 _ rfl
  have L2_A0 : w.heap.size < w2.heap.size := by omega
  clear X1_A0 Y1_A00 Y1_A01 Y1_A02 Y1_A03 L1_A0
  go_wp2_with fail
  go_at_call 16
  refine (toFloat32S_own a1a n1a c1a Z1a _ hn1a (h1a.below B2 (Nat.le_refl _))).mono ?_
  rintro e w3 ⟨ps1a, qs1a, rfl, os1a, b3⟩
  have D3 : Below w2.heap.size w2 w3 := b3
  have s3 : w2.heap.size + 0 ≤ w3.heap.size := by have := b3.size; (try simp at this); omega
  have B3 : Below w.heap.size w w3 := B2.trans (D3.mono B2.size)
  have X3_A0 := X2_A0.below D3 (by omega)
  replace os0b := os0b.kept (below_grew D3) (fun q hq => by cases hq)
  replace os0c := os0c.kept (below_grew D3) (fun q hq => by cases hq)
  replace os0d := os0d.kept (below_grew D3) (fun q hq => by cases hq)
  have Y3_A00 := X3_A0 0 _ rfl
  have Y3_A01 := X3_A0 1 _ rfl
  have Y3_A02 := X3_A0 2 _ rfl
  have Y3_A03 := X3_A0 3 _ rfl
  have L3_A0 : w.heap.size < w3.heap.size := by omega
  clear X2_A0 Y2_A00 Y2_A01 Y2_A02 Y2_A03 L2_A0
  go_wp2_with fail
  go_at_call 15
  refine (ks _ _ _ _ _ _ _ _ _ (OwnI.is os0b) (OwnI.is os0c) (Own.fs os0d) (Own.fs os1a)).mono ?_
  rintro e w4 ⟨g1Aa, d1Aa, Y1Aa, rfl, fg1Aa, v1Aa, b4⟩
  have D4 : Below w3.heap.size w3 w4 := b4
  have s4 : w3.heap.size + 0 ≤ w4.heap.size := by have := b4.size; (try simp at this); omega
  have B4 : Below w.heap.size w w4 := B3.trans (D4.mono B3.size)
  have X4_A0 := X3_A0.below D4 (by omega)
  replace os0b := os0b.kept (below_grew D4) (fun q hq => by cases hq)
  replace os0c := os0c.kept (below_grew D4) (fun q hq => by cases hq)
  replace os0d := os0d.kept (below_grew D4) (fun q hq => by cases hq)
  replace os1a := os1a.kept (below_grew D4) (fun q hq => by cases hq)
  have Y4_A00 := X4_A0 0 _ rfl
  have Y4_A01 := X4_A0 1 _ rfl
  have Y4_A02 := X4_A0 2 _ rfl
  have Y4_A03 := X4_A0 3 _ rfl
  have L4_A0 : w.heap.size < w4.heap.size := by omega
  clear X3_A0 Y3_A00 Y3_A01 Y3_A02 Y3_A03 L3_A0
  have fs1Aa_ := fg1Aa
  have DS1 := Below.refl w4.heap.size w4
  clear os0b os0c os0d os1a
  go_wp2_with fail
  go_at_call 11
  refine (toSparse_sep x0a a0b n0b c0b Z0b a0c n0c c0c Z0c a0d n0d c0d Z0d _ hn0b hn0c hn0d (h0b.below B4 (Nat.le_refl _)) (h0c.below B4 (Nat.le_refl _)) (h0d.below B4 (Nat.le_refl _))).mono ?_
  rintro e w5 ⟨px0b, qx0b, px0c, qx0c, px0d, qx0d, Mx0b, Mx0c, rfl, mx0b, mx0c, mx0d, ox0b, ox0c, ox0d, b5⟩
  have D5 : Below w4.heap.size w4 w5 := b5
  have s5 : w4.heap.size + 0 ≤ w5.heap.size := by have := b5.size; (try simp at this); omega
  have B5 : Below w.heap.size w w5 := B4.trans (D5.mono B4.size)
  have X5_A0 := X4_A0.below D5 (by omega)
  replace DS1 := DS1.trans (D5.mono DS1.size)
  have Y5_A00 := X5_A0 0 _ rfl
  have Y5_A01 := X5_A0 1 _ rfl
  have Y5_A02 := X5_A0 2 _ rfl
  have Y5_A03 := X5_A0 3 _ rfl
  have L5_A0 : w.heap.size < w5.heap.size := by omega
  clear X4_A0 Y4_A00 Y4_A01 Y4_A02 Y4_A03 L4_A0
  go_wp2_with fail
  go_at_call 16
  refine (toFloat32S_own a1a n1a c1a Z1a _ hn1a (FS.below (h1a.below B5 (Nat.le_refl _)) (by repeat first | (with_reducible exact Below.refl _ _) | (with_reducible refine Below.setCell ?_ (by first | exact Nat.le_refl _ | (simp; done) | (simp; omega) | omega) _) | (with_reducible refine Below.alloc ?_ (by first | exact Nat.le_refl _ | (simp; done) | (simp; omega) | omega) _) | (with_reducible refine below_drewN ?_ _) | (with_reducible refine Below.drew ?_)) (Nat.le_refl _))).mono ?_
  rintro e w6 ⟨px1a, qx1a, rfl, ox1a, b6⟩
  replace ox1a := Own.mono (B' := (w5.heap.size + 1)) ox1a (by simp) (Nat.le_refl _) (by omega)
  have D6 : Below w5.heap.size w5 w6 := Below.trans (by repeat first | (with_reducible exact Below.refl _ _) | (with_reducible refine Below.setCell ?_ (by first | exact Nat.le_refl _ | (simp; done) | (simp; omega) | omega) _) | (with_reducible refine Below.alloc ?_ (by first | exact Nat.le_refl _ | (simp; done) | (simp; omega) | omega) _) | (with_reducible refine below_drewN ?_ _) | (with_reducible refine Below.drew ?_)) (b6.mono (by simp; try omega))
  have s6 : w5.heap.size + 1 ≤ w6.heap.size := by have := b6.size; (try simp at this); omega
  have B6 : Below w.heap.size w w6 := B5.trans (D6.mono B5.size)
  have X6_A0 := X5_A0.below D6 (by omega)
  have X6_P0 : BoxL w6 w5.heap.size [.int .i64 x0a, .slice px0b n0b qx0b, .slice px0c n0c qx0c, .slice px0d n0d qx0d] := BoxL.below (BoxL.four (by simp [go_sem]) (by simp [go_sem]) (by simp [go_sem]) (by simp [go_sem])) b6 (by first | (simp; done) | (simp; omega))
  replace ox0b := ox0b.kept (below_grew D6) (fun q hq => by cases hq)
  replace ox0c := ox0c.kept (below_grew D6) (fun q hq => by cases hq)
  replace ox0d := ox0d.kept (below_grew D6) (fun q hq => by cases hq)
  replace DS1 := DS1.trans (D6.mono DS1.size)
  have Y6_A00 := X6_A0 0 _ rfl
  have Y6_A01 := X6_A0 1 _ rfl
  have Y6_A02 := X6_A0 2 _ rfl
  have Y6_A03 := X6_A0 3 _ rfl
  have L6_A0 : w.heap.size < w6.heap.size := by omega
  have Y6_P00 := X6_P0 0 _ rfl
  have Y6_P01 := X6_P0 1 _ rfl
  have Y6_P02 := X6_P0 2 _ rfl
  have Y6_P03 := X6_P0 3 _ rfl
  have L6_P0 : w5.heap.size < w6.heap.size := by omega
  clear X5_A0 Y5_A00 Y5_A01 Y5_A02 Y5_A03 L5_A0
  go_wp2_with fail
  go_at_call 17
  refine (ki _ _ _ _ _ _ _ _ _ (OwnI.is ox0b) (OwnI.is ox0c) (Own.fs ox0d) (Own.fs ox1a)).mono ?_
  rintro e w7 ⟨g2Aa, d2Aa, Y2Aa, rfl, og2Aa, v2Aa, b7⟩
  have D7 : Below w6.heap.size w6 w7 := b7
  have s7 : w6.heap.size + 0 ≤ w7.heap.size := by have := b7.size; (try simp at this); omega
  have B7 : Below w.heap.size w w7 := B6.trans (D7.mono B6.size)
  have X7_A0 := X6_A0.below D7 (by omega)
  have X7_P0 := X6_P0.below D7 (by omega)
  replace ox0b := ox0b.kept (below_grew D7) (fun q hq => by cases hq)
  replace ox0c := ox0c.kept (below_grew D7) (fun q hq => by cases hq)
  replace ox0d := ox0d.kept (below_grew D7) (fun q hq => by cases hq)
  replace ox1a := ox1a.kept (below_grew D7) (fun q hq => by cases hq)
  replace DS1 := DS1.trans (D7.mono DS1.size)
  have Y7_A00 := X7_A0 0 _ rfl
  have Y7_A01 := X7_A0 1 _ rfl
  have Y7_A02 := X7_A0 2 _ rfl
  have Y7_A03 := X7_A0 3 _ rfl
  have L7_A0 : w.heap.size < w7.heap.size := by omega
  have Y7_P00 := X7_P0 0 _ rfl
  have Y7_P01 := X7_P0 1 _ rfl
  have Y7_P02 := X7_P0 2 _ rfl
  have Y7_P03 := X7_P0 3 _ rfl
  have L7_P0 : w5.heap.size < w7.heap.size := by omega
  clear X6_A0 Y6_A00 Y6_A01 Y6_A02 Y6_A03 L6_A0 X6_P0 Y6_P00 Y6_P01 Y6_P02 Y6_P03 L6_P0
  go_wp2_with fail
  go_at_call 18
  refine (eqFloat32S_any _ _ _ _ _ _ _ _ (by omega) (Own.fs og2Aa) (fs1Aa_.below DS1 (Nat.le_refl _)) (fun i hi => (v2Aa i hi).trans (v1Aa i hi).symm)).mono ?_
  rintro e w8 ⟨rfl, me8, hw8⟩
  have b8 := below_of_drewN hw8
  clear hw8
  have D8 : Below w7.heap.size w7 w8 := b8
  have s8 : w7.heap.size + 0 ≤ w8.heap.size := by have := b8.size; (try simp at this); omega
  have B8 : Below w.heap.size w w8 := B7.trans (D8.mono B7.size)
  have X8_A0 := X7_A0.below D8 (by omega)
  have X8_P0 := X7_P0.below D8 (by omega)
  replace ox0b := ox0b.kept (below_grew D8) (fun q hq => by cases hq)
  replace ox0c := ox0c.kept (below_grew D8) (fun q hq => by cases hq)
  replace ox0d := ox0d.kept (below_grew D8) (fun q hq => by cases hq)
  replace ox1a := ox1a.kept (below_grew D8) (fun q hq => by cases hq)
  replace og2Aa := og2Aa.kept (below_grew D8) (fun q hq => by cases hq)
  replace DS1 := DS1.trans (D8.mono DS1.size)
  have Y8_A00 := X8_A0 0 _ rfl
  have Y8_A01 := X8_A0 1 _ rfl
  have Y8_A02 := X8_A0 2 _ rfl
  have Y8_A03 := X8_A0 3 _ rfl
  have L8_A0 : w.heap.size < w8.heap.size := by omega
  have Y8_P00 := X8_P0 0 _ rfl
  have Y8_P01 := X8_P0 1 _ rfl
  have Y8_P02 := X8_P0 2 _ rfl
  have Y8_P03 := X8_P0 3 _ rfl
  have L8_P0 : w5.heap.size < w8.heap.size := by omega
  clear X7_A0 Y7_A00 Y7_A01 Y7_A02 Y7_A03 L7_A0 X7_P0 Y7_P00 Y7_P01 Y7_P02 Y7_P03 L7_P0
  go_wp2_with fail
  go_region_held3 (fun w' => w'.cell? ⟨w5.heap.size, 0, none⟩ = some (.int .i64 x0a) ∧ w'.cell? ⟨w5.heap.size, 1, none⟩ = some (.slice px0b n0b qx0b) ∧ w'.cell? ⟨w5.heap.size, 2, none⟩ = some (.slice px0c n0c qx0c) ∧ w'.cell? ⟨w5.heap.size, 3, none⟩ = some (.slice px0d n0d qx0d) ∧ w'.cell? ⟨w.heap.size, 0, none⟩ = some (.int .i64 x0a) ∧ w'.cell? ⟨w.heap.size, 1, none⟩ = some (.slice a0b n0b c0b) ∧ w'.cell? ⟨w.heap.size, 2, none⟩ = some (.slice a0c n0c c0c) ∧ w'.cell? ⟨w.heap.size, 3, none⟩ = some (.slice a0d n0d c0d) ∧ Below w8.heap.size w8 w')
    (first | exact ⟨Y8_P00, Y8_P01, Y8_P02, Y8_P03, Y8_A00, Y8_A01, Y8_A02, Y8_A03, (by first | exact (Below.refl _ _).drew | exact (below_drewN (Below.refl _ _) _).drew)⟩ | exact heldS_SparseTimes_4_4 (by assumption) (by assumption) (by omega) (by omega))
    (first
      | (go_at_call 11; refine (toSparse_sep x0a a0b n0b c0b Z0b a0c n0c c0c Z0c a0d n0d c0d Z0d _ hn0b hn0c hn0d (h0b.below (B8.trans (Below.mono (by go_split_ands; assumption) B8.size)) (Nat.le_refl _)) (h0c.below (B8.trans (Below.mono (by go_split_ands; assumption) B8.size)) (Nat.le_refl _)) (h0d.below (B8.trans (Below.mono (by go_split_ands; assumption) B8.size)) (Nat.le_refl _))).mono ?_; rintro e wa ⟨pa0b, qa0b, pa0c, qa0c, pa0d, qa0d, Ma0b, Ma0c, rfl, ma0b, ma0c, ma0d, oa0b, oa0c, oa0d, ba⟩)
      | (go_at_call 14; refine (eqSparse_any _ _ _ _ _ _ _ _ _ _ _ _ _ _ _ _ _ _ _ _ _ _ _ (by omega) (by omega) (by omega) ((OwnI.is ox0b).below (by go_split_ands; assumption) (Nat.le_refl _)) (OwnI.is oa0b) ((OwnI.is ox0c).below (by go_split_ands; assumption) (Nat.le_refl _)) (OwnI.is oa0c) ((Own.fs ox0d).below (by go_split_ands; assumption) (Nat.le_refl _)) (Own.fs oa0d) (fun i hi => rfl) (fun i hi => rfl) (fun i hi => rfl)).mono ?_; rintro e w9 ⟨rfl, bb⟩))
  have b9 : Below w8.heap.size w8 w9 := by go_split_ands; assumption
  clear oa0b oa0c oa0d ba bb
  have D9 : Below w8.heap.size w8 w9 := b9
  have s9 : w8.heap.size + 0 ≤ w9.heap.size := by have := b9.size; (try simp at this); omega
  have B9 : Below w.heap.size w w9 := B8.trans (D9.mono B8.size)
  have X9_A0 := X8_A0.below D9 (by omega)
  have X9_P0 := X8_P0.below D9 (by omega)
  replace ox0b := ox0b.kept (below_grew D9) (fun q hq => by cases hq)
  replace ox0c := ox0c.kept (below_grew D9) (fun q hq => by cases hq)
  replace ox0d := ox0d.kept (below_grew D9) (fun q hq => by cases hq)
  replace ox1a := ox1a.kept (below_grew D9) (fun q hq => by cases hq)
  replace og2Aa := og2Aa.kept (below_grew D9) (fun q hq => by cases hq)
  replace DS1 := DS1.trans (D9.mono DS1.size)
  have Y9_A00 := X9_A0 0 _ rfl
  have Y9_A01 := X9_A0 1 _ rfl
  have Y9_A02 := X9_A0 2 _ rfl
  have Y9_A03 := X9_A0 3 _ rfl
  have L9_A0 : w.heap.size < w9.heap.size := by omega
  have Y9_P00 := X9_P0 0 _ rfl
  have Y9_P01 := X9_P0 1 _ rfl
  have Y9_P02 := X9_P0 2 _ rfl
  have Y9_P03 := X9_P0 3 _ rfl
  have L9_P0 : w5.heap.size < w9.heap.size := by omega
  clear X8_A0 Y8_A00 Y8_A01 Y8_A02 Y8_A03 L8_A0 X8_P0 Y8_P00 Y8_P01 Y8_P02 Y8_P03 L8_P0
  go_wp2_with fail
  go_at_call 16
  refine (toFloat32S_own a1a n1a c1a Z1a _ hn1a (h1a.below B9 (Nat.le_refl _))).mono ?_
  rintro e w10 ⟨py1a, qy1a, rfl, oy1a, b10⟩
  have D10 : Below w9.heap.size w9 w10 := b10
  have s10 : w9.heap.size + 0 ≤ w10.heap.size := by have := b10.size; (try simp at this); omega
  have B10 : Below w.heap.size w w10 := B9.trans (D10.mono B9.size)
  have X10_A0 := X9_A0.below D10 (by omega)
  have X10_P0 := X9_P0.below D10 (by omega)
  replace ox0b := ox0b.kept (below_grew D10) (fun q hq => by cases hq)
  replace ox0c := ox0c.kept (below_grew D10) (fun q hq => by cases hq)
  replace ox0d := ox0d.kept (below_grew D10) (fun q hq => by cases hq)
  replace ox1a := ox1a.kept (below_grew D10) (fun q hq => by cases hq)
  replace og2Aa := og2Aa.kept (below_grew D10) (fun q hq => by cases hq)
  replace DS1 := DS1.trans (D10.mono DS1.size)
  have Y10_A00 := X10_A0 0 _ rfl
  have Y10_A01 := X10_A0 1 _ rfl
  have Y10_A02 := X10_A0 2 _ rfl
  have Y10_A03 := X10_A0 3 _ rfl
  have L10_A0 : w.heap.size < w10.heap.size := by omega
  have Y10_P00 := X10_P0 0 _ rfl
  have Y10_P01 := X10_P0 1 _ rfl
  have Y10_P02 := X10_P0 2 _ rfl
  have Y10_P03 := X10_P0 3 _ rfl
  have L10_P0 : w5.heap.size < w10.heap.size := by omega
  clear X9_A0 Y9_A00 Y9_A01 Y9_A02 Y9_A03 L9_A0 X9_P0 Y9_P00 Y9_P01 Y9_P02 Y9_P03 L9_P0
  go_wp2_with fail
  go_at_call 18
  refine (eqFloat32S_any _ _ n1a _ _ Z1a Z1a _ hn1a (Own.fs ox1a) (Own.fs oy1a) (fun i hi => rfl)).mono ?_
  rintro e w11 ⟨rfl, me11, hw11⟩
  have b11 := below_of_drewN hw11
  clear hw11
  clear oy1a
  have D11 : Below w10.heap.size w10 w11 := b11
  have s11 : w10.heap.size + 0 ≤ w11.heap.size := by have := b11.size; (try simp at this); omega
  have B11 : Below w.heap.size w w11 := B10.trans (D11.mono B10.size)
  have X11_A0 := X10_A0.below D11 (by omega)
  have X11_P0 := X10_P0.below D11 (by omega)
  replace ox0b := ox0b.kept (below_grew D11) (fun q hq => by cases hq)
  replace ox0c := ox0c.kept (below_grew D11) (fun q hq => by cases hq)
  replace ox0d := ox0d.kept (below_grew D11) (fun q hq => by cases hq)
  replace ox1a := ox1a.kept (below_grew D11) (fun q hq => by cases hq)
  replace og2Aa := og2Aa.kept (below_grew D11) (fun q hq => by cases hq)
  replace DS1 := DS1.trans (D11.mono DS1.size)
  have Y11_A00 := X11_A0 0 _ rfl
  have Y11_A01 := X11_A0 1 _ rfl
  have Y11_A02 := X11_A0 2 _ rfl
  have Y11_A03 := X11_A0 3 _ rfl
  have L11_A0 : w.heap.size < w11.heap.size := by omega
  have Y11_P00 := X11_P0 0 _ rfl
  have Y11_P01 := X11_P0 1 _ rfl
  have Y11_P02 := X11_P0 2 _ rfl
  have Y11_P03 := X11_P0 3 _ rfl
  have L11_P0 : w5.heap.size < w11.heap.size := by omega
  clear X10_A0 Y10_A00 Y10_A01 Y10_A02 Y10_A03 L10_A0 X10_P0 Y10_P00 Y10_P01 Y10_P02 Y10_P03 L10_P0
  go_wp2_with fail
  go_at_call 19
  refine (markSparse_sep (w4.heap.size) _ _ (w5.heap.size) _ _ _ _ _ _ _ _ _ _ _ _ _ (1) _ (by omega) (by omega) (by omega) (by omega) (by omega) (by omega) (by omega) (by omega) ox0b ox0c ox0d).mono ?_
  rintro e w12 ⟨rfl, om0b, om0c, om0d, gr12⟩
  clear ox0b ox0c ox0d om0b om0c om0d
  have s12 : w11.heap.size ≤ w12.heap.size := gr12.size
  have B12 : Below w.heap.size w w12 := Below.over B11 gr12 (by omega) (by omega)
  have X12_A0 := X11_A0.over gr12 (by omega) (by omega)
  have X12_P0 := X11_P0.over gr12 (by omega) (by omega)
  replace ox1a := ox1a.over gr12 (by omega)
  replace og2Aa := og2Aa.over gr12 (by omega)
  replace DS1 := Below.over DS1 gr12 (by omega) (by omega)
  have Y12_A00 := X12_A0 0 _ rfl
  have Y12_A01 := X12_A0 1 _ rfl
  have Y12_A02 := X12_A0 2 _ rfl
  have Y12_A03 := X12_A0 3 _ rfl
  have L12_A0 : w.heap.size < w12.heap.size := by omega
  have Y12_P00 := X12_P0 0 _ rfl
  have Y12_P01 := X12_P0 1 _ rfl
  have Y12_P02 := X12_P0 2 _ rfl
  have Y12_P03 := X12_P0 3 _ rfl
  have L12_P0 : w5.heap.size < w12.heap.size := by omega
  clear X11_A0 Y11_A00 Y11_A01 Y11_A02 Y11_A03 L11_A0 X11_P0 Y11_P00 Y11_P01 Y11_P02 Y11_P03 L11_P0
  go_wp2_with fail
  go_at_call 20
  refine (markFloat32S_more  ((w5.heap.size + 1)) (w6.heap.size) _ _ _ (1 + n0b + n0c + n0d) _ _ (by omega) (by omega) ox1a).mono ?_
  rintro e w13 ⟨rfl, om1a, row13⟩
  have gr13 := Marked.grew row13
  clear row13
  clear ox1a om1a
  have s13 : w12.heap.size ≤ w13.heap.size := gr13.size
  have B13 : Below w.heap.size w w13 := Below.over B12 gr13 (by omega) (by omega)
  have X13_A0 := X12_A0.over gr13 (by omega) (by omega)
  have X13_P0 := X12_P0.over gr13 (by omega) (by omega)
  replace og2Aa := og2Aa.over gr13 (by omega)
  replace DS1 := Below.over DS1 gr13 (by omega) (by omega)
  have Y13_A00 := X13_A0 0 _ rfl
  have Y13_A01 := X13_A0 1 _ rfl
  have Y13_A02 := X13_A0 2 _ rfl
  have Y13_A03 := X13_A0 3 _ rfl
  have L13_A0 : w.heap.size < w13.heap.size := by omega
  have Y13_P00 := X13_P0 0 _ rfl
  have Y13_P01 := X13_P0 1 _ rfl
  have Y13_P02 := X13_P0 2 _ rfl
  have Y13_P03 := X13_P0 3 _ rfl
  have L13_P0 : w5.heap.size < w13.heap.size := by omega
  clear X12_A0 Y12_A00 Y12_A01 Y12_A02 Y12_A03 L12_A0 X12_P0 Y12_P00 Y12_P01 Y12_P02 Y12_P03 L12_P0
  have hk1 : decide (((1 + n0b + n0c + n0d + n1a : Nat) : Int) < 0) = false := decide_eq_false (by omega)
  have hk2 := hk1
  simp only [Int.natCast_add, Int.natCast_one, Int.cast_ofNat_Int] at hk2
  go_wp2_with fail
  go_at_call 18
  refine (eqFloat32S_any _ _ _ _ _ _ _ _ (by omega) (Own.fs og2Aa) (fs1Aa_.below DS1 (Nat.le_refl _)) (fun i hi => (v2Aa i hi).trans (v1Aa i hi).symm)).mono ?_
  rintro e w14 ⟨rfl, me14, hw14⟩
  have b14 := below_of_drewN hw14
  clear hw14
  have D14 : Below w13.heap.size w13 w14 := b14
  have s14 : w13.heap.size + 0 ≤ w14.heap.size := by have := b14.size; (try simp at this); omega
  have B14 : Below w.heap.size w w14 := B13.trans (D14.mono B13.size)
  have X14_A0 := X13_A0.below D14 (by omega)
  have X14_P0 := X13_P0.below D14 (by omega)
  replace og2Aa := og2Aa.kept (below_grew D14) (fun q hq => by cases hq)
  replace DS1 := DS1.trans (D14.mono DS1.size)
  have Y14_A00 := X14_A0 0 _ rfl
  have Y14_A01 := X14_A0 1 _ rfl
  have Y14_A02 := X14_A0 2 _ rfl
  have Y14_A03 := X14_A0 3 _ rfl
  have L14_A0 : w.heap.size < w14.heap.size := by omega
  have Y14_P00 := X14_P0 0 _ rfl
  have Y14_P01 := X14_P0 1 _ rfl
  have Y14_P02 := X14_P0 2 _ rfl
  have Y14_P03 := X14_P0 3 _ rfl
  have L14_P0 : w5.heap.size < w14.heap.size := by omega
  clear X13_A0 Y13_A00 Y13_A01 Y13_A02 Y13_A03 L13_A0 X13_P0 Y13_P00 Y13_P01 Y13_P02 Y13_P03 L13_P0
  go_wp2_with fail
  go_at_call 20
  refine (markFloat32S_more  (_) (_) _ _ _ (1) _ _ (by omega) (by omega) og2Aa).mono ?_
  rintro e w15 ⟨rfl, omAa, row15⟩
  have gr15 := Marked.grew row15
  clear row15
  clear og2Aa
  have s15 : w14.heap.size ≤ w15.heap.size := gr15.size
  have B15 : Below w.heap.size w w15 := Below.over B14 gr15 (by omega) (by omega)
  have X15_A0 := X14_A0.over gr15 (by omega) (by omega)
  have X15_P0 := X14_P0.over gr15 (by omega) (by omega)
  replace DS1 := Below.over DS1 gr15 (by omega) (by omega)
  have Y15_A00 := X15_A0 0 _ rfl
  have Y15_A01 := X15_A0 1 _ rfl
  have Y15_A02 := X15_A0 2 _ rfl
  have Y15_A03 := X15_A0 3 _ rfl
  have L15_A0 : w.heap.size < w15.heap.size := by omega
  have Y15_P00 := X15_P0 0 _ rfl
  have Y15_P01 := X15_P0 1 _ rfl
  have Y15_P02 := X15_P0 2 _ rfl
  have Y15_P03 := X15_P0 3 _ rfl
  have L15_P0 : w5.heap.size < w15.heap.size := by omega
  clear X14_A0 Y14_A00 Y14_A01 Y14_A02 Y14_A03 L14_A0 X14_P0 Y14_P00 Y14_P01 Y14_P02 Y14_P03 L14_P0
  have hq1 : decide (((1 + nAa : Nat) : Int) < 0) = false := decide_eq_false (by omega)
  have hq2 := hq1
  simp only [Int.natCast_add, Int.natCast_one, Int.cast_ofNat_Int] at hq2
  go_wp2_with fail
  go_at_call 21
  refine (heldFloat32S_any _ _ _ (1) _ _ (by omega) (by omega) (Own.fs omAa) (fun i hi => rfl)).mono ?_
  rintro e w16 ⟨rfl, hw16⟩
  have b16 := below_of_same hw16
  clear hw16
  have D16 : Below w15.heap.size w15 w16 := b16
  have s16 : w15.heap.size + 0 ≤ w16.heap.size := by have := b16.size; (try simp at this); omega
  have B16 : Below w.heap.size w w16 := B15.trans (D16.mono B15.size)
  have X16_A0 := X15_A0.below D16 (by omega)
  have X16_P0 := X15_P0.below D16 (by omega)
  replace omAa := omAa.kept (below_grew D16) (fun q hq => by cases hq)
  replace DS1 := DS1.trans (D16.mono DS1.size)
  have Y16_A00 := X16_A0 0 _ rfl
  have Y16_A01 := X16_A0 1 _ rfl
  have Y16_A02 := X16_A0 2 _ rfl
  have Y16_A03 := X16_A0 3 _ rfl
  have L16_A0 : w.heap.size < w16.heap.size := by omega
  have Y16_P00 := X16_P0 0 _ rfl
  have Y16_P01 := X16_P0 1 _ rfl
  have Y16_P02 := X16_P0 2 _ rfl
  have Y16_P03 := X16_P0 3 _ rfl
  have L16_P0 : w5.heap.size < w16.heap.size := by omega
  clear X15_A0 Y15_A00 Y15_A01 Y15_A02 Y15_A03 L15_A0 X15_P0 Y15_P00 Y15_P01 Y15_P02 Y15_P03 L15_P0
  go_wp2_with fail
  go_at_call 11
  refine (toSparse_sep x0a a0b n0b c0b Z0b a0c n0c c0c Z0c a0d n0d c0d Z0d _ hn0b hn0c hn0d (h0b.below B16 (Nat.le_refl _)) (h0c.below B16 (Nat.le_refl _)) (h0d.below B16 (Nat.le_refl _))).mono ?_
  rintro e w17 ⟨pz0b, qz0b, pz0c, qz0c, pz0d, qz0d, Mz0b, Mz0c, rfl, mz0b, mz0c, mz0d, oz0b, oz0c, oz0d, b17⟩
  have D17 : Below w16.heap.size w16 w17 := b17
  have s17 : w16.heap.size + 0 ≤ w17.heap.size := by have := b17.size; (try simp at this); omega
  have B17 : Below w.heap.size w w17 := B16.trans (D17.mono B16.size)
  have X17_A0 := X16_A0.below D17 (by omega)
  have X17_P0 := X16_P0.below D17 (by omega)
  replace omAa := omAa.kept (below_grew D17) (fun q hq => by cases hq)
  replace DS1 := DS1.trans (D17.mono DS1.size)
  have Y17_A00 := X17_A0 0 _ rfl
  have Y17_A01 := X17_A0 1 _ rfl
  have Y17_A02 := X17_A0 2 _ rfl
  have Y17_A03 := X17_A0 3 _ rfl
  have L17_A0 : w.heap.size < w17.heap.size := by omega
  have Y17_P00 := X17_P0 0 _ rfl
  have Y17_P01 := X17_P0 1 _ rfl
  have Y17_P02 := X17_P0 2 _ rfl
  have Y17_P03 := X17_P0 3 _ rfl
  have L17_P0 : w5.heap.size < w17.heap.size := by omega
  clear X16_A0 Y16_A00 Y16_A01 Y16_A02 Y16_A03 L16_A0 X16_P0 Y16_P00 Y16_P01 Y16_P02 Y16_P03 L16_P0
  go_wp2_with fail
  go_at_call 16
  refine (toFloat32S_own a1a n1a c1a Z1a _ hn1a (h1a.below B17 (Nat.le_refl _))).mono ?_
  rintro e w18 ⟨pz1a, qz1a, rfl, oz1a, b18⟩
  have D18 : Below w17.heap.size w17 w18 := b18
  have s18 : w17.heap.size + 0 ≤ w18.heap.size := by have := b18.size; (try simp at this); omega
  have B18 : Below w.heap.size w w18 := B17.trans (D18.mono B17.size)
  have X18_A0 := X17_A0.below D18 (by omega)
  have X18_P0 := X17_P0.below D18 (by omega)
  replace omAa := omAa.kept (below_grew D18) (fun q hq => by cases hq)
  replace oz0b := oz0b.kept (below_grew D18) (fun q hq => by cases hq)
  replace oz0c := oz0c.kept (below_grew D18) (fun q hq => by cases hq)
  replace oz0d := oz0d.kept (below_grew D18) (fun q hq => by cases hq)
  replace DS1 := DS1.trans (D18.mono DS1.size)
  have Y18_A00 := X18_A0 0 _ rfl
  have Y18_A01 := X18_A0 1 _ rfl
  have Y18_A02 := X18_A0 2 _ rfl
  have Y18_A03 := X18_A0 3 _ rfl
  have L18_A0 : w.heap.size < w18.heap.size := by omega
  have Y18_P00 := X18_P0 0 _ rfl
  have Y18_P01 := X18_P0 1 _ rfl
  have Y18_P02 := X18_P0 2 _ rfl
  have Y18_P03 := X18_P0 3 _ rfl
  have L18_P0 : w5.heap.size < w18.heap.size := by omega
  clear X17_A0 Y17_A00 Y17_A01 Y17_A02 Y17_A03 L17_A0 X17_P0 Y17_P00 Y17_P01 Y17_P02 Y17_P03 L17_P0
  go_wp2_with fail
  go_at_call 17
  refine (ki _ _ _ _ _ _ _ _ _ (OwnI.is oz0b) (OwnI.is oz0c) (Own.fs oz0d) (Own.fs oz1a)).mono ?_
  rintro e w19 ⟨g3Aa, d3Aa, Y3Aa, rfl, og3Aa, v3Aa, b19⟩
  have D19 : Below w18.heap.size w18 w19 := b19
  have s19 : w18.heap.size + 0 ≤ w19.heap.size := by have := b19.size; (try simp at this); omega
  have B19 : Below w.heap.size w w19 := B18.trans (D19.mono B18.size)
  have X19_A0 := X18_A0.below D19 (by omega)
  have X19_P0 := X18_P0.below D19 (by omega)
  replace omAa := omAa.kept (below_grew D19) (fun q hq => by cases hq)
  replace oz0b := oz0b.kept (below_grew D19) (fun q hq => by cases hq)
  replace oz0c := oz0c.kept (below_grew D19) (fun q hq => by cases hq)
  replace oz0d := oz0d.kept (below_grew D19) (fun q hq => by cases hq)
  replace oz1a := oz1a.kept (below_grew D19) (fun q hq => by cases hq)
  replace DS1 := DS1.trans (D19.mono DS1.size)
  have Y19_A00 := X19_A0 0 _ rfl
  have Y19_A01 := X19_A0 1 _ rfl
  have Y19_A02 := X19_A0 2 _ rfl
  have Y19_A03 := X19_A0 3 _ rfl
  have L19_A0 : w.heap.size < w19.heap.size := by omega
  have Y19_P00 := X19_P0 0 _ rfl
  have Y19_P01 := X19_P0 1 _ rfl
  have Y19_P02 := X19_P0 2 _ rfl
  have Y19_P03 := X19_P0 3 _ rfl
  have L19_P0 : w5.heap.size < w19.heap.size := by omega
  clear X18_A0 Y18_A00 Y18_A01 Y18_A02 Y18_A03 L18_A0 X18_P0 Y18_P00 Y18_P01 Y18_P02 Y18_P03 L18_P0
  clear oz0b oz0c oz0d oz1a
  go_wp2_with fail
  go_at_call 18
  refine (eqFloat32S_any _ _ _ _ _ _ _ _ (by omega) (Own.fs og3Aa) (fs1Aa_.below DS1 (Nat.le_refl _)) (fun i hi => (v3Aa i hi).trans (v1Aa i hi).symm)).mono ?_
  rintro e w20 ⟨rfl, me20, hw20⟩
  have b20 := below_of_drewN hw20
  clear hw20
  have D20 : Below w19.heap.size w19 w20 := b20
  have s20 : w19.heap.size + 0 ≤ w20.heap.size := by have := b20.size; (try simp at this); omega
  have B20 : Below w.heap.size w w20 := B19.trans (D20.mono B19.size)
  have X20_A0 := X19_A0.below D20 (by omega)
  have X20_P0 := X19_P0.below D20 (by omega)
  replace omAa := omAa.kept (below_grew D20) (fun q hq => by cases hq)
  replace og3Aa := og3Aa.kept (below_grew D20) (fun q hq => by cases hq)
  replace DS1 := DS1.trans (D20.mono DS1.size)
  have Y20_A00 := X20_A0 0 _ rfl
  have Y20_A01 := X20_A0 1 _ rfl
  have Y20_A02 := X20_A0 2 _ rfl
  have Y20_A03 := X20_A0 3 _ rfl
  have L20_A0 : w.heap.size < w20.heap.size := by omega
  have Y20_P00 := X20_P0 0 _ rfl
  have Y20_P01 := X20_P0 1 _ rfl
  have Y20_P02 := X20_P0 2 _ rfl
  have Y20_P03 := X20_P0 3 _ rfl
  have L20_P0 : w5.heap.size < w20.heap.size := by omega
  clear X19_A0 Y19_A00 Y19_A01 Y19_A02 Y19_A03 L19_A0 X19_P0 Y19_P00 Y19_P01 Y19_P02 Y19_P03 L19_P0
  go_wp2_with fail
  go_at_call 21
  refine (heldFloat32S_any _ _ _ (1) _ _ (by omega) (by omega) (Own.fs omAa) (fun i hi => rfl)).mono ?_
  rintro e w21 ⟨rfl, hw21⟩
  have b21 := below_of_same hw21
  clear hw21
  have D21 : Below w20.heap.size w20 w21 := b21
  have s21 : w20.heap.size + 0 ≤ w21.heap.size := by have := b21.size; (try simp at this); omega
  have B21 : Below w.heap.size w w21 := B20.trans (D21.mono B20.size)
  have X21_A0 := X20_A0.below D21 (by omega)
  have X21_P0 := X20_P0.below D21 (by omega)
  replace omAa := omAa.kept (below_grew D21) (fun q hq => by cases hq)
  replace DS1 := DS1.trans (D21.mono DS1.size)
  have Y21_A00 := X21_A0 0 _ rfl
  have Y21_A01 := X21_A0 1 _ rfl
  have Y21_A02 := X21_A0 2 _ rfl
  have Y21_A03 := X21_A0 3 _ rfl
  have L21_A0 : w.heap.size < w21.heap.size := by omega
  have Y21_P00 := X21_P0 0 _ rfl
  have Y21_P01 := X21_P0 1 _ rfl
  have Y21_P02 := X21_P0 2 _ rfl
  have Y21_P03 := X21_P0 3 _ rfl
  have L21_P0 : w5.heap.size < w21.heap.size := by omega
  clear X20_A0 Y20_A00 Y20_A01 Y20_A02 Y20_A03 L20_A0 X20_P0 Y20_P00 Y20_P01 Y20_P02 Y20_P03 L20_P0
  go_wp2_with fail
  go_ret
  exact ⟨rfl, B21⟩
end Go.Proofs.Ytmjlhmbnaifhaab
