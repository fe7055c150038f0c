/- Helper: the walk of the law FnExactUpdatedSolve. Conditions: none. -/
import Derived.Test.YtmddhhmgfhljiaaUpdatedKey
import Derived.Test.YtmddhhmgfhljiaaFactor
import Derived.Test.YtmddhhmgfhljiaaMatCopy
import Derived.Test.YtmddhhmgfhljiaaKeys
import Derived.Test.YtmddhhmgfhljiaaBoxes
import Derived.Test.YtmddhhmgfhljiaaIntLaw
import Derived.Test.YtmddhhmgfhljiaaMarkMore
import Derived.Deep.RegionHeld3
set_option linter.unusedVariables false
set_option linter.unusedSimpArgs false
namespace Go.Proofs.Ytmddhhmgfhljiaa
open Go.RowKit

theorem heldS_UpdatedSolve {w0 W w' : World} {b1 b2 : Nat} {u0 u1 u2 u3 v0 v1 v2 v3 : Value} (hs : W.cell? ⟨b1, 0, none⟩ = some u0 ∧ W.cell? ⟨b1, 1, none⟩ = some u1 ∧ W.cell? ⟨b1, 2, none⟩ = some u2 ∧ W.cell? ⟨b1, 3, none⟩ = some u3 ∧ W.cell? ⟨b2, 0, none⟩ = some v0 ∧ W.cell? ⟨b2, 1, none⟩ = some v1 ∧ W.cell? ⟨b2, 2, none⟩ = some v2 ∧ W.cell? ⟨b2, 3, none⟩ = some v3 ∧ Below w0.heap.size w0 W) (hb : Below W.heap.size W w') (l1 : b1 < w0.heap.size) (l2 : b2 < w0.heap.size) :
    w'.cell? ⟨b1, 0, none⟩ = some u0 ∧ w'.cell? ⟨b1, 1, none⟩ = some u1 ∧ w'.cell? ⟨b1, 2, none⟩ = some u2 ∧ w'.cell? ⟨b1, 3, none⟩ = some u3 ∧ w'.cell? ⟨b2, 0, none⟩ = some v0 ∧ w'.cell? ⟨b2, 1, none⟩ = some v1 ∧ w'.cell? ⟨b2, 2, none⟩ = some v2 ∧ w'.cell? ⟨b2, 3, none⟩ = some v3 ∧ Below w0.heap.size w0 w' := by
  obtain ⟨hu0, hu1, hu2, hu3, hv0, hv1, hv2, hv3, h6⟩ := hs
  have e1 : b1 < W.heap.size := Nat.lt_of_lt_of_le l1 h6.size
  have e2 : b2 < W.heap.size := Nat.lt_of_lt_of_le l2 h6.size
  exact ⟨(hb.cell (p := ⟨b1, 0, none⟩) e1).trans hu0, (hb.cell (p := ⟨b1, 1, none⟩) e1).trans hu1, (hb.cell (p := ⟨b1, 2, none⟩) e1).trans hu2, (hb.cell (p := ⟨b1, 3, none⟩) e1).trans hu3, (hb.cell (p := ⟨b2, 0, none⟩) e2).trans hv0, (hb.cell (p := ⟨b2, 1, none⟩) e2).trans hv1, (hb.cell (p := ⟨b2, 2, none⟩) e2).trans hv2, (hb.cell (p := ⟨b2, 3, none⟩) e2).trans hv3, h6.trans (hb.mono h6.size)⟩
set_option maxRecDepth 100000 in
set_option maxHeartbeats 4000000 in
theorem law_FnExactUpdatedSolve (w : World) (x0a : Int) (x0b : Int) (a0c : Option Addr) (n0c c0c : Nat) (Z0c : Nat → Nat) (a0d : Option Addr) (n0d c0d : Nat) (Z0d : Nat → Int) (wx0a : (Lit.int .i64 x0a).wf = true) (wx0b : (Lit.int .i64 x0b).wf = true) (h0c : FS .f32 w a0c n0c c0c Z0c) (h0d : IS .i64 w a0d n0d c0d Z0d) (a1a : Option Addr) (n1a c1a : Nat) (Z1a : Nat → Nat) (h1a : FS .f32 w a1a n1a c1a Z1a) (a2a : Option Addr) (n2a c2a : Nat) (Z2a : Nat → Nat) (h2a : FS .f32 w a2a n2a c2a Z2a) (a3a : Option Addr) (n3a c3a : Nat) (Z3a : Nat → Nat) (h3a : FS .f32 w a3a n3a c3a Z3a) :
    Calls Try.prog 4 #[.agg #[.int .i64 x0a, .int .i64 x0b, .slice a0c n0c c0c, .slice a0d n0d c0d], .slice a1a n1a c1a, .slice a2a n2a c2a, .slice a3a n3a c3a] w fun e w' => e = .returned (.bool true) ∧ Below w.heap.size w w' := by
  have hm0c : n0c ≤ 9223372036854775807 := by have hh1 := h0c.1; have hh2 := h0c.2.1; unfold maxLen at hh2; omega
  have hm0d : n0d ≤ 9223372036854775807 := by have hh1 := h0d.1; have hh2 := h0d.2.1; unfold maxLen at hh2; omega
  have hm1a : n1a ≤ 9223372036854775807 := by have hh1 := h1a.1; have hh2 := h1a.2.1; unfold maxLen at hh2; omega
  have hm2a : n2a ≤ 9223372036854775807 := by have hh1 := h2a.1; have hh2 := h2a.2.1; unfold maxLen at hh2; omega
  have hm3a : n3a ≤ 9223372036854775807 := by have hh1 := h3a.1; have hh2 := h3a.2.1; unfold maxLen at hh2; omega
  by_cases hbig1a : 1048576 < n1a
  · have hd1a : decide ((1048576 : Int) < n1a) = true := decide_eq_true (by omega)
    go_enter Try.func4, Try.ntmps4
    go_wp2
    go_ret
    exact ⟨rfl, (by repeat first | (with_reducible exact Below.refl _ _) | (with_reducible refine Below.setCell ?_ (by first | exact Nat.le_refl _ | (simp; done) | (simp; omega) | omega) _) | (with_reducible refine Below.alloc ?_ (by first | exact Nat.le_refl _ | (simp; done) | (simp; omega) | omega) _) | (with_reducible refine below_drewN ?_ _) | (with_reducible refine Below.drew ?_))⟩
  have hn1a : n1a ≤ 1048576 := by omega
  have hd1a : decide ((1048576 : Int) < n1a) = false := decide_eq_false (by omega)
  by_cases hbig2a : 1048576 < n2a
  · have hd2a : decide ((1048576 : Int) < n2a) = true := decide_eq_true (by omega)
    go_enter Try.func4, Try.ntmps4
    go_wp2
    go_ret
    exact ⟨rfl, (by repeat first | (with_reducible exact Below.refl _ _) | (with_reducible refine Below.setCell ?_ (by first | exact Nat.le_refl _ | (simp; done) | (simp; omega) | omega) _) | (with_reducible refine Below.alloc ?_ (by first | exact Nat.le_refl _ | (simp; done) | (simp; omega) | omega) _) | (with_reducible refine below_drewN ?_ _) | (with_reducible refine Below.drew ?_))⟩
  have hn2a : n2a ≤ 1048576 := by omega
  have hd2a : decide ((1048576 : Int) < n2a) = false := decide_eq_false (by omega)
  by_cases hbig3a : 1048576 < n3a
  · have hd3a : decide ((1048576 : Int) < n3a) = true := decide_eq_true (by omega)
    go_enter Try.func4, Try.ntmps4
    go_wp2
    go_ret
    exact ⟨rfl, (by repeat first | (with_reducible exact Below.refl _ _) | (with_reducible refine Below.setCell ?_ (by first | exact Nat.le_refl _ | (simp; done) | (simp; omega) | omega) _) | (with_reducible refine Below.alloc ?_ (by first | exact Nat.le_refl _ | (simp; done) | (simp; omega) | omega) _) | (with_reducible refine below_drewN ?_ _) | (with_reducible refine Below.drew ?_))⟩
  have hn3a : n3a ≤ 1048576 := by omega
  have hd3a : decide ((1048576 : Int) < n3a) = false := decide_eq_false (by omega)
  by_cases hl : n0c ≤ 1048576 ∧ n0d ≤ 1048576 - n0c
  case neg =>
    go_enter Try.func4, Try.ntmps4
    go_wp2_with fail
    go_at_call 9
    refine (szFactor_no _ _ _ _ _ _ _ _ (1048576) _ (by omega) hm0c hm0d hl).mono ?_
    rintro e w1 ⟨rfl, b1⟩
    have D1 : Below w.heap.size w w1 := Below.trans (by repeat first | (with_reducible exact Below.refl _ _) | (with_reducible refine Below.setCell ?_ (by first | exact Nat.le_refl _ | (simp; done) | (simp; omega) | omega) _) | (with_reducible refine Below.alloc ?_ (by first | exact Nat.le_refl _ | (simp; done) | (simp; omega) | omega) _) | (with_reducible refine below_drewN ?_ _) | (with_reducible refine Below.drew ?_)) (b1.mono (by simp; try omega))
    have s1 : w.heap.size + 1 ≤ w1.heap.size := by have := b1.size; (try simp at this); omega
    have B1 : Below w.heap.size w w1 := D1
    have X1_A0 : BoxL w1 w.heap.size [.int .i64 x0a, .int .i64 x0b, .slice a0c n0c c0c, .slice a0d n0d c0d] := BoxL.below (BoxL.four (by simp [go_sem]) (by simp [go_sem]) (by simp [go_sem]) (by simp [go_sem])) b1 (by first | (simp; done) | (simp; omega))
    have Y1_A00 := X1_A0 0 _ rfl
    have Y1_A01 := X1_A0 1 _ rfl
    have Y1_A02 := X1_A0 2 _ rfl
    have Y1_A03 := X1_A0 3 _ rfl
    have L1_A0 : w.heap.size < w1.heap.size := by omega
    go_wp2_with fail
    go_ret
    exact ⟨rfl, B1⟩
  obtain ⟨hl0c, hl0d⟩ := hl
  have hn0c : n0c ≤ 1048576 := by omega
  have hn0d : n0d ≤ 1048576 := by omega
  obtain ⟨ok, nAa, VAa, hnrAa, ks, ki⟩ := keyUpdatedSolve x0a x0b n0c Z0c n0d Z0d n1a Z1a n2a Z2a n3a Z3a wx0a wx0b hn0c hn0d hn1a hn2a hn3a
  go_enter Try.func4, Try.ntmps4
  go_wp2_with fail
  go_at_call 9
  refine (szFactor_yes _ _ _ _ _ _ _ _ (1048576) _ (by omega) hl0c hl0d).mono ?_
  rintro e w1 ⟨rfl, b1⟩
  have D1 : Below w.heap.size w w1 := Below.trans (by repeat first | (with_reducible exact Below.refl _ _) | (with_reducible refine Below.setCell ?_ (by first | exact Nat.le_refl _ | (simp; done) | (simp; omega) | omega) _) | (with_reducible refine Below.alloc ?_ (by first | exact Nat.le_refl _ | (simp; done) | (simp; omega) | omega) _) | (with_reducible refine below_drewN ?_ _) | (with_reducible refine Below.drew ?_)) (b1.mono (by simp; try omega))
  have s1 : w.heap.size + 1 ≤ w1.heap.size := by have := b1.size; (try simp at this); omega
  have B1 : Below w.heap.size w w1 := D1
  have X1_A0 : BoxL w1 w.heap.size [.int .i64 x0a, .int .i64 x0b, .slice a0c n0c c0c, .slice a0d n0d c0d] := BoxL.below (BoxL.four (by simp [go_sem]) (by simp [go_sem]) (by simp [go_sem]) (by simp [go_sem])) b1 (by first | (simp; done) | (simp; omega))
  have Y1_A00 := X1_A0 0 _ rfl
  have Y1_A01 := X1_A0 1 _ rfl
  have Y1_A02 := X1_A0 2 _ rfl
  have Y1_A03 := X1_A0 3 _ rfl
  have L1_A0 : w.heap.size < w1.heap.size := by omega
  have hdz0 : decide (((1048576 - n0c - n0d : Nat) : Int) < 0) = false := decide_eq_false (by omega)
  go_wp2_with fail
  go_at_call 11
  refine (toFactor_sep x0a x0b a0c n0c c0c Z0c a0d n0d c0d Z0d _ hn0c hn0d (h0c.below B1 (Nat.le_refl _)) (h0d.below B1 (Nat.le_refl _))).mono ?_
  rintro e w2 ⟨ps0c, qs0c, ps0d, qs0d, Ms0c, rfl, ms0c, ms0d, os0c, os0d, b2⟩
  have D2 : Below w1.heap.size w1 w2 := b2
  have s2 : w1.heap.size + 0 ≤ w2.heap.size := by have := b2.size; (try simp at this); omega
  have B2 : Below w.heap.size w w2 := B1.trans (D2.mono B1.size)
  have X2_A0 := X1_A0.below D2 (by omega)
  have Y2_A00 := X2_A0 0 _ rfl
  have Y2_A01 := X2_A0 1 _ rfl
  have Y2_A02 := X2_A0 2 _ rfl
  have Y2_A03 := X2_A0 3 _ rfl
  have L2_A0 : w.heap.size < w2.heap.size := by omega
  clear X1_A0 Y1_A00 Y1_A01 Y1_A02 Y1_A03 L1_A0
  go_wp2_with fail
  go_at_call 12
  refine (toFloat32S_own a1a n1a c1a Z1a _ hn1a (h1a.below B2 (Nat.le_refl _))).mono ?_
  rintro e w3 ⟨ps1a, qs1a, rfl, os1a, b3⟩
  have D3 : Below w2.heap.size w2 w3 := b3
  have s3 : w2.heap.size + 0 ≤ w3.heap.size := by have := b3.size; (try simp at this); omega
  have B3 : Below w.heap.size w w3 := B2.trans (D3.mono B2.size)
  have X3_A0 := X2_A0.below D3 (by omega)
  replace os0c := os0c.kept (below_grew D3) (fun q hq => by cases hq)
  replace os0d := os0d.kept (below_grew D3) (fun q hq => by cases hq)
  have Y3_A00 := X3_A0 0 _ rfl
  have Y3_A01 := X3_A0 1 _ rfl
  have Y3_A02 := X3_A0 2 _ rfl
  have Y3_A03 := X3_A0 3 _ rfl
  have L3_A0 : w.heap.size < w3.heap.size := by omega
  clear X2_A0 Y2_A00 Y2_A01 Y2_A02 Y2_A03 L2_A0
  go_wp2_with fail
  go_at_call 12
  refine (toFloat32S_own a2a n2a c2a Z2a _ hn2a (h2a.below B3 (Nat.le_refl _))).mono ?_
  rintro e w4 ⟨ps2a, qs2a, rfl, os2a, b4⟩
  have D4 : Below w3.heap.size w3 w4 := b4
  have s4 : w3.heap.size + 0 ≤ w4.heap.size := by have := b4.size; (try simp at this); omega
  have B4 : Below w.heap.size w w4 := B3.trans (D4.mono B3.size)
  have X4_A0 := X3_A0.below D4 (by omega)
  replace os0c := os0c.kept (below_grew D4) (fun q hq => by cases hq)
  replace os0d := os0d.kept (below_grew D4) (fun q hq => by cases hq)
  replace os1a := os1a.kept (below_grew D4) (fun q hq => by cases hq)
  have Y4_A00 := X4_A0 0 _ rfl
  have Y4_A01 := X4_A0 1 _ rfl
  have Y4_A02 := X4_A0 2 _ rfl
  have Y4_A03 := X4_A0 3 _ rfl
  have L4_A0 : w.heap.size < w4.heap.size := by omega
  clear X3_A0 Y3_A00 Y3_A01 Y3_A02 Y3_A03 L3_A0
  go_wp2_with fail
  go_at_call 12
  refine (toFloat32S_own a3a n3a c3a Z3a _ hn3a (h3a.below B4 (Nat.le_refl _))).mono ?_
  rintro e w5 ⟨ps3a, qs3a, rfl, os3a, b5⟩
  have D5 : Below w4.heap.size w4 w5 := b5
  have s5 : w4.heap.size + 0 ≤ w5.heap.size := by have := b5.size; (try simp at this); omega
  have B5 : Below w.heap.size w w5 := B4.trans (D5.mono B4.size)
  have X5_A0 := X4_A0.below D5 (by omega)
  replace os0c := os0c.kept (below_grew D5) (fun q hq => by cases hq)
  replace os0d := os0d.kept (below_grew D5) (fun q hq => by cases hq)
  replace os1a := os1a.kept (below_grew D5) (fun q hq => by cases hq)
  replace os2a := os2a.kept (below_grew D5) (fun q hq => by cases hq)
  have Y5_A00 := X5_A0 0 _ rfl
  have Y5_A01 := X5_A0 1 _ rfl
  have Y5_A02 := X5_A0 2 _ rfl
  have Y5_A03 := X5_A0 3 _ rfl
  have L5_A0 : w.heap.size < w5.heap.size := by omega
  clear X4_A0 Y4_A00 Y4_A01 Y4_A02 Y4_A03 L4_A0
  go_wp2_with fail
  go_at_call 19
  refine (ks _ _ _ _ _ _ _ _ _ _ _ (Own.fs os0c) (OwnI.is os0d) (Own.fs os1a) (Own.fs os2a) (Own.fs os3a)).mono ?_
  rintro e w6 ⟨g1Aa, d1Aa, Y1Aa, rfl, fg1Aa, v1Aa, b6⟩
  have D6 : Below w5.heap.size w5 w6 := b6
  have s6 : w5.heap.size + 0 ≤ w6.heap.size := by have := b6.size; (try simp at this); omega
  have B6 : Below w.heap.size w w6 := B5.trans (D6.mono B5.size)
  have X6_A0 := X5_A0.below D6 (by omega)
  replace os0c := os0c.kept (below_grew D6) (fun q hq => by cases hq)
  replace os0d := os0d.kept (below_grew D6) (fun q hq => by cases hq)
  replace os1a := os1a.kept (below_grew D6) (fun q hq => by cases hq)
  replace os2a := os2a.kept (below_grew D6) (fun q hq => by cases hq)
  replace os3a := os3a.kept (below_grew D6) (fun q hq => by cases hq)
  have Y6_A00 := X6_A0 0 _ rfl
  have Y6_A01 := X6_A0 1 _ rfl
  have Y6_A02 := X6_A0 2 _ rfl
  have Y6_A03 := X6_A0 3 _ rfl
  have L6_A0 : w.heap.size < w6.heap.size := by omega
  clear X5_A0 Y5_A00 Y5_A01 Y5_A02 Y5_A03 L5_A0
  have fs1Aa_ := fg1Aa
  have DS1 := Below.refl w6.heap.size w6
  clear os0c os0d os1a os2a os3a
  go_wp2_with fail
  go_at_call 11
  refine (toFactor_sep x0a x0b a0c n0c c0c Z0c a0d n0d c0d Z0d _ hn0c hn0d (h0c.below B6 (Nat.le_refl _)) (h0d.below B6 (Nat.le_refl _))).mono ?_
  rintro e w7 ⟨px0c, qx0c, px0d, qx0d, Mx0c, rfl, mx0c, mx0d, ox0c, ox0d, b7⟩
  have D7 : Below w6.heap.size w6 w7 := b7
  have s7 : w6.heap.size + 0 ≤ w7.heap.size := by have := b7.size; (try simp at this); omega
  have B7 : Below w.heap.size w w7 := B6.trans (D7.mono B6.size)
  have X7_A0 := X6_A0.below D7 (by omega)
  replace DS1 := DS1.trans (D7.mono DS1.size)
  have Y7_A00 := X7_A0 0 _ rfl
  have Y7_A01 := X7_A0 1 _ rfl
  have Y7_A02 := X7_A0 2 _ rfl
  have Y7_A03 := X7_A0 3 _ rfl
  have L7_A0 : w.heap.size < w7.heap.size := by omega
  clear X6_A0 Y6_A00 Y6_A01 Y6_A02 Y6_A03 L6_A0
  go_wp2_with fail
  go_at_call 12
  refine (toFloat32S_own a1a n1a c1a Z1a _ hn1a (FS.below (h1a.below B7 (Nat.le_refl _)) (by repeat first | (with_reducible exact Below.refl _ _) | (with_reducible refine Below.setCell ?_ (by first | exact Nat.le_refl _ | (simp; done) | (simp; omega) | omega) _) | (with_reducible refine Below.alloc ?_ (by first | exact Nat.le_refl _ | (simp; done) | (simp; omega) | omega) _) | (with_reducible refine below_drewN ?_ _) | (with_reducible refine Below.drew ?_)) (Nat.le_refl _))).mono ?_
  rintro e w8 ⟨px1a, qx1a, rfl, ox1a, b8⟩
  replace ox1a := Own.mono (B' := (w7.heap.size + 1)) ox1a (by simp) (Nat.le_refl _) (by omega)
  have D8 : Below w7.heap.size w7 w8 := Below.trans (by repeat first | (with_reducible exact Below.refl _ _) | (with_reducible refine Below.setCell ?_ (by first | exact Nat.le_refl _ | (simp; done) | (simp; omega) | omega) _) | (with_reducible refine Below.alloc ?_ (by first | exact Nat.le_refl _ | (simp; done) | (simp; omega) | omega) _) | (with_reducible refine below_drewN ?_ _) | (with_reducible refine Below.drew ?_)) (b8.mono (by simp; try omega))
  have s8 : w7.heap.size + 1 ≤ w8.heap.size := by have := b8.size; (try simp at this); omega
  have B8 : Below w.heap.size w w8 := B7.trans (D8.mono B7.size)
  have X8_A0 := X7_A0.below D8 (by omega)
  have X8_P0 : BoxL w8 w7.heap.size [.int .i64 x0a, .int .i64 x0b, .slice px0c n0c qx0c, .slice px0d n0d qx0d] := BoxL.below (BoxL.four (by simp [go_sem]) (by simp [go_sem]) (by simp [go_sem]) (by simp [go_sem])) b8 (by first | (simp; done) | (simp; omega))
  replace ox0c := ox0c.kept (below_grew D8) (fun q hq => by cases hq)
  replace ox0d := ox0d.kept (below_grew D8) (fun q hq => by cases hq)
  replace DS1 := DS1.trans (D8.mono DS1.size)
  have Y8_A00 := X8_A0 0 _ rfl
  have Y8_A01 := X8_A0 1 _ rfl
  have Y8_A02 := X8_A0 2 _ rfl
  have Y8_A03 := X8_A0 3 _ rfl
  have L8_A0 : w.heap.size < w8.heap.size := by omega
  have Y8_P00 := X8_P0 0 _ rfl
  have Y8_P01 := X8_P0 1 _ rfl
  have Y8_P02 := X8_P0 2 _ rfl
  have Y8_P03 := X8_P0 3 _ rfl
  have L8_P0 : w7.heap.size < w8.heap.size := by omega
  clear X7_A0 Y7_A00 Y7_A01 Y7_A02 Y7_A03 L7_A0
  go_wp2_with fail
  go_at_call 12
  refine (toFloat32S_own a2a n2a c2a Z2a _ hn2a (h2a.below B8 (Nat.le_refl _))).mono ?_
  rintro e w9 ⟨px2a, qx2a, rfl, ox2a, b9⟩
  have D9 : Below w8.heap.size w8 w9 := b9
  have s9 : w8.heap.size + 0 ≤ w9.heap.size := by have := b9.size; (try simp at this); omega
  have B9 : Below w.heap.size w w9 := B8.trans (D9.mono B8.size)
  have X9_A0 := X8_A0.below D9 (by omega)
  have X9_P0 := X8_P0.below D9 (by omega)
  replace ox0c := ox0c.kept (below_grew D9) (fun q hq => by cases hq)
  replace ox0d := ox0d.kept (below_grew D9) (fun q hq => by cases hq)
  replace ox1a := ox1a.kept (below_grew D9) (fun q hq => by cases hq)
  replace DS1 := DS1.trans (D9.mono DS1.size)
  have Y9_A00 := X9_A0 0 _ rfl
  have Y9_A01 := X9_A0 1 _ rfl
  have Y9_A02 := X9_A0 2 _ rfl
  have Y9_A03 := X9_A0 3 _ rfl
  have L9_A0 : w.heap.size < w9.heap.size := by omega
  have Y9_P00 := X9_P0 0 _ rfl
  have Y9_P01 := X9_P0 1 _ rfl
  have Y9_P02 := X9_P0 2 _ rfl
  have Y9_P03 := X9_P0 3 _ rfl
  have L9_P0 : w7.heap.size < w9.heap.size := by omega
  clear X8_A0 Y8_A00 Y8_A01 Y8_A02 Y8_A03 L8_A0 X8_P0 Y8_P00 Y8_P01 Y8_P02 Y8_P03 L8_P0
  go_wp2_with fail
  go_at_call 12
  refine (toFloat32S_own a3a n3a c3a Z3a _ hn3a (h3a.below B9 (Nat.le_refl _))).mono ?_
  rintro e w10 ⟨px3a, qx3a, rfl, ox3a, b10⟩
  have D10 : Below w9.heap.size w9 w10 := b10
  have s10 : w9.heap.size + 0 ≤ w10.heap.size := by have := b10.size; (try simp at this); omega
  have B10 : Below w.heap.size w w10 := B9.trans (D10.mono B9.size)
  have X10_A0 := X9_A0.below D10 (by omega)
  have X10_P0 := X9_P0.below D10 (by omega)
  replace ox0c := ox0c.kept (below_grew D10) (fun q hq => by cases hq)
  replace ox0d := ox0d.kept (below_grew D10) (fun q hq => by cases hq)
  replace ox1a := ox1a.kept (below_grew D10) (fun q hq => by cases hq)
  replace ox2a := ox2a.kept (below_grew D10) (fun q hq => by cases hq)
  replace DS1 := DS1.trans (D10.mono DS1.size)
  have Y10_A00 := X10_A0 0 _ rfl
  have Y10_A01 := X10_A0 1 _ rfl
  have Y10_A02 := X10_A0 2 _ rfl
  have Y10_A03 := X10_A0 3 _ rfl
  have L10_A0 : w.heap.size < w10.heap.size := by omega
  have Y10_P00 := X10_P0 0 _ rfl
  have Y10_P01 := X10_P0 1 _ rfl
  have Y10_P02 := X10_P0 2 _ rfl
  have Y10_P03 := X10_P0 3 _ rfl
  have L10_P0 : w7.heap.size < w10.heap.size := by omega
  clear X9_A0 Y9_A00 Y9_A01 Y9_A02 Y9_A03 L9_A0 X9_P0 Y9_P00 Y9_P01 Y9_P02 Y9_P03 L9_P0
  go_wp2_with fail
  go_at_call 20
  refine (ki _ _ _ _ _ _ _ _ _ _ _ (Own.fs ox0c) (OwnI.is ox0d) (Own.fs ox1a) (Own.fs ox2a) (Own.fs ox3a)).mono ?_
  rintro e w11 ⟨g2Aa, d2Aa, Y2Aa, rfl, og2Aa, v2Aa, b11⟩
  have D11 : Below w10.heap.size w10 w11 := b11
  have s11 : w10.heap.size + 0 ≤ w11.heap.size := by have := b11.size; (try simp at this); omega
  have B11 : Below w.heap.size w w11 := B10.trans (D11.mono B10.size)
  have X11_A0 := X10_A0.below D11 (by omega)
  have X11_P0 := X10_P0.below D11 (by omega)
  replace ox0c := ox0c.kept (below_grew D11) (fun q hq => by cases hq)
  replace ox0d := ox0d.kept (below_grew D11) (fun q hq => by cases hq)
  replace ox1a := ox1a.kept (below_grew D11) (fun q hq => by cases hq)
  replace ox2a := ox2a.kept (below_grew D11) (fun q hq => by cases hq)
  replace ox3a := ox3a.kept (below_grew D11) (fun q hq => by cases hq)
  replace DS1 := DS1.trans (D11.mono DS1.size)
  have Y11_A00 := X11_A0 0 _ rfl
  have Y11_A01 := X11_A0 1 _ rfl
  have Y11_A02 := X11_A0 2 _ rfl
  have Y11_A03 := X11_A0 3 _ rfl
  have L11_A0 : w.heap.size < w11.heap.size := by omega
  have Y11_P00 := X11_P0 0 _ rfl
  have Y11_P01 := X11_P0 1 _ rfl
  have Y11_P02 := X11_P0 2 _ rfl
  have Y11_P03 := X11_P0 3 _ rfl
  have L11_P0 : w7.heap.size < w11.heap.size := by omega
  clear X10_A0 Y10_A00 Y10_A01 Y10_A02 Y10_A03 L10_A0 X10_P0 Y10_P00 Y10_P01 Y10_P02 Y10_P03 L10_P0
  go_wp2_with fail
  go_at_call 14
  refine (eqFloat32S_any _ _ _ _ _ _ _ _ (by omega) (Own.fs og2Aa) (fs1Aa_.below DS1 (Nat.le_refl _)) (fun i hi => (v2Aa i hi).trans (v1Aa i hi).symm)).mono ?_
  rintro e w12 ⟨rfl, me12, hw12⟩
  have b12 := below_of_drewN hw12
  clear hw12
  have D12 : Below w11.heap.size w11 w12 := b12
  have s12 : w11.heap.size + 0 ≤ w12.heap.size := by have := b12.size; (try simp at this); omega
  have B12 : Below w.heap.size w w12 := B11.trans (D12.mono B11.size)
  have X12_A0 := X11_A0.below D12 (by omega)
  have X12_P0 := X11_P0.below D12 (by omega)
  replace ox0c := ox0c.kept (below_grew D12) (fun q hq => by cases hq)
  replace ox0d := ox0d.kept (below_grew D12) (fun q hq => by cases hq)
  replace ox1a := ox1a.kept (below_grew D12) (fun q hq => by cases hq)
  replace ox2a := ox2a.kept (below_grew D12) (fun q hq => by cases hq)
  replace ox3a := ox3a.kept (below_grew D12) (fun q hq => by cases hq)
  replace og2Aa := og2Aa.kept (below_grew D12) (fun q hq => by cases hq)
  replace DS1 := DS1.trans (D12.mono DS1.size)
  have Y12_A00 := X12_A0 0 _ rfl
  have Y12_A01 := X12_A0 1 _ rfl
  have Y12_A02 := X12_A0 2 _ rfl
  have Y12_A03 := X12_A0 3 _ rfl
  have L12_A0 : w.heap.size < w12.heap.size := by omega
  have Y12_P00 := X12_P0 0 _ rfl
  have Y12_P01 := X12_P0 1 _ rfl
  have Y12_P02 := X12_P0 2 _ rfl
  have Y12_P03 := X12_P0 3 _ rfl
  have L12_P0 : w7.heap.size < w12.heap.size := by omega
  clear X11_A0 Y11_A00 Y11_A01 Y11_A02 Y11_A03 L11_A0 X11_P0 Y11_P00 Y11_P01 Y11_P02 Y11_P03 L11_P0
  go_wp2_with fail
  go_region_held3 (fun w' => w'.cell? ⟨w7.heap.size, 0, none⟩ = some (.int .i64 x0a) ∧ w'.cell? ⟨w7.heap.size, 1, none⟩ = some (.int .i64 x0b) ∧ w'.cell? ⟨w7.heap.size, 2, none⟩ = some (.slice px0c n0c qx0c) ∧ w'.cell? ⟨w7.heap.size, 3, none⟩ = some (.slice px0d n0d qx0d) ∧ w'.cell? ⟨w.heap.size, 0, none⟩ = some (.int .i64 x0a) ∧ w'.cell? ⟨w.heap.size, 1, none⟩ = some (.int .i64 x0b) ∧ w'.cell? ⟨w.heap.size, 2, none⟩ = some (.slice a0c n0c c0c) ∧ w'.cell? ⟨w.heap.size, 3, none⟩ = some (.slice a0d n0d c0d) ∧ Below w12.heap.size w12 w')
    (first | exact ⟨Y12_P00, Y12_P01, Y12_P02, Y12_P03, Y12_A00, Y12_A01, Y12_A02, Y12_A03, (by first | exact (Below.refl _ _).drew | exact (below_drewN (Below.refl _ _) _).drew)⟩ | exact heldS_UpdatedSolve (by assumption) (by assumption) (by omega) (by omega))
    (first
      | (go_at_call 11; refine (toFactor_sep x0a x0b a0c n0c c0c Z0c a0d n0d c0d Z0d _ hn0c hn0d (h0c.below (B12.trans (Below.mono (by go_split_ands; assumption) B12.size)) (Nat.le_refl _)) (h0d.below (B12.trans (Below.mono (by go_split_ands; assumption) B12.size)) (Nat.le_refl _))).mono ?_; rintro e wa ⟨pa0c, qa0c, pa0d, qa0d, Ma0c, rfl, ma0c, ma0d, oa0c, oa0d, ba⟩)
      | (go_at_call 15; refine (eqFactor_any _ _ _ _ _ _ _ _ _ _ _ _ _ _ _ _ _ (by omega) (by omega) ((Own.fs ox0c).below (by go_split_ands; assumption) (Nat.le_refl _)) (Own.fs oa0c) ((OwnI.is ox0d).below (by go_split_ands; assumption) (Nat.le_refl _)) (OwnI.is oa0d) (fun i hi => rfl) (fun i hi => rfl)).mono ?_; rintro e w13 ⟨rfl, bb⟩))
  have b13 : Below w12.heap.size w12 w13 := by go_split_ands; assumption
  clear oa0c oa0d ba bb
  have D13 : Below w12.heap.size w12 w13 := b13
  have s13 : w12.heap.size + 0 ≤ w13.heap.size := by have := b13.size; (try simp at this); omega
  have B13 : Below w.heap.size w w13 := B12.trans (D13.mono B12.size)
  have X13_A0 := X12_A0.below D13 (by omega)
  have X13_P0 := X12_P0.below D13 (by omega)
  replace ox0c := ox0c.kept (below_grew D13) (fun q hq => by cases hq)
  replace ox0d := ox0d.kept (below_grew D13) (fun q hq => by cases hq)
  replace ox1a := ox1a.kept (below_grew D13) (fun q hq => by cases hq)
  replace ox2a := ox2a.kept (below_grew D13) (fun q hq => by cases hq)
  replace ox3a := ox3a.kept (below_grew D13) (fun q hq => by cases hq)
  replace og2Aa := og2Aa.kept (below_grew D13) (fun q hq => by cases hq)
  replace DS1 := DS1.trans (D13.mono DS1.size)
  have Y13_A00 := X13_A0 0 _ rfl
  have Y13_A01 := X13_A0 1 _ rfl
  have Y13_A02 := X13_A0 2 _ rfl
  have Y13_A03 := X13_A0 3 _ rfl
  have L13_A0 : w.heap.size < w13.heap.size := by omega
  have Y13_P00 := X13_P0 0 _ rfl
  have Y13_P01 := X13_P0 1 _ rfl
  have Y13_P02 := X13_P0 2 _ rfl
  have Y13_P03 := X13_P0 3 _ rfl
  have L13_P0 : w7.heap.size < w13.heap.size := by omega
  clear X12_A0 Y12_A00 Y12_A01 Y12_A02 Y12_A03 L12_A0 X12_P0 Y12_P00 Y12_P01 Y12_P02 Y12_P03 L12_P0
  go_wp2_with fail
  go_at_call 12
  refine (toFloat32S_own a1a n1a c1a Z1a _ hn1a (h1a.below B13 (Nat.le_refl _))).mono ?_
  rintro e w14 ⟨py1a, qy1a, rfl, oy1a, b14⟩
  have D14 : Below w13.heap.size w13 w14 := b14
  have s14 : w13.heap.size + 0 ≤ w14.heap.size := by have := b14.size; (try simp at this); omega
  have B14 : Below w.heap.size w w14 := B13.trans (D14.mono B13.size)
  have X14_A0 := X13_A0.below D14 (by omega)
  have X14_P0 := X13_P0.below D14 (by omega)
  replace ox0c := ox0c.kept (below_grew D14) (fun q hq => by cases hq)
  replace ox0d := ox0d.kept (below_grew D14) (fun q hq => by cases hq)
  replace ox1a := ox1a.kept (below_grew D14) (fun q hq => by cases hq)
  replace ox2a := ox2a.kept (below_grew D14) (fun q hq => by cases hq)
  replace ox3a := ox3a.kept (below_grew D14) (fun q hq => by cases hq)
  replace og2Aa := og2Aa.kept (below_grew D14) (fun q hq => by cases hq)
  replace DS1 := DS1.trans (D14.mono DS1.size)
  have Y14_A00 := X14_A0 0 _ rfl
  have Y14_A01 := X14_A0 1 _ rfl
  have Y14_A02 := X14_A0 2 _ rfl
  have Y14_A03 := X14_A0 3 _ rfl
  have L14_A0 : w.heap.size < w14.heap.size := by omega
  have Y14_P00 := X14_P0 0 _ rfl
  have Y14_P01 := X14_P0 1 _ rfl
  have Y14_P02 := X14_P0 2 _ rfl
  have Y14_P03 := X14_P0 3 _ rfl
  have L14_P0 : w7.heap.size < w14.heap.size := by omega
  clear X13_A0 Y13_A00 Y13_A01 Y13_A02 Y13_A03 L13_A0 X13_P0 Y13_P00 Y13_P01 Y13_P02 Y13_P03 L13_P0
  go_wp2_with fail
  go_at_call 14
  refine (eqFloat32S_any _ _ n1a _ _ Z1a Z1a _ hn1a (Own.fs ox1a) (Own.fs oy1a) (fun i hi => rfl)).mono ?_
  rintro e w15 ⟨rfl, me15, hw15⟩
  have b15 := below_of_drewN hw15
  clear hw15
  clear oy1a
  have D15 : Below w14.heap.size w14 w15 := b15
  have s15 : w14.heap.size + 0 ≤ w15.heap.size := by have := b15.size; (try simp at this); omega
  have B15 : Below w.heap.size w w15 := B14.trans (D15.mono B14.size)
  have X15_A0 := X14_A0.below D15 (by omega)
  have X15_P0 := X14_P0.below D15 (by omega)
  replace ox0c := ox0c.kept (below_grew D15) (fun q hq => by cases hq)
  replace ox0d := ox0d.kept (below_grew D15) (fun q hq => by cases hq)
  replace ox1a := ox1a.kept (below_grew D15) (fun q hq => by cases hq)
  replace ox2a := ox2a.kept (below_grew D15) (fun q hq => by cases hq)
  replace ox3a := ox3a.kept (below_grew D15) (fun q hq => by cases hq)
  replace og2Aa := og2Aa.kept (below_grew D15) (fun q hq => by cases hq)
  replace DS1 := DS1.trans (D15.mono DS1.size)
  have Y15_A00 := X15_A0 0 _ rfl
  have Y15_A01 := X15_A0 1 _ rfl
  have Y15_A02 := X15_A0 2 _ rfl
  have Y15_A03 := X15_A0 3 _ rfl
  have L15_A0 : w.heap.size < w15.heap.size := by omega
  have Y15_P00 := X15_P0 0 _ rfl
  have Y15_P01 := X15_P0 1 _ rfl
  have Y15_P02 := X15_P0 2 _ rfl
  have Y15_P03 := X15_P0 3 _ rfl
  have L15_P0 : w7.heap.size < w15.heap.size := by omega
  clear X14_A0 Y14_A00 Y14_A01 Y14_A02 Y14_A03 L14_A0 X14_P0 Y14_P00 Y14_P01 Y14_P02 Y14_P03 L14_P0
  go_wp2_with fail
  go_at_call 12
  refine (toFloat32S_own a2a n2a c2a Z2a _ hn2a (h2a.below B15 (Nat.le_refl _))).mono ?_
  rintro e w16 ⟨py2a, qy2a, rfl, oy2a, b16⟩
  have D16 : Below w15.heap.size w15 w16 := b16
  have s16 : w15.heap.size + 0 ≤ w16.heap.size := by have := b16.size; (try simp at this); omega
  have B16 : Below w.heap.size w w16 := B15.trans (D16.mono B15.size)
  have X16_A0 := X15_A0.below D16 (by omega)
  have X16_P0 := X15_P0.below D16 (by omega)
  replace ox0c := ox0c.kept (below_grew D16) (fun q hq => by cases hq)
  replace ox0d := ox0d.kept (below_grew D16) (fun q hq => by cases hq)
  replace ox1a := ox1a.kept (below_grew D16) (fun q hq => by cases hq)
  replace ox2a := ox2a.kept (below_grew D16) (fun q hq => by cases hq)
  replace ox3a := ox3a.kept (below_grew D16) (fun q hq => by cases hq)
  replace og2Aa := og2Aa.kept (below_grew D16) (fun q hq => by cases hq)
  replace DS1 := DS1.trans (D16.mono DS1.size)
  have Y16_A00 := X16_A0 0 _ rfl
  have Y16_A01 := X16_A0 1 _ rfl
  have Y16_A02 := X16_A0 2 _ rfl
  have Y16_A03 := X16_A0 3 _ rfl
  have L16_A0 : w.heap.size < w16.heap.size := by omega
  have Y16_P00 := X16_P0 0 _ rfl
  have Y16_P01 := X16_P0 1 _ rfl
  have Y16_P02 := X16_P0 2 _ rfl
  have Y16_P03 := X16_P0 3 _ rfl
  have L16_P0 : w7.heap.size < w16.heap.size := by omega
  clear X15_A0 Y15_A00 Y15_A01 Y15_A02 Y15_A03 L15_A0 X15_P0 Y15_P00 Y15_P01 Y15_P02 Y15_P03 L15_P0
  go_wp2_with fail
  go_at_call 14
  refine (eqFloat32S_any _ _ n2a _ _ Z2a Z2a _ hn2a (Own.fs ox2a) (Own.fs oy2a) (fun i hi => rfl)).mono ?_
  rintro e w17 ⟨rfl, me17, hw17⟩
  have b17 := below_of_drewN hw17
  clear hw17
  clear oy2a
  have D17 : Below w16.heap.size w16 w17 := b17
  have s17 : w16.heap.size + 0 ≤ w17.heap.size := by have := b17.size; (try simp at this); omega
  have B17 : Below w.heap.size w w17 := B16.trans (D17.mono B16.size)
  have X17_A0 := X16_A0.below D17 (by omega)
  have X17_P0 := X16_P0.below D17 (by omega)
  replace ox0c := ox0c.kept (below_grew D17) (fun q hq => by cases hq)
  replace ox0d := ox0d.kept (below_grew D17) (fun q hq => by cases hq)
  replace ox1a := ox1a.kept (below_grew D17) (fun q hq => by cases hq)
  replace ox2a := ox2a.kept (below_grew D17) (fun q hq => by cases hq)
  replace ox3a := ox3a.kept (below_grew D17) (fun q hq => by cases hq)
  replace og2Aa := og2Aa.kept (below_grew D17) (fun q hq => by cases hq)
  replace DS1 := DS1.trans (D17.mono DS1.size)
  have Y17_A00 := X17_A0 0 _ rfl
  have Y17_A01 := X17_A0 1 _ rfl
  have Y17_A02 := X17_A0 2 _ rfl
  have Y17_A03 := X17_A0 3 _ rfl
  have L17_A0 : w.heap.size < w17.heap.size := by omega
  have Y17_P00 := X17_P0 0 _ rfl
  have Y17_P01 := X17_P0 1 _ rfl
  have Y17_P02 := X17_P0 2 _ rfl
  have Y17_P03 := X17_P0 3 _ rfl
  have L17_P0 : w7.heap.size < w17.heap.size := by omega
  clear X16_A0 Y16_A00 Y16_A01 Y16_A02 Y16_A03 L16_A0 X16_P0 Y16_P00 Y16_P01 Y16_P02 Y16_P03 L16_P0
  go_wp2_with fail
  go_at_call 12
  refine (toFloat32S_own a3a n3a c3a Z3a _ hn3a (h3a.below B17 (Nat.le_refl _))).mono ?_
  rintro e w18 ⟨py3a, qy3a, rfl, oy3a, b18⟩
  have D18 : Below w17.heap.size w17 w18 := b18
  have s18 : w17.heap.size + 0 ≤ w18.heap.size := by have := b18.size; (try simp at this); omega
  have B18 : Below w.heap.size w w18 := B17.trans (D18.mono B17.size)
  have X18_A0 := X17_A0.below D18 (by omega)
  have X18_P0 := X17_P0.below D18 (by omega)
  replace ox0c := ox0c.kept (below_grew D18) (fun q hq => by cases hq)
  replace ox0d := ox0d.kept (below_grew D18) (fun q hq => by cases hq)
  replace ox1a := ox1a.kept (below_grew D18) (fun q hq => by cases hq)
  replace ox2a := ox2a.kept (below_grew D18) (fun q hq => by cases hq)
  replace ox3a := ox3a.kept (below_grew D18) (fun q hq => by cases hq)
  replace og2Aa := og2Aa.kept (below_grew D18) (fun q hq => by cases hq)
  replace DS1 := DS1.trans (D18.mono DS1.size)
  have Y18_A00 := X18_A0 0 _ rfl
  have Y18_A01 := X18_A0 1 _ rfl
  have Y18_A02 := X18_A0 2 _ rfl
  have Y18_A03 := X18_A0 3 _ rfl
  have L18_A0 : w.heap.size < w18.heap.size := by omega
  have Y18_P00 := X18_P0 0 _ rfl
  have Y18_P01 := X18_P0 1 _ rfl
  have Y18_P02 := X18_P0 2 _ rfl
  have Y18_P03 := X18_P0 3 _ rfl
  have L18_P0 : w7.heap.size < w18.heap.size := by omega
  clear X17_A0 Y17_A00 Y17_A01 Y17_A02 Y17_A03 L17_A0 X17_P0 Y17_P00 Y17_P01 Y17_P02 Y17_P03 L17_P0
  go_wp2_with fail
  go_at_call 14
  refine (eqFloat32S_any _ _ n3a _ _ Z3a Z3a _ hn3a (Own.fs ox3a) (Own.fs oy3a) (fun i hi => rfl)).mono ?_
  rintro e w19 ⟨rfl, me19, hw19⟩
  have b19 := below_of_drewN hw19
  clear hw19
  clear oy3a
  have D19 : Below w18.heap.size w18 w19 := b19
  have s19 : w18.heap.size + 0 ≤ w19.heap.size := by have := b19.size; (try simp at this); omega
  have B19 : Below w.heap.size w w19 := B18.trans (D19.mono B18.size)
  have X19_A0 := X18_A0.below D19 (by omega)
  have X19_P0 := X18_P0.below D19 (by omega)
  replace ox0c := ox0c.kept (below_grew D19) (fun q hq => by cases hq)
  replace ox0d := ox0d.kept (below_grew D19) (fun q hq => by cases hq)
  replace ox1a := ox1a.kept (below_grew D19) (fun q hq => by cases hq)
  replace ox2a := ox2a.kept (below_grew D19) (fun q hq => by cases hq)
  replace ox3a := ox3a.kept (below_grew D19) (fun q hq => by cases hq)
  replace og2Aa := og2Aa.kept (below_grew D19) (fun q hq => by cases hq)
  replace DS1 := DS1.trans (D19.mono DS1.size)
  have Y19_A00 := X19_A0 0 _ rfl
  have Y19_A01 := X19_A0 1 _ rfl
  have Y19_A02 := X19_A0 2 _ rfl
  have Y19_A03 := X19_A0 3 _ rfl
  have L19_A0 : w.heap.size < w19.heap.size := by omega
  have Y19_P00 := X19_P0 0 _ rfl
  have Y19_P01 := X19_P0 1 _ rfl
  have Y19_P02 := X19_P0 2 _ rfl
  have Y19_P03 := X19_P0 3 _ rfl
  have L19_P0 : w7.heap.size < w19.heap.size := by omega
  clear X18_A0 Y18_A00 Y18_A01 Y18_A02 Y18_A03 L18_A0 X18_P0 Y18_P00 Y18_P01 Y18_P02 Y18_P03 L18_P0
  go_wp2_with fail
  go_at_call 16
  refine (markFactor_sep (w6.heap.size) _ (w7.heap.size) _ _ _ _ _ _ _ _ _ _ (1) _ (by omega) (by omega) (by omega) (by omega) (by omega) (by omega) ox0c ox0d).mono ?_
  rintro e w20 ⟨rfl, om0c, om0d, gr20⟩
  clear ox0c ox0d om0c om0d
  have s20 : w19.heap.size ≤ w20.heap.size := gr20.size
  have B20 : Below w.heap.size w w20 := Below.over B19 gr20 (by omega) (by omega)
  have X20_A0 := X19_A0.over gr20 (by omega) (by omega)
  have X20_P0 := X19_P0.over gr20 (by omega) (by omega)
  replace ox1a := ox1a.over gr20 (by omega)
  replace ox2a := ox2a.over gr20 (by omega)
  replace ox3a := ox3a.over gr20 (by omega)
  replace og2Aa := og2Aa.over gr20 (by omega)
  replace DS1 := Below.over DS1 gr20 (by omega) (by omega)
  have Y20_A00 := X20_A0 0 _ rfl
  have Y20_A01 := X20_A0 1 _ rfl
  have Y20_A02 := X20_A0 2 _ rfl
  have Y20_A03 := X20_A0 3 _ rfl
  have L20_A0 : w.heap.size < w20.heap.size := by omega
  have Y20_P00 := X20_P0 0 _ rfl
  have Y20_P01 := X20_P0 1 _ rfl
  have Y20_P02 := X20_P0 2 _ rfl
  have Y20_P03 := X20_P0 3 _ rfl
  have L20_P0 : w7.heap.size < w20.heap.size := by omega
  clear X19_A0 Y19_A00 Y19_A01 Y19_A02 Y19_A03 L19_A0 X19_P0 Y19_P00 Y19_P01 Y19_P02 Y19_P03 L19_P0
  go_wp2_with fail
  go_at_call 17
  refine (markFloat32S_more  ((w7.heap.size + 1)) (w8.heap.size) _ _ _ (1 + n0c + n0d) _ _ (by omega) (by omega) ox1a).mono ?_
  rintro e w21 ⟨rfl, om1a, row21⟩
  have gr21 := Marked.grew row21
  clear row21
  clear ox1a om1a
  have s21 : w20.heap.size ≤ w21.heap.size := gr21.size
  have B21 : Below w.heap.size w w21 := Below.over B20 gr21 (by omega) (by omega)
  have X21_A0 := X20_A0.over gr21 (by omega) (by omega)
  have X21_P0 := X20_P0.over gr21 (by omega) (by omega)
  replace ox2a := ox2a.over gr21 (by omega)
  replace ox3a := ox3a.over gr21 (by omega)
  replace og2Aa := og2Aa.over gr21 (by omega)
  replace DS1 := Below.over DS1 gr21 (by omega) (by omega)
  have Y21_A00 := X21_A0 0 _ rfl
  have Y21_A01 := X21_A0 1 _ rfl
  have Y21_A02 := X21_A0 2 _ rfl
  have Y21_A03 := X21_A0 3 _ rfl
  have L21_A0 : w.heap.size < w21.heap.size := by omega
  have Y21_P00 := X21_P0 0 _ rfl
  have Y21_P01 := X21_P0 1 _ rfl
  have Y21_P02 := X21_P0 2 _ rfl
  have Y21_P03 := X21_P0 3 _ rfl
  have L21_P0 : w7.heap.size < w21.heap.size := by omega
  clear X20_A0 Y20_A00 Y20_A01 Y20_A02 Y20_A03 L20_A0 X20_P0 Y20_P00 Y20_P01 Y20_P02 Y20_P03 L20_P0
  go_wp2_with fail
  go_at_call 17
  refine (markFloat32S_more  (w8.heap.size) (w9.heap.size) _ _ _ (1 + n0c + n0d + n1a) _ _ (by omega) (by omega) ox2a).mono ?_
  rintro e w22 ⟨rfl, om2a, row22⟩
  have gr22 := Marked.grew row22
  clear row22
  clear ox2a om2a
  have s22 : w21.heap.size ≤ w22.heap.size := gr22.size
  have B22 : Below w.heap.size w w22 := Below.over B21 gr22 (by omega) (by omega)
  have X22_A0 := X21_A0.over gr22 (by omega) (by omega)
  have X22_P0 := X21_P0.over gr22 (by omega) (by omega)
  replace ox3a := ox3a.over gr22 (by omega)
  replace og2Aa := og2Aa.over gr22 (by omega)
  replace DS1 := Below.over DS1 gr22 (by omega) (by omega)
  have Y22_A00 := X22_A0 0 _ rfl
  have Y22_A01 := X22_A0 1 _ rfl
  have Y22_A02 := X22_A0 2 _ rfl
  have Y22_A03 := X22_A0 3 _ rfl
  have L22_A0 : w.heap.size < w22.heap.size := by omega
  have Y22_P00 := X22_P0 0 _ rfl
  have Y22_P01 := X22_P0 1 _ rfl
  have Y22_P02 := X22_P0 2 _ rfl
  have Y22_P03 := X22_P0 3 _ rfl
  have L22_P0 : w7.heap.size < w22.heap.size := by omega
  clear X21_A0 Y21_A00 Y21_A01 Y21_A02 Y21_A03 L21_A0 X21_P0 Y21_P00 Y21_P01 Y21_P02 Y21_P03 L21_P0
  go_wp2_with fail
  go_at_call 17
  refine (markFloat32S_more  (w9.heap.size) (w10.heap.size) _ _ _ (1 + n0c + n0d + n1a + n2a) _ _ (by omega) (by omega) ox3a).mono ?_
  rintro e w23 ⟨rfl, om3a, row23⟩
  have gr23 := Marked.grew row23
  clear row23
  clear ox3a om3a
  have s23 : w22.heap.size ≤ w23.heap.size := gr23.size
  have B23 : Below w.heap.size w w23 := Below.over B22 gr23 (by omega) (by omega)
  have X23_A0 := X22_A0.over gr23 (by omega) (by omega)
  have X23_P0 := X22_P0.over gr23 (by omega) (by omega)
  replace og2Aa := og2Aa.over gr23 (by omega)
  replace DS1 := Below.over DS1 gr23 (by omega) (by omega)
  have Y23_A00 := X23_A0 0 _ rfl
  have Y23_A01 := X23_A0 1 _ rfl
  have Y23_A02 := X23_A0 2 _ rfl
  have Y23_A03 := X23_A0 3 _ rfl
  have L23_A0 : w.heap.size < w23.heap.size := by omega
  have Y23_P00 := X23_P0 0 _ rfl
  have Y23_P01 := X23_P0 1 _ rfl
  have Y23_P02 := X23_P0 2 _ rfl
  have Y23_P03 := X23_P0 3 _ rfl
  have L23_P0 : w7.heap.size < w23.heap.size := by omega
  clear X22_A0 Y22_A00 Y22_A01 Y22_A02 Y22_A03 L22_A0 X22_P0 Y22_P00 Y22_P01 Y22_P02 Y22_P03 L22_P0
  have hk1 : decide (((1 + n0c + n0d + n1a + n2a + n3a : Nat) : Int) < 0) = false := decide_eq_false (by omega)
  have hk2 := hk1
  simp only [Int.natCast_add, Int.natCast_one, Int.cast_ofNat_Int] at hk2
  go_wp2_with fail
  go_at_call 14
  refine (eqFloat32S_any _ _ _ _ _ _ _ _ (by omega) (Own.fs og2Aa) (fs1Aa_.below DS1 (Nat.le_refl _)) (fun i hi => (v2Aa i hi).trans (v1Aa i hi).symm)).mono ?_
  rintro e w24 ⟨rfl, me24, hw24⟩
  have b24 := below_of_drewN hw24
  clear hw24
  have D24 : Below w23.heap.size w23 w24 := b24
  have s24 : w23.heap.size + 0 ≤ w24.heap.size := by have := b24.size; (try simp at this); omega
  have B24 : Below w.heap.size w w24 := B23.trans (D24.mono B23.size)
  have X24_A0 := X23_A0.below D24 (by omega)
  have X24_P0 := X23_P0.below D24 (by omega)
  replace og2Aa := og2Aa.kept (below_grew D24) (fun q hq => by cases hq)
  replace DS1 := DS1.trans (D24.mono DS1.size)
  have Y24_A00 := X24_A0 0 _ rfl
  have Y24_A01 := X24_A0 1 _ rfl
  have Y24_A02 := X24_A0 2 _ rfl
  have Y24_A03 := X24_A0 3 _ rfl
  have L24_A0 : w.heap.size < w24.heap.size := by omega
  have Y24_P00 := X24_P0 0 _ rfl
  have Y24_P01 := X24_P0 1 _ rfl
  have Y24_P02 := X24_P0 2 _ rfl
  have Y24_P03 := X24_P0 3 _ rfl
  have L24_P0 : w7.heap.size < w24.heap.size := by omega
  clear X23_A0 Y23_A00 Y23_A01 Y23_A02 Y23_A03 L23_A0 X23_P0 Y23_P00 Y23_P01 Y23_P02 Y23_P03 L23_P0
  go_wp2_with fail
  go_at_call 17
  refine (markFloat32S_more  (_) (_) _ _ _ (1) _ _ (by omega) (by omega) og2Aa).mono ?_
  rintro e w25 ⟨rfl, omAa, row25⟩
  have gr25 := Marked.grew row25
  clear row25
  clear og2Aa
  have s25 : w24.heap.size ≤ w25.heap.size := gr25.size
  have B25 : Below w.heap.size w w25 := Below.over B24 gr25 (by omega) (by omega)
  have X25_A0 := X24_A0.over gr25 (by omega) (by omega)
  have X25_P0 := X24_P0.over gr25 (by omega) (by omega)
  replace DS1 := Below.over DS1 gr25 (by omega) (by omega)
  have Y25_A00 := X25_A0 0 _ rfl
  have Y25_A01 := X25_A0 1 _ rfl
  have Y25_A02 := X25_A0 2 _ rfl
  have Y25_A03 := X25_A0 3 _ rfl
  have L25_A0 : w.heap.size < w25.heap.size := by omega
  have Y25_P00 := X25_P0 0 _ rfl
  have Y25_P01 := X25_P0 1 _ rfl
  have Y25_P02 := X25_P0 2 _ rfl
  have Y25_P03 := X25_P0 3 _ rfl
  have L25_P0 : w7.heap.size < w25.heap.size := by omega
  clear X24_A0 Y24_A00 Y24_A01 Y24_A02 Y24_A03 L24_A0 X24_P0 Y24_P00 Y24_P01 Y24_P02 Y24_P03 L24_P0
  have hq1 : decide (((1 + nAa : Nat) : Int) < 0) = false := decide_eq_false (by omega)
  have hq2 := hq1
  simp only [Int.natCast_add, Int.natCast_one, Int.cast_ofNat_Int] at hq2
  go_wp2_with fail
  go_at_call 18
  refine (heldFloat32S_any _ _ _ (1) _ _ (by omega) (by omega) (Own.fs omAa) (fun i hi => rfl)).mono ?_
  rintro e w26 ⟨rfl, hw26⟩
  have b26 := below_of_same hw26
  clear hw26
  have D26 : Below w25.heap.size w25 w26 := b26
  have s26 : w25.heap.size + 0 ≤ w26.heap.size := by have := b26.size; (try simp at this); omega
  have B26 : Below w.heap.size w w26 := B25.trans (D26.mono B25.size)
  have X26_A0 := X25_A0.below D26 (by omega)
  have X26_P0 := X25_P0.below D26 (by omega)
  replace omAa := omAa.kept (below_grew D26) (fun q hq => by cases hq)
  replace DS1 := DS1.trans (D26.mono DS1.size)
  have Y26_A00 := X26_A0 0 _ rfl
  have Y26_A01 := X26_A0 1 _ rfl
  have Y26_A02 := X26_A0 2 _ rfl
  have Y26_A03 := X26_A0 3 _ rfl
  have L26_A0 : w.heap.size < w26.heap.size := by omega
  have Y26_P00 := X26_P0 0 _ rfl
  have Y26_P01 := X26_P0 1 _ rfl
  have Y26_P02 := X26_P0 2 _ rfl
  have Y26_P03 := X26_P0 3 _ rfl
  have L26_P0 : w7.heap.size < w26.heap.size := by omega
  clear X25_A0 Y25_A00 Y25_A01 Y25_A02 Y25_A03 L25_A0 X25_P0 Y25_P00 Y25_P01 Y25_P02 Y25_P03 L25_P0
  go_wp2_with fail
  go_at_call 11
  refine (toFactor_sep x0a x0b a0c n0c c0c Z0c a0d n0d c0d Z0d _ hn0c hn0d (h0c.below B26 (Nat.le_refl _)) (h0d.below B26 (Nat.le_refl _))).mono ?_
  rintro e w27 ⟨pz0c, qz0c, pz0d, qz0d, Mz0c, rfl, mz0c, mz0d, oz0c, oz0d, b27⟩
  have D27 : Below w26.heap.size w26 w27 := b27
  have s27 : w26.heap.size + 0 ≤ w27.heap.size := by have := b27.size; (try simp at this); omega
  have B27 : Below w.heap.size w w27 := B26.trans (D27.mono B26.size)
  have X27_A0 := X26_A0.below D27 (by omega)
  have X27_P0 := X26_P0.below D27 (by omega)
  replace omAa := omAa.kept (below_grew D27) (fun q hq => by cases hq)
  replace DS1 := DS1.trans (D27.mono DS1.size)
  have Y27_A00 := X27_A0 0 _ rfl
  have Y27_A01 := X27_A0 1 _ rfl
  have Y27_A02 := X27_A0 2 _ rfl
  have Y27_A03 := X27_A0 3 _ rfl
  have L27_A0 : w.heap.size < w27.heap.size := by omega
  have Y27_P00 := X27_P0 0 _ rfl
  have Y27_P01 := X27_P0 1 _ rfl
  have Y27_P02 := X27_P0 2 _ rfl
  have Y27_P03 := X27_P0 3 _ rfl
  have L27_P0 : w7.heap.size < w27.heap.size := by omega
  clear X26_A0 Y26_A00 Y26_A01 Y26_A02 Y26_A03 L26_A0 X26_P0 Y26_P00 Y26_P01 Y26_P02 Y26_P03 L26_P0
  go_wp2_with fail
  go_at_call 12
  refine (toFloat32S_own a1a n1a c1a Z1a _ hn1a (h1a.below B27 (Nat.le_refl _))).mono ?_
  rintro e w28 ⟨pz1a, qz1a, rfl, oz1a, b28⟩
  have D28 : Below w27.heap.size w27 w28 := b28
  have s28 : w27.heap.size + 0 ≤ w28.heap.size := by have := b28.size; (try simp at this); omega
  have B28 : Below w.heap.size w w28 := B27.trans (D28.mono B27.size)
  have X28_A0 := X27_A0.below D28 (by omega)
  have X28_P0 := X27_P0.below D28 (by omega)
  replace omAa := omAa.kept (below_grew D28) (fun q hq => by cases hq)
  replace oz0c := oz0c.kept (below_grew D28) (fun q hq => by cases hq)
  replace oz0d := oz0d.kept (below_grew D28) (fun q hq => by cases hq)
  replace DS1 := DS1.trans (D28.mono DS1.size)
  have Y28_A00 := X28_A0 0 _ rfl
  have Y28_A01 := X28_A0 1 _ rfl
  have Y28_A02 := X28_A0 2 _ rfl
  have Y28_A03 := X28_A0 3 _ rfl
  have L28_A0 : w.heap.size < w28.heap.size := by omega
  have Y28_P00 := X28_P0 0 _ rfl
  have Y28_P01 := X28_P0 1 _ rfl
  have Y28_P02 := X28_P0 2 _ rfl
  have Y28_P03 := X28_P0 3 _ rfl
  have L28_P0 : w7.heap.size < w28.heap.size := by omega
  clear X27_A0 Y27_A00 Y27_A01 Y27_A02 Y27_A03 L27_A0 X27_P0 Y27_P00 Y27_P01 Y27_P02 Y27_P03 L27_P0
  go_wp2_with fail
  go_at_call 12
  refine (toFloat32S_own a2a n2a c2a Z2a _ hn2a (h2a.below B28 (Nat.le_refl _))).mono ?_
  rintro e w29 ⟨pz2a, qz2a, rfl, oz2a, b29⟩
  have D29 : Below w28.heap.size w28 w29 := b29
  have s29 : w28.heap.size + 0 ≤ w29.heap.size := by have := b29.size; (try simp at this); omega
  have B29 : Below w.heap.size w w29 := B28.trans (D29.mono B28.size)
  have X29_A0 := X28_A0.below D29 (by omega)
  have X29_P0 := X28_P0.below D29 (by omega)
  replace omAa := omAa.kept (below_grew D29) (fun q hq => by cases hq)
  replace oz0c := oz0c.kept (below_grew D29) (fun q hq => by cases hq)
  replace oz0d := oz0d.kept (below_grew D29) (fun q hq => by cases hq)
  replace oz1a := oz1a.kept (below_grew D29) (fun q hq => by cases hq)
  replace DS1 := DS1.trans (D29.mono DS1.size)
  have Y29_A00 := X29_A0 0 _ rfl
  have Y29_A01 := X29_A0 1 _ rfl
  have Y29_A02 := X29_A0 2 _ rfl
  have Y29_A03 := X29_A0 3 _ rfl
  have L29_A0 : w.heap.size < w29.heap.size := by omega
  have Y29_P00 := X29_P0 0 _ rfl
  have Y29_P01 := X29_P0 1 _ rfl
  have Y29_P02 := X29_P0 2 _ rfl
  have Y29_P03 := X29_P0 3 _ rfl
  have L29_P0 : w7.heap.size < w29.heap.size := by omega
  clear X28_A0 Y28_A00 Y28_A01 Y28_A02 Y28_A03 L28_A0 X28_P0 Y28_P00 Y28_P01 Y28_P02 Y28_P03 L28_P0
  go_wp2_with fail
  go_at_call 12
  refine (toFloat32S_own a3a n3a c3a Z3a _ hn3a (h3a.below B29 (Nat.le_refl _))).mono ?_
  rintro e w30 ⟨pz3a, qz3a, rfl, oz3a, b30⟩
  have D30 : Below w29.heap.size w29 w30 := b30
  have s30 : w29.heap.size + 0 ≤ w30.heap.size := by have := b30.size; (try simp at this); omega
  have B30 : Below w.heap.size w w30 := B29.trans (D30.mono B29.size)
  have X30_A0 := X29_A0.below D30 (by omega)
  have X30_P0 := X29_P0.below D30 (by omega)
  replace omAa := omAa.kept (below_grew D30) (fun q hq => by cases hq)
  replace oz0c := oz0c.kept (below_grew D30) (fun q hq => by cases hq)
  replace oz0d := oz0d.kept (below_grew D30) (fun q hq => by cases hq)
  replace oz1a := oz1a.kept (below_grew D30) (fun q hq => by cases hq)
  replace oz2a := oz2a.kept (below_grew D30) (fun q hq => by cases hq)
  replace DS1 := DS1.trans (D30.mono DS1.size)
  have Y30_A00 := X30_A0 0 _ rfl
  have Y30_A01 := X30_A0 1 _ rfl
  have Y30_A02 := X30_A0 2 _ rfl
  have Y30_A03 := X30_A0 3 _ rfl
  have L30_A0 : w.heap.size < w30.heap.size := by omega
  have Y30_P00 := X30_P0 0 _ rfl
  have Y30_P01 := X30_P0 1 _ rfl
  have Y30_P02 := X30_P0 2 _ rfl
  have Y30_P03 := X30_P0 3 _ rfl
  have L30_P0 : w7.heap.size < w30.heap.size := by omega
  clear X29_A0 Y29_A00 Y29_A01 Y29_A02 Y29_A03 L29_A0 X29_P0 Y29_P00 Y29_P01 Y29_P02 Y29_P03 L29_P0
  go_wp2_with fail
  go_at_call 20
  refine (ki _ _ _ _ _ _ _ _ _ _ _ (Own.fs oz0c) (OwnI.is oz0d) (Own.fs oz1a) (Own.fs oz2a) (Own.fs oz3a)).mono ?_
  rintro e w31 ⟨g3Aa, d3Aa, Y3Aa, rfl, og3Aa, v3Aa, b31⟩
  have D31 : Below w30.heap.size w30 w31 := b31
  have s31 : w30.heap.size + 0 ≤ w31.heap.size := by have := b31.size; (try simp at this); omega
  have B31 : Below w.heap.size w w31 := B30.trans (D31.mono B30.size)
  have X31_A0 := X30_A0.below D31 (by omega)
  have X31_P0 := X30_P0.below D31 (by omega)
  replace omAa := omAa.kept (below_grew D31) (fun q hq => by cases hq)
  replace oz0c := oz0c.kept (below_grew D31) (fun q hq => by cases hq)
  replace oz0d := oz0d.kept (below_grew D31) (fun q hq => by cases hq)
  replace oz1a := oz1a.kept (below_grew D31) (fun q hq => by cases hq)
  replace oz2a := oz2a.kept (below_grew D31) (fun q hq => by cases hq)
  replace oz3a := oz3a.kept (below_grew D31) (fun q hq => by cases hq)
  replace DS1 := DS1.trans (D31.mono DS1.size)
  have Y31_A00 := X31_A0 0 _ rfl
  have Y31_A01 := X31_A0 1 _ rfl
  have Y31_A02 := X31_A0 2 _ rfl
  have Y31_A03 := X31_A0 3 _ rfl
  have L31_A0 : w.heap.size < w31.heap.size := by omega
  have Y31_P00 := X31_P0 0 _ rfl
  have Y31_P01 := X31_P0 1 _ rfl
  have Y31_P02 := X31_P0 2 _ rfl
  have Y31_P03 := X31_P0 3 _ rfl
  have L31_P0 : w7.heap.size < w31.heap.size := by omega
  clear X30_A0 Y30_A00 Y30_A01 Y30_A02 Y30_A03 L30_A0 X30_P0 Y30_P00 Y30_P01 Y30_P02 Y30_P03 L30_P0
  clear oz0c oz0d oz1a oz2a oz3a
  go_wp2_with fail
  go_at_call 14
  refine (eqFloat32S_any _ _ _ _ _ _ _ _ (by omega) (Own.fs og3Aa) (fs1Aa_.below DS1 (Nat.le_refl _)) (fun i hi => (v3Aa i hi).trans (v1Aa i hi).symm)).mono ?_
  rintro e w32 ⟨rfl, me32, hw32⟩
  have b32 := below_of_drewN hw32
  clear hw32
  have D32 : Below w31.heap.size w31 w32 := b32
  have s32 : w31.heap.size + 0 ≤ w32.heap.size := by have := b32.size; (try simp at this); omega
  have B32 : Below w.heap.size w w32 := B31.trans (D32.mono B31.size)
  have X32_A0 := X31_A0.below D32 (by omega)
  have X32_P0 := X31_P0.below D32 (by omega)
  replace omAa := omAa.kept (below_grew D32) (fun q hq => by cases hq)
  replace og3Aa := og3Aa.kept (below_grew D32) (fun q hq => by cases hq)
  replace DS1 := DS1.trans (D32.mono DS1.size)
  have Y32_A00 := X32_A0 0 _ rfl
  have Y32_A01 := X32_A0 1 _ rfl
  have Y32_A02 := X32_A0 2 _ rfl
  have Y32_A03 := X32_A0 3 _ rfl
  have L32_A0 : w.heap.size < w32.heap.size := by omega
  have Y32_P00 := X32_P0 0 _ rfl
  have Y32_P01 := X32_P0 1 _ rfl
  have Y32_P02 := X32_P0 2 _ rfl
  have Y32_P03 := X32_P0 3 _ rfl
  have L32_P0 : w7.heap.size < w32.heap.size := by omega
  clear X31_A0 Y31_A00 Y31_A01 Y31_A02 Y31_A03 L31_A0 X31_P0 Y31_P00 Y31_P01 Y31_P02 Y31_P03 L31_P0
  go_wp2_with fail
  go_at_call 18
  refine (heldFloat32S_any _ _ _ (1) _ _ (by omega) (by omega) (Own.fs omAa) (fun i hi => rfl)).mono ?_
  rintro e w33 ⟨rfl, hw33⟩
  have b33 := below_of_same hw33
  clear hw33
  have D33 : Below w32.heap.size w32 w33 := b33
  have s33 : w32.heap.size + 0 ≤ w33.heap.size := by have := b33.size; (try simp at this); omega
  have B33 : Below w.heap.size w w33 := B32.trans (D33.mono B32.size)
  have X33_A0 := X32_A0.below D33 (by omega)
  have X33_P0 := X32_P0.below D33 (by omega)
  replace omAa := omAa.kept (below_grew D33) (fun q hq => by cases hq)
  replace DS1 := DS1.trans (D33.mono DS1.size)
  have Y33_A00 := X33_A0 0 _ rfl
  have Y33_A01 := X33_A0 1 _ rfl
  have Y33_A02 := X33_A0 2 _ rfl
  have Y33_A03 := X33_A0 3 _ rfl
  have L33_A0 : w.heap.size < w33.heap.size := by omega
  have Y33_P00 := X33_P0 0 _ rfl
  have Y33_P01 := X33_P0 1 _ rfl
  have Y33_P02 := X33_P0 2 _ rfl
  have Y33_P03 := X33_P0 3 _ rfl
  have L33_P0 : w7.heap.size < w33.heap.size := by omega
  clear X32_A0 Y32_A00 Y32_A01 Y32_A02 Y32_A03 L32_A0 X32_P0 Y32_P00 Y32_P01 Y32_P02 Y32_P03 L32_P0
  go_wp2_with fail
  go_ret
  exact ⟨rfl, B33⟩
end Go.Proofs.Ytmddhhmgfhljiaa
