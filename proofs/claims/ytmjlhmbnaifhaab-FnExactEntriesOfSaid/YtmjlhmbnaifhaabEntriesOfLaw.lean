/- Helper: the walk of the law FnExactEntriesOf. Conditions: none. -/
import Derived.Test.YtmjlhmbnaifhaabEntriesKey
import Derived.Test.YtmjlhmbnaifhaabSparse
import Derived.Test.YtmjlhmbnaifhaabMatCopy
import Derived.Test.YtmjlhmbnaifhaabKeys
import Derived.Test.YtmjlhmbnaifhaabBoxes
import Derived.Test.YtmjlhmbnaifhaabIntLaw
import Derived.Test.YtmjlhmbnaifhaabMarkMore
import Derived.Deep.RegionHeld3
set_option linter.unusedVariables false
set_option linter.unusedSimpArgs false
namespace Go.Proofs.Ytmjlhmbnaifhaab
open Go.RowKit

theorem heldS_EntriesOf_4_4 {w0 W w' : World} {b1 b2 : Nat} {u0 u1 u2 u3 v0 v1 v2 v3 : Value} (hs : W.cell? ⟨b1, 0, none⟩ = some u0 ∧ W.cell? ⟨b1, 1, none⟩ = some u1 ∧ W.cell? ⟨b1, 2, none⟩ = some u2 ∧ W.cell? ⟨b1, 3, none⟩ = some u3 ∧ W.cell? ⟨b2, 0, none⟩ = some v0 ∧ W.cell? ⟨b2, 1, none⟩ = some v1 ∧ W.cell? ⟨b2, 2, none⟩ = some v2 ∧ W.cell? ⟨b2, 3, none⟩ = some v3 ∧ Below w0.heap.size w0 W) (hb : Below W.heap.size W w') (l1 : b1 < w0.heap.size) (l2 : b2 < w0.heap.size) :
    w'.cell? ⟨b1, 0, none⟩ = some u0 ∧ w'.cell? ⟨b1, 1, none⟩ = some u1 ∧ w'.cell? ⟨b1, 2, none⟩ = some u2 ∧ w'.cell? ⟨b1, 3, none⟩ = some u3 ∧ w'.cell? ⟨b2, 0, none⟩ = some v0 ∧ w'.cell? ⟨b2, 1, none⟩ = some v1 ∧ w'.cell? ⟨b2, 2, none⟩ = some v2 ∧ w'.cell? ⟨b2, 3, none⟩ = some v3 ∧ Below w0.heap.size w0 w' := by
  obtain ⟨hu0, hu1, hu2, hu3, hv0, hv1, hv2, hv3, h6⟩ := hs
  have e1 : b1 < W.heap.size := Nat.lt_of_lt_of_le l1 h6.size
  have e2 : b2 < W.heap.size := Nat.lt_of_lt_of_le l2 h6.size
  exact ⟨(hb.cell (p := ⟨b1, 0, none⟩) e1).trans hu0, (hb.cell (p := ⟨b1, 1, none⟩) e1).trans hu1, (hb.cell (p := ⟨b1, 2, none⟩) e1).trans hu2, (hb.cell (p := ⟨b1, 3, none⟩) e1).trans hu3, (hb.cell (p := ⟨b2, 0, none⟩) e2).trans hv0, (hb.cell (p := ⟨b2, 1, none⟩) e2).trans hv1, (hb.cell (p := ⟨b2, 2, none⟩) e2).trans hv2, (hb.cell (p := ⟨b2, 3, none⟩) e2).trans hv3, h6.trans (hb.mono h6.size)⟩
set_option maxRecDepth 100000 in
set_option maxHeartbeats 4000000 in
theorem law_FnExactEntriesOf (w : World) (x0a : Int) (a0b : Option Addr) (n0b c0b : Nat) (Z0b : Nat → Int) (a0c : Option Addr) (n0c c0c : Nat) (Z0c : Nat → Int) (a0d : Option Addr) (n0d c0d : Nat) (Z0d : Nat → Nat) (wx0a : (Lit.int .i64 x0a).wf = true) (h0b : IS .i64 w a0b n0b c0b Z0b) (h0c : IS .i64 w a0c n0c c0c Z0c) (h0d : FS .f32 w a0d n0d c0d Z0d) :
    Calls Try.prog 7 #[.agg #[.int .i64 x0a, .slice a0b n0b c0b, .slice a0c n0c c0c, .slice a0d n0d c0d]] w fun e w' => e = .returned (.bool true) ∧ Below w.heap.size w w' := by
  have hm0b : n0b ≤ 9223372036854775807 := by have hh1 := h0b.1; have hh2 := h0b.2.1; unfold maxLen at hh2; omega
  have hm0c : n0c ≤ 9223372036854775807 := by have hh1 := h0c.1; have hh2 := h0c.2.1; unfold maxLen at hh2; omega
  have hm0d : n0d ≤ 9223372036854775807 := by have hh1 := h0d.1; have hh2 := h0d.2.1; unfold maxLen at hh2; omega
  by_cases hl : n0b ≤ 1048576 ∧ n0c ≤ 1048576 - n0b ∧ n0d ≤ 1048576 - n0b - n0c
  case neg =>
    go_enter Try.func7, Try.ntmps7
    go_wp2_with fail
    go_at_call 9
    refine (szSparse_no _ _ _ _ _ _ _ _ _ _ (1048576) _ (by omega) hm0b hm0c hm0d hl).mono ?_
    rintro e w1 ⟨rfl, b1⟩
    have D1 : Below w.heap.size w w1 := Below.trans (by repeat first | (with_reducible exact Below.refl _ _) | (with_reducible refine Below.setCell ?_ (by first | exact Nat.le_refl _ | (simp; done) | (simp; omega) | omega) _) | (with_reducible refine Below.alloc ?_ (by first | exact Nat.le_refl _ | (simp; done) | (simp; omega) | omega) _) | (with_reducible refine below_drewN ?_ _) | (with_reducible refine Below.drew ?_)) (b1.mono (by simp; try omega))
    have s1 : w.heap.size + 1 ≤ w1.heap.size := by have := b1.size; (try simp at this); omega
    have B1 : Below w.heap.size w w1 := D1
    have X1_A0 : BoxL w1 w.heap.size [.int .i64 x0a, .slice a0b n0b c0b, .slice a0c n0c c0c, .slice a0d n0d c0d] := BoxL.below (BoxL.four (by simp [go_sem]) (by simp [go_sem]) (by simp [go_sem]) (by simp [go_sem])) b1 (by first | (simp; done) | (simp; omega))
    have Y1_A00 := X1_A0 0 _ rfl
    have Y1_A01 := X1_A0 1 _ rfl
    have Y1_A02 := X1_A0 2 _ rfl
    have Y1_A03 := X1_A0 3 _ rfl
    have L1_A0 : w.heap.size < w1.heap.size := by omega
    go_wp2_with fail
    go_ret
    exact ⟨rfl, B1⟩
  obtain ⟨hl0b, hl0c, hl0d⟩ := hl
  have hn0b : n0b ≤ 1048576 := by omega
  have hn0c : n0c ≤ 1048576 := by omega
  have hn0d : n0d ≤ 1048576 := by omega
  obtain ⟨ok, nAa, RAa, hnrAa, hnrBa, ks, ki⟩ := keyEntriesOf x0a n0b Z0b n0c Z0c n0d Z0d wx0a hn0b hn0c hn0d
  have hfvA : ∀ t, t < nAa → FV .f32 (Z0d t) (cn .f32 (Z0d t)) := fun t ht => ((h0d.at (show t < n0d by omega)).elim fun _ q => q.elim fun _ q => q.2.2.2)
  go_enter Try.func7, Try.ntmps7
  go_wp2_with fail
  go_at_call 9
  refine (szSparse_yes _ _ _ _ _ _ _ _ _ _ (1048576) _ (by omega) hl0b hl0c hl0d).mono ?_
  rintro e w1 ⟨rfl, b1⟩
  have D1 : Below w.heap.size w w1 := Below.trans (by repeat first | (with_reducible exact Below.refl _ _) | (with_reducible refine Below.setCell ?_ (by first | exact Nat.le_refl _ | (simp; done) | (simp; omega) | omega) _) | (with_reducible refine Below.alloc ?_ (by first | exact Nat.le_refl _ | (simp; done) | (simp; omega) | omega) _) | (with_reducible refine below_drewN ?_ _) | (with_reducible refine Below.drew ?_)) (b1.mono (by simp; try omega))
  have s1 : w.heap.size + 1 ≤ w1.heap.size := by have := b1.size; (try simp at this); omega
  have B1 : Below w.heap.size w w1 := D1
  have X1_A0 : BoxL w1 w.heap.size [.int .i64 x0a, .slice a0b n0b c0b, .slice a0c n0c c0c, .slice a0d n0d c0d] := BoxL.below (BoxL.four (by simp [go_sem]) (by simp [go_sem]) (by simp [go_sem]) (by simp [go_sem])) b1 (by first | (simp; done) | (simp; omega))
  have Y1_A00 := X1_A0 0 _ rfl
  have Y1_A01 := X1_A0 1 _ rfl
  have Y1_A02 := X1_A0 2 _ rfl
  have Y1_A03 := X1_A0 3 _ rfl
  have L1_A0 : w.heap.size < w1.heap.size := by omega
  have hdz0 : decide (((1048576 - n0b - n0c - n0d : Nat) : Int) < 0) = false := decide_eq_false (by omega)
  go_wp2_with fail
  go_at_call 11
  refine (toSparse_sep x0a a0b n0b c0b Z0b a0c n0c c0c Z0c a0d n0d c0d Z0d _ hn0b hn0c hn0d (h0b.below B1 (Nat.le_refl _)) (h0c.below B1 (Nat.le_refl _)) (h0d.below B1 (Nat.le_refl _))).mono ?_
  rintro e w2 ⟨ps0b, qs0b, ps0c, qs0c, ps0d, qs0d, Ms0b, Ms0c, rfl, ms0b, ms0c, ms0d, os0b, os0c, os0d, b2⟩
  have D2 : Below w1.heap.size w1 w2 := b2
  have s2 : w1.heap.size + 0 ≤ w2.heap.size := by have := b2.size; (try simp at this); omega
  have B2 : Below w.heap.size w w2 := B1.trans (D2.mono B1.size)
  have X2_A0 := X1_A0.below D2 (by omega)
  have Y2_A00 := X2_A0 0 _ rfl
  have Y2_A01 := X2_A0 1 _ rfl
  have Y2_A02 := X2_A0 2 _ rfl
  have Y2_A03 := X2_A0 3 _ rfl
  have L2_A0 : w.heap.size < w2.heap.size := by omega
  clear X1_A0 Y1_A00 Y1_A01 Y1_A02 Y1_A03 L1_A0
  go_wp2_with fail
  go_at_call 29
  refine (ks _ _ _ _ _ _ _ (OwnI.is os0b) (OwnI.is os0c) (Own.fs os0d)).mono ?_
  rintro e w3 ⟨g1Aa, d1Aa, rfl, fg1Aa, b3⟩
  have D3 : Below w2.heap.size w2 w3 := b3
  have s3 : w2.heap.size + 0 ≤ w3.heap.size := by have := b3.size; (try simp at this); omega
  have B3 : Below w.heap.size w w3 := B2.trans (D3.mono B2.size)
  have X3_A0 := X2_A0.below D3 (by omega)
  replace os0b := os0b.kept (below_grew D3) (fun q hq => by cases hq)
  replace os0c := os0c.kept (below_grew D3) (fun q hq => by cases hq)
  replace os0d := os0d.kept (below_grew D3) (fun q hq => by cases hq)
  have Y3_A00 := X3_A0 0 _ rfl
  have Y3_A01 := X3_A0 1 _ rfl
  have Y3_A02 := X3_A0 2 _ rfl
  have Y3_A03 := X3_A0 3 _ rfl
  have L3_A0 : w.heap.size < w3.heap.size := by omega
  clear X2_A0 Y2_A00 Y2_A01 Y2_A02 Y2_A03 L2_A0
  have fs1Aa_ := fg1Aa.es
  have DS1 := Below.refl w3.heap.size w3
  clear os0b os0c os0d
  go_wp2_with fail
  go_at_call 11
  refine (toSparse_sep x0a a0b n0b c0b Z0b a0c n0c c0c Z0c a0d n0d c0d Z0d _ hn0b hn0c hn0d (h0b.below B3 (Nat.le_refl _)) (h0c.below B3 (Nat.le_refl _)) (h0d.below B3 (Nat.le_refl _))).mono ?_
  rintro e w4 ⟨px0b, qx0b, px0c, qx0c, px0d, qx0d, Mx0b, Mx0c, rfl, mx0b, mx0c, mx0d, ox0b, ox0c, ox0d, b4⟩
  have D4 : Below w3.heap.size w3 w4 := b4
  have s4 : w3.heap.size + 0 ≤ w4.heap.size := by have := b4.size; (try simp at this); omega
  have B4 : Below w.heap.size w w4 := B3.trans (D4.mono B3.size)
  have X4_A0 := X3_A0.below D4 (by omega)
  replace DS1 := DS1.trans (D4.mono DS1.size)
  have Y4_A00 := X4_A0 0 _ rfl
  have Y4_A01 := X4_A0 1 _ rfl
  have Y4_A02 := X4_A0 2 _ rfl
  have Y4_A03 := X4_A0 3 _ rfl
  have L4_A0 : w.heap.size < w4.heap.size := by omega
  clear X3_A0 Y3_A00 Y3_A01 Y3_A02 Y3_A03 L3_A0
  go_wp2_with fail
  go_at_call 30
  refine (ki _ _ _ _ _ _ _ (IS.below (OwnI.is ox0b) (by repeat first | (with_reducible exact Below.refl _ _) | (with_reducible refine Below.setCell ?_ (by first | exact Nat.le_refl _ | (simp; done) | (simp; omega) | omega) _) | (with_reducible refine Below.alloc ?_ (by first | exact Nat.le_refl _ | (simp; done) | (simp; omega) | omega) _) | (with_reducible refine below_drewN ?_ _) | (with_reducible refine Below.drew ?_)) (Nat.le_refl _)) (IS.below (OwnI.is ox0c) (by repeat first | (with_reducible exact Below.refl _ _) | (with_reducible refine Below.setCell ?_ (by first | exact Nat.le_refl _ | (simp; done) | (simp; omega) | omega) _) | (with_reducible refine Below.alloc ?_ (by first | exact Nat.le_refl _ | (simp; done) | (simp; omega) | omega) _) | (with_reducible refine below_drewN ?_ _) | (with_reducible refine Below.drew ?_)) (Nat.le_refl _)) (FS.below (Own.fs ox0d) (by repeat first | (with_reducible exact Below.refl _ _) | (with_reducible refine Below.setCell ?_ (by first | exact Nat.le_refl _ | (simp; done) | (simp; omega) | omega) _) | (with_reducible refine Below.alloc ?_ (by first | exact Nat.le_refl _ | (simp; done) | (simp; omega) | omega) _) | (with_reducible refine below_drewN ?_ _) | (with_reducible refine Below.drew ?_)) (Nat.le_refl _))).mono ?_
  rintro e w5 ⟨g2Aa, d2Aa, rfl, og2Aa, b5⟩
  replace og2Aa := OwnE.mono (B' := (w4.heap.size + 1)) og2Aa (by simp) (Nat.le_refl _) (by omega)
  have D5 : Below w4.heap.size w4 w5 := Below.trans (by repeat first | (with_reducible exact Below.refl _ _) | (with_reducible refine Below.setCell ?_ (by first | exact Nat.le_refl _ | (simp; done) | (simp; omega) | omega) _) | (with_reducible refine Below.alloc ?_ (by first | exact Nat.le_refl _ | (simp; done) | (simp; omega) | omega) _) | (with_reducible refine below_drewN ?_ _) | (with_reducible refine Below.drew ?_)) (b5.mono (by simp; try omega))
  have s5 : w4.heap.size + 1 ≤ w5.heap.size := by have := b5.size; (try simp at this); omega
  have B5 : Below w.heap.size w w5 := B4.trans (D5.mono B4.size)
  have X5_A0 := X4_A0.below D5 (by omega)
  have X5_P0 : BoxL w5 w4.heap.size [.int .i64 x0a, .slice px0b n0b qx0b, .slice px0c n0c qx0c, .slice px0d n0d qx0d] := BoxL.below (BoxL.four (by simp [go_sem]) (by simp [go_sem]) (by simp [go_sem]) (by simp [go_sem])) b5 (by first | (simp; done) | (simp; omega))
  replace ox0b := ox0b.kept (below_grew D5) (fun q hq => by cases hq)
  replace ox0c := ox0c.kept (below_grew D5) (fun q hq => by cases hq)
  replace ox0d := ox0d.kept (below_grew D5) (fun q hq => by cases hq)
  replace DS1 := DS1.trans (D5.mono DS1.size)
  have Y5_A00 := X5_A0 0 _ rfl
  have Y5_A01 := X5_A0 1 _ rfl
  have Y5_A02 := X5_A0 2 _ rfl
  have Y5_A03 := X5_A0 3 _ rfl
  have L5_A0 : w.heap.size < w5.heap.size := by omega
  have Y5_P00 := X5_P0 0 _ rfl
  have Y5_P01 := X5_P0 1 _ rfl
  have Y5_P02 := X5_P0 2 _ rfl
  have Y5_P03 := X5_P0 3 _ rfl
  have L5_P0 : w4.heap.size < w5.heap.size := by omega
  clear X4_A0 Y4_A00 Y4_A01 Y4_A02 Y4_A03 L4_A0
  go_wp2_with fail
  go_at_call 31
  refine (eqEntryS_any _ _ _ _ _ _ _ _ _ (by omega) og2Aa.es (fs1Aa_.below DS1 (Nat.le_refl _)) hfvA).mono ?_
  rintro e w6 ⟨rfl, b6⟩
  have D6 : Below w5.heap.size w5 w6 := b6
  have s6 : w5.heap.size + 0 ≤ w6.heap.size := by have := b6.size; (try simp at this); omega
  have B6 : Below w.heap.size w w6 := B5.trans (D6.mono B5.size)
  have X6_A0 := X5_A0.below D6 (by omega)
  have X6_P0 := X5_P0.below D6 (by omega)
  replace ox0b := ox0b.kept (below_grew D6) (fun q hq => by cases hq)
  replace ox0c := ox0c.kept (below_grew D6) (fun q hq => by cases hq)
  replace ox0d := ox0d.kept (below_grew D6) (fun q hq => by cases hq)
  replace og2Aa := og2Aa.kept (below_grew D6) (fun q hq => by cases hq)
  replace DS1 := DS1.trans (D6.mono DS1.size)
  have Y6_A00 := X6_A0 0 _ rfl
  have Y6_A01 := X6_A0 1 _ rfl
  have Y6_A02 := X6_A0 2 _ rfl
  have Y6_A03 := X6_A0 3 _ rfl
  have L6_A0 : w.heap.size < w6.heap.size := by omega
  have Y6_P00 := X6_P0 0 _ rfl
  have Y6_P01 := X6_P0 1 _ rfl
  have Y6_P02 := X6_P0 2 _ rfl
  have Y6_P03 := X6_P0 3 _ rfl
  have L6_P0 : w4.heap.size < w6.heap.size := by omega
  clear X5_A0 Y5_A00 Y5_A01 Y5_A02 Y5_A03 L5_A0 X5_P0 Y5_P00 Y5_P01 Y5_P02 Y5_P03 L5_P0
  go_wp2_with fail
  go_region_held3 (fun w' => w'.cell? ⟨w4.heap.size, 0, none⟩ = some (.int .i64 x0a) ∧ w'.cell? ⟨w4.heap.size, 1, none⟩ = some (.slice px0b n0b qx0b) ∧ w'.cell? ⟨w4.heap.size, 2, none⟩ = some (.slice px0c n0c qx0c) ∧ w'.cell? ⟨w4.heap.size, 3, none⟩ = some (.slice px0d n0d qx0d) ∧ w'.cell? ⟨w.heap.size, 0, none⟩ = some (.int .i64 x0a) ∧ w'.cell? ⟨w.heap.size, 1, none⟩ = some (.slice a0b n0b c0b) ∧ w'.cell? ⟨w.heap.size, 2, none⟩ = some (.slice a0c n0c c0c) ∧ w'.cell? ⟨w.heap.size, 3, none⟩ = some (.slice a0d n0d c0d) ∧ Below w6.heap.size w6 w')
    (first | exact ⟨Y6_P00, Y6_P01, Y6_P02, Y6_P03, Y6_A00, Y6_A01, Y6_A02, Y6_A03, (by first | exact (Below.refl _ _).drew | exact (below_drewN (Below.refl _ _) _).drew)⟩ | exact heldS_EntriesOf_4_4 (by assumption) (by assumption) (by omega) (by omega))
    (first
      | (go_at_call 11; refine (toSparse_sep x0a a0b n0b c0b Z0b a0c n0c c0c Z0c a0d n0d c0d Z0d _ hn0b hn0c hn0d (h0b.below (B6.trans (Below.mono (by go_split_ands; assumption) B6.size)) (Nat.le_refl _)) (h0c.below (B6.trans (Below.mono (by go_split_ands; assumption) B6.size)) (Nat.le_refl _)) (h0d.below (B6.trans (Below.mono (by go_split_ands; assumption) B6.size)) (Nat.le_refl _))).mono ?_; rintro e wa ⟨pa0b, qa0b, pa0c, qa0c, pa0d, qa0d, Ma0b, Ma0c, rfl, ma0b, ma0c, ma0d, oa0b, oa0c, oa0d, ba⟩)
      | (go_at_call 14; refine (eqSparse_any _ _ _ _ _ _ _ _ _ _ _ _ _ _ _ _ _ _ _ _ _ _ _ (by omega) (by omega) (by omega) ((OwnI.is ox0b).below (by go_split_ands; assumption) (Nat.le_refl _)) (OwnI.is oa0b) ((OwnI.is ox0c).below (by go_split_ands; assumption) (Nat.le_refl _)) (OwnI.is oa0c) ((Own.fs ox0d).below (by go_split_ands; assumption) (Nat.le_refl _)) (Own.fs oa0d) (fun i hi => rfl) (fun i hi => rfl) (fun i hi => rfl)).mono ?_; rintro e w7 ⟨rfl, bb⟩))
  have b7 : Below w6.heap.size w6 w7 := by go_split_ands; assumption
  clear oa0b oa0c oa0d ba bb
  have D7 : Below w6.heap.size w6 w7 := b7
  have s7 : w6.heap.size + 0 ≤ w7.heap.size := by have := b7.size; (try simp at this); omega
  have B7 : Below w.heap.size w w7 := B6.trans (D7.mono B6.size)
  have X7_A0 := X6_A0.below D7 (by omega)
  have X7_P0 := X6_P0.below D7 (by omega)
  replace ox0b := ox0b.kept (below_grew D7) (fun q hq => by cases hq)
  replace ox0c := ox0c.kept (below_grew D7) (fun q hq => by cases hq)
  replace ox0d := ox0d.kept (below_grew D7) (fun q hq => by cases hq)
  replace og2Aa := og2Aa.kept (below_grew D7) (fun q hq => by cases hq)
  replace DS1 := DS1.trans (D7.mono DS1.size)
  have Y7_A00 := X7_A0 0 _ rfl
  have Y7_A01 := X7_A0 1 _ rfl
  have Y7_A02 := X7_A0 2 _ rfl
  have Y7_A03 := X7_A0 3 _ rfl
  have L7_A0 : w.heap.size < w7.heap.size := by omega
  have Y7_P00 := X7_P0 0 _ rfl
  have Y7_P01 := X7_P0 1 _ rfl
  have Y7_P02 := X7_P0 2 _ rfl
  have Y7_P03 := X7_P0 3 _ rfl
  have L7_P0 : w4.heap.size < w7.heap.size := by omega
  clear X6_A0 Y6_A00 Y6_A01 Y6_A02 Y6_A03 L6_A0 X6_P0 Y6_P00 Y6_P01 Y6_P02 Y6_P03 L6_P0
  go_wp2_with fail
  go_at_call 19
  refine (markSparse_sep (w3.heap.size) _ _ (w4.heap.size) _ _ _ _ _ _ _ _ _ _ _ _ _ (1) _ (by omega) (by omega) (by omega) (by omega) (by omega) (by omega) (by omega) (by omega) ox0b ox0c ox0d).mono ?_
  rintro e w8 ⟨rfl, om0b, om0c, om0d, gr8⟩
  clear ox0b ox0c ox0d om0b om0c om0d
  have s8 : w7.heap.size ≤ w8.heap.size := gr8.size
  have B8 : Below w.heap.size w w8 := Below.over B7 gr8 (by omega) (by omega)
  have X8_A0 := X7_A0.over gr8 (by omega) (by omega)
  have X8_P0 := X7_P0.over gr8 (by omega) (by omega)
  replace og2Aa := og2Aa.over gr8 (by omega)
  replace DS1 := Below.over DS1 gr8 (by omega) (by omega)
  have Y8_A00 := X8_A0 0 _ rfl
  have Y8_A01 := X8_A0 1 _ rfl
  have Y8_A02 := X8_A0 2 _ rfl
  have Y8_A03 := X8_A0 3 _ rfl
  have L8_A0 : w.heap.size < w8.heap.size := by omega
  have Y8_P00 := X8_P0 0 _ rfl
  have Y8_P01 := X8_P0 1 _ rfl
  have Y8_P02 := X8_P0 2 _ rfl
  have Y8_P03 := X8_P0 3 _ rfl
  have L8_P0 : w4.heap.size < w8.heap.size := by omega
  clear X7_A0 Y7_A00 Y7_A01 Y7_A02 Y7_A03 L7_A0 X7_P0 Y7_P00 Y7_P01 Y7_P02 Y7_P03 L7_P0
  have hk1 : decide (((1 + n0b + n0c + n0d : Nat) : Int) < 0) = false := decide_eq_false (by omega)
  have hk2 := hk1
  simp only [Int.natCast_add, Int.natCast_one, Int.cast_ofNat_Int] at hk2
  go_wp2_with fail
  go_at_call 31
  refine (eqEntryS_any _ _ _ _ _ _ _ _ _ (by omega) og2Aa.es (fs1Aa_.below DS1 (Nat.le_refl _)) hfvA).mono ?_
  rintro e w9 ⟨rfl, b9⟩
  have D9 : Below w8.heap.size w8 w9 := b9
  have s9 : w8.heap.size + 0 ≤ w9.heap.size := by have := b9.size; (try simp at this); omega
  have B9 : Below w.heap.size w w9 := B8.trans (D9.mono B8.size)
  have X9_A0 := X8_A0.below D9 (by omega)
  have X9_P0 := X8_P0.below D9 (by omega)
  replace og2Aa := og2Aa.kept (below_grew D9) (fun q hq => by cases hq)
  replace DS1 := DS1.trans (D9.mono DS1.size)
  have Y9_A00 := X9_A0 0 _ rfl
  have Y9_A01 := X9_A0 1 _ rfl
  have Y9_A02 := X9_A0 2 _ rfl
  have Y9_A03 := X9_A0 3 _ rfl
  have L9_A0 : w.heap.size < w9.heap.size := by omega
  have Y9_P00 := X9_P0 0 _ rfl
  have Y9_P01 := X9_P0 1 _ rfl
  have Y9_P02 := X9_P0 2 _ rfl
  have Y9_P03 := X9_P0 3 _ rfl
  have L9_P0 : w4.heap.size < w9.heap.size := by omega
  clear X8_A0 Y8_A00 Y8_A01 Y8_A02 Y8_A03 L8_A0 X8_P0 Y8_P00 Y8_P01 Y8_P02 Y8_P03 L8_P0
  go_wp2_with fail
  go_at_call 32
  refine (markEntryS_any _ _ _ _ _ (1) _ _ (by omega) (by omega) og2Aa).mono ?_
  rintro e w10 ⟨rfl, omAa, row10⟩
  have gr10 := MarkedE.grew row10
  clear row10
  clear og2Aa
  have s10 : w9.heap.size ≤ w10.heap.size := gr10.size
  have B10 : Below w.heap.size w w10 := Below.over B9 gr10 (by omega) (by omega)
  have X10_A0 := X9_A0.over gr10 (by omega) (by omega)
  have X10_P0 := X9_P0.over gr10 (by omega) (by omega)
  replace DS1 := Below.over DS1 gr10 (by omega) (by omega)
  have Y10_A00 := X10_A0 0 _ rfl
  have Y10_A01 := X10_A0 1 _ rfl
  have Y10_A02 := X10_A0 2 _ rfl
  have Y10_A03 := X10_A0 3 _ rfl
  have L10_A0 : w.heap.size < w10.heap.size := by omega
  have Y10_P00 := X10_P0 0 _ rfl
  have Y10_P01 := X10_P0 1 _ rfl
  have Y10_P02 := X10_P0 2 _ rfl
  have Y10_P03 := X10_P0 3 _ rfl
  have L10_P0 : w4.heap.size < w10.heap.size := by omega
  clear X9_A0 Y9_A00 Y9_A01 Y9_A02 Y9_A03 L9_A0 X9_P0 Y9_P00 Y9_P01 Y9_P02 Y9_P03 L9_P0
  have hq1 : decide (((1 + nAa * 3 : Nat) : Int) < 0) = false := decide_eq_false (by omega)
  have hq2 := hq1
  simp only [Int.natCast_add, Int.natCast_one, Int.cast_ofNat_Int] at hq2
  go_wp2_with fail
  go_at_call 33
  refine (heldEntryS_any _ _ _ (1) _ (by omega) (by omega) omAa.es).mono ?_
  rintro e w11 ⟨rfl, hw11⟩
  have b11 := below_of_same hw11
  clear hw11
  have D11 : Below w10.heap.size w10 w11 := b11
  have s11 : w10.heap.size + 0 ≤ w11.heap.size := by have := b11.size; (try simp at this); omega
  have B11 : Below w.heap.size w w11 := B10.trans (D11.mono B10.size)
  have X11_A0 := X10_A0.below D11 (by omega)
  have X11_P0 := X10_P0.below D11 (by omega)
  replace omAa := omAa.kept (below_grew D11) (fun q hq => by cases hq)
  replace DS1 := DS1.trans (D11.mono DS1.size)
  have Y11_A00 := X11_A0 0 _ rfl
  have Y11_A01 := X11_A0 1 _ rfl
  have Y11_A02 := X11_A0 2 _ rfl
  have Y11_A03 := X11_A0 3 _ rfl
  have L11_A0 : w.heap.size < w11.heap.size := by omega
  have Y11_P00 := X11_P0 0 _ rfl
  have Y11_P01 := X11_P0 1 _ rfl
  have Y11_P02 := X11_P0 2 _ rfl
  have Y11_P03 := X11_P0 3 _ rfl
  have L11_P0 : w4.heap.size < w11.heap.size := by omega
  clear X10_A0 Y10_A00 Y10_A01 Y10_A02 Y10_A03 L10_A0 X10_P0 Y10_P00 Y10_P01 Y10_P02 Y10_P03 L10_P0
  go_wp2_with fail
  go_at_call 11
  refine (toSparse_sep x0a a0b n0b c0b Z0b a0c n0c c0c Z0c a0d n0d c0d Z0d _ hn0b hn0c hn0d (h0b.below B11 (Nat.le_refl _)) (h0c.below B11 (Nat.le_refl _)) (h0d.below B11 (Nat.le_refl _))).mono ?_
  rintro e w12 ⟨pz0b, qz0b, pz0c, qz0c, pz0d, qz0d, Mz0b, Mz0c, rfl, mz0b, mz0c, mz0d, oz0b, oz0c, oz0d, b12⟩
  have D12 : Below w11.heap.size w11 w12 := b12
  have s12 : w11.heap.size + 0 ≤ w12.heap.size := by have := b12.size; (try simp at this); omega
  have B12 : Below w.heap.size w w12 := B11.trans (D12.mono B11.size)
  have X12_A0 := X11_A0.below D12 (by omega)
  have X12_P0 := X11_P0.below D12 (by omega)
  replace omAa := omAa.kept (below_grew D12) (fun q hq => by cases hq)
  replace DS1 := DS1.trans (D12.mono DS1.size)
  have Y12_A00 := X12_A0 0 _ rfl
  have Y12_A01 := X12_A0 1 _ rfl
  have Y12_A02 := X12_A0 2 _ rfl
  have Y12_A03 := X12_A0 3 _ rfl
  have L12_A0 : w.heap.size < w12.heap.size := by omega
  have Y12_P00 := X12_P0 0 _ rfl
  have Y12_P01 := X12_P0 1 _ rfl
  have Y12_P02 := X12_P0 2 _ rfl
  have Y12_P03 := X12_P0 3 _ rfl
  have L12_P0 : w4.heap.size < w12.heap.size := by omega
  clear X11_A0 Y11_A00 Y11_A01 Y11_A02 Y11_A03 L11_A0 X11_P0 Y11_P00 Y11_P01 Y11_P02 Y11_P03 L11_P0
  go_wp2_with fail
  go_at_call 30
  refine (ki _ _ _ _ _ _ _ (OwnI.is oz0b) (OwnI.is oz0c) (Own.fs oz0d)).mono ?_
  rintro e w13 ⟨g3Aa, d3Aa, rfl, og3Aa, b13⟩
  have D13 : Below w12.heap.size w12 w13 := b13
  have s13 : w12.heap.size + 0 ≤ w13.heap.size := by have := b13.size; (try simp at this); omega
  have B13 : Below w.heap.size w w13 := B12.trans (D13.mono B12.size)
  have X13_A0 := X12_A0.below D13 (by omega)
  have X13_P0 := X12_P0.below D13 (by omega)
  replace omAa := omAa.kept (below_grew D13) (fun q hq => by cases hq)
  replace oz0b := oz0b.kept (below_grew D13) (fun q hq => by cases hq)
  replace oz0c := oz0c.kept (below_grew D13) (fun q hq => by cases hq)
  replace oz0d := oz0d.kept (below_grew D13) (fun q hq => by cases hq)
  replace DS1 := DS1.trans (D13.mono DS1.size)
  have Y13_A00 := X13_A0 0 _ rfl
  have Y13_A01 := X13_A0 1 _ rfl
  have Y13_A02 := X13_A0 2 _ rfl
  have Y13_A03 := X13_A0 3 _ rfl
  have L13_A0 : w.heap.size < w13.heap.size := by omega
  have Y13_P00 := X13_P0 0 _ rfl
  have Y13_P01 := X13_P0 1 _ rfl
  have Y13_P02 := X13_P0 2 _ rfl
  have Y13_P03 := X13_P0 3 _ rfl
  have L13_P0 : w4.heap.size < w13.heap.size := by omega
  clear X12_A0 Y12_A00 Y12_A01 Y12_A02 Y12_A03 L12_A0 X12_P0 Y12_P00 Y12_P01 Y12_P02 Y12_P03 L12_P0
  clear oz0b oz0c oz0d
  go_wp2_with fail
  go_at_call 31
  refine (eqEntryS_any _ _ _ _ _ _ _ _ _ (by omega) og3Aa.es (fs1Aa_.below DS1 (Nat.le_refl _)) hfvA).mono ?_
  rintro e w14 ⟨rfl, b14⟩
  have D14 : Below w13.heap.size w13 w14 := b14
  have s14 : w13.heap.size + 0 ≤ w14.heap.size := by have := b14.size; (try simp at this); omega
  have B14 : Below w.heap.size w w14 := B13.trans (D14.mono B13.size)
  have X14_A0 := X13_A0.below D14 (by omega)
  have X14_P0 := X13_P0.below D14 (by omega)
  replace omAa := omAa.kept (below_grew D14) (fun q hq => by cases hq)
  replace og3Aa := og3Aa.kept (below_grew D14) (fun q hq => by cases hq)
  replace DS1 := DS1.trans (D14.mono DS1.size)
  have Y14_A00 := X14_A0 0 _ rfl
  have Y14_A01 := X14_A0 1 _ rfl
  have Y14_A02 := X14_A0 2 _ rfl
  have Y14_A03 := X14_A0 3 _ rfl
  have L14_A0 : w.heap.size < w14.heap.size := by omega
  have Y14_P00 := X14_P0 0 _ rfl
  have Y14_P01 := X14_P0 1 _ rfl
  have Y14_P02 := X14_P0 2 _ rfl
  have Y14_P03 := X14_P0 3 _ rfl
  have L14_P0 : w4.heap.size < w14.heap.size := by omega
  clear X13_A0 Y13_A00 Y13_A01 Y13_A02 Y13_A03 L13_A0 X13_P0 Y13_P00 Y13_P01 Y13_P02 Y13_P03 L13_P0
  go_wp2_with fail
  go_at_call 33
  refine (heldEntryS_any _ _ _ (1) _ (by omega) (by omega) omAa.es).mono ?_
  rintro e w15 ⟨rfl, hw15⟩
  have b15 := below_of_same hw15
  clear hw15
  have D15 : Below w14.heap.size w14 w15 := b15
  have s15 : w14.heap.size + 0 ≤ w15.heap.size := by have := b15.size; (try simp at this); omega
  have B15 : Below w.heap.size w w15 := B14.trans (D15.mono B14.size)
  have X15_A0 := X14_A0.below D15 (by omega)
  have X15_P0 := X14_P0.below D15 (by omega)
  replace omAa := omAa.kept (below_grew D15) (fun q hq => by cases hq)
  replace DS1 := DS1.trans (D15.mono DS1.size)
  have Y15_A00 := X15_A0 0 _ rfl
  have Y15_A01 := X15_A0 1 _ rfl
  have Y15_A02 := X15_A0 2 _ rfl
  have Y15_A03 := X15_A0 3 _ rfl
  have L15_A0 : w.heap.size < w15.heap.size := by omega
  have Y15_P00 := X15_P0 0 _ rfl
  have Y15_P01 := X15_P0 1 _ rfl
  have Y15_P02 := X15_P0 2 _ rfl
  have Y15_P03 := X15_P0 3 _ rfl
  have L15_P0 : w4.heap.size < w15.heap.size := by omega
  clear X14_A0 Y14_A00 Y14_A01 Y14_A02 Y14_A03 L14_A0 X14_P0 Y14_P00 Y14_P01 Y14_P02 Y14_P03 L14_P0
  go_wp2_with fail
  go_ret
  exact ⟨rfl, B15⟩
end Go.Proofs.Ytmjlhmbnaifhaab
