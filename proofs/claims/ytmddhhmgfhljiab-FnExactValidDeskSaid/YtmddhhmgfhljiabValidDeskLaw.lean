/- Helper: the walk of the law FnExactValidDesk. Conditions: none. -/
import Derived.Test.YtmddhhmgfhljiabDeskKey
import Derived.Test.YtmddhhmgfhljiabDesk
import Derived.Test.YtmddhhmgfhljiabMatCopy
import Derived.Test.YtmddhhmgfhljiabKeys
import Derived.Test.YtmddhhmgfhljiabBoxes
import Derived.Test.YtmddhhmgfhljiabIntLaw
import Derived.Test.YtmddhhmgfhljiabMarkMore
import Derived.Deep.RegionHeld3
set_option linter.unusedVariables false
set_option linter.unusedSimpArgs false
namespace Go.Proofs.Ytmddhhmgfhljiab
open Go.RowKit

theorem heldS_ValidDesk {w0 W w' : World} {b1 b2 : Nat} {u0 u1 u2 u3 u4 u5 u6 u7 u8 v0 v1 v2 v3 v4 v5 v6 v7 v8 : Value} (hs : W.cell? ⟨b1, 0, none⟩ = some u0 ∧ W.cell? ⟨b1, 1, none⟩ = some u1 ∧ W.cell? ⟨b1, 2, none⟩ = some u2 ∧ W.cell? ⟨b1, 3, none⟩ = some u3 ∧ W.cell? ⟨b1, 4, none⟩ = some u4 ∧ W.cell? ⟨b1, 5, none⟩ = some u5 ∧ W.cell? ⟨b1, 6, none⟩ = some u6 ∧ W.cell? ⟨b1, 7, none⟩ = some u7 ∧ W.cell? ⟨b1, 8, none⟩ = some u8 ∧ W.cell? ⟨b2, 0, none⟩ = some v0 ∧ W.cell? ⟨b2, 1, none⟩ = some v1 ∧ W.cell? ⟨b2, 2, none⟩ = some v2 ∧ W.cell? ⟨b2, 3, none⟩ = some v3 ∧ W.cell? ⟨b2, 4, none⟩ = some v4 ∧ W.cell? ⟨b2, 5, none⟩ = some v5 ∧ W.cell? ⟨b2, 6, none⟩ = some v6 ∧ W.cell? ⟨b2, 7, none⟩ = some v7 ∧ W.cell? ⟨b2, 8, none⟩ = some v8 ∧ Below w0.heap.size w0 W) (hb : Below W.heap.size W w') (l1 : b1 < w0.heap.size) (l2 : b2 < w0.heap.size) :
    w'.cell? ⟨b1, 0, none⟩ = some u0 ∧ w'.cell? ⟨b1, 1, none⟩ = some u1 ∧ w'.cell? ⟨b1, 2, none⟩ = some u2 ∧ w'.cell? ⟨b1, 3, none⟩ = some u3 ∧ w'.cell? ⟨b1, 4, none⟩ = some u4 ∧ w'.cell? ⟨b1, 5, none⟩ = some u5 ∧ w'.cell? ⟨b1, 6, none⟩ = some u6 ∧ w'.cell? ⟨b1, 7, none⟩ = some u7 ∧ w'.cell? ⟨b1, 8, none⟩ = some u8 ∧ w'.cell? ⟨b2, 0, none⟩ = some v0 ∧ w'.cell? ⟨b2, 1, none⟩ = some v1 ∧ w'.cell? ⟨b2, 2, none⟩ = some v2 ∧ w'.cell? ⟨b2, 3, none⟩ = some v3 ∧ w'.cell? ⟨b2, 4, none⟩ = some v4 ∧ w'.cell? ⟨b2, 5, none⟩ = some v5 ∧ w'.cell? ⟨b2, 6, none⟩ = some v6 ∧ w'.cell? ⟨b2, 7, none⟩ = some v7 ∧ w'.cell? ⟨b2, 8, none⟩ = some v8 ∧ Below w0.heap.size w0 w' := by
  obtain ⟨hu0, hu1, hu2, hu3, hu4, hu5, hu6, hu7, hu8, hv0, hv1, hv2, hv3, hv4, hv5, hv6, hv7, hv8, h6⟩ := hs
  have e1 : b1 < W.heap.size := Nat.lt_of_lt_of_le l1 h6.size
  have e2 : b2 < W.heap.size := Nat.lt_of_lt_of_le l2 h6.size
  exact ⟨(hb.cell (p := ⟨b1, 0, none⟩) e1).trans hu0, (hb.cell (p := ⟨b1, 1, none⟩) e1).trans hu1, (hb.cell (p := ⟨b1, 2, none⟩) e1).trans hu2, (hb.cell (p := ⟨b1, 3, none⟩) e1).trans hu3, (hb.cell (p := ⟨b1, 4, none⟩) e1).trans hu4, (hb.cell (p := ⟨b1, 5, none⟩) e1).trans hu5, (hb.cell (p := ⟨b1, 6, none⟩) e1).trans hu6, (hb.cell (p := ⟨b1, 7, none⟩) e1).trans hu7, (hb.cell (p := ⟨b1, 8, none⟩) e1).trans hu8, (hb.cell (p := ⟨b2, 0, none⟩) e2).trans hv0, (hb.cell (p := ⟨b2, 1, none⟩) e2).trans hv1, (hb.cell (p := ⟨b2, 2, none⟩) e2).trans hv2, (hb.cell (p := ⟨b2, 3, none⟩) e2).trans hv3, (hb.cell (p := ⟨b2, 4, none⟩) e2).trans hv4, (hb.cell (p := ⟨b2, 5, none⟩) e2).trans hv5, (hb.cell (p := ⟨b2, 6, none⟩) e2).trans hv6, (hb.cell (p := ⟨b2, 7, none⟩) e2).trans hv7, (hb.cell (p := ⟨b2, 8, none⟩) e2).trans hv8, h6.trans (hb.mono h6.size)⟩
set_option maxRecDepth 100000 in
set_option maxHeartbeats 4000000 in
theorem law_FnExactValidDesk (w : World) (x0a : Int) (x0b : Int) (a0c : Option Addr) (n0c c0c : Nat) (Z0c : Nat → Nat) (a0d : Option Addr) (n0d c0d : Nat) (Z0d : Nat → Nat) (a0e : Option Addr) (n0e c0e : Nat) (Z0e : Nat → Nat) (a0f : Option Addr) (n0f c0f : Nat) (Z0f : Nat → Nat) (x0g : Int) (x0h : Int) (a0i : Option Addr) (n0i c0i : Nat) (Z0i : Nat → Int) (wx0a : (Lit.int .i64 x0a).wf = true) (wx0b : (Lit.int .i64 x0b).wf = true) (h0c : FS .f32 w a0c n0c c0c Z0c) (h0d : FS .f32 w a0d n0d c0d Z0d) (h0e : FS .f32 w a0e n0e c0e Z0e) (h0f : FS .f32 w a0f n0f c0f Z0f) (wx0g : (Lit.int .i64 x0g).wf = true) (wx0h : (Lit.int .i64 x0h).wf = true) (h0i : IS .i64 w a0i n0i c0i Z0i) :
    Calls Try.prog 3 #[.agg #[.int .i64 x0a, .int .i64 x0b, .slice a0c n0c c0c, .slice a0d n0d c0d, .slice a0e n0e c0e, .slice a0f n0f c0f, .int .i64 x0g, .int .i64 x0h, .slice a0i n0i c0i]] w fun e w' => e = .returned (.bool true) ∧ Below w.heap.size w w' := by
  have hm0c : n0c ≤ 9223372036854775807 := by have hh1 := h0c.1; have hh2 := h0c.2.1; unfold maxLen at hh2; omega
  have hm0d : n0d ≤ 9223372036854775807 := by have hh1 := h0d.1; have hh2 := h0d.2.1; unfold maxLen at hh2; omega
  have hm0e : n0e ≤ 9223372036854775807 := by have hh1 := h0e.1; have hh2 := h0e.2.1; unfold maxLen at hh2; omega
  have hm0f : n0f ≤ 9223372036854775807 := by have hh1 := h0f.1; have hh2 := h0f.2.1; unfold maxLen at hh2; omega
  have hm0i : n0i ≤ 9223372036854775807 := by have hh1 := h0i.1; have hh2 := h0i.2.1; unfold maxLen at hh2; omega
  by_cases hl : n0c ≤ 1048576 ∧ n0d ≤ 1048576 - n0c ∧ n0e ≤ 1048576 - n0c - n0d ∧ n0f ≤ 1048576 - n0c - n0d - n0e ∧ n0i ≤ 1048576 - n0c - n0d - n0e - n0f
  case neg =>
    go_enter Try.func3, Try.ntmps3
    go_wp2_with fail
    go_at_call 7
    refine (szDesk_no _ _ _ _ _ _ _ _ _ _ _ _ _ _ _ _ _ _ _ (1048576) _ (by omega) hm0c hm0d hm0e hm0f hm0i hl).mono ?_
    rintro e w1 ⟨rfl, b1⟩
    have D1 : Below w.heap.size w w1 := Below.trans (by repeat first | (with_reducible exact Below.refl _ _) | (with_reducible refine Below.setCell ?_ (by first | exact Nat.le_refl _ | (simp; done) | (simp; omega) | omega) _) | (with_reducible refine Below.alloc ?_ (by first | exact Nat.le_refl _ | (simp; done) | (simp; omega) | omega) _) | (with_reducible refine below_drewN ?_ _) | (with_reducible refine Below.drew ?_)) (b1.mono (by simp; try omega))
    have s1 : w.heap.size + 1 ≤ w1.heap.size := by have := b1.size; (try simp at this); omega
    have B1 : Below w.heap.size w w1 := D1
    have X1_A0 : BoxL w1 w.heap.size [.int .i64 x0a, .int .i64 x0b, .slice a0c n0c c0c, .slice a0d n0d c0d, .slice a0e n0e c0e, .slice a0f n0f c0f, .int .i64 x0g, .int .i64 x0h, .slice a0i n0i c0i] := BoxL.below (BoxL.nine (by simp [go_sem]) (by simp [go_sem]) (by simp [go_sem]) (by simp [go_sem]) (by simp [go_sem]) (by simp [go_sem]) (by simp [go_sem]) (by simp [go_sem]) (by simp [go_sem])) b1 (by first | (simp; done) | (simp; omega))
    have Y1_A00 := X1_A0 0 _ rfl
    have Y1_A01 := X1_A0 1 _ rfl
    have Y1_A02 := X1_A0 2 _ rfl
    have Y1_A03 := X1_A0 3 _ rfl
    have Y1_A04 := X1_A0 4 _ rfl
    have Y1_A05 := X1_A0 5 _ rfl
    have Y1_A06 := X1_A0 6 _ rfl
    have Y1_A07 := X1_A0 7 _ rfl
    have Y1_A08 := X1_A0 8 _ rfl
    have L1_A0 : w.heap.size < w1.heap.size := by omega
    go_wp2_with fail
    go_ret
    exact ⟨rfl, B1⟩
  obtain ⟨hl0c, hl0d, hl0e, hl0f, hl0i⟩ := hl
  have hn0c : n0c ≤ 1048576 := by omega
  have hn0d : n0d ≤ 1048576 := by omega
  have hn0e : n0e ≤ 1048576 := by omega
  have hn0f : n0f ≤ 1048576 := by omega
  have hn0i : n0i ≤ 1048576 := by omega
  obtain ⟨ok, ks, ki⟩ := keyValidDesk x0a x0b n0c Z0c n0d Z0d n0e Z0e n0f Z0f x0g x0h n0i Z0i wx0a wx0b hn0c hn0d hn0e hn0f wx0g wx0h hn0i
  go_enter Try.func3, Try.ntmps3
  go_wp2_with fail
  go_at_call 7
  refine (szDesk_yes _ _ _ _ _ _ _ _ _ _ _ _ _ _ _ _ _ _ _ (1048576) _ (by omega) hl0c hl0d hl0e hl0f hl0i).mono ?_
  rintro e w1 ⟨rfl, b1⟩
  have D1 : Below w.heap.size w w1 := Below.trans (by repeat first | (with_reducible exact Below.refl _ _) | (with_reducible refine Below.setCell ?_ (by first | exact Nat.le_refl _ | (simp; done) | (simp; omega) | omega) _) | (with_reducible refine Below.alloc ?_ (by first | exact Nat.le_refl _ | (simp; done) | (simp; omega) | omega) _) | (with_reducible refine below_drewN ?_ _) | (with_reducible refine Below.drew ?_)) (b1.mono (by simp; try omega))
  have s1 : w.heap.size + 1 ≤ w1.heap.size := by have := b1.size; (try simp at this); omega
  have B1 : Below w.heap.size w w1 := D1
  have X1_A0 : BoxL w1 w.heap.size [.int .i64 x0a, .int .i64 x0b, .slice a0c n0c c0c, .slice a0d n0d c0d, .slice a0e n0e c0e, .slice a0f n0f c0f, .int .i64 x0g, .int .i64 x0h, .slice a0i n0i c0i] := BoxL.below (BoxL.nine (by simp [go_sem]) (by simp [go_sem]) (by simp [go_sem]) (by simp [go_sem]) (by simp [go_sem]) (by simp [go_sem]) (by simp [go_sem]) (by simp [go_sem]) (by simp [go_sem])) b1 (by first | (simp; done) | (simp; omega))
  have Y1_A00 := X1_A0 0 _ rfl
  have Y1_A01 := X1_A0 1 _ rfl
  have Y1_A02 := X1_A0 2 _ rfl
  have Y1_A03 := X1_A0 3 _ rfl
  have Y1_A04 := X1_A0 4 _ rfl
  have Y1_A05 := X1_A0 5 _ rfl
  have Y1_A06 := X1_A0 6 _ rfl
  have Y1_A07 := X1_A0 7 _ rfl
  have Y1_A08 := X1_A0 8 _ rfl
  have L1_A0 : w.heap.size < w1.heap.size := by omega
  have hdz0 : decide (((1048576 - n0c - n0d - n0e - n0f - n0i : Nat) : Int) < 0) = false := decide_eq_false (by omega)
  go_wp2_with fail
  go_at_call 9
  refine (toDesk_sep x0a x0b a0c n0c c0c Z0c a0d n0d c0d Z0d a0e n0e c0e Z0e a0f n0f c0f Z0f x0g x0h a0i n0i c0i Z0i _ hn0c hn0d hn0e hn0f hn0i (h0c.below B1 (Nat.le_refl _)) (h0d.below B1 (Nat.le_refl _)) (h0e.below B1 (Nat.le_refl _)) (h0f.below B1 (Nat.le_refl _)) (h0i.below B1 (Nat.le_refl _))).mono ?_
  rintro e w2 ⟨ps0c, qs0c, ps0d, qs0d, ps0e, qs0e, ps0f, qs0f, ps0i, qs0i, Ms0c, Ms0d, Ms0e, Ms0f, rfl, ms0c, ms0d, ms0e, ms0f, ms0i, os0c, os0d, os0e, os0f, os0i, b2⟩
  have D2 : Below w1.heap.size w1 w2 := b2
  have s2 : w1.heap.size + 0 ≤ w2.heap.size := by have := b2.size; (try simp at this); omega
  have B2 : Below w.heap.size w w2 := B1.trans (D2.mono B1.size)
  have X2_A0 := X1_A0.below D2 (by omega)
  have Y2_A00 := X2_A0 0 _ rfl
  have Y2_A01 := X2_A0 1 _ rfl
  have Y2_A02 := X2_A0 2 _ rfl
  have Y2_A03 := X2_A0 3 _ rfl
  have Y2_A04 := X2_A0 4 _ rfl
  have Y2_A05 := X2_A0 5 _ rfl
  have Y2_A06 := X2_A0 6 _ rfl
  have Y2_A07 := X2_A0 7 _ rfl
  have Y2_A08 := X2_A0 8 _ rfl
  have L2_A0 : w.heap.size < w2.heap.size := by omega
  clear X1_A0 Y1_A00 Y1_A01 Y1_A02 Y1_A03 Y1_A04 Y1_A05 Y1_A06 Y1_A07 Y1_A08 L1_A0
  go_wp2_with fail
  go_at_call 8
  refine (ks _ _ _ _ _ _ _ _ _ _ _ (Own.fs os0c) (Own.fs os0d) (Own.fs os0e) (Own.fs os0f) (OwnI.is os0i)).mono ?_
  rintro e w3 ⟨rfl, b3⟩
  have D3 : Below w2.heap.size w2 w3 := b3
  have s3 : w2.heap.size + 0 ≤ w3.heap.size := by have := b3.size; (try simp at this); omega
  have B3 : Below w.heap.size w w3 := B2.trans (D3.mono B2.size)
  have X3_A0 := X2_A0.below D3 (by omega)
  replace os0c := os0c.kept (below_grew D3) (fun q hq => by cases hq)
  replace os0d := os0d.kept (below_grew D3) (fun q hq => by cases hq)
  replace os0e := os0e.kept (below_grew D3) (fun q hq => by cases hq)
  replace os0f := os0f.kept (below_grew D3) (fun q hq => by cases hq)
  replace os0i := os0i.kept (below_grew D3) (fun q hq => by cases hq)
  have Y3_A00 := X3_A0 0 _ rfl
  have Y3_A01 := X3_A0 1 _ rfl
  have Y3_A02 := X3_A0 2 _ rfl
  have Y3_A03 := X3_A0 3 _ rfl
  have Y3_A04 := X3_A0 4 _ rfl
  have Y3_A05 := X3_A0 5 _ rfl
  have Y3_A06 := X3_A0 6 _ rfl
  have Y3_A07 := X3_A0 7 _ rfl
  have Y3_A08 := X3_A0 8 _ rfl
  have L3_A0 : w.heap.size < w3.heap.size := by omega
  clear X2_A0 Y2_A00 Y2_A01 Y2_A02 Y2_A03 Y2_A04 Y2_A05 Y2_A06 Y2_A07 Y2_A08 L2_A0
  clear os0c os0d os0e os0f os0i
  go_wp2_with fail
  go_at_call 9
  refine (toDesk_sep x0a x0b a0c n0c c0c Z0c a0d n0d c0d Z0d a0e n0e c0e Z0e a0f n0f c0f Z0f x0g x0h a0i n0i c0i Z0i _ hn0c hn0d hn0e hn0f hn0i (h0c.below B3 (Nat.le_refl _)) (h0d.below B3 (Nat.le_refl _)) (h0e.below B3 (Nat.le_refl _)) (h0f.below B3 (Nat.le_refl _)) (h0i.below B3 (Nat.le_refl _))).mono ?_
  rintro e w4 ⟨px0c, qx0c, px0d, qx0d, px0e, qx0e, px0f, qx0f, px0i, qx0i, Mx0c, Mx0d, Mx0e, Mx0f, rfl, mx0c, mx0d, mx0e, mx0f, mx0i, ox0c, ox0d, ox0e, ox0f, ox0i, b4⟩
  have D4 : Below w3.heap.size w3 w4 := b4
  have s4 : w3.heap.size + 0 ≤ w4.heap.size := by have := b4.size; (try simp at this); omega
  have B4 : Below w.heap.size w w4 := B3.trans (D4.mono B3.size)
  have X4_A0 := X3_A0.below D4 (by omega)
  have Y4_A00 := X4_A0 0 _ rfl
  have Y4_A01 := X4_A0 1 _ rfl
  have Y4_A02 := X4_A0 2 _ rfl
  have Y4_A03 := X4_A0 3 _ rfl
  have Y4_A04 := X4_A0 4 _ rfl
  have Y4_A05 := X4_A0 5 _ rfl
  have Y4_A06 := X4_A0 6 _ rfl
  have Y4_A07 := X4_A0 7 _ rfl
  have Y4_A08 := X4_A0 8 _ rfl
  have L4_A0 : w.heap.size < w4.heap.size := by omega
  clear X3_A0 Y3_A00 Y3_A01 Y3_A02 Y3_A03 Y3_A04 Y3_A05 Y3_A06 Y3_A07 Y3_A08 L3_A0
  go_wp2_with fail
  go_at_call 10
  refine (ki _ _ _ _ _ _ _ _ _ _ _ (FS.below (Own.fs ox0c) (by repeat first | (with_reducible exact Below.refl _ _) | (with_reducible refine Below.setCell ?_ (by first | exact Nat.le_refl _ | (simp; done) | (simp; omega) | omega) _) | (with_reducible refine Below.alloc ?_ (by first | exact Nat.le_refl _ | (simp; done) | (simp; omega) | omega) _) | (with_reducible refine below_drewN ?_ _) | (with_reducible refine Below.drew ?_)) (Nat.le_refl _)) (FS.below (Own.fs ox0d) (by repeat first | (with_reducible exact Below.refl _ _) | (with_reducible refine Below.setCell ?_ (by first | exact Nat.le_refl _ | (simp; done) | (simp; omega) | omega) _) | (with_reducible refine Below.alloc ?_ (by first | exact Nat.le_refl _ | (simp; done) | (simp; omega) | omega) _) | (with_reducible refine below_drewN ?_ _) | (with_reducible refine Below.drew ?_)) (Nat.le_refl _)) (FS.below (Own.fs ox0e) (by repeat first | (with_reducible exact Below.refl _ _) | (with_reducible refine Below.setCell ?_ (by first | exact Nat.le_refl _ | (simp; done) | (simp; omega) | omega) _) | (with_reducible refine Below.alloc ?_ (by first | exact Nat.le_refl _ | (simp; done) | (simp; omega) | omega) _) | (with_reducible refine below_drewN ?_ _) | (with_reducible refine Below.drew ?_)) (Nat.le_refl _)) (FS.below (Own.fs ox0f) (by repeat first | (with_reducible exact Below.refl _ _) | (with_reducible refine Below.setCell ?_ (by first | exact Nat.le_refl _ | (simp; done) | (simp; omega) | omega) _) | (with_reducible refine Below.alloc ?_ (by first | exact Nat.le_refl _ | (simp; done) | (simp; omega) | omega) _) | (with_reducible refine below_drewN ?_ _) | (with_reducible refine Below.drew ?_)) (Nat.le_refl _)) (IS.below (OwnI.is ox0i) (by repeat first | (with_reducible exact Below.refl _ _) | (with_reducible refine Below.setCell ?_ (by first | exact Nat.le_refl _ | (simp; done) | (simp; omega) | omega) _) | (with_reducible refine Below.alloc ?_ (by first | exact Nat.le_refl _ | (simp; done) | (simp; omega) | omega) _) | (with_reducible refine below_drewN ?_ _) | (with_reducible refine Below.drew ?_)) (Nat.le_refl _))).mono ?_
  rintro e w5 ⟨rfl, b5⟩
  have D5 : Below w4.heap.size w4 w5 := Below.trans (by repeat first | (with_reducible exact Below.refl _ _) | (with_reducible refine Below.setCell ?_ (by first | exact Nat.le_refl _ | (simp; done) | (simp; omega) | omega) _) | (with_reducible refine Below.alloc ?_ (by first | exact Nat.le_refl _ | (simp; done) | (simp; omega) | omega) _) | (with_reducible refine below_drewN ?_ _) | (with_reducible refine Below.drew ?_)) (b5.mono (by simp; try omega))
  have s5 : w4.heap.size + 1 ≤ w5.heap.size := by have := b5.size; (try simp at this); omega
  have B5 : Below w.heap.size w w5 := B4.trans (D5.mono B4.size)
  have X5_A0 := X4_A0.below D5 (by omega)
  have X5_P0 : BoxL w5 w4.heap.size [.int .i64 x0a, .int .i64 x0b, .slice px0c n0c qx0c, .slice px0d n0d qx0d, .slice px0e n0e qx0e, .slice px0f n0f qx0f, .int .i64 x0g, .int .i64 x0h, .slice px0i n0i qx0i] := BoxL.below (BoxL.nine (by simp [go_sem]) (by simp [go_sem]) (by simp [go_sem]) (by simp [go_sem]) (by simp [go_sem]) (by simp [go_sem]) (by simp [go_sem]) (by simp [go_sem]) (by simp [go_sem])) b5 (by first | (simp; done) | (simp; omega))
  replace ox0c := ox0c.kept (below_grew D5) (fun q hq => by cases hq)
  replace ox0d := ox0d.kept (below_grew D5) (fun q hq => by cases hq)
  replace ox0e := ox0e.kept (below_grew D5) (fun q hq => by cases hq)
  replace ox0f := ox0f.kept (below_grew D5) (fun q hq => by cases hq)
  replace ox0i := ox0i.kept (below_grew D5) (fun q hq => by cases hq)
  have Y5_A00 := X5_A0 0 _ rfl
  have Y5_A01 := X5_A0 1 _ rfl
  have Y5_A02 := X5_A0 2 _ rfl
  have Y5_A03 := X5_A0 3 _ rfl
  have Y5_A04 := X5_A0 4 _ rfl
  have Y5_A05 := X5_A0 5 _ rfl
  have Y5_A06 := X5_A0 6 _ rfl
  have Y5_A07 := X5_A0 7 _ rfl
  have Y5_A08 := X5_A0 8 _ rfl
  have L5_A0 : w.heap.size < w5.heap.size := by omega
  have Y5_P00 := X5_P0 0 _ rfl
  have Y5_P01 := X5_P0 1 _ rfl
  have Y5_P02 := X5_P0 2 _ rfl
  have Y5_P03 := X5_P0 3 _ rfl
  have Y5_P04 := X5_P0 4 _ rfl
  have Y5_P05 := X5_P0 5 _ rfl
  have Y5_P06 := X5_P0 6 _ rfl
  have Y5_P07 := X5_P0 7 _ rfl
  have Y5_P08 := X5_P0 8 _ rfl
  have L5_P0 : w4.heap.size < w5.heap.size := by omega
  clear X4_A0 Y4_A00 Y4_A01 Y4_A02 Y4_A03 Y4_A04 Y4_A05 Y4_A06 Y4_A07 Y4_A08 L4_A0
  go_wp2_with fail
  go_region_held3 (fun w' => w'.cell? ⟨w4.heap.size, 0, none⟩ = some (.int .i64 x0a) ∧ w'.cell? ⟨w4.heap.size, 1, none⟩ = some (.int .i64 x0b) ∧ w'.cell? ⟨w4.heap.size, 2, none⟩ = some (.slice px0c n0c qx0c) ∧ w'.cell? ⟨w4.heap.size, 3, none⟩ = some (.slice px0d n0d qx0d) ∧ w'.cell? ⟨w4.heap.size, 4, none⟩ = some (.slice px0e n0e qx0e) ∧ w'.cell? ⟨w4.heap.size, 5, none⟩ = some (.slice px0f n0f qx0f) ∧ w'.cell? ⟨w4.heap.size, 6, none⟩ = some (.int .i64 x0g) ∧ w'.cell? ⟨w4.heap.size, 7, none⟩ = some (.int .i64 x0h) ∧ w'.cell? ⟨w4.heap.size, 8, none⟩ = some (.slice px0i n0i qx0i) ∧ w'.cell? ⟨w.heap.size, 0, none⟩ = some (.int .i64 x0a) ∧ w'.cell? ⟨w.heap.size, 1, none⟩ = some (.int .i64 x0b) ∧ w'.cell? ⟨w.heap.size, 2, none⟩ = some (.slice a0c n0c c0c) ∧ w'.cell? ⟨w.heap.size, 3, none⟩ = some (.slice a0d n0d c0d) ∧ w'.cell? ⟨w.heap.size, 4, none⟩ = some (.slice a0e n0e c0e) ∧ w'.cell? ⟨w.heap.size, 5, none⟩ = some (.slice a0f n0f c0f) ∧ w'.cell? ⟨w.heap.size, 6, none⟩ = some (.int .i64 x0g) ∧ w'.cell? ⟨w.heap.size, 7, none⟩ = some (.int .i64 x0h) ∧ w'.cell? ⟨w.heap.size, 8, none⟩ = some (.slice a0i n0i c0i) ∧ Below w5.heap.size w5 w')
    (first | exact ⟨Y5_P00, Y5_P01, Y5_P02, Y5_P03, Y5_P04, Y5_P05, Y5_P06, Y5_P07, Y5_P08, Y5_A00, Y5_A01, Y5_A02, Y5_A03, Y5_A04, Y5_A05, Y5_A06, Y5_A07, Y5_A08, (by first | exact (Below.refl _ _).drew | exact (below_drewN (Below.refl _ _) _).drew)⟩ | exact heldS_ValidDesk (by assumption) (by assumption) (by omega) (by omega))
    (first
      | (go_at_call 9; refine (toDesk_sep x0a x0b a0c n0c c0c Z0c a0d n0d c0d Z0d a0e n0e c0e Z0e a0f n0f c0f Z0f x0g x0h a0i n0i c0i Z0i _ hn0c hn0d hn0e hn0f hn0i (h0c.below (B5.trans (Below.mono (by go_split_ands; assumption) B5.size)) (Nat.le_refl _)) (h0d.below (B5.trans (Below.mono (by go_split_ands; assumption) B5.size)) (Nat.le_refl _)) (h0e.below (B5.trans (Below.mono (by go_split_ands; assumption) B5.size)) (Nat.le_refl _)) (h0f.below (B5.trans (Below.mono (by go_split_ands; assumption) B5.size)) (Nat.le_refl _)) (h0i.below (B5.trans (Below.mono (by go_split_ands; assumption) B5.size)) (Nat.le_refl _))).mono ?_; rintro e wa ⟨pa0c, qa0c, pa0d, qa0d, pa0e, qa0e, pa0f, qa0f, pa0i, qa0i, Ma0c, Ma0d, Ma0e, Ma0f, rfl, ma0c, ma0d, ma0e, ma0f, ma0i, oa0c, oa0d, oa0e, oa0f, oa0i, ba⟩)
      | (go_at_call 11; refine (eqDesk_any _ _ _ _ _ _ _ _ _ _ _ _ _ _ _ _ _ _ _ _ _ _ _ _ _ _ _ _ _ _ _ _ _ _ _ _ _ _ _ _ (by omega) (by omega) (by omega) (by omega) (by omega) ((Own.fs ox0c).below (by go_split_ands; assumption) (Nat.le_refl _)) (Own.fs oa0c) ((Own.fs ox0d).below (by go_split_ands; assumption) (Nat.le_refl _)) (Own.fs oa0d) ((Own.fs ox0e).below (by go_split_ands; assumption) (Nat.le_refl _)) (Own.fs oa0e) ((Own.fs ox0f).below (by go_split_ands; assumption) (Nat.le_refl _)) (Own.fs oa0f) ((OwnI.is ox0i).below (by go_split_ands; assumption) (Nat.le_refl _)) (OwnI.is oa0i) (fun i hi => rfl) (fun i hi => rfl) (fun i hi => rfl) (fun i hi => rfl) (fun i hi => rfl)).mono ?_; rintro e w6 ⟨rfl, bb⟩))
  have b6 : Below w5.heap.size w5 w6 := by go_split_ands; assumption
  clear oa0c oa0d oa0e oa0f oa0i ba bb
  have D6 : Below w5.heap.size w5 w6 := b6
  have s6 : w5.heap.size + 0 ≤ w6.heap.size := by have := b6.size; (try simp at this); omega
  have B6 : Below w.heap.size w w6 := B5.trans (D6.mono B5.size)
  have X6_A0 := X5_A0.below D6 (by omega)
  have X6_P0 := X5_P0.below D6 (by omega)
  replace ox0c := ox0c.kept (below_grew D6) (fun q hq => by cases hq)
  replace ox0d := ox0d.kept (below_grew D6) (fun q hq => by cases hq)
  replace ox0e := ox0e.kept (below_grew D6) (fun q hq => by cases hq)
  replace ox0f := ox0f.kept (below_grew D6) (fun q hq => by cases hq)
  replace ox0i := ox0i.kept (below_grew D6) (fun q hq => by cases hq)
  have Y6_A00 := X6_A0 0 _ rfl
  have Y6_A01 := X6_A0 1 _ rfl
  have Y6_A02 := X6_A0 2 _ rfl
  have Y6_A03 := X6_A0 3 _ rfl
  have Y6_A04 := X6_A0 4 _ rfl
  have Y6_A05 := X6_A0 5 _ rfl
  have Y6_A06 := X6_A0 6 _ rfl
  have Y6_A07 := X6_A0 7 _ rfl
  have Y6_A08 := X6_A0 8 _ rfl
  have L6_A0 : w.heap.size < w6.heap.size := by omega
  have Y6_P00 := X6_P0 0 _ rfl
  have Y6_P01 := X6_P0 1 _ rfl
  have Y6_P02 := X6_P0 2 _ rfl
  have Y6_P03 := X6_P0 3 _ rfl
  have Y6_P04 := X6_P0 4 _ rfl
  have Y6_P05 := X6_P0 5 _ rfl
  have Y6_P06 := X6_P0 6 _ rfl
  have Y6_P07 := X6_P0 7 _ rfl
  have Y6_P08 := X6_P0 8 _ rfl
  have L6_P0 : w4.heap.size < w6.heap.size := by omega
  clear X5_A0 Y5_A00 Y5_A01 Y5_A02 Y5_A03 Y5_A04 Y5_A05 Y5_A06 Y5_A07 Y5_A08 L5_A0 X5_P0 Y5_P00 Y5_P01 Y5_P02 Y5_P03 Y5_P04 Y5_P05 Y5_P06 Y5_P07 Y5_P08 L5_P0
  go_wp2_with fail
  go_ret
  exact ⟨rfl, B6⟩
end Go.Proofs.Ytmddhhmgfhljiab
