/- Helper: the walk of the law FnExactSameDesk. Conditions: none. -/
import Derived.Test.YtmddhhmgfhljiabSameDeskKey
import Derived.Test.YtmddhhmgfhljiabDesk
import Derived.Test.YtmddhhmgfhljiabMatCopy
import Derived.Test.YtmddhhmgfhljiabKeys
import Derived.Test.YtmddhhmgfhljiabBoxes
import Derived.Test.YtmddhhmgfhljiabIntLaw
import Derived.Test.YtmddhhmgfhljiabMarkMore
import Derived.Deep.RegionHeld3
set_option linter.unusedVariables false
set_option linter.unusedSimpArgs false
namespace Go.Proofs.Ytmddhhmgfhljiab
open Go.RowKit

theorem heldS_SameDesk {w0 W w' : World} {b1 b2 : Nat} {u0 u1 u2 u3 u4 u5 u6 u7 u8 v0 v1 v2 v3 v4 v5 v6 v7 v8 : Value} (hs : W.cell? ⟨b1, 0, none⟩ = some u0 ∧ W.cell? ⟨b1, 1, none⟩ = some u1 ∧ W.cell? ⟨b1, 2, none⟩ = some u2 ∧ W.cell? ⟨b1, 3, none⟩ = some u3 ∧ W.cell? ⟨b1, 4, none⟩ = some u4 ∧ W.cell? ⟨b1, 5, none⟩ = some u5 ∧ W.cell? ⟨b1, 6, none⟩ = some u6 ∧ W.cell? ⟨b1, 7, none⟩ = some u7 ∧ W.cell? ⟨b1, 8, none⟩ = some u8 ∧ W.cell? ⟨b2, 0, none⟩ = some v0 ∧ W.cell? ⟨b2, 1, none⟩ = some v1 ∧ W.cell? ⟨b2, 2, none⟩ = some v2 ∧ W.cell? ⟨b2, 3, none⟩ = some v3 ∧ W.cell? ⟨b2, 4, none⟩ = some v4 ∧ W.cell? ⟨b2, 5, none⟩ = some v5 ∧ W.cell? ⟨b2, 6, none⟩ = some v6 ∧ W.cell? ⟨b2, 7, none⟩ = some v7 ∧ W.cell? ⟨b2, 8, none⟩ = some v8 ∧ Below w0.heap.size w0 W) (hb : Below W.heap.size W w') (l1 : b1 < w0.heap.size) (l2 : b2 < w0.heap.size) :
    w'.cell? ⟨b1, 0, none⟩ = some u0 ∧ w'.cell? ⟨b1, 1, none⟩ = some u1 ∧ w'.cell? ⟨b1, 2, none⟩ = some u2 ∧ w'.cell? ⟨b1, 3, none⟩ = some u3 ∧ w'.cell? ⟨b1, 4, none⟩ = some u4 ∧ w'.cell? ⟨b1, 5, none⟩ = some u5 ∧ w'.cell? ⟨b1, 6, none⟩ = some u6 ∧ w'.cell? ⟨b1, 7, none⟩ = some u7 ∧ w'.cell? ⟨b1, 8, none⟩ = some u8 ∧ w'.cell? ⟨b2, 0, none⟩ = some v0 ∧ w'.cell? ⟨b2, 1, none⟩ = some v1 ∧ w'.cell? ⟨b2, 2, none⟩ = some v2 ∧ w'.cell? ⟨b2, 3, none⟩ = some v3 ∧ w'.cell? ⟨b2, 4, none⟩ = some v4 ∧ w'.cell? ⟨b2, 5, none⟩ = some v5 ∧ w'.cell? ⟨b2, 6, none⟩ = some v6 ∧ w'.cell? ⟨b2, 7, none⟩ = some v7 ∧ w'.cell? ⟨b2, 8, none⟩ = some v8 ∧ Below w0.heap.size w0 w' := by
  obtain ⟨hu0, hu1, hu2, hu3, hu4, hu5, hu6, hu7, hu8, hv0, hv1, hv2, hv3, hv4, hv5, hv6, hv7, hv8, h6⟩ := hs
  have e1 : b1 < W.heap.size := Nat.lt_of_lt_of_le l1 h6.size
  have e2 : b2 < W.heap.size := Nat.lt_of_lt_of_le l2 h6.size
  exact ⟨(hb.cell (p := ⟨b1, 0, none⟩) e1).trans hu0, (hb.cell (p := ⟨b1, 1, none⟩) e1).trans hu1, (hb.cell (p := ⟨b1, 2, none⟩) e1).trans hu2, (hb.cell (p := ⟨b1, 3, none⟩) e1).trans hu3, (hb.cell (p := ⟨b1, 4, none⟩) e1).trans hu4, (hb.cell (p := ⟨b1, 5, none⟩) e1).trans hu5, (hb.cell (p := ⟨b1, 6, none⟩) e1).trans hu6, (hb.cell (p := ⟨b1, 7, none⟩) e1).trans hu7, (hb.cell (p := ⟨b1, 8, none⟩) e1).trans hu8, (hb.cell (p := ⟨b2, 0, none⟩) e2).trans hv0, (hb.cell (p := ⟨b2, 1, none⟩) e2).trans hv1, (hb.cell (p := ⟨b2, 2, none⟩) e2).trans hv2, (hb.cell (p := ⟨b2, 3, none⟩) e2).trans hv3, (hb.cell (p := ⟨b2, 4, none⟩) e2).trans hv4, (hb.cell (p := ⟨b2, 5, none⟩) e2).trans hv5, (hb.cell (p := ⟨b2, 6, none⟩) e2).trans hv6, (hb.cell (p := ⟨b2, 7, none⟩) e2).trans hv7, (hb.cell (p := ⟨b2, 8, none⟩) e2).trans hv8, h6.trans (hb.mono h6.size)⟩
set_option maxRecDepth 100000 in
set_option maxHeartbeats 4000000 in
theorem law_FnExactSameDesk (w : World) (x0a : Int) (x0b : Int) (a0c : Option Addr) (n0c c0c : Nat) (Z0c : Nat → Nat) (a0d : Option Addr) (n0d c0d : Nat) (Z0d : Nat → Nat) (a0e : Option Addr) (n0e c0e : Nat) (Z0e : Nat → Nat) (a0f : Option Addr) (n0f c0f : Nat) (Z0f : Nat → Nat) (x0g : Int) (x0h : Int) (a0i : Option Addr) (n0i c0i : Nat) (Z0i : Nat → Int) (wx0a : (Lit.int .i64 x0a).wf = true) (wx0b : (Lit.int .i64 x0b).wf = true) (h0c : FS .f32 w a0c n0c c0c Z0c) (h0d : FS .f32 w a0d n0d c0d Z0d) (h0e : FS .f32 w a0e n0e c0e Z0e) (h0f : FS .f32 w a0f n0f c0f Z0f) (wx0g : (Lit.int .i64 x0g).wf = true) (wx0h : (Lit.int .i64 x0h).wf = true) (h0i : IS .i64 w a0i n0i c0i Z0i) (x1a : Int) (x1b : Int) (a1c : Option Addr) (n1c c1c : Nat) (Z1c : Nat → Nat) (a1d : Option Addr) (n1d c1d : Nat) (Z1d : Nat → Nat) (a1e : Option Addr) (n1e c1e : Nat) (Z1e : Nat → Nat) (a1f : Option Addr) (n1f c1f : Nat) (Z1f : Nat → Nat) (x1g : Int) (x1h : Int) (a1i : Option Addr) (n1i c1i : Nat) (Z1i : Nat → Int) (wx1a : (Lit.int .i64 x1a).wf = true) (wx1b : (Lit.int .i64 x1b).wf = true) (h1c : FS .f32 w a1c n1c c1c Z1c) (h1d : FS .f32 w a1d n1d c1d Z1d) (h1e : FS .f32 w a1e n1e c1e Z1e) (h1f : FS .f32 w a1f n1f c1f Z1f) (wx1g : (Lit.int .i64 x1g).wf = true) (wx1h : (Lit.int .i64 x1h).wf = true) (h1i : IS .i64 w a1i n1i c1i Z1i) :
    Calls Try.prog 4 #[.agg #[.int .i64 x0a, .int .i64 x0b, .slice a0c n0c c0c, .slice a0d n0d c0d, .slice a0e n0e c0e, .slice a0f n0f c0f, .int .i64 x0g, .int .i64 x0h, .slice a0i n0i c0i], .agg #[.int .i64 x1a, .int .i64 x1b, .slice a1c n1c c1c, .slice a1d n1d c1d, .slice a1e n1e c1e, .slice a1f n1f c1f, .int .i64 x1g, .int .i64 x1h, .slice a1i n1i c1i]] w fun e w' => e = .returned (.bool true) ∧ Below w.heap.size w w' := by
  have hm0c : n0c ≤ 9223372036854775807 := by have hh1 := h0c.1; have hh2 := h0c.2.1; unfold maxLen at hh2; omega
  have hm0d : n0d ≤ 9223372036854775807 := by have hh1 := h0d.1; have hh2 := h0d.2.1; unfold maxLen at hh2; omega
  have hm0e : n0e ≤ 9223372036854775807 := by have hh1 := h0e.1; have hh2 := h0e.2.1; unfold maxLen at hh2; omega
  have hm0f : n0f ≤ 9223372036854775807 := by have hh1 := h0f.1; have hh2 := h0f.2.1; unfold maxLen at hh2; omega
  have hm0i : n0i ≤ 9223372036854775807 := by have hh1 := h0i.1; have hh2 := h0i.2.1; unfold maxLen at hh2; omega
  have hm1c : n1c ≤ 9223372036854775807 := by have hh1 := h1c.1; have hh2 := h1c.2.1; unfold maxLen at hh2; omega
  have hm1d : n1d ≤ 9223372036854775807 := by have hh1 := h1d.1; have hh2 := h1d.2.1; unfold maxLen at hh2; omega
  have hm1e : n1e ≤ 9223372036854775807 := by have hh1 := h1e.1; have hh2 := h1e.2.1; unfold maxLen at hh2; omega
  have hm1f : n1f ≤ 9223372036854775807 := by have hh1 := h1f.1; have hh2 := h1f.2.1; unfold maxLen at hh2; omega
  have hm1i : n1i ≤ 9223372036854775807 := by have hh1 := h1i.1; have hh2 := h1i.2.1; unfold maxLen at hh2; omega
  by_cases hl : n0c ≤ 1048576 ∧ n0d ≤ 1048576 - n0c ∧ n0e ≤ 1048576 - n0c - n0d ∧ n0f ≤ 1048576 - n0c - n0d - n0e ∧ n0i ≤ 1048576 - n0c - n0d - n0e - n0f
  case neg =>
    go_enter Try.func4, Try.ntmps4
    go_wp2_with fail
    go_at_call 7
    refine (szDesk_no _ _ _ _ _ _ _ _ _ _ _ _ _ _ _ _ _ _ _ (1048576) _ (by omega) hm0c hm0d hm0e hm0f hm0i hl).mono ?_
    rintro e w1 ⟨rfl, b1⟩
    have D1 : Below w.heap.size w w1 := Below.trans (by repeat first | (with_reducible exact Below.refl _ _) | (with_reducible refine Below.setCell ?_ (by first | exact Nat.le_refl _ | (simp; done) | (simp; omega) | omega) _) | (with_reducible refine Below.alloc ?_ (by first | exact Nat.le_refl _ | (simp; done) | (simp; omega) | omega) _) | (with_reducible refine below_drewN ?_ _) | (with_reducible refine Below.drew ?_)) (b1.mono (by simp; try omega))
    have s1 : w.heap.size + 2 ≤ w1.heap.size := by have := b1.size; (try simp at this); omega
    have B1 : Below w.heap.size w w1 := D1
    have X1_A0 : BoxL w1 w.heap.size [.int .i64 x0a, .int .i64 x0b, .slice a0c n0c c0c, .slice a0d n0d c0d, .slice a0e n0e c0e, .slice a0f n0f c0f, .int .i64 x0g, .int .i64 x0h, .slice a0i n0i c0i] := BoxL.below (BoxL.nine (by simp [go_sem]) (by simp [go_sem]) (by simp [go_sem]) (by simp [go_sem]) (by simp [go_sem]) (by simp [go_sem]) (by simp [go_sem]) (by simp [go_sem]) (by simp [go_sem])) b1 (by first | (simp; done) | (simp; omega))
    have X1_A1 : BoxL w1 (w.heap.size + 1) [.int .i64 x1a, .int .i64 x1b, .slice a1c n1c c1c, .slice a1d n1d c1d, .slice a1e n1e c1e, .slice a1f n1f c1f, .int .i64 x1g, .int .i64 x1h, .slice a1i n1i c1i] := BoxL.below (BoxL.nine (by simp [go_sem]) (by simp [go_sem]) (by simp [go_sem]) (by simp [go_sem]) (by simp [go_sem]) (by simp [go_sem]) (by simp [go_sem]) (by simp [go_sem]) (by simp [go_sem])) b1 (by first | (simp; done) | (simp; omega))
    have Y1_A00 := X1_A0 0 _ rfl
    have Y1_A01 := X1_A0 1 _ rfl
    have Y1_A02 := X1_A0 2 _ rfl
    have Y1_A03 := X1_A0 3 _ rfl
    have Y1_A04 := X1_A0 4 _ rfl
    have Y1_A05 := X1_A0 5 _ rfl
    have Y1_A06 := X1_A0 6 _ rfl
    have Y1_A07 := X1_A0 7 _ rfl
    have Y1_A08 := X1_A0 8 _ rfl
    have L1_A0 : w.heap.size < w1.heap.size := by omega
    have Y1_A10 := X1_A1 0 _ rfl
    have Y1_A11 := X1_A1 1 _ rfl
    have Y1_A12 := X1_A1 2 _ rfl
    have Y1_A13 := X1_A1 3 _ rfl
    have Y1_A14 := X1_A1 4 _ rfl
    have Y1_A15 := X1_A1 5 _ rfl
    have Y1_A16 := X1_A1 6 _ rfl
    have Y1_A17 := X1_A1 7 _ rfl
    have Y1_A18 := X1_A1 8 _ rfl
    have L1_A1 : (w.heap.size + 1) < w1.heap.size := by omega
    go_wp2_with fail
    go_ret
    exact ⟨rfl, B1⟩
  obtain ⟨hl0c, hl0d, hl0e, hl0f, hl0i⟩ := hl
  have hn0c : n0c ≤ 1048576 := by omega
  have hn0d : n0d ≤ 1048576 := by omega
  have hn0e : n0e ≤ 1048576 := by omega
  have hn0f : n0f ≤ 1048576 := by omega
  have hn0i : n0i ≤ 1048576 := by omega
  by_cases hl : n1c ≤ 1048576 - n0c - n0d - n0e - n0f - n0i ∧ n1d ≤ 1048576 - n0c - n0d - n0e - n0f - n0i - n1c ∧ n1e ≤ 1048576 - n0c - n0d - n0e - n0f - n0i - n1c - n1d ∧ n1f ≤ 1048576 - n0c - n0d - n0e - n0f - n0i - n1c - n1d - n1e ∧ n1i ≤ 1048576 - n0c - n0d - n0e - n0f - n0i - n1c - n1d - n1e - n1f
  case neg =>
    go_enter Try.func4, Try.ntmps4
    go_wp2_with fail
    go_at_call 7
    refine (szDesk_yes _ _ _ _ _ _ _ _ _ _ _ _ _ _ _ _ _ _ _ (1048576) _ (by omega) hl0c hl0d hl0e hl0f hl0i).mono ?_
    rintro e w1 ⟨rfl, b1⟩
    have D1 : Below w.heap.size w w1 := Below.trans (by repeat first | (with_reducible exact Below.refl _ _) | (with_reducible refine Below.setCell ?_ (by first | exact Nat.le_refl _ | (simp; done) | (simp; omega) | omega) _) | (with_reducible refine Below.alloc ?_ (by first | exact Nat.le_refl _ | (simp; done) | (simp; omega) | omega) _) | (with_reducible refine below_drewN ?_ _) | (with_reducible refine Below.drew ?_)) (b1.mono (by simp; try omega))
    have s1 : w.heap.size + 2 ≤ w1.heap.size := by have := b1.size; (try simp at this); omega
    have B1 : Below w.heap.size w w1 := D1
    have X1_A0 : BoxL w1 w.heap.size [.int .i64 x0a, .int .i64 x0b, .slice a0c n0c c0c, .slice a0d n0d c0d, .slice a0e n0e c0e, .slice a0f n0f c0f, .int .i64 x0g, .int .i64 x0h, .slice a0i n0i c0i] := BoxL.below (BoxL.nine (by simp [go_sem]) (by simp [go_sem]) (by simp [go_sem]) (by simp [go_sem]) (by simp [go_sem]) (by simp [go_sem]) (by simp [go_sem]) (by simp [go_sem]) (by simp [go_sem])) b1 (by first | (simp; done) | (simp; omega))
    have X1_A1 : BoxL w1 (w.heap.size + 1) [.int .i64 x1a, .int .i64 x1b, .slice a1c n1c c1c, .slice a1d n1d c1d, .slice a1e n1e c1e, .slice a1f n1f c1f, .int .i64 x1g, .int .i64 x1h, .slice a1i n1i c1i] := BoxL.below (BoxL.nine (by simp [go_sem]) (by simp [go_sem]) (by simp [go_sem]) (by simp [go_sem]) (by simp [go_sem]) (by simp [go_sem]) (by simp [go_sem]) (by simp [go_sem]) (by simp [go_sem])) b1 (by first | (simp; done) | (simp; omega))
    have Y1_A00 := X1_A0 0 _ rfl
    have Y1_A01 := X1_A0 1 _ rfl
    have Y1_A02 := X1_A0 2 _ rfl
    have Y1_A03 := X1_A0 3 _ rfl
    have Y1_A04 := X1_A0 4 _ rfl
    have Y1_A05 := X1_A0 5 _ rfl
    have Y1_A06 := X1_A0 6 _ rfl
    have Y1_A07 := X1_A0 7 _ rfl
    have Y1_A08 := X1_A0 8 _ rfl
    have L1_A0 : w.heap.size < w1.heap.size := by omega
    have Y1_A10 := X1_A1 0 _ rfl
    have Y1_A11 := X1_A1 1 _ rfl
    have Y1_A12 := X1_A1 2 _ rfl
    have Y1_A13 := X1_A1 3 _ rfl
    have Y1_A14 := X1_A1 4 _ rfl
    have Y1_A15 := X1_A1 5 _ rfl
    have Y1_A16 := X1_A1 6 _ rfl
    have Y1_A17 := X1_A1 7 _ rfl
    have Y1_A18 := X1_A1 8 _ rfl
    have L1_A1 : (w.heap.size + 1) < w1.heap.size := by omega
    have hdz0 : decide (((1048576 - n0c - n0d - n0e - n0f - n0i : Nat) : Int) < 0) = false := decide_eq_false (by omega)
    go_wp2_with fail
    go_at_call 7
    refine (szDesk_no _ _ _ _ _ _ _ _ _ _ _ _ _ _ _ _ _ _ _ (1048576 - n0c - n0d - n0e - n0f - n0i) _ (by omega) hm1c hm1d hm1e hm1f hm1i hl).mono ?_
    rintro e w2 ⟨rfl, b2⟩
    have D2 : Below w1.heap.size w1 w2 := b2
    have s2 : w1.heap.size + 0 ≤ w2.heap.size := by have := b2.size; (try simp at this); omega
    have B2 : Below w.heap.size w w2 := B1.trans (D2.mono B1.size)
    have X2_A0 := X1_A0.below D2 (by omega)
    have X2_A1 := X1_A1.below D2 (by omega)
    have Y2_A00 := X2_A0 0 _ rfl
    have Y2_A01 := X2_A0 1 _ rfl
    have Y2_A02 := X2_A0 2 _ rfl
    have Y2_A03 := X2_A0 3 _ rfl
    have Y2_A04 := X2_A0 4 _ rfl
    have Y2_A05 := X2_A0 5 _ rfl
    have Y2_A06 := X2_A0 6 _ rfl
    have Y2_A07 := X2_A0 7 _ rfl
    have Y2_A08 := X2_A0 8 _ rfl
    have L2_A0 : w.heap.size < w2.heap.size := by omega
    have Y2_A10 := X2_A1 0 _ rfl
    have Y2_A11 := X2_A1 1 _ rfl
    have Y2_A12 := X2_A1 2 _ rfl
    have Y2_A13 := X2_A1 3 _ rfl
    have Y2_A14 := X2_A1 4 _ rfl
    have Y2_A15 := X2_A1 5 _ rfl
    have Y2_A16 := X2_A1 6 _ rfl
    have Y2_A17 := X2_A1 7 _ rfl
    have Y2_A18 := X2_A1 8 _ rfl
    have L2_A1 : (w.heap.size + 1) < w2.heap.size := by omega
    clear X1_A0 Y1_A00 Y1_A01 Y1_A02 Y1_A03 Y1_A04 Y1_A05 Y1_A06 Y1_A07 Y1_A08 L1_A0 X1_A1 Y1_A10 Y1_A11 Y1_A12 Y1_A13 Y1_A14 Y1_A15 Y1_A16 Y1_A17 Y1_A18 L1_A1
    go_wp2_with fail
    go_ret
    exact ⟨rfl, B2⟩
  obtain ⟨hl1c, hl1d, hl1e, hl1f, hl1i⟩ := hl
  have hn1c : n1c ≤ 1048576 := by omega
  have hn1d : n1d ≤ 1048576 := by omega
  have hn1e : n1e ≤ 1048576 := by omega
  have hn1f : n1f ≤ 1048576 := by omega
  have hn1i : n1i ≤ 1048576 := by omega
  obtain ⟨ok, ks, ki⟩ := keySameDesk x0a x0b n0c Z0c n0d Z0d n0e Z0e n0f Z0f x0g x0h n0i Z0i x1a x1b n1c Z1c n1d Z1d n1e Z1e n1f Z1f x1g x1h n1i Z1i wx0a wx0b hn0c hn0d hn0e hn0f wx0g wx0h hn0i wx1a wx1b hn1c hn1d hn1e hn1f wx1g wx1h hn1i
  go_enter Try.func4, Try.ntmps4
  go_wp2_with fail
  go_at_call 7
  refine (szDesk_yes _ _ _ _ _ _ _ _ _ _ _ _ _ _ _ _ _ _ _ (1048576) _ (by omega) hl0c hl0d hl0e hl0f hl0i).mono ?_
  rintro e w1 ⟨rfl, b1⟩
  have D1 : Below w.heap.size w w1 := Below.trans (by repeat first | (with_reducible exact Below.refl _ _) | (with_reducible refine Below.setCell ?_ (by first | exact Nat.le_refl _ | (simp; done) | (simp; omega) | omega) _) | (with_reducible refine Below.alloc ?_ (by first | exact Nat.le_refl _ | (simp; done) | (simp; omega) | omega) _) | (with_reducible refine below_drewN ?_ _) | (with_reducible refine Below.drew ?_)) (b1.mono (by simp; try omega))
  have s1 : w.heap.size + 2 ≤ w1.heap.size := by have := b1.size; (try simp at this); omega
  have B1 : Below w.heap.size w w1 := D1
  have X1_A0 : BoxL w1 w.heap.size [.int .i64 x0a, .int .i64 x0b, .slice a0c n0c c0c, .slice a0d n0d c0d, .slice a0e n0e c0e, .slice a0f n0f c0f, .int .i64 x0g, .int .i64 x0h, .slice a0i n0i c0i] := BoxL.below (BoxL.nine (by simp [go_sem]) (by simp [go_sem]) (by simp [go_sem]) (by simp [go_sem]) (by simp [go_sem]) (by simp [go_sem]) (by simp [go_sem]) (by simp [go_sem]) (by simp [go_sem])) b1 (by first | (simp; done) | (simp; omega))
  have X1_A1 : BoxL w1 (w.heap.size + 1) [.int .i64 x1a, .int .i64 x1b, .slice a1c n1c c1c, .slice a1d n1d c1d, .slice a1e n1e c1e, .slice a1f n1f c1f, .int .i64 x1g, .int .i64 x1h, .slice a1i n1i c1i] := BoxL.below (BoxL.nine (by simp [go_sem]) (by simp [go_sem]) (by simp [go_sem]) (by simp [go_sem]) (by simp [go_sem]) (by simp [go_sem]) (by simp [go_sem]) (by simp [go_sem]) (by simp [go_sem])) b1 (by first | (simp; done) | (simp; omega))
  have Y1_A00 := X1_A0 0 _ rfl
  have Y1_A01 := X1_A0 1 _ rfl
  have Y1_A02 := X1_A0 2 _ rfl
  have Y1_A03 := X1_A0 3 _ rfl
  have Y1_A04 := X1_A0 4 _ rfl
  have Y1_A05 := X1_A0 5 _ rfl
  have Y1_A06 := X1_A0 6 _ rfl
  have Y1_A07 := X1_A0 7 _ rfl
  have Y1_A08 := X1_A0 8 _ rfl
  have L1_A0 : w.heap.size < w1.heap.size := by omega
  have Y1_A10 := X1_A1 0 _ rfl
  have Y1_A11 := X1_A1 1 _ rfl
  have Y1_A12 := X1_A1 2 _ rfl
  have Y1_A13 := X1_A1 3 _ rfl
  have Y1_A14 := X1_A1 4 _ rfl
  have Y1_A15 := X1_A1 5 _ rfl
  have Y1_A16 := X1_A1 6 _ rfl
  have Y1_A17 := X1_A1 7 _ rfl
  have Y1_A18 := X1_A1 8 _ rfl
  have L1_A1 : (w.heap.size + 1) < w1.heap.size := by omega
  have hdz0 : decide (((1048576 - n0c - n0d - n0e - n0f - n0i : Nat) : Int) < 0) = false := decide_eq_false (by omega)
  go_wp2_with fail
  go_at_call 7
  refine (szDesk_yes _ _ _ _ _ _ _ _ _ _ _ _ _ _ _ _ _ _ _ (1048576 - n0c - n0d - n0e - n0f - n0i) _ (by omega) hl1c hl1d hl1e hl1f hl1i).mono ?_
  rintro e w2 ⟨rfl, b2⟩
  have D2 : Below w1.heap.size w1 w2 := b2
  have s2 : w1.heap.size + 0 ≤ w2.heap.size := by have := b2.size; (try simp at this); omega
  have B2 : Below w.heap.size w w2 := B1.trans (D2.mono B1.size)
  have X2_A0 := X1_A0.below D2 (by omega)
  have X2_A1 := X1_A1.below D2 (by omega)
  have Y2_A00 := X2_A0 0 _ rfl
  have Y2_A01 := X2_A0 1 _ rfl
  have Y2_A02 := X2_A0 2 _ rfl
  have Y2_A03 := X2_A0 3 _ rfl
  have Y2_A04 := X2_A0 4 _ rfl
  have Y2_A05 := X2_A0 5 _ rfl
  have Y2_A06 := X2_A0 6 _ rfl
  have Y2_A07 := X2_A0 7 _ rfl
  have Y2_A08 := X2_A0 8 _ rfl
  have L2_A0 : w.heap.size < w2.heap.size := by omega
  have Y2_A10 := X2_A1 0 _ rfl
  have Y2_A11 := X2_A1 1 _ rfl
  have Y2_A12 := X2_A1 2 _ rfl
  have Y2_A13 := X2_A1 3 _ rfl
  have Y2_A14 := X2_A1 4 _ rfl
  have Y2_A15 := X2_A1 5 _ rfl
  have Y2_A16 := X2_A1 6 _ rfl
  have Y2_A17 := X2_A1 7 _ rfl
  have Y2_A18 := X2_A1 8 _ rfl
  have L2_A1 : (w.heap.size + 1) < w2.heap.size := by omega
  clear X1_A0 Y1_A00 Y1_A01 Y1_A02 Y1_A03 Y1_A04 Y1_A05 Y1_A06 Y1_A07 Y1_A08 L1_A0 X1_A1 Y1_A10 Y1_A11 Y1_A12 Y1_A13 Y1_A14 Y1_A15 Y1_A16 Y1_A17 Y1_A18 L1_A1
  have hdz1 : decide (((1048576 - n0c - n0d - n0e - n0f - n0i - n1c - n1d - n1e - n1f - n1i : Nat) : Int) < 0) = false := decide_eq_false (by omega)
  go_wp2_with fail
  go_region_held3 (fun w' => w'.cell? ⟨w.heap.size, 0, none⟩ = some (.int .i64 x0a) ∧ w'.cell? ⟨w.heap.size, 1, none⟩ = some (.int .i64 x0b) ∧ w'.cell? ⟨w.heap.size, 2, none⟩ = some (.slice a0c n0c c0c) ∧ w'.cell? ⟨w.heap.size, 3, none⟩ = some (.slice a0d n0d c0d) ∧ w'.cell? ⟨w.heap.size, 4, none⟩ = some (.slice a0e n0e c0e) ∧ w'.cell? ⟨w.heap.size, 5, none⟩ = some (.slice a0f n0f c0f) ∧ w'.cell? ⟨w.heap.size, 6, none⟩ = some (.int .i64 x0g) ∧ w'.cell? ⟨w.heap.size, 7, none⟩ = some (.int .i64 x0h) ∧ w'.cell? ⟨w.heap.size, 8, none⟩ = some (.slice a0i n0i c0i) ∧ w'.cell? ⟨(w.heap.size + 1), 0, none⟩ = some (.int .i64 x1a) ∧ w'.cell? ⟨(w.heap.size + 1), 1, none⟩ = some (.int .i64 x1b) ∧ w'.cell? ⟨(w.heap.size + 1), 2, none⟩ = some (.slice a1c n1c c1c) ∧ w'.cell? ⟨(w.heap.size + 1), 3, none⟩ = some (.slice a1d n1d c1d) ∧ w'.cell? ⟨(w.heap.size + 1), 4, none⟩ = some (.slice a1e n1e c1e) ∧ w'.cell? ⟨(w.heap.size + 1), 5, none⟩ = some (.slice a1f n1f c1f) ∧ w'.cell? ⟨(w.heap.size + 1), 6, none⟩ = some (.int .i64 x1g) ∧ w'.cell? ⟨(w.heap.size + 1), 7, none⟩ = some (.int .i64 x1h) ∧ w'.cell? ⟨(w.heap.size + 1), 8, none⟩ = some (.slice a1i n1i c1i) ∧ Below w2.heap.size w2 w')
    (first | exact ⟨Y2_A00, Y2_A01, Y2_A02, Y2_A03, Y2_A04, Y2_A05, Y2_A06, Y2_A07, Y2_A08, Y2_A10, Y2_A11, Y2_A12, Y2_A13, Y2_A14, Y2_A15, Y2_A16, Y2_A17, Y2_A18, (by first | exact (Below.refl _ _).drew | exact (below_drewN (Below.refl _ _) _).drew)⟩ | exact heldS_SameDesk (by assumption) (by assumption) (by omega) (by omega))
    (first
      | (go_at_call 9; (with_reducible refine (toDesk_sep x0a x0b a0c n0c c0c Z0c a0d n0d c0d Z0d a0e n0e c0e Z0e a0f n0f c0f Z0f x0g x0h a0i n0i c0i Z0i _ hn0c hn0d hn0e hn0f hn0i ?_ ?_ ?_ ?_ ?_).mono ?_); exact (h0c.below (B2.trans (Below.mono (by go_split_ands; assumption) B2.size)) (Nat.le_refl _)); exact (h0d.below (B2.trans (Below.mono (by go_split_ands; assumption) B2.size)) (Nat.le_refl _)); exact (h0e.below (B2.trans (Below.mono (by go_split_ands; assumption) B2.size)) (Nat.le_refl _)); exact (h0f.below (B2.trans (Below.mono (by go_split_ands; assumption) B2.size)) (Nat.le_refl _)); exact (h0i.below (B2.trans (Below.mono (by go_split_ands; assumption) B2.size)) (Nat.le_refl _)); rintro e wt0 ⟨pt0c, qt0c, pt0d, qt0d, pt0e, qt0e, pt0f, qt0f, pt0i, qt0i, Mt0c, Mt0d, Mt0e, Mt0f, rfl, mt0c, mt0d, mt0e, mt0f, mt0i, ot0c, ot0d, ot0e, ot0f, ot0i, bt0⟩)
      | (go_at_call 9; (with_reducible refine (toDesk_sep x1a x1b a1c n1c c1c Z1c a1d n1d c1d Z1d a1e n1e c1e Z1e a1f n1f c1f Z1f x1g x1h a1i n1i c1i Z1i _ hn1c hn1d hn1e hn1f hn1i ?_ ?_ ?_ ?_ ?_).mono ?_); exact (h1c.below (B2.trans (Below.mono (by go_split_ands; assumption) B2.size)) (Nat.le_refl _)); exact (h1d.below (B2.trans (Below.mono (by go_split_ands; assumption) B2.size)) (Nat.le_refl _)); exact (h1e.below (B2.trans (Below.mono (by go_split_ands; assumption) B2.size)) (Nat.le_refl _)); exact (h1f.below (B2.trans (Below.mono (by go_split_ands; assumption) B2.size)) (Nat.le_refl _)); exact (h1i.below (B2.trans (Below.mono (by go_split_ands; assumption) B2.size)) (Nat.le_refl _)); rintro e wt1 ⟨pt1c, qt1c, pt1d, qt1d, pt1e, qt1e, pt1f, qt1f, pt1i, qt1i, Mt1c, Mt1d, Mt1e, Mt1f, rfl, mt1c, mt1d, mt1e, mt1f, mt1i, ot1c, ot1d, ot1e, ot1f, ot1i, bt1⟩)
      | (go_at_call 12; refine (ks _ _ _ _ _ _ _ _ _ _ _ _ _ _ _ _ _ _ _ _ _ ((Own.fs ot0c).below bt1 (Nat.le_refl _)) ((Own.fs ot0d).below bt1 (Nat.le_refl _)) ((Own.fs ot0e).below bt1 (Nat.le_refl _)) ((Own.fs ot0f).below bt1 (Nat.le_refl _)) ((OwnI.is ot0i).below bt1 (Nat.le_refl _)) (Own.fs ot1c) (Own.fs ot1d) (Own.fs ot1e) (Own.fs ot1f) (OwnI.is ot1i)).mono ?_; rintro e w3 ⟨rfl, bb⟩))
  have b3 : Below w2.heap.size w2 w3 := by go_split_ands; assumption
  clear ot0c ot0d ot0e ot0f ot0i ot1c ot1d ot1e ot1f ot1i bt0 bt1 bb
  have D3 : Below w2.heap.size w2 w3 := b3
  have s3 : w2.heap.size + 0 ≤ w3.heap.size := by have := b3.size; (try simp at this); omega
  have B3 : Below w.heap.size w w3 := B2.trans (D3.mono B2.size)
  have X3_A0 := X2_A0.below D3 (by omega)
  have X3_A1 := X2_A1.below D3 (by omega)
  have Y3_A00 := X3_A0 0 _ rfl
  have Y3_A01 := X3_A0 1 _ rfl
  have Y3_A02 := X3_A0 2 _ rfl
  have Y3_A03 := X3_A0 3 _ rfl
  have Y3_A04 := X3_A0 4 _ rfl
  have Y3_A05 := X3_A0 5 _ rfl
  have Y3_A06 := X3_A0 6 _ rfl
  have Y3_A07 := X3_A0 7 _ rfl
  have Y3_A08 := X3_A0 8 _ rfl
  have L3_A0 : w.heap.size < w3.heap.size := by omega
  have Y3_A10 := X3_A1 0 _ rfl
  have Y3_A11 := X3_A1 1 _ rfl
  have Y3_A12 := X3_A1 2 _ rfl
  have Y3_A13 := X3_A1 3 _ rfl
  have Y3_A14 := X3_A1 4 _ rfl
  have Y3_A15 := X3_A1 5 _ rfl
  have Y3_A16 := X3_A1 6 _ rfl
  have Y3_A17 := X3_A1 7 _ rfl
  have Y3_A18 := X3_A1 8 _ rfl
  have L3_A1 : (w.heap.size + 1) < w3.heap.size := by omega
  clear X2_A0 Y2_A00 Y2_A01 Y2_A02 Y2_A03 Y2_A04 Y2_A05 Y2_A06 Y2_A07 Y2_A08 L2_A0 X2_A1 Y2_A10 Y2_A11 Y2_A12 Y2_A13 Y2_A14 Y2_A15 Y2_A16 Y2_A17 Y2_A18 L2_A1
  go_wp2_with fail
  go_at_call 9
  refine (toDesk_sep x0a x0b a0c n0c c0c Z0c a0d n0d c0d Z0d a0e n0e c0e Z0e a0f n0f c0f Z0f x0g x0h a0i n0i c0i Z0i _ hn0c hn0d hn0e hn0f hn0i (h0c.below B3 (Nat.le_refl _)) (h0d.below B3 (Nat.le_refl _)) (h0e.below B3 (Nat.le_refl _)) (h0f.below B3 (Nat.le_refl _)) (h0i.below B3 (Nat.le_refl _))).mono ?_
  rintro e w4 ⟨px0c, qx0c, px0d, qx0d, px0e, qx0e, px0f, qx0f, px0i, qx0i, Mx0c, Mx0d, Mx0e, Mx0f, rfl, mx0c, mx0d, mx0e, mx0f, mx0i, ox0c, ox0d, ox0e, ox0f, ox0i, b4⟩
  have D4 : Below w3.heap.size w3 w4 := b4
  have s4 : w3.heap.size + 0 ≤ w4.heap.size := by have := b4.size; (try simp at this); omega
  have B4 : Below w.heap.size w w4 := B3.trans (D4.mono B3.size)
  have X4_A0 := X3_A0.below D4 (by omega)
  have X4_A1 := X3_A1.below D4 (by omega)
  have Y4_A00 := X4_A0 0 _ rfl
  have Y4_A01 := X4_A0 1 _ rfl
  have Y4_A02 := X4_A0 2 _ rfl
  have Y4_A03 := X4_A0 3 _ rfl
  have Y4_A04 := X4_A0 4 _ rfl
  have Y4_A05 := X4_A0 5 _ rfl
  have Y4_A06 := X4_A0 6 _ rfl
  have Y4_A07 := X4_A0 7 _ rfl
  have Y4_A08 := X4_A0 8 _ rfl
  have L4_A0 : w.heap.size < w4.heap.size := by omega
  have Y4_A10 := X4_A1 0 _ rfl
  have Y4_A11 := X4_A1 1 _ rfl
  have Y4_A12 := X4_A1 2 _ rfl
  have Y4_A13 := X4_A1 3 _ rfl
  have Y4_A14 := X4_A1 4 _ rfl
  have Y4_A15 := X4_A1 5 _ rfl
  have Y4_A16 := X4_A1 6 _ rfl
  have Y4_A17 := X4_A1 7 _ rfl
  have Y4_A18 := X4_A1 8 _ rfl
  have L4_A1 : (w.heap.size + 1) < w4.heap.size := by omega
  clear X3_A0 Y3_A00 Y3_A01 Y3_A02 Y3_A03 Y3_A04 Y3_A05 Y3_A06 Y3_A07 Y3_A08 L3_A0 X3_A1 Y3_A10 Y3_A11 Y3_A12 Y3_A13 Y3_A14 Y3_A15 Y3_A16 Y3_A17 Y3_A18 L3_A1
  go_wp2_with fail
  go_at_call 9
  refine (toDesk_sep x1a x1b a1c n1c c1c Z1c a1d n1d c1d Z1d a1e n1e c1e Z1e a1f n1f c1f Z1f x1g x1h a1i n1i c1i Z1i _ hn1c hn1d hn1e hn1f hn1i (FS.below (h1c.below B4 (Nat.le_refl _)) (by repeat first | (with_reducible exact Below.refl _ _) | (with_reducible refine Below.setCell ?_ (by first | exact Nat.le_refl _ | (simp; done) | (simp; omega) | omega) _) | (with_reducible refine Below.alloc ?_ (by first | exact Nat.le_refl _ | (simp; done) | (simp; omega) | omega) _) | (with_reducible refine below_drewN ?_ _) | (with_reducible refine Below.drew ?_)) (Nat.le_refl _)) (FS.below (h1d.below B4 (Nat.le_refl _)) (by repeat first | (with_reducible exact Below.refl _ _) | (with_reducible refine Below.setCell ?_ (by first | exact Nat.le_refl _ | (simp; done) | (simp; omega) | omega) _) | (with_reducible refine Below.alloc ?_ (by first | exact Nat.le_refl _ | (simp; done) | (simp; omega) | omega) _) | (with_reducible refine below_drewN ?_ _) | (with_reducible refine Below.drew ?_)) (Nat.le_refl _)) (FS.below (h1e.below B4 (Nat.le_refl _)) (by repeat first | (with_reducible exact Below.refl _ _) | (with_reducible refine Below.setCell ?_ (by first | exact Nat.le_refl _ | (simp; done) | (simp; omega) | omega) _) | (with_reducible refine Below.alloc ?_ (by first | exact Nat.le_refl _ | (simp; done) | (simp; omega) | omega) _) | (with_reducible refine below_drewN ?_ _) | (with_reducible refine Below.drew ?_)) (Nat.le_refl _)) (FS.below (h1f.below B4 (Nat.le_refl _)) (by repeat first | (with_reducible exact Below.refl _ _) | (with_reducible refine Below.setCell ?_ (by first | exact Nat.le_refl _ | (simp; done) | (simp; omega) | omega) _) | (with_reducible refine Below.alloc ?_ (by first | exact Nat.le_refl _ | (simp; done) | (simp; omega) | omega) _) | (with_reducible refine below_drewN ?_ _) | (with_reducible refine Below.drew ?_)) (Nat.le_refl _)) (IS.below (h1i.below B4 (Nat.le_refl _)) (by repeat first | (with_reducible exact Below.refl _ _) | (with_reducible refine Below.setCell ?_ (by first | exact Nat.le_refl _ | (simp; done) | (simp; omega) | omega) _) | (with_reducible refine Below.alloc ?_ (by first | exact Nat.le_refl _ | (simp; done) | (simp; omega) | omega) _) | (with_reducible refine below_drewN ?_ _) | (with_reducible refine Below.drew ?_)) (Nat.le_refl _))).mono ?_
  rintro e w5 ⟨px1c, qx1c, px1d, qx1d, px1e, qx1e, px1f, qx1f, px1i, qx1i, Mx1c, Mx1d, Mx1e, Mx1f, rfl, mx1c, mx1d, mx1e, mx1f, mx1i, ox1c, ox1d, ox1e, ox1f, ox1i, b5⟩
  replace ox1c := Own.mono (B' := (w4.heap.size + 1)) ox1c (by simp) (Nat.le_refl _) (by omega)
  have mmx1c : (w4.heap.size + 1) ≤ Mx1c := by (try simp at mx1c); omega
  have D5 : Below w4.heap.size w4 w5 := Below.trans (by repeat first | (with_reducible exact Below.refl _ _) | (with_reducible refine Below.setCell ?_ (by first | exact Nat.le_refl _ | (simp; done) | (simp; omega) | omega) _) | (with_reducible refine Below.alloc ?_ (by first | exact Nat.le_refl _ | (simp; done) | (simp; omega) | omega) _) | (with_reducible refine below_drewN ?_ _) | (with_reducible refine Below.drew ?_)) (b5.mono (by simp; try omega))
  have s5 : w4.heap.size + 1 ≤ w5.heap.size := by have := b5.size; (try simp at this); omega
  have B5 : Below w.heap.size w w5 := B4.trans (D5.mono B4.size)
  have X5_A0 := X4_A0.below D5 (by omega)
  have X5_A1 := X4_A1.below D5 (by omega)
  have X5_P0 : BoxL w5 w4.heap.size [.int .i64 x0a, .int .i64 x0b, .slice px0c n0c qx0c, .slice px0d n0d qx0d, .slice px0e n0e qx0e, .slice px0f n0f qx0f, .int .i64 x0g, .int .i64 x0h, .slice px0i n0i qx0i] := BoxL.below (BoxL.nine (by simp [go_sem]) (by simp [go_sem]) (by simp [go_sem]) (by simp [go_sem]) (by simp [go_sem]) (by simp [go_sem]) (by simp [go_sem]) (by simp [go_sem]) (by simp [go_sem])) b5 (by first | (simp; done) | (simp; omega))
  replace ox0c := ox0c.kept (below_grew D5) (fun q hq => by cases hq)
  replace ox0d := ox0d.kept (below_grew D5) (fun q hq => by cases hq)
  replace ox0e := ox0e.kept (below_grew D5) (fun q hq => by cases hq)
  replace ox0f := ox0f.kept (below_grew D5) (fun q hq => by cases hq)
  replace ox0i := ox0i.kept (below_grew D5) (fun q hq => by cases hq)
  have Y5_A00 := X5_A0 0 _ rfl
  have Y5_A01 := X5_A0 1 _ rfl
  have Y5_A02 := X5_A0 2 _ rfl
  have Y5_A03 := X5_A0 3 _ rfl
  have Y5_A04 := X5_A0 4 _ rfl
  have Y5_A05 := X5_A0 5 _ rfl
  have Y5_A06 := X5_A0 6 _ rfl
  have Y5_A07 := X5_A0 7 _ rfl
  have Y5_A08 := X5_A0 8 _ rfl
  have L5_A0 : w.heap.size < w5.heap.size := by omega
  have Y5_A10 := X5_A1 0 _ rfl
  have Y5_A11 := X5_A1 1 _ rfl
  have Y5_A12 := X5_A1 2 _ rfl
  have Y5_A13 := X5_A1 3 _ rfl
  have Y5_A14 := X5_A1 4 _ rfl
  have Y5_A15 := X5_A1 5 _ rfl
  have Y5_A16 := X5_A1 6 _ rfl
  have Y5_A17 := X5_A1 7 _ rfl
  have Y5_A18 := X5_A1 8 _ rfl
  have L5_A1 : (w.heap.size + 1) < w5.heap.size := by omega
  have Y5_P00 := X5_P0 0 _ rfl
  have Y5_P01 := X5_P0 1 _ rfl
  have Y5_P02 := X5_P0 2 _ rfl
  have Y5_P03 := X5_P0 3 _ rfl
  have Y5_P04 := X5_P0 4 _ rfl
  have Y5_P05 := X5_P0 5 _ rfl
  have Y5_P06 := X5_P0 6 _ rfl
  have Y5_P07 := X5_P0 7 _ rfl
  have Y5_P08 := X5_P0 8 _ rfl
  have L5_P0 : w4.heap.size < w5.heap.size := by omega
  clear X4_A0 Y4_A00 Y4_A01 Y4_A02 Y4_A03 Y4_A04 Y4_A05 Y4_A06 Y4_A07 Y4_A08 L4_A0 X4_A1 Y4_A10 Y4_A11 Y4_A12 Y4_A13 Y4_A14 Y4_A15 Y4_A16 Y4_A17 Y4_A18 L4_A1
  go_wp2_with fail
  go_at_call 13
  refine (ki _ _ _ _ _ _ _ _ _ _ _ _ _ _ _ _ _ _ _ _ _ (FS.below (Own.fs ox0c) (by repeat first | (with_reducible exact Below.refl _ _) | (with_reducible refine Below.setCell ?_ (by first | exact Nat.le_refl _ | (simp; done) | (simp; omega) | omega) _) | (with_reducible refine Below.alloc ?_ (by first | exact Nat.le_refl _ | (simp; done) | (simp; omega) | omega) _) | (with_reducible refine below_drewN ?_ _) | (with_reducible refine Below.drew ?_)) (Nat.le_refl _)) (FS.below (Own.fs ox0d) (by repeat first | (with_reducible exact Below.refl _ _) | (with_reducible refine Below.setCell ?_ (by first | exact Nat.le_refl _ | (simp; done) | (simp; omega) | omega) _) | (with_reducible refine Below.alloc ?_ (by first | exact Nat.le_refl _ | (simp; done) | (simp; omega) | omega) _) | (with_reducible refine below_drewN ?_ _) | (with_reducible refine Below.drew ?_)) (Nat.le_refl _)) (FS.below (Own.fs ox0e) (by repeat first | (with_reducible exact Below.refl _ _) | (with_reducible refine Below.setCell ?_ (by first | exact Nat.le_refl _ | (simp; done) | (simp; omega) | omega) _) | (with_reducible refine Below.alloc ?_ (by first | exact Nat.le_refl _ | (simp; done) | (simp; omega) | omega) _) | (with_reducible refine below_drewN ?_ _) | (with_reducible refine Below.drew ?_)) (Nat.le_refl _)) (FS.below (Own.fs ox0f) (by repeat first | (with_reducible exact Below.refl _ _) | (with_reducible refine Below.setCell ?_ (by first | exact Nat.le_refl _ | (simp; done) | (simp; omega) | omega) _) | (with_reducible refine Below.alloc ?_ (by first | exact Nat.le_refl _ | (simp; done) | (simp; omega) | omega) _) | (with_reducible refine below_drewN ?_ _) | (with_reducible refine Below.drew ?_)) (Nat.le_refl _)) (IS.below (OwnI.is ox0i) (by repeat first | (with_reducible exact Below.refl _ _) | (with_reducible refine Below.setCell ?_ (by first | exact Nat.le_refl _ | (simp; done) | (simp; omega) | omega) _) | (with_reducible refine Below.alloc ?_ (by first | exact Nat.le_refl _ | (simp; done) | (simp; omega) | omega) _) | (with_reducible refine below_drewN ?_ _) | (with_reducible refine Below.drew ?_)) (Nat.le_refl _)) (FS.below (Own.fs ox1c) (by repeat first | (with_reducible exact Below.refl _ _) | (with_reducible refine Below.setCell ?_ (by first | exact Nat.le_refl _ | (simp; done) | (simp; omega) | omega) _) | (with_reducible refine Below.alloc ?_ (by first | exact Nat.le_refl _ | (simp; done) | (simp; omega) | omega) _) | (with_reducible refine below_drewN ?_ _) | (with_reducible refine Below.drew ?_)) (Nat.le_refl _)) (FS.below (Own.fs ox1d) (by repeat first | (with_reducible exact Below.refl _ _) | (with_reducible refine Below.setCell ?_ (by first | exact Nat.le_refl _ | (simp; done) | (simp; omega) | omega) _) | (with_reducible refine Below.alloc ?_ (by first | exact Nat.le_refl _ | (simp; done) | (simp; omega) | omega) _) | (with_reducible refine below_drewN ?_ _) | (with_reducible refine Below.drew ?_)) (Nat.le_refl _)) (FS.below (Own.fs ox1e) (by repeat first | (with_reducible exact Below.refl _ _) | (with_reducible refine Below.setCell ?_ (by first | exact Nat.le_refl _ | (simp; done) | (simp; omega) | omega) _) | (with_reducible refine Below.alloc ?_ (by first | exact Nat.le_refl _ | (simp; done) | (simp; omega) | omega) _) | (with_reducible refine below_drewN ?_ _) | (with_reducible refine Below.drew ?_)) (Nat.le_refl _)) (FS.below (Own.fs ox1f) (by repeat first | (with_reducible exact Below.refl _ _) | (with_reducible refine Below.setCell ?_ (by first | exact Nat.le_refl _ | (simp; done) | (simp; omega) | omega) _) | (with_reducible refine Below.alloc ?_ (by first | exact Nat.le_refl _ | (simp; done) | (simp; omega) | omega) _) | (with_reducible refine below_drewN ?_ _) | (with_reducible refine Below.drew ?_)) (Nat.le_refl _)) (IS.below (OwnI.is ox1i) (by repeat first | (with_reducible exact Below.refl _ _) | (with_reducible refine Below.setCell ?_ (by first | exact Nat.le_refl _ | (simp; done) | (simp; omega) | omega) _) | (with_reducible refine Below.alloc ?_ (by first | exact Nat.le_refl _ | (simp; done) | (simp; omega) | omega) _) | (with_reducible refine below_drewN ?_ _) | (with_reducible refine Below.drew ?_)) (Nat.le_refl _))).mono ?_
  rintro e w6 ⟨rfl, b6⟩
  have D6 : Below w5.heap.size w5 w6 := Below.trans (by repeat first | (with_reducible exact Below.refl _ _) | (with_reducible refine Below.setCell ?_ (by first | exact Nat.le_refl _ | (simp; done) | (simp; omega) | omega) _) | (with_reducible refine Below.alloc ?_ (by first | exact Nat.le_refl _ | (simp; done) | (simp; omega) | omega) _) | (with_reducible refine below_drewN ?_ _) | (with_reducible refine Below.drew ?_)) (b6.mono (by simp; try omega))
  have s6 : w5.heap.size + 1 ≤ w6.heap.size := by have := b6.size; (try simp at this); omega
  have B6 : Below w.heap.size w w6 := B5.trans (D6.mono B5.size)
  have X6_A0 := X5_A0.below D6 (by omega)
  have X6_A1 := X5_A1.below D6 (by omega)
  have X6_P0 := X5_P0.below D6 (by omega)
  have X6_P1 : BoxL w6 w5.heap.size [.int .i64 x1a, .int .i64 x1b, .slice px1c n1c qx1c, .slice px1d n1d qx1d, .slice px1e n1e qx1e, .slice px1f n1f qx1f, .int .i64 x1g, .int .i64 x1h, .slice px1i n1i qx1i] := BoxL.below (BoxL.nine (by simp [go_sem]) (by simp [go_sem]) (by simp [go_sem]) (by simp [go_sem]) (by simp [go_sem]) (by simp [go_sem]) (by simp [go_sem]) (by simp [go_sem]) (by simp [go_sem])) b6 (by first | (simp; done) | (simp; omega))
  replace ox0c := ox0c.kept (below_grew D6) (fun q hq => by cases hq)
  replace ox0d := ox0d.kept (below_grew D6) (fun q hq => by cases hq)
  replace ox0e := ox0e.kept (below_grew D6) (fun q hq => by cases hq)
  replace ox0f := ox0f.kept (below_grew D6) (fun q hq => by cases hq)
  replace ox0i := ox0i.kept (below_grew D6) (fun q hq => by cases hq)
  replace ox1c := ox1c.kept (below_grew D6) (fun q hq => by cases hq)
  replace ox1d := ox1d.kept (below_grew D6) (fun q hq => by cases hq)
  replace ox1e := ox1e.kept (below_grew D6) (fun q hq => by cases hq)
  replace ox1f := ox1f.kept (below_grew D6) (fun q hq => by cases hq)
  replace ox1i := ox1i.kept (below_grew D6) (fun q hq => by cases hq)
  have Y6_A00 := X6_A0 0 _ rfl
  have Y6_A01 := X6_A0 1 _ rfl
  have Y6_A02 := X6_A0 2 _ rfl
  have Y6_A03 := X6_A0 3 _ rfl
  have Y6_A04 := X6_A0 4 _ rfl
  have Y6_A05 := X6_A0 5 _ rfl
  have Y6_A06 := X6_A0 6 _ rfl
  have Y6_A07 := X6_A0 7 _ rfl
  have Y6_A08 := X6_A0 8 _ rfl
  have L6_A0 : w.heap.size < w6.heap.size := by omega
  have Y6_A10 := X6_A1 0 _ rfl
  have Y6_A11 := X6_A1 1 _ rfl
  have Y6_A12 := X6_A1 2 _ rfl
  have Y6_A13 := X6_A1 3 _ rfl
  have Y6_A14 := X6_A1 4 _ rfl
  have Y6_A15 := X6_A1 5 _ rfl
  have Y6_A16 := X6_A1 6 _ rfl
  have Y6_A17 := X6_A1 7 _ rfl
  have Y6_A18 := X6_A1 8 _ rfl
  have L6_A1 : (w.heap.size + 1) < w6.heap.size := by omega
  have Y6_P00 := X6_P0 0 _ rfl
  have Y6_P01 := X6_P0 1 _ rfl
  have Y6_P02 := X6_P0 2 _ rfl
  have Y6_P03 := X6_P0 3 _ rfl
  have Y6_P04 := X6_P0 4 _ rfl
  have Y6_P05 := X6_P0 5 _ rfl
  have Y6_P06 := X6_P0 6 _ rfl
  have Y6_P07 := X6_P0 7 _ rfl
  have Y6_P08 := X6_P0 8 _ rfl
  have L6_P0 : w4.heap.size < w6.heap.size := by omega
  have Y6_P10 := X6_P1 0 _ rfl
  have Y6_P11 := X6_P1 1 _ rfl
  have Y6_P12 := X6_P1 2 _ rfl
  have Y6_P13 := X6_P1 3 _ rfl
  have Y6_P14 := X6_P1 4 _ rfl
  have Y6_P15 := X6_P1 5 _ rfl
  have Y6_P16 := X6_P1 6 _ rfl
  have Y6_P17 := X6_P1 7 _ rfl
  have Y6_P18 := X6_P1 8 _ rfl
  have L6_P1 : w5.heap.size < w6.heap.size := by omega
  clear X5_A0 Y5_A00 Y5_A01 Y5_A02 Y5_A03 Y5_A04 Y5_A05 Y5_A06 Y5_A07 Y5_A08 L5_A0 X5_A1 Y5_A10 Y5_A11 Y5_A12 Y5_A13 Y5_A14 Y5_A15 Y5_A16 Y5_A17 Y5_A18 L5_A1 X5_P0 Y5_P00 Y5_P01 Y5_P02 Y5_P03 Y5_P04 Y5_P05 Y5_P06 Y5_P07 Y5_P08 L5_P0
  go_wp2_with fail
  go_region_held3 (fun w' => w'.cell? ⟨w4.heap.size, 0, none⟩ = some (.int .i64 x0a) ∧ w'.cell? ⟨w4.heap.size, 1, none⟩ = some (.int .i64 x0b) ∧ w'.cell? ⟨w4.heap.size, 2, none⟩ = some (.slice px0c n0c qx0c) ∧ w'.cell? ⟨w4.heap.size, 3, none⟩ = some (.slice px0d n0d qx0d) ∧ w'.cell? ⟨w4.heap.size, 4, none⟩ = some (.slice px0e n0e qx0e) ∧ w'.cell? ⟨w4.heap.size, 5, none⟩ = some (.slice px0f n0f qx0f) ∧ w'.cell? ⟨w4.heap.size, 6, none⟩ = some (.int .i64 x0g) ∧ w'.cell? ⟨w4.heap.size, 7, none⟩ = some (.int .i64 x0h) ∧ w'.cell? ⟨w4.heap.size, 8, none⟩ = some (.slice px0i n0i qx0i) ∧ w'.cell? ⟨w.heap.size, 0, none⟩ = some (.int .i64 x0a) ∧ w'.cell? ⟨w.heap.size, 1, none⟩ = some (.int .i64 x0b) ∧ w'.cell? ⟨w.heap.size, 2, none⟩ = some (.slice a0c n0c c0c) ∧ w'.cell? ⟨w.heap.size, 3, none⟩ = some (.slice a0d n0d c0d) ∧ w'.cell? ⟨w.heap.size, 4, none⟩ = some (.slice a0e n0e c0e) ∧ w'.cell? ⟨w.heap.size, 5, none⟩ = some (.slice a0f n0f c0f) ∧ w'.cell? ⟨w.heap.size, 6, none⟩ = some (.int .i64 x0g) ∧ w'.cell? ⟨w.heap.size, 7, none⟩ = some (.int .i64 x0h) ∧ w'.cell? ⟨w.heap.size, 8, none⟩ = some (.slice a0i n0i c0i) ∧ Below w6.heap.size w6 w')
    (first | exact ⟨Y6_P00, Y6_P01, Y6_P02, Y6_P03, Y6_P04, Y6_P05, Y6_P06, Y6_P07, Y6_P08, Y6_A00, Y6_A01, Y6_A02, Y6_A03, Y6_A04, Y6_A05, Y6_A06, Y6_A07, Y6_A08, (by first | exact (Below.refl _ _).drew | exact (below_drewN (Below.refl _ _) _).drew)⟩ | exact heldS_SameDesk (by assumption) (by assumption) (by omega) (by omega))
    (first
      | (go_at_call 9; refine (toDesk_sep x0a x0b a0c n0c c0c Z0c a0d n0d c0d Z0d a0e n0e c0e Z0e a0f n0f c0f Z0f x0g x0h a0i n0i c0i Z0i _ hn0c hn0d hn0e hn0f hn0i (h0c.below (B6.trans (Below.mono (by go_split_ands; assumption) B6.size)) (Nat.le_refl _)) (h0d.below (B6.trans (Below.mono (by go_split_ands; assumption) B6.size)) (Nat.le_refl _)) (h0e.below (B6.trans (Below.mono (by go_split_ands; assumption) B6.size)) (Nat.le_refl _)) (h0f.below (B6.trans (Below.mono (by go_split_ands; assumption) B6.size)) (Nat.le_refl _)) (h0i.below (B6.trans (Below.mono (by go_split_ands; assumption) B6.size)) (Nat.le_refl _))).mono ?_; rintro e wa ⟨pa0c, qa0c, pa0d, qa0d, pa0e, qa0e, pa0f, qa0f, pa0i, qa0i, Ma0c, Ma0d, Ma0e, Ma0f, rfl, ma0c, ma0d, ma0e, ma0f, ma0i, oa0c, oa0d, oa0e, oa0f, oa0i, ba⟩)
      | (go_at_call 11; refine (eqDesk_any _ _ _ _ _ _ _ _ _ _ _ _ _ _ _ _ _ _ _ _ _ _ _ _ _ _ _ _ _ _ _ _ _ _ _ _ _ _ _ _ (by omega) (by omega) (by omega) (by omega) (by omega) ((Own.fs ox0c).below (by go_split_ands; assumption) (Nat.le_refl _)) (Own.fs oa0c) ((Own.fs ox0d).below (by go_split_ands; assumption) (Nat.le_refl _)) (Own.fs oa0d) ((Own.fs ox0e).below (by go_split_ands; assumption) (Nat.le_refl _)) (Own.fs oa0e) ((Own.fs ox0f).below (by go_split_ands; assumption) (Nat.le_refl _)) (Own.fs oa0f) ((OwnI.is ox0i).below (by go_split_ands; assumption) (Nat.le_refl _)) (OwnI.is oa0i) (fun i hi => rfl) (fun i hi => rfl) (fun i hi => rfl) (fun i hi => rfl) (fun i hi => rfl)).mono ?_; rintro e w7 ⟨rfl, bb⟩))
  have b7 : Below w6.heap.size w6 w7 := by go_split_ands; assumption
  clear oa0c oa0d oa0e oa0f oa0i ba bb
  have D7 : Below w6.heap.size w6 w7 := b7
  have s7 : w6.heap.size + 0 ≤ w7.heap.size := by have := b7.size; (try simp at this); omega
  have B7 : Below w.heap.size w w7 := B6.trans (D7.mono B6.size)
  have X7_A0 := X6_A0.below D7 (by omega)
  have X7_A1 := X6_A1.below D7 (by omega)
  have X7_P0 := X6_P0.below D7 (by omega)
  have X7_P1 := X6_P1.below D7 (by omega)
  replace ox0c := ox0c.kept (below_grew D7) (fun q hq => by cases hq)
  replace ox0d := ox0d.kept (below_grew D7) (fun q hq => by cases hq)
  replace ox0e := ox0e.kept (below_grew D7) (fun q hq => by cases hq)
  replace ox0f := ox0f.kept (below_grew D7) (fun q hq => by cases hq)
  replace ox0i := ox0i.kept (below_grew D7) (fun q hq => by cases hq)
  replace ox1c := ox1c.kept (below_grew D7) (fun q hq => by cases hq)
  replace ox1d := ox1d.kept (below_grew D7) (fun q hq => by cases hq)
  replace ox1e := ox1e.kept (below_grew D7) (fun q hq => by cases hq)
  replace ox1f := ox1f.kept (below_grew D7) (fun q hq => by cases hq)
  replace ox1i := ox1i.kept (below_grew D7) (fun q hq => by cases hq)
  have Y7_A00 := X7_A0 0 _ rfl
  have Y7_A01 := X7_A0 1 _ rfl
  have Y7_A02 := X7_A0 2 _ rfl
  have Y7_A03 := X7_A0 3 _ rfl
  have Y7_A04 := X7_A0 4 _ rfl
  have Y7_A05 := X7_A0 5 _ rfl
  have Y7_A06 := X7_A0 6 _ rfl
  have Y7_A07 := X7_A0 7 _ rfl
  have Y7_A08 := X7_A0 8 _ rfl
  have L7_A0 : w.heap.size < w7.heap.size := by omega
  have Y7_A10 := X7_A1 0 _ rfl
  have Y7_A11 := X7_A1 1 _ rfl
  have Y7_A12 := X7_A1 2 _ rfl
  have Y7_A13 := X7_A1 3 _ rfl
  have Y7_A14 := X7_A1 4 _ rfl
  have Y7_A15 := X7_A1 5 _ rfl
  have Y7_A16 := X7_A1 6 _ rfl
  have Y7_A17 := X7_A1 7 _ rfl
  have Y7_A18 := X7_A1 8 _ rfl
  have L7_A1 : (w.heap.size + 1) < w7.heap.size := by omega
  have Y7_P00 := X7_P0 0 _ rfl
  have Y7_P01 := X7_P0 1 _ rfl
  have Y7_P02 := X7_P0 2 _ rfl
  have Y7_P03 := X7_P0 3 _ rfl
  have Y7_P04 := X7_P0 4 _ rfl
  have Y7_P05 := X7_P0 5 _ rfl
  have Y7_P06 := X7_P0 6 _ rfl
  have Y7_P07 := X7_P0 7 _ rfl
  have Y7_P08 := X7_P0 8 _ rfl
  have L7_P0 : w4.heap.size < w7.heap.size := by omega
  have Y7_P10 := X7_P1 0 _ rfl
  have Y7_P11 := X7_P1 1 _ rfl
  have Y7_P12 := X7_P1 2 _ rfl
  have Y7_P13 := X7_P1 3 _ rfl
  have Y7_P14 := X7_P1 4 _ rfl
  have Y7_P15 := X7_P1 5 _ rfl
  have Y7_P16 := X7_P1 6 _ rfl
  have Y7_P17 := X7_P1 7 _ rfl
  have Y7_P18 := X7_P1 8 _ rfl
  have L7_P1 : w5.heap.size < w7.heap.size := by omega
  clear X6_A0 Y6_A00 Y6_A01 Y6_A02 Y6_A03 Y6_A04 Y6_A05 Y6_A06 Y6_A07 Y6_A08 L6_A0 X6_A1 Y6_A10 Y6_A11 Y6_A12 Y6_A13 Y6_A14 Y6_A15 Y6_A16 Y6_A17 Y6_A18 L6_A1 X6_P0 Y6_P00 Y6_P01 Y6_P02 Y6_P03 Y6_P04 Y6_P05 Y6_P06 Y6_P07 Y6_P08 L6_P0 X6_P1 Y6_P10 Y6_P11 Y6_P12 Y6_P13 Y6_P14 Y6_P15 Y6_P16 Y6_P17 Y6_P18 L6_P1
  go_wp2_with fail
  go_region_held3 (fun w' => w'.cell? ⟨w5.heap.size, 0, none⟩ = some (.int .i64 x1a) ∧ w'.cell? ⟨w5.heap.size, 1, none⟩ = some (.int .i64 x1b) ∧ w'.cell? ⟨w5.heap.size, 2, none⟩ = some (.slice px1c n1c qx1c) ∧ w'.cell? ⟨w5.heap.size, 3, none⟩ = some (.slice px1d n1d qx1d) ∧ w'.cell? ⟨w5.heap.size, 4, none⟩ = some (.slice px1e n1e qx1e) ∧ w'.cell? ⟨w5.heap.size, 5, none⟩ = some (.slice px1f n1f qx1f) ∧ w'.cell? ⟨w5.heap.size, 6, none⟩ = some (.int .i64 x1g) ∧ w'.cell? ⟨w5.heap.size, 7, none⟩ = some (.int .i64 x1h) ∧ w'.cell? ⟨w5.heap.size, 8, none⟩ = some (.slice px1i n1i qx1i) ∧ w'.cell? ⟨(w.heap.size + 1), 0, none⟩ = some (.int .i64 x1a) ∧ w'.cell? ⟨(w.heap.size + 1), 1, none⟩ = some (.int .i64 x1b) ∧ w'.cell? ⟨(w.heap.size + 1), 2, none⟩ = some (.slice a1c n1c c1c) ∧ w'.cell? ⟨(w.heap.size + 1), 3, none⟩ = some (.slice a1d n1d c1d) ∧ w'.cell? ⟨(w.heap.size + 1), 4, none⟩ = some (.slice a1e n1e c1e) ∧ w'.cell? ⟨(w.heap.size + 1), 5, none⟩ = some (.slice a1f n1f c1f) ∧ w'.cell? ⟨(w.heap.size + 1), 6, none⟩ = some (.int .i64 x1g) ∧ w'.cell? ⟨(w.heap.size + 1), 7, none⟩ = some (.int .i64 x1h) ∧ w'.cell? ⟨(w.heap.size + 1), 8, none⟩ = some (.slice a1i n1i c1i) ∧ Below w7.heap.size w7 w')
    (first | exact ⟨Y7_P10, Y7_P11, Y7_P12, Y7_P13, Y7_P14, Y7_P15, Y7_P16, Y7_P17, Y7_P18, Y7_A10, Y7_A11, Y7_A12, Y7_A13, Y7_A14, Y7_A15, Y7_A16, Y7_A17, Y7_A18, (by first | exact (Below.refl _ _).drew | exact (below_drewN (Below.refl _ _) _).drew)⟩ | exact heldS_SameDesk (by assumption) (by assumption) (by omega) (by omega))
    (first
      | (go_at_call 9; refine (toDesk_sep x1a x1b a1c n1c c1c Z1c a1d n1d c1d Z1d a1e n1e c1e Z1e a1f n1f c1f Z1f x1g x1h a1i n1i c1i Z1i _ hn1c hn1d hn1e hn1f hn1i (h1c.below (B7.trans (Below.mono (by go_split_ands; assumption) B7.size)) (Nat.le_refl _)) (h1d.below (B7.trans (Below.mono (by go_split_ands; assumption) B7.size)) (Nat.le_refl _)) (h1e.below (B7.trans (Below.mono (by go_split_ands; assumption) B7.size)) (Nat.le_refl _)) (h1f.below (B7.trans (Below.mono (by go_split_ands; assumption) B7.size)) (Nat.le_refl _)) (h1i.below (B7.trans (Below.mono (by go_split_ands; assumption) B7.size)) (Nat.le_refl _))).mono ?_; rintro e wa ⟨pa1c, qa1c, pa1d, qa1d, pa1e, qa1e, pa1f, qa1f, pa1i, qa1i, Ma1c, Ma1d, Ma1e, Ma1f, rfl, ma1c, ma1d, ma1e, ma1f, ma1i, oa1c, oa1d, oa1e, oa1f, oa1i, ba⟩)
      | (go_at_call 11; refine (eqDesk_any _ _ _ _ _ _ _ _ _ _ _ _ _ _ _ _ _ _ _ _ _ _ _ _ _ _ _ _ _ _ _ _ _ _ _ _ _ _ _ _ (by omega) (by omega) (by omega) (by omega) (by omega) ((Own.fs ox1c).below (by go_split_ands; assumption) (Nat.le_refl _)) (Own.fs oa1c) ((Own.fs ox1d).below (by go_split_ands; assumption) (Nat.le_refl _)) (Own.fs oa1d) ((Own.fs ox1e).below (by go_split_ands; assumption) (Nat.le_refl _)) (Own.fs oa1e) ((Own.fs ox1f).below (by go_split_ands; assumption) (Nat.le_refl _)) (Own.fs oa1f) ((OwnI.is ox1i).below (by go_split_ands; assumption) (Nat.le_refl _)) (OwnI.is oa1i) (fun i hi => rfl) (fun i hi => rfl) (fun i hi => rfl) (fun i hi => rfl) (fun i hi => rfl)).mono ?_; rintro e w8 ⟨rfl, bb⟩))
  have b8 : Below w7.heap.size w7 w8 := by go_split_ands; assumption
  clear oa1c oa1d oa1e oa1f oa1i ba bb
  have D8 : Below w7.heap.size w7 w8 := b8
  have s8 : w7.heap.size + 0 ≤ w8.heap.size := by have := b8.size; (try simp at this); omega
  have B8 : Below w.heap.size w w8 := B7.trans (D8.mono B7.size)
  have X8_A0 := X7_A0.below D8 (by omega)
  have X8_A1 := X7_A1.below D8 (by omega)
  have X8_P0 := X7_P0.below D8 (by omega)
  have X8_P1 := X7_P1.below D8 (by omega)
  replace ox0c := ox0c.kept (below_grew D8) (fun q hq => by cases hq)
  replace ox0d := ox0d.kept (below_grew D8) (fun q hq => by cases hq)
  replace ox0e := ox0e.kept (below_grew D8) (fun q hq => by cases hq)
  replace ox0f := ox0f.kept (below_grew D8) (fun q hq => by cases hq)
  replace ox0i := ox0i.kept (below_grew D8) (fun q hq => by cases hq)
  replace ox1c := ox1c.kept (below_grew D8) (fun q hq => by cases hq)
  replace ox1d := ox1d.kept (below_grew D8) (fun q hq => by cases hq)
  replace ox1e := ox1e.kept (below_grew D8) (fun q hq => by cases hq)
  replace ox1f := ox1f.kept (below_grew D8) (fun q hq => by cases hq)
  replace ox1i := ox1i.kept (below_grew D8) (fun q hq => by cases hq)
  have Y8_A00 := X8_A0 0 _ rfl
  have Y8_A01 := X8_A0 1 _ rfl
  have Y8_A02 := X8_A0 2 _ rfl
  have Y8_A03 := X8_A0 3 _ rfl
  have Y8_A04 := X8_A0 4 _ rfl
  have Y8_A05 := X8_A0 5 _ rfl
  have Y8_A06 := X8_A0 6 _ rfl
  have Y8_A07 := X8_A0 7 _ rfl
  have Y8_A08 := X8_A0 8 _ rfl
  have L8_A0 : w.heap.size < w8.heap.size := by omega
  have Y8_A10 := X8_A1 0 _ rfl
  have Y8_A11 := X8_A1 1 _ rfl
  have Y8_A12 := X8_A1 2 _ rfl
  have Y8_A13 := X8_A1 3 _ rfl
  have Y8_A14 := X8_A1 4 _ rfl
  have Y8_A15 := X8_A1 5 _ rfl
  have Y8_A16 := X8_A1 6 _ rfl
  have Y8_A17 := X8_A1 7 _ rfl
  have Y8_A18 := X8_A1 8 _ rfl
  have L8_A1 : (w.heap.size + 1) < w8.heap.size := by omega
  have Y8_P00 := X8_P0 0 _ rfl
  have Y8_P01 := X8_P0 1 _ rfl
  have Y8_P02 := X8_P0 2 _ rfl
  have Y8_P03 := X8_P0 3 _ rfl
  have Y8_P04 := X8_P0 4 _ rfl
  have Y8_P05 := X8_P0 5 _ rfl
  have Y8_P06 := X8_P0 6 _ rfl
  have Y8_P07 := X8_P0 7 _ rfl
  have Y8_P08 := X8_P0 8 _ rfl
  have L8_P0 : w4.heap.size < w8.heap.size := by omega
  have Y8_P10 := X8_P1 0 _ rfl
  have Y8_P11 := X8_P1 1 _ rfl
  have Y8_P12 := X8_P1 2 _ rfl
  have Y8_P13 := X8_P1 3 _ rfl
  have Y8_P14 := X8_P1 4 _ rfl
  have Y8_P15 := X8_P1 5 _ rfl
  have Y8_P16 := X8_P1 6 _ rfl
  have Y8_P17 := X8_P1 7 _ rfl
  have Y8_P18 := X8_P1 8 _ rfl
  have L8_P1 : w5.heap.size < w8.heap.size := by omega
  clear X7_A0 Y7_A00 Y7_A01 Y7_A02 Y7_A03 Y7_A04 Y7_A05 Y7_A06 Y7_A07 Y7_A08 L7_A0 X7_A1 Y7_A10 Y7_A11 Y7_A12 Y7_A13 Y7_A14 Y7_A15 Y7_A16 Y7_A17 Y7_A18 L7_A1 X7_P0 Y7_P00 Y7_P01 Y7_P02 Y7_P03 Y7_P04 Y7_P05 Y7_P06 Y7_P07 Y7_P08 L7_P0 X7_P1 Y7_P10 Y7_P11 Y7_P12 Y7_P13 Y7_P14 Y7_P15 Y7_P16 Y7_P17 Y7_P18 L7_P1
  go_wp2_with fail
  go_ret
  exact ⟨rfl, B8⟩
end Go.Proofs.Ytmddhhmgfhljiab
