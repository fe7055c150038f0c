/- Helper: the walk of the law FnExactValueOfChain. Conditions: none. -/
import Derived.Test.YtajcjijgbpmknaaValueKey
import Derived.Deep.RegionHeld3
set_option linter.unusedVariables false
namespace Go.Proofs.Ytajcjijgbpmknaa
open Go.RowKit

set_option maxRecDepth 100000 in
set_option maxHeartbeats 4000000 in
theorem law_FnExactValueOfChain (w : World) (a : Option Addr) (n c : Nat) (Z : Nat → Nat) (a2 : Option Addr) (n2 c2 : Nat) (Z2 : Nat → Nat) (h : FS .f32 w a n c Z) (h2 : FS .f32 w a2 n2 c2 Z2) (x : Int) (wx : (Lit.int .i64 x).wf = true) :
    Calls Try.prog 4 #[.agg #[.slice a n c, .slice a2 n2 c2], .int .i64 x] w fun e w' => e = .returned (.bool true) ∧ Below w.heap.size w w' := by
  have hm : n ≤ 9223372036854775807 := by have hh1 := h.1; have hh2 := h.2.1; unfold maxLen at hh2; omega
  have hm2 : n2 ≤ 9223372036854775807 := by have hh1 := h2.1; have hh2 := h2.2.1; unfold maxLen at hh2; omega
  by_cases hl : n ≤ 1048576 ∧ n2 ≤ 1048576 - n
  case neg =>
    go_enter Try.func4, Try.ntmps4
    go_wp2_with fail
    go_at_call 7
    refine (szChain_no _ _ _ _ _ _ (1048576) _ (by omega) hm hm2 hl).mono ?_
    rintro e w1 ⟨rfl, b1⟩
    have B1 : Below w.heap.size w w1 := Below.trans (by repeat first | (with_reducible exact Below.refl _ _) | (with_reducible refine Below.setCell ?_ (by first | exact Nat.le_refl _ | (simp; done) | (simp; omega) | omega) _) | (with_reducible refine Below.alloc ?_ (by first | exact Nat.le_refl _ | (simp; done) | (simp; omega) | omega) _) | (with_reducible refine below_drewN ?_ _) | (with_reducible refine Below.drew ?_)) (b1.mono (by simp))
    go_wp2_with fail
    go_ret
    exact ⟨rfl, B1⟩
  obtain ⟨hl1, hl2⟩ := hl
  have hn2 : n2 ≤ 1048576 := by omega
  obtain ⟨ok, Xa, ks, ki⟩ := keyValueOfChain n Z n2 Z2 x hl1 hn2 wx
  go_enter Try.func4, Try.ntmps4
  go_wp2_with fail
  go_at_call 7
  refine (szChain_yes _ _ _ _ _ _ (1048576) _ (by omega) hl1 hl2).mono ?_
  rintro e w1 ⟨rfl, b1⟩
  have B1 : Below w.heap.size w w1 := Below.trans (by repeat first | (with_reducible exact Below.refl _ _) | (with_reducible refine Below.setCell ?_ (by first | exact Nat.le_refl _ | (simp; done) | (simp; omega) | omega) _) | (with_reducible refine Below.alloc ?_ (by first | exact Nat.le_refl _ | (simp; done) | (simp; omega) | omega) _) | (with_reducible refine below_drewN ?_ _) | (with_reducible refine Below.drew ?_)) (b1.mono (by simp))
  have s1 : w.heap.size < w1.heap.size := by have := b1.size; simp at this; omega
  have X1 := (BoxC.new _ _ _ _ _ _ _ _).below b1 (by simp)
  have X1' := X1
  obtain ⟨x0, x1⟩ := X1'
  have hd : decide (((1048576 - n - n2 : Nat) : Int) < 0) = false := decide_eq_false (by omega)
  clear b1
  go_wp2_with fail
  go_at_call 9
  refine (toChain_any a n c Z a2 n2 c2 Z2 _ hl1 hn2 (h.below B1 (Nat.le_refl _)) (h2.below B1 (Nat.le_refl _))).mono ?_
  rintro e w2 ⟨ps, qs, ps2, qs2, rfl, os, os2, b2⟩
  have B2 := B1.trans (b2.mono B1.size)
  have s2 := b2.size
  have X2 := X1.below b2 s1
  clear b2 x0 x1 X1 hd
  have X2' := X2
  obtain ⟨x0, x1⟩ := X2'
  go_wp2_with fail
  go_at_call 16
  refine (ks _ _ _ _ _ os.fs os2.fs).mono ?_
  rintro e w3 ⟨r1a, rfl, v1a, b3⟩
  have B3 := B2.trans (b3.mono B2.size)
  have s3 := b3.size
  have X3 := X2.below b3 (by omega)
  clear b3 x0 x1 X2 os os2
  have X3' := X3
  obtain ⟨x0, x1⟩ := X3'
  go_wp2_with fail
  go_at_call 9
  refine (toChain_any a n c Z a2 n2 c2 Z2 _ hl1 hn2 (h.below B3 (Nat.le_refl _)) (h2.below B3 (Nat.le_refl _))).mono ?_
  rintro e w4 ⟨px, qx, px2, qx2, rfl, ox, ox2, b4⟩
  have B4 := B3.trans (b4.mono B3.size)
  have s4 := b4.size
  have X4 := X3.below b4 (by omega)
  clear b4 x0 x1 X3
  have X4' := X4
  obtain ⟨x0, x1⟩ := X4'
  have l4 : w.heap.size < w4.heap.size := by omega
  go_wp2_with fail
  go_at_call 17
  refine (ki _ _ _ _ _ (FS.below ox.fs (by repeat first | (with_reducible exact Below.refl _ _) | (with_reducible refine Below.setCell ?_ (by first | exact Nat.le_refl _ | (simp; done) | (simp; omega) | omega) _) | (with_reducible refine Below.alloc ?_ (by first | exact Nat.le_refl _ | (simp; done) | (simp; omega) | omega) _) | (with_reducible refine below_drewN ?_ _) | (with_reducible refine Below.drew ?_)) (Nat.le_refl _)) (FS.below ox2.fs (by repeat first | (with_reducible exact Below.refl _ _) | (with_reducible refine Below.setCell ?_ (by first | exact Nat.le_refl _ | (simp; done) | (simp; omega) | omega) _) | (with_reducible refine Below.alloc ?_ (by first | exact Nat.le_refl _ | (simp; done) | (simp; omega) | omega) _) | (with_reducible refine below_drewN ?_ _) | (with_reducible refine Below.drew ?_)) (Nat.le_refl _))).mono ?_
  rintro e w5 ⟨r2a, rfl, v2a, b5⟩
  have b45 : Below w4.heap.size w4 w5 := Below.trans (by repeat first | (with_reducible exact Below.refl _ _) | (with_reducible refine Below.setCell ?_ (by first | exact Nat.le_refl _ | (simp; done) | (simp; omega) | omega) _) | (with_reducible refine Below.alloc ?_ (by first | exact Nat.le_refl _ | (simp; done) | (simp; omega) | omega) _) | (with_reducible refine below_drewN ?_ _) | (with_reducible refine Below.drew ?_)) (b5.mono (by simp))
  have B5 := B4.trans (b45.mono B4.size)
  have s5 : w4.heap.size < w5.heap.size := by have := b5.size; simp at this; omega
  have X5 := X4.below b45 l4
  have P5 := (BoxC.new _ _ _ _ _ _ _ _).below b5 (by simp)
  have fx := ox.fs.below b45 (Nat.le_refl _)
  have fx2 := ox2.fs.below b45 (Nat.le_refl _)
  clear b5 b45 x0 x1 X4 ox ox2
  obtain ⟨x0, x1⟩ := X5
  obtain ⟨p0, p1⟩ := P5
  go_wp2_with (first | (refine wpList_widen rfl _ _ _ rfl _ rfl (by kernel_rfl) Try.underlying41 (by assumption) ?_; intro r m hr) | (go_at_call 18; refine (sameFloat_any _ _ (by assumption) (by assumption) _).mono ?_; rintro e w' ⟨rfl, q1, rfl⟩))
  try go_wp2_with fail
  skip
  go_region_held3 (fun w' => w'.cell? ⟨w4.heap.size, 0, none⟩ = some (.slice px n qx) ∧ w'.cell? ⟨w4.heap.size, 1, none⟩ = some (.slice px2 n2 qx2) ∧ w'.cell? ⟨w.heap.size, 0, none⟩ = some (.slice a n c) ∧ w'.cell? ⟨w.heap.size, 1, none⟩ = some (.slice a2 n2 c2) ∧ Below w5.heap.size w5 w')
    (first | exact ⟨p0, p1, x0, x1, (by first | exact (Below.refl _ _).drew | exact (below_drewN (Below.refl _ _) _).drew)⟩ | exact heldC (by assumption) (by assumption) (by omega) (by omega))
    (first
      | (go_at_call 9; refine (toChain_any a n c Z a2 n2 c2 Z2 _ hl1 hn2 (h.below (B5.trans (Below.mono (by go_split_ands; assumption) B5.size)) (Nat.le_refl _)) (h2.below (B5.trans (Below.mono (by go_split_ands; assumption) B5.size)) (Nat.le_refl _))).mono ?_; rintro e wa ⟨pa, qa, pa2, qa2, rfl, oa, oa2, ba⟩)
      | (go_at_call 12; refine (eqChain_any _ _ n _ _ Z Z _ _ n2 _ _ Z2 Z2 _ hl1 hn2 (fx.below (by go_split_ands; assumption) (Nat.le_refl _)) oa.fs (fx2.below (by go_split_ands; assumption) (Nat.le_refl _)) oa2.fs (fun i hi => rfl) (fun i hi => rfl)).mono ?_; rintro e w8 ⟨rfl, bb⟩))
  have B8 : Below w.heap.size w w8 := B5.trans (Below.mono (by go_split_ands; assumption) B5.size)
  clear oa oa2 ba bb
  go_wp2_with fail
  go_ret
  exact ⟨rfl, B8⟩
end Go.Proofs.Ytajcjijgbpmknaa
