/- Helper: the walk of the law FnExactBackOrder. Conditions: none. -/
import Derived.Test.YtffmjfgechdjjaaBackKey
import Derived.Test.YtffmjfgechdjjaaMatCopy
import Derived.Test.YtffmjfgechdjjaaIntLaw
import Derived.Deep.RegionHeld3
set_option linter.unusedVariables false
set_option linter.unusedSimpArgs false
namespace Go.Proofs.Ytffmjfgechdjjaa
open Go.RowKit

set_option maxRecDepth 100000 in
set_option maxHeartbeats 4000000 in
theorem law_FnExactBackOrder (w : World) (a0 : Option Addr) (n0 c0 : Nat) (Z0 : Nat → Int) (h0 : IS .i64 w a0 n0 c0 Z0) :
    Calls Try.prog 4 #[.slice a0 n0 c0] w fun e w' => e = .returned (.bool true) ∧ Below w.heap.size w w' := by
  have hm0 : n0 ≤ 9223372036854775807 := by have hh1 := h0.1; have hh2 := h0.2.1; unfold maxLen at hh2; omega
  by_cases hbig0 : 1048576 < n0
  · have hd0 : decide ((1048576 : Int) < n0) = true := decide_eq_true (by omega)
    go_enter Try.func4, Try.ntmps4
    go_wp2
    go_ret
    exact ⟨rfl, (by repeat first | (with_reducible exact Below.refl _ _) | (with_reducible refine Below.setCell ?_ (by first | exact Nat.le_refl _ | (simp; done) | (simp; omega) | omega) _) | (with_reducible refine Below.alloc ?_ (by first | exact Nat.le_refl _ | (simp; done) | (simp; omega) | omega) _) | (with_reducible refine below_drewN ?_ _) | (with_reducible refine Below.drew ?_))⟩
  have hn0 : n0 ≤ 1048576 := by omega
  have hd0 : decide ((1048576 : Int) < n0) = false := decide_eq_false (by omega)
  obtain ⟨ok, nr, Vr, hnr, ks, ki⟩ := keyBackOrder n0 Z0 hn0 
  go_enter Try.func4, Try.ntmps4
  go_wp2_with fail
  go_at_call 10
  refine (toInt64S_own a0 n0 c0 Z0 _ hn0 h0).mono ?_
  rintro e w1 ⟨ps0, qs0, rfl, os0, b1⟩
  have D1 : Below w.heap.size w w1 := b1
  have s1 : w.heap.size + 0 ≤ w1.heap.size := by have := b1.size; (try simp at this); omega
  have B1 : Below w.heap.size w w1 := D1
  go_wp2_with fail
  go_at_call 13
  refine (ks _ _ _ (OwnI.is os0)).mono ?_
  rintro e w2 ⟨g1, d1, Y1, rfl, fg1, v1, b2⟩
  have D2 : Below w1.heap.size w1 w2 := b2
  have s2 : w1.heap.size + 0 ≤ w2.heap.size := by have := b2.size; (try simp at this); omega
  have B2 : Below w.heap.size w w2 := B1.trans (D2.mono B1.size)
  replace os0 := os0.kept (below_grew D2) (fun q hq => by cases hq)
  have fs1_ := fg1
  have DS1 := Below.refl w2.heap.size w2
  clear os0
  go_wp2_with fail
  go_at_call 10
  refine (toInt64S_own a0 n0 c0 Z0 _ hn0 (h0.below B2 (Nat.le_refl _))).mono ?_
  rintro e w3 ⟨px0, qx0, rfl, ox0, b3⟩
  have D3 : Below w2.heap.size w2 w3 := b3
  have s3 : w2.heap.size + 0 ≤ w3.heap.size := by have := b3.size; (try simp at this); omega
  have B3 : Below w.heap.size w w3 := B2.trans (D3.mono B2.size)
  replace DS1 := DS1.trans (D3.mono DS1.size)
  go_wp2_with fail
  go_at_call 14
  refine (ki _ _ _ (OwnI.is ox0)).mono ?_
  rintro e w4 ⟨g2, d2, Y2, rfl, og2, v2, b4⟩
  have D4 : Below w3.heap.size w3 w4 := b4
  have s4 : w3.heap.size + 0 ≤ w4.heap.size := by have := b4.size; (try simp at this); omega
  have B4 : Below w.heap.size w w4 := B3.trans (D4.mono B3.size)
  replace ox0 := ox0.kept (below_grew D4) (fun q hq => by cases hq)
  replace DS1 := DS1.trans (D4.mono DS1.size)
  go_wp2_with fail
  go_at_call 12
  refine (eqInt64S_any _ _ nr _ _ Y2 Y1 _ (by omega) (OwnI.is og2) (fs1_.below DS1 (Nat.le_refl _)) (fun i hi => (v2 i hi).trans (v1 i hi).symm)).mono ?_
  rintro e w5 ⟨rfl, me5, hw5⟩
  have b5 := below_of_drewN hw5
  clear hw5
  have D5 : Below w4.heap.size w4 w5 := b5
  have s5 : w4.heap.size + 0 ≤ w5.heap.size := by have := b5.size; (try simp at this); omega
  have B5 : Below w.heap.size w w5 := B4.trans (D5.mono B4.size)
  replace ox0 := ox0.kept (below_grew D5) (fun q hq => by cases hq)
  replace og2 := og2.kept (below_grew D5) (fun q hq => by cases hq)
  replace DS1 := DS1.trans (D5.mono DS1.size)
  go_wp2_with fail
  go_at_call 10
  refine (toInt64S_own a0 n0 c0 Z0 _ hn0 (h0.below B5 (Nat.le_refl _))).mono ?_
  rintro e w6 ⟨py0, qy0, rfl, oy0, b6⟩
  have D6 : Below w5.heap.size w5 w6 := b6
  have s6 : w5.heap.size + 0 ≤ w6.heap.size := by have := b6.size; (try simp at this); omega
  have B6 : Below w.heap.size w w6 := B5.trans (D6.mono B5.size)
  replace ox0 := ox0.kept (below_grew D6) (fun q hq => by cases hq)
  replace og2 := og2.kept (below_grew D6) (fun q hq => by cases hq)
  replace DS1 := DS1.trans (D6.mono DS1.size)
  go_wp2_with fail
  go_at_call 12
  refine (eqInt64S_any _ _ n0 _ _ Z0 Z0 _ hn0 (OwnI.is ox0) (OwnI.is oy0) (fun i hi => rfl)).mono ?_
  rintro e w7 ⟨rfl, me7, hw7⟩
  have b7 := below_of_drewN hw7
  clear hw7
  clear oy0
  have D7 : Below w6.heap.size w6 w7 := b7
  have s7 : w6.heap.size + 0 ≤ w7.heap.size := by have := b7.size; (try simp at this); omega
  have B7 : Below w.heap.size w w7 := B6.trans (D7.mono B6.size)
  replace ox0 := ox0.kept (below_grew D7) (fun q hq => by cases hq)
  replace og2 := og2.kept (below_grew D7) (fun q hq => by cases hq)
  replace DS1 := DS1.trans (D7.mono DS1.size)
  go_wp2_with fail
  go_at_call 15
  refine (markInt64S_any _ _ _ n0 _ (1) Z0 _ hn0 (by omega) ox0).mono ?_
  rintro e w8 ⟨rfl, om0, row8, gr8, hr8⟩
  clear ox0
  have s8 : w7.heap.size ≤ w8.heap.size := gr8.size
  have B8 : Below w.heap.size w w8 := B7.grown gr8 B7.size (fun q hq => by have := hr8 q hq; omega)
  replace og2 := og2.kept gr8 (fun q hq => by have := hr8 q hq; omega)
  replace DS1 := DS1.grown gr8 DS1.size (fun q hq => by have := hr8 q hq; omega)
  clear om0
  have hk1 : decide (((1 + n0 : Nat) : Int) < 0) = false := decide_eq_false (by omega)
  have hk2 := hk1
  simp only [Int.natCast_add, Int.natCast_one, Int.cast_ofNat_Int] at hk2
  go_wp2_with fail
  go_at_call 12
  refine (eqInt64S_any _ _ nr _ _ Y2 Y1 _ (by omega) (OwnI.is og2) (fs1_.below DS1 (Nat.le_refl _)) (fun i hi => (v2 i hi).trans (v1 i hi).symm)).mono ?_
  rintro e w9 ⟨rfl, me9, hw9⟩
  have b9 := below_of_drewN hw9
  clear hw9
  have D9 : Below w8.heap.size w8 w9 := b9
  have s9 : w8.heap.size + 0 ≤ w9.heap.size := by have := b9.size; (try simp at this); omega
  have B9 : Below w.heap.size w w9 := B8.trans (D9.mono B8.size)
  replace og2 := og2.kept (below_grew D9) (fun q hq => by cases hq)
  replace DS1 := DS1.trans (D9.mono DS1.size)
  go_wp2_with fail
  go_at_call 15
  refine (markInt64S_any _ _ _ nr _ 1 Y2 _ (by omega) (by omega) og2).mono ?_
  rintro e w10 ⟨rfl, om, row10, gr10, hr10⟩
  clear og2
  have s10 : w9.heap.size ≤ w10.heap.size := gr10.size
  have B10 : Below w.heap.size w w10 := B9.grown gr10 B9.size (fun q hq => by have := hr10 q hq; omega)
  replace DS1 := DS1.grown gr10 DS1.size (fun q hq => by have := hr10 q hq; omega)
  have hq1 : decide (((1 + nr : Nat) : Int) < 0) = false := decide_eq_false (by omega)
  have hq2 := hq1
  simp only [Int.natCast_add, Int.natCast_one, Int.cast_ofNat_Int] at hq2
  go_wp2_with fail
  go_at_call 16
  refine (heldInt64S_any _ nr _ 1 _ _ (by omega) (by omega) (OwnI.is om) (fun i hi => rfl)).mono ?_
  rintro e w11 ⟨rfl, hw11⟩
  have b11 := below_of_same hw11
  clear hw11
  have D11 : Below w10.heap.size w10 w11 := b11
  have s11 : w10.heap.size + 0 ≤ w11.heap.size := by have := b11.size; (try simp at this); omega
  have B11 : Below w.heap.size w w11 := B10.trans (D11.mono B10.size)
  replace om := om.kept (below_grew D11) (fun q hq => by cases hq)
  replace DS1 := DS1.trans (D11.mono DS1.size)
  go_wp2_with fail
  go_at_call 10
  refine (toInt64S_own a0 n0 c0 Z0 _ hn0 (h0.below B11 (Nat.le_refl _))).mono ?_
  rintro e w12 ⟨pz0, qz0, rfl, oz0, b12⟩
  have D12 : Below w11.heap.size w11 w12 := b12
  have s12 : w11.heap.size + 0 ≤ w12.heap.size := by have := b12.size; (try simp at this); omega
  have B12 : Below w.heap.size w w12 := B11.trans (D12.mono B11.size)
  replace om := om.kept (below_grew D12) (fun q hq => by cases hq)
  replace DS1 := DS1.trans (D12.mono DS1.size)
  go_wp2_with fail
  go_at_call 14
  refine (ki _ _ _ (OwnI.is oz0)).mono ?_
  rintro e w13 ⟨g3, d3, Y3, rfl, og3, v3, b13⟩
  have D13 : Below w12.heap.size w12 w13 := b13
  have s13 : w12.heap.size + 0 ≤ w13.heap.size := by have := b13.size; (try simp at this); omega
  have B13 : Below w.heap.size w w13 := B12.trans (D13.mono B12.size)
  replace om := om.kept (below_grew D13) (fun q hq => by cases hq)
  replace oz0 := oz0.kept (below_grew D13) (fun q hq => by cases hq)
  replace DS1 := DS1.trans (D13.mono DS1.size)
  clear oz0
  go_wp2_with fail
  go_at_call 12
  refine (eqInt64S_any _ _ nr _ _ Y3 Y1 _ (by omega) (OwnI.is og3) (fs1_.below DS1 (Nat.le_refl _)) (fun i hi => (v3 i hi).trans (v1 i hi).symm)).mono ?_
  rintro e w14 ⟨rfl, me14, hw14⟩
  have b14 := below_of_drewN hw14
  clear hw14
  have D14 : Below w13.heap.size w13 w14 := b14
  have s14 : w13.heap.size + 0 ≤ w14.heap.size := by have := b14.size; (try simp at this); omega
  have B14 : Below w.heap.size w w14 := B13.trans (D14.mono B13.size)
  replace om := om.kept (below_grew D14) (fun q hq => by cases hq)
  replace og3 := og3.kept (below_grew D14) (fun q hq => by cases hq)
  replace DS1 := DS1.trans (D14.mono DS1.size)
  go_wp2_with fail
  go_at_call 16
  refine (heldInt64S_any _ nr _ 1 _ _ (by omega) (by omega) (OwnI.is om) (fun i hi => rfl)).mono ?_
  rintro e w15 ⟨rfl, hw15⟩
  have b15 := below_of_same hw15
  clear hw15
  have D15 : Below w14.heap.size w14 w15 := b15
  have s15 : w14.heap.size + 0 ≤ w15.heap.size := by have := b15.size; (try simp at this); omega
  have B15 : Below w.heap.size w w15 := B14.trans (D15.mono B14.size)
  replace om := om.kept (below_grew D15) (fun q hq => by cases hq)
  replace DS1 := DS1.trans (D15.mono DS1.size)
  go_wp2_with fail
  go_ret
  exact ⟨rfl, B15⟩
end Go.Proofs.Ytffmjfgechdjjaa
