/- Helper: the walk of the law FnExactUnitVector. Conditions: none. -/
import Derived.Test.YtmddhhmgfhljiacUnitVec
import Derived.Test.YtmddhhmgfhljiacMatCopy
import Derived.Test.YtmddhhmgfhljiacKeys
import Derived.Test.YtmddhhmgfhljiacBoxes
import Derived.Test.YtmddhhmgfhljiacMarkMore
import Derived.Deep.RegionHeld3
set_option linter.unusedVariables false
set_option linter.unusedSimpArgs false
namespace Go.Proofs.Ytmddhhmgfhljiac
open Go.RowKit

set_option maxRecDepth 100000 in
set_option maxHeartbeats 4000000 in
theorem law_FnExactUnitVector (w : World) (a0a : Option Addr) (n0a c0a : Nat) (Z0a : Nat → Nat) (h0a : FS .f32 w a0a n0a c0a Z0a) :
    Calls Try.prog 7 #[.slice a0a n0a c0a] w fun e w' => e = .returned (.bool true) ∧ Below w.heap.size w w' := by
  have hm0a : n0a ≤ 9223372036854775807 := by have hh1 := h0a.1; have hh2 := h0a.2.1; unfold maxLen at hh2; omega
  by_cases hbig0a : 1048576 < n0a
  · have hd0a : decide ((1048576 : Int) < n0a) = true := decide_eq_true (by omega)
    go_enter Try.func7, Try.ntmps7
    go_wp2
    go_ret
    exact ⟨rfl, (by repeat first | (with_reducible exact Below.refl _ _) | (with_reducible refine Below.setCell ?_ (by first | exact Nat.le_refl _ | (simp; done) | (simp; omega) | omega) _) | (with_reducible refine Below.alloc ?_ (by first | exact Nat.le_refl _ | (simp; done) | (simp; omega) | omega) _) | (with_reducible refine below_drewN ?_ _) | (with_reducible refine Below.drew ?_))⟩
  have hn0a : n0a ≤ 1048576 := by omega
  have hd0a : decide ((1048576 : Int) < n0a) = false := decide_eq_false (by omega)
  obtain ⟨ok, nAa, VAa, hnrAa, ks, ki⟩ := keyUnitVector n0a Z0a hn0a
  go_enter Try.func7, Try.ntmps7
  go_wp2_with fail
  go_at_call 12
  refine (toFloat32S_own a0a n0a c0a Z0a _ hn0a h0a).mono ?_
  rintro e w1 ⟨ps0a, qs0a, rfl, os0a, b1⟩
  have D1 : Below w.heap.size w w1 := b1
  have s1 : w.heap.size + 0 ≤ w1.heap.size := by have := b1.size; (try simp at this); omega
  have B1 : Below w.heap.size w w1 := D1
  go_wp2_with fail
  go_at_call 26
  refine (ks _ _ _ (Own.fs os0a)).mono ?_
  rintro e w2 ⟨g1Aa, d1Aa, Y1Aa, rfl, fg1Aa, v1Aa, b2⟩
  have D2 : Below w1.heap.size w1 w2 := b2
  have s2 : w1.heap.size + 0 ≤ w2.heap.size := by have := b2.size; (try simp at this); omega
  have B2 : Below w.heap.size w w2 := B1.trans (D2.mono B1.size)
  replace os0a := os0a.kept (below_grew D2) (fun q hq => by cases hq)
  have fs1Aa_ := fg1Aa
  have DS1 := Below.refl w2.heap.size w2
  clear os0a
  go_wp2_with fail
  go_at_call 12
  refine (toFloat32S_own a0a n0a c0a Z0a _ hn0a (h0a.below B2 (Nat.le_refl _))).mono ?_
  rintro e w3 ⟨px0a, qx0a, rfl, ox0a, b3⟩
  have D3 : Below w2.heap.size w2 w3 := b3
  have s3 : w2.heap.size + 0 ≤ w3.heap.size := by have := b3.size; (try simp at this); omega
  have B3 : Below w.heap.size w w3 := B2.trans (D3.mono B2.size)
  replace DS1 := DS1.trans (D3.mono DS1.size)
  go_wp2_with fail
  go_at_call 27
  refine (ki _ _ _ (Own.fs ox0a)).mono ?_
  rintro e w4 ⟨g2Aa, d2Aa, Y2Aa, rfl, og2Aa, v2Aa, b4⟩
  have D4 : Below w3.heap.size w3 w4 := b4
  have s4 : w3.heap.size + 0 ≤ w4.heap.size := by have := b4.size; (try simp at this); omega
  have B4 : Below w.heap.size w w4 := B3.trans (D4.mono B3.size)
  replace ox0a := ox0a.kept (below_grew D4) (fun q hq => by cases hq)
  replace DS1 := DS1.trans (D4.mono DS1.size)
  go_wp2_with fail
  go_at_call 14
  refine (eqFloat32S_any _ _ _ _ _ _ _ _ (by omega) (Own.fs og2Aa) (fs1Aa_.below DS1 (Nat.le_refl _)) (fun i hi => (v2Aa i hi).trans (v1Aa i hi).symm)).mono ?_
  rintro e w5 ⟨rfl, me5, hw5⟩
  have b5 := below_of_drewN hw5
  clear hw5
  have D5 : Below w4.heap.size w4 w5 := b5
  have s5 : w4.heap.size + 0 ≤ w5.heap.size := by have := b5.size; (try simp at this); omega
  have B5 : Below w.heap.size w w5 := B4.trans (D5.mono B4.size)
  replace ox0a := ox0a.kept (below_grew D5) (fun q hq => by cases hq)
  replace og2Aa := og2Aa.kept (below_grew D5) (fun q hq => by cases hq)
  replace DS1 := DS1.trans (D5.mono DS1.size)
  go_wp2_with fail
  go_at_call 12
  refine (toFloat32S_own a0a n0a c0a Z0a _ hn0a (h0a.below B5 (Nat.le_refl _))).mono ?_
  rintro e w6 ⟨py0a, qy0a, rfl, oy0a, b6⟩
  have D6 : Below w5.heap.size w5 w6 := b6
  have s6 : w5.heap.size + 0 ≤ w6.heap.size := by have := b6.size; (try simp at this); omega
  have B6 : Below w.heap.size w w6 := B5.trans (D6.mono B5.size)
  replace ox0a := ox0a.kept (below_grew D6) (fun q hq => by cases hq)
  replace og2Aa := og2Aa.kept (below_grew D6) (fun q hq => by cases hq)
  replace DS1 := DS1.trans (D6.mono DS1.size)
  go_wp2_with fail
  go_at_call 14
  refine (eqFloat32S_any _ _ n0a _ _ Z0a Z0a _ hn0a (Own.fs ox0a) (Own.fs oy0a) (fun i hi => rfl)).mono ?_
  rintro e w7 ⟨rfl, me7, hw7⟩
  have b7 := below_of_drewN hw7
  clear hw7
  clear oy0a
  have D7 : Below w6.heap.size w6 w7 := b7
  have s7 : w6.heap.size + 0 ≤ w7.heap.size := by have := b7.size; (try simp at this); omega
  have B7 : Below w.heap.size w w7 := B6.trans (D7.mono B6.size)
  replace ox0a := ox0a.kept (below_grew D7) (fun q hq => by cases hq)
  replace og2Aa := og2Aa.kept (below_grew D7) (fun q hq => by cases hq)
  replace DS1 := DS1.trans (D7.mono DS1.size)
  go_wp2_with fail
  go_at_call 17
  refine (markFloat32S_more  (w2.heap.size) (w3.heap.size) _ _ _ (1) _ _ (by omega) (by omega) ox0a).mono ?_
  rintro e w8 ⟨rfl, om0a, row8⟩
  have gr8 := Marked.grew row8
  clear row8
  clear ox0a om0a
  have s8 : w7.heap.size ≤ w8.heap.size := gr8.size
  have B8 : Below w.heap.size w w8 := Below.over B7 gr8 (by omega) (by omega)
  replace og2Aa := og2Aa.over gr8 (by omega)
  replace DS1 := Below.over DS1 gr8 (by omega) (by omega)
  have hk1 : decide (((1 + n0a : Nat) : Int) < 0) = false := decide_eq_false (by omega)
  have hk2 := hk1
  simp only [Int.natCast_add, Int.natCast_one, Int.cast_ofNat_Int] at hk2
  go_wp2_with fail
  go_at_call 14
  refine (eqFloat32S_any _ _ _ _ _ _ _ _ (by omega) (Own.fs og2Aa) (fs1Aa_.below DS1 (Nat.le_refl _)) (fun i hi => (v2Aa i hi).trans (v1Aa i hi).symm)).mono ?_
  rintro e w9 ⟨rfl, me9, hw9⟩
  have b9 := below_of_drewN hw9
  clear hw9
  have D9 : Below w8.heap.size w8 w9 := b9
  have s9 : w8.heap.size + 0 ≤ w9.heap.size := by have := b9.size; (try simp at this); omega
  have B9 : Below w.heap.size w w9 := B8.trans (D9.mono B8.size)
  replace og2Aa := og2Aa.kept (below_grew D9) (fun q hq => by cases hq)
  replace DS1 := DS1.trans (D9.mono DS1.size)
  go_wp2_with fail
  go_at_call 17
  refine (markFloat32S_more  (_) (_) _ _ _ (1) _ _ (by omega) (by omega) og2Aa).mono ?_
  rintro e w10 ⟨rfl, omAa, row10⟩
  have gr10 := Marked.grew row10
  clear row10
  clear og2Aa
  have s10 : w9.heap.size ≤ w10.heap.size := gr10.size
  have B10 : Below w.heap.size w w10 := Below.over B9 gr10 (by omega) (by omega)
  replace DS1 := Below.over DS1 gr10 (by omega) (by omega)
  have hq1 : decide (((1 + nAa : Nat) : Int) < 0) = false := decide_eq_false (by omega)
  have hq2 := hq1
  simp only [Int.natCast_add, Int.natCast_one, Int.cast_ofNat_Int] at hq2
  go_wp2_with fail
  go_at_call 18
  refine (heldFloat32S_any _ _ _ (1) _ _ (by omega) (by omega) (Own.fs omAa) (fun i hi => rfl)).mono ?_
  rintro e w11 ⟨rfl, hw11⟩
  have b11 := below_of_same hw11
  clear hw11
  have D11 : Below w10.heap.size w10 w11 := b11
  have s11 : w10.heap.size + 0 ≤ w11.heap.size := by have := b11.size; (try simp at this); omega
  have B11 : Below w.heap.size w w11 := B10.trans (D11.mono B10.size)
  replace omAa := omAa.kept (below_grew D11) (fun q hq => by cases hq)
  replace DS1 := DS1.trans (D11.mono DS1.size)
  go_wp2_with fail
  go_at_call 12
  refine (toFloat32S_own a0a n0a c0a Z0a _ hn0a (h0a.below B11 (Nat.le_refl _))).mono ?_
  rintro e w12 ⟨pz0a, qz0a, rfl, oz0a, b12⟩
  have D12 : Below w11.heap.size w11 w12 := b12
  have s12 : w11.heap.size + 0 ≤ w12.heap.size := by have := b12.size; (try simp at this); omega
  have B12 : Below w.heap.size w w12 := B11.trans (D12.mono B11.size)
  replace omAa := omAa.kept (below_grew D12) (fun q hq => by cases hq)
  replace DS1 := DS1.trans (D12.mono DS1.size)
  go_wp2_with fail
  go_at_call 27
  refine (ki _ _ _ (Own.fs oz0a)).mono ?_
  rintro e w13 ⟨g3Aa, d3Aa, Y3Aa, rfl, og3Aa, v3Aa, b13⟩
  have D13 : Below w12.heap.size w12 w13 := b13
  have s13 : w12.heap.size + 0 ≤ w13.heap.size := by have := b13.size; (try simp at this); omega
  have B13 : Below w.heap.size w w13 := B12.trans (D13.mono B12.size)
  replace omAa := omAa.kept (below_grew D13) (fun q hq => by cases hq)
  replace oz0a := oz0a.kept (below_grew D13) (fun q hq => by cases hq)
  replace DS1 := DS1.trans (D13.mono DS1.size)
  clear oz0a
  go_wp2_with fail
  go_at_call 14
  refine (eqFloat32S_any _ _ _ _ _ _ _ _ (by omega) (Own.fs og3Aa) (fs1Aa_.below DS1 (Nat.le_refl _)) (fun i hi => (v3Aa i hi).trans (v1Aa i hi).symm)).mono ?_
  rintro e w14 ⟨rfl, me14, hw14⟩
  have b14 := below_of_drewN hw14
  clear hw14
  have D14 : Below w13.heap.size w13 w14 := b14
  have s14 : w13.heap.size + 0 ≤ w14.heap.size := by have := b14.size; (try simp at this); omega
  have B14 : Below w.heap.size w w14 := B13.trans (D14.mono B13.size)
  replace omAa := omAa.kept (below_grew D14) (fun q hq => by cases hq)
  replace og3Aa := og3Aa.kept (below_grew D14) (fun q hq => by cases hq)
  replace DS1 := DS1.trans (D14.mono DS1.size)
  go_wp2_with fail
  go_at_call 18
  refine (heldFloat32S_any _ _ _ (1) _ _ (by omega) (by omega) (Own.fs omAa) (fun i hi => rfl)).mono ?_
  rintro e w15 ⟨rfl, hw15⟩
  have b15 := below_of_same hw15
  clear hw15
  have D15 : Below w14.heap.size w14 w15 := b15
  have s15 : w14.heap.size + 0 ≤ w15.heap.size := by have := b15.size; (try simp at this); omega
  have B15 : Below w.heap.size w w15 := B14.trans (D15.mono B14.size)
  replace omAa := omAa.kept (below_grew D15) (fun q hq => by cases hq)
  replace DS1 := DS1.trans (D15.mono DS1.size)
  go_wp2_with fail
  go_ret
  exact ⟨rfl, B15⟩
end Go.Proofs.Ytmddhhmgfhljiac
