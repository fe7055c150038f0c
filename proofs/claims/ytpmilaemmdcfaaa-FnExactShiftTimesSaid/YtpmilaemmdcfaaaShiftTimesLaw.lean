/- Helper: the walk of the law FnExactShiftTimes. Conditions: none. -/
import Derived.Test.YtpmilaemmdcfaaaShiftTimesKey
import Derived.Test.YtpmilaemmdcfaaaMatCopy
import Derived.Test.YtpmilaemmdcfaaaKeys
import Derived.Test.YtpmilaemmdcfaaaBoxes
import Derived.Test.YtpmilaemmdcfaaaMarkMore
import Derived.Deep.RegionHeld3
set_option linter.unusedVariables false
set_option linter.unusedSimpArgs false
namespace Go.Proofs.Ytpmilaemmdcfaaa
open Go.RowKit

set_option maxRecDepth 100000 in
set_option maxHeartbeats 4000000 in
theorem law_FnExactShiftTimes (w : World) (a0a : Option Addr) (n0a c0a : Nat) (Z0a : Nat → Nat) (h0a : FS .f32 w a0a n0a c0a Z0a) (a1a : Option Addr) (n1a c1a : Nat) (Z1a : Nat → Nat) (h1a : FS .f32 w a1a n1a c1a Z1a) :
    Calls Try.prog 7 #[.slice a0a n0a c0a, .slice a1a n1a c1a] w fun e w' => e = .returned (.bool true) ∧ Below w.heap.size w w' := by
  have hm0a : n0a ≤ 9223372036854775807 := by have hh1 := h0a.1; have hh2 := h0a.2.1; unfold maxLen at hh2; omega
  have hm1a : n1a ≤ 9223372036854775807 := by have hh1 := h1a.1; have hh2 := h1a.2.1; unfold maxLen at hh2; omega
  by_cases hbig0a : 1048576 < n0a
  · have hd0a : decide ((1048576 : Int) < n0a) = true := decide_eq_true (by omega)
    go_enter Try.func7, Try.ntmps7
    go_wp2
    go_ret
    exact ⟨rfl, (by repeat first | (with_reducible exact Below.refl _ _) | (with_reducible refine Below.setCell ?_ (by first | exact Nat.le_refl _ | (simp; done) | (simp; omega) | omega) _) | (with_reducible refine Below.alloc ?_ (by first | exact Nat.le_refl _ | (simp; done) | (simp; omega) | omega) _) | (with_reducible refine below_drewN ?_ _) | (with_reducible refine Below.drew ?_))⟩
  have hn0a : n0a ≤ 1048576 := by omega
  have hd0a : decide ((1048576 : Int) < n0a) = false := decide_eq_false (by omega)
  by_cases hbig1a : 1048576 < n1a
  · have hd1a : decide ((1048576 : Int) < n1a) = true := decide_eq_true (by omega)
    go_enter Try.func7, Try.ntmps7
    go_wp2
    go_ret
    exact ⟨rfl, (by repeat first | (with_reducible exact Below.refl _ _) | (with_reducible refine Below.setCell ?_ (by first | exact Nat.le_refl _ | (simp; done) | (simp; omega) | omega) _) | (with_reducible refine Below.alloc ?_ (by first | exact Nat.le_refl _ | (simp; done) | (simp; omega) | omega) _) | (with_reducible refine below_drewN ?_ _) | (with_reducible refine Below.drew ?_))⟩
  have hn1a : n1a ≤ 1048576 := by omega
  have hd1a : decide ((1048576 : Int) < n1a) = false := decide_eq_false (by omega)
  obtain ⟨ok, nAa, VAa, hnrAa, ks, ki⟩ := keyShiftTimes n0a Z0a n1a Z1a hn0a hn1a
  go_enter Try.func7, Try.ntmps7
  go_wp2_with fail
  go_at_call 10
  refine (toFloat32S_own a0a n0a c0a Z0a _ hn0a h0a).mono ?_
  rintro e w1 ⟨ps0a, qs0a, rfl, os0a, b1⟩
  have D1 : Below w.heap.size w w1 := b1
  have s1 : w.heap.size + 0 ≤ w1.heap.size := by have := b1.size; (try simp at this); omega
  have B1 : Below w.heap.size w w1 := D1
  go_wp2_with fail
  go_at_call 10
  refine (toFloat32S_own a1a n1a c1a Z1a _ hn1a (h1a.below B1 (Nat.le_refl _))).mono ?_
  rintro e w2 ⟨ps1a, qs1a, rfl, os1a, b2⟩
  have D2 : Below w1.heap.size w1 w2 := b2
  have s2 : w1.heap.size + 0 ≤ w2.heap.size := by have := b2.size; (try simp at this); omega
  have B2 : Below w.heap.size w w2 := B1.trans (D2.mono B1.size)
  replace os0a := os0a.kept (below_grew D2) (fun q hq => by cases hq)
  go_wp2_with fail
  go_at_call 25
  refine (ks _ _ _ _ _ (Own.fs os0a) (Own.fs os1a)).mono ?_
  rintro e w3 ⟨g1Aa, d1Aa, Y1Aa, rfl, fg1Aa, v1Aa, b3⟩
  have D3 : Below w2.heap.size w2 w3 := b3
  have s3 : w2.heap.size + 0 ≤ w3.heap.size := by have := b3.size; (try simp at this); omega
  have B3 : Below w.heap.size w w3 := B2.trans (D3.mono B2.size)
  replace os0a := os0a.kept (below_grew D3) (fun q hq => by cases hq)
  replace os1a := os1a.kept (below_grew D3) (fun q hq => by cases hq)
  have fs1Aa_ := fg1Aa
  have DS1 := Below.refl w3.heap.size w3
  clear os0a os1a
  go_wp2_with fail
  go_at_call 10
  refine (toFloat32S_own a0a n0a c0a Z0a _ hn0a (h0a.below B3 (Nat.le_refl _))).mono ?_
  rintro e w4 ⟨px0a, qx0a, rfl, ox0a, b4⟩
  have D4 : Below w3.heap.size w3 w4 := b4
  have s4 : w3.heap.size + 0 ≤ w4.heap.size := by have := b4.size; (try simp at this); omega
  have B4 : Below w.heap.size w w4 := B3.trans (D4.mono B3.size)
  replace DS1 := DS1.trans (D4.mono DS1.size)
  go_wp2_with fail
  go_at_call 10
  refine (toFloat32S_own a1a n1a c1a Z1a _ hn1a (h1a.below B4 (Nat.le_refl _))).mono ?_
  rintro e w5 ⟨px1a, qx1a, rfl, ox1a, b5⟩
  have D5 : Below w4.heap.size w4 w5 := b5
  have s5 : w4.heap.size + 0 ≤ w5.heap.size := by have := b5.size; (try simp at this); omega
  have B5 : Below w.heap.size w w5 := B4.trans (D5.mono B4.size)
  replace ox0a := ox0a.kept (below_grew D5) (fun q hq => by cases hq)
  replace DS1 := DS1.trans (D5.mono DS1.size)
  go_wp2_with fail
  go_at_call 26
  refine (ki _ _ _ _ _ (Own.fs ox0a) (Own.fs ox1a)).mono ?_
  rintro e w6 ⟨g2Aa, d2Aa, Y2Aa, rfl, og2Aa, v2Aa, b6⟩
  have D6 : Below w5.heap.size w5 w6 := b6
  have s6 : w5.heap.size + 0 ≤ w6.heap.size := by have := b6.size; (try simp at this); omega
  have B6 : Below w.heap.size w w6 := B5.trans (D6.mono B5.size)
  replace ox0a := ox0a.kept (below_grew D6) (fun q hq => by cases hq)
  replace ox1a := ox1a.kept (below_grew D6) (fun q hq => by cases hq)
  replace DS1 := DS1.trans (D6.mono DS1.size)
  go_wp2_with fail
  go_at_call 13
  refine (eqFloat32S_any _ _ _ _ _ _ _ _ (by omega) (Own.fs og2Aa) (fs1Aa_.below DS1 (Nat.le_refl _)) (fun i hi => (v2Aa i hi).trans (v1Aa i hi).symm)).mono ?_
  rintro e w7 ⟨rfl, me7, hw7⟩
  have b7 := below_of_drewN hw7
  clear hw7
  have D7 : Below w6.heap.size w6 w7 := b7
  have s7 : w6.heap.size + 0 ≤ w7.heap.size := by have := b7.size; (try simp at this); omega
  have B7 : Below w.heap.size w w7 := B6.trans (D7.mono B6.size)
  replace ox0a := ox0a.kept (below_grew D7) (fun q hq => by cases hq)
  replace ox1a := ox1a.kept (below_grew D7) (fun q hq => by cases hq)
  replace og2Aa := og2Aa.kept (below_grew D7) (fun q hq => by cases hq)
  replace DS1 := DS1.trans (D7.mono DS1.size)
  go_wp2_with fail
  go_at_call 10
  refine (toFloat32S_own a0a n0a c0a Z0a _ hn0a (h0a.below B7 (Nat.le_refl _))).mono ?_
  rintro e w8 ⟨py0a, qy0a, rfl, oy0a, b8⟩
  have D8 : Below w7.heap.size w7 w8 := b8
  have s8 : w7.heap.size + 0 ≤ w8.heap.size := by have := b8.size; (try simp at this); omega
  have B8 : Below w.heap.size w w8 := B7.trans (D8.mono B7.size)
  replace ox0a := ox0a.kept (below_grew D8) (fun q hq => by cases hq)
  replace ox1a := ox1a.kept (below_grew D8) (fun q hq => by cases hq)
  replace og2Aa := og2Aa.kept (below_grew D8) (fun q hq => by cases hq)
  replace DS1 := DS1.trans (D8.mono DS1.size)
  go_wp2_with fail
  go_at_call 13
  refine (eqFloat32S_any _ _ n0a _ _ Z0a Z0a _ hn0a (Own.fs ox0a) (Own.fs oy0a) (fun i hi => rfl)).mono ?_
  rintro e w9 ⟨rfl, me9, hw9⟩
  have b9 := below_of_drewN hw9
  clear hw9
  clear oy0a
  have D9 : Below w8.heap.size w8 w9 := b9
  have s9 : w8.heap.size + 0 ≤ w9.heap.size := by have := b9.size; (try simp at this); omega
  have B9 : Below w.heap.size w w9 := B8.trans (D9.mono B8.size)
  replace ox0a := ox0a.kept (below_grew D9) (fun q hq => by cases hq)
  replace ox1a := ox1a.kept (below_grew D9) (fun q hq => by cases hq)
  replace og2Aa := og2Aa.kept (below_grew D9) (fun q hq => by cases hq)
  replace DS1 := DS1.trans (D9.mono DS1.size)
  go_wp2_with fail
  go_at_call 10
  refine (toFloat32S_own a1a n1a c1a Z1a _ hn1a (h1a.below B9 (Nat.le_refl _))).mono ?_
  rintro e w10 ⟨py1a, qy1a, rfl, oy1a, b10⟩
  have D10 : Below w9.heap.size w9 w10 := b10
  have s10 : w9.heap.size + 0 ≤ w10.heap.size := by have := b10.size; (try simp at this); omega
  have B10 : Below w.heap.size w w10 := B9.trans (D10.mono B9.size)
  replace ox0a := ox0a.kept (below_grew D10) (fun q hq => by cases hq)
  replace ox1a := ox1a.kept (below_grew D10) (fun q hq => by cases hq)
  replace og2Aa := og2Aa.kept (below_grew D10) (fun q hq => by cases hq)
  replace DS1 := DS1.trans (D10.mono DS1.size)
  go_wp2_with fail
  go_at_call 13
  refine (eqFloat32S_any _ _ n1a _ _ Z1a Z1a _ hn1a (Own.fs ox1a) (Own.fs oy1a) (fun i hi => rfl)).mono ?_
  rintro e w11 ⟨rfl, me11, hw11⟩
  have b11 := below_of_drewN hw11
  clear hw11
  clear oy1a
  have D11 : Below w10.heap.size w10 w11 := b11
  have s11 : w10.heap.size + 0 ≤ w11.heap.size := by have := b11.size; (try simp at this); omega
  have B11 : Below w.heap.size w w11 := B10.trans (D11.mono B10.size)
  replace ox0a := ox0a.kept (below_grew D11) (fun q hq => by cases hq)
  replace ox1a := ox1a.kept (below_grew D11) (fun q hq => by cases hq)
  replace og2Aa := og2Aa.kept (below_grew D11) (fun q hq => by cases hq)
  replace DS1 := DS1.trans (D11.mono DS1.size)
  go_wp2_with fail
  go_at_call 16
  refine (markFloat32S_more  (w3.heap.size) (w4.heap.size) _ _ _ (1) _ _ (by omega) (by omega) ox0a).mono ?_
  rintro e w12 ⟨rfl, om0a, row12⟩
  have gr12 := Marked.grew row12
  clear row12
  clear ox0a om0a
  have s12 : w11.heap.size ≤ w12.heap.size := gr12.size
  have B12 : Below w.heap.size w w12 := Below.over B11 gr12 (by omega) (by omega)
  replace ox1a := ox1a.over gr12 (by omega)
  replace og2Aa := og2Aa.over gr12 (by omega)
  replace DS1 := Below.over DS1 gr12 (by omega) (by omega)
  go_wp2_with fail
  go_at_call 16
  refine (markFloat32S_more  (w4.heap.size) (w5.heap.size) _ _ _ (1 + n0a) _ _ (by omega) (by omega) ox1a).mono ?_
  rintro e w13 ⟨rfl, om1a, row13⟩
  have gr13 := Marked.grew row13
  clear row13
  clear ox1a om1a
  have s13 : w12.heap.size ≤ w13.heap.size := gr13.size
  have B13 : Below w.heap.size w w13 := Below.over B12 gr13 (by omega) (by omega)
  replace og2Aa := og2Aa.over gr13 (by omega)
  replace DS1 := Below.over DS1 gr13 (by omega) (by omega)
  have hk1 : decide (((1 + n0a + n1a : Nat) : Int) < 0) = false := decide_eq_false (by omega)
  have hk2 := hk1
  simp only [Int.natCast_add, Int.natCast_one, Int.cast_ofNat_Int] at hk2
  go_wp2_with fail
  go_at_call 13
  refine (eqFloat32S_any _ _ _ _ _ _ _ _ (by omega) (Own.fs og2Aa) (fs1Aa_.below DS1 (Nat.le_refl _)) (fun i hi => (v2Aa i hi).trans (v1Aa i hi).symm)).mono ?_
  rintro e w14 ⟨rfl, me14, hw14⟩
  have b14 := below_of_drewN hw14
  clear hw14
  have D14 : Below w13.heap.size w13 w14 := b14
  have s14 : w13.heap.size + 0 ≤ w14.heap.size := by have := b14.size; (try simp at this); omega
  have B14 : Below w.heap.size w w14 := B13.trans (D14.mono B13.size)
  replace og2Aa := og2Aa.kept (below_grew D14) (fun q hq => by cases hq)
  replace DS1 := DS1.trans (D14.mono DS1.size)
  go_wp2_with fail
  go_at_call 16
  refine (markFloat32S_more  (_) (_) _ _ _ (1) _ _ (by omega) (by omega) og2Aa).mono ?_
  rintro e w15 ⟨rfl, omAa, row15⟩
  have gr15 := Marked.grew row15
  clear row15
  clear og2Aa
  have s15 : w14.heap.size ≤ w15.heap.size := gr15.size
  have B15 : Below w.heap.size w w15 := Below.over B14 gr15 (by omega) (by omega)
  replace DS1 := Below.over DS1 gr15 (by omega) (by omega)
  have hq1 : decide (((1 + nAa : Nat) : Int) < 0) = false := decide_eq_false (by omega)
  have hq2 := hq1
  simp only [Int.natCast_add, Int.natCast_one, Int.cast_ofNat_Int] at hq2
  go_wp2_with fail
  go_at_call 17
  refine (heldFloat32S_any _ _ _ (1) _ _ (by omega) (by omega) (Own.fs omAa) (fun i hi => rfl)).mono ?_
  rintro e w16 ⟨rfl, hw16⟩
  have b16 := below_of_same hw16
  clear hw16
  have D16 : Below w15.heap.size w15 w16 := b16
  have s16 : w15.heap.size + 0 ≤ w16.heap.size := by have := b16.size; (try simp at this); omega
  have B16 : Below w.heap.size w w16 := B15.trans (D16.mono B15.size)
  replace omAa := omAa.kept (below_grew D16) (fun q hq => by cases hq)
  replace DS1 := DS1.trans (D16.mono DS1.size)
  go_wp2_with fail
  go_at_call 10
  refine (toFloat32S_own a0a n0a c0a Z0a _ hn0a (h0a.below B16 (Nat.le_refl _))).mono ?_
  rintro e w17 ⟨pz0a, qz0a, rfl, oz0a, b17⟩
  have D17 : Below w16.heap.size w16 w17 := b17
  have s17 : w16.heap.size + 0 ≤ w17.heap.size := by have := b17.size; (try simp at this); omega
  have B17 : Below w.heap.size w w17 := B16.trans (D17.mono B16.size)
  replace omAa := omAa.kept (below_grew D17) (fun q hq => by cases hq)
  replace DS1 := DS1.trans (D17.mono DS1.size)
  go_wp2_with fail
  go_at_call 10
  refine (toFloat32S_own a1a n1a c1a Z1a _ hn1a (h1a.below B17 (Nat.le_refl _))).mono ?_
  rintro e w18 ⟨pz1a, qz1a, rfl, oz1a, b18⟩
  have D18 : Below w17.heap.size w17 w18 := b18
  have s18 : w17.heap.size + 0 ≤ w18.heap.size := by have := b18.size; (try simp at this); omega
  have B18 : Below w.heap.size w w18 := B17.trans (D18.mono B17.size)
  replace omAa := omAa.kept (below_grew D18) (fun q hq => by cases hq)
  replace oz0a := oz0a.kept (below_grew D18) (fun q hq => by cases hq)
  replace DS1 := DS1.trans (D18.mono DS1.size)
  go_wp2_with fail
  go_at_call 26
  refine (ki _ _ _ _ _ (Own.fs oz0a) (Own.fs oz1a)).mono ?_
  rintro e w19 ⟨g3Aa, d3Aa, Y3Aa, rfl, og3Aa, v3Aa, b19⟩
  have D19 : Below w18.heap.size w18 w19 := b19
  have s19 : w18.heap.size + 0 ≤ w19.heap.size := by have := b19.size; (try simp at this); omega
  have B19 : Below w.heap.size w w19 := B18.trans (D19.mono B18.size)
  replace omAa := omAa.kept (below_grew D19) (fun q hq => by cases hq)
  replace oz0a := oz0a.kept (below_grew D19) (fun q hq => by cases hq)
  replace oz1a := oz1a.kept (below_grew D19) (fun q hq => by cases hq)
  replace DS1 := DS1.trans (D19.mono DS1.size)
  clear oz0a oz1a
  go_wp2_with fail
  go_at_call 13
  refine (eqFloat32S_any _ _ _ _ _ _ _ _ (by omega) (Own.fs og3Aa) (fs1Aa_.below DS1 (Nat.le_refl _)) (fun i hi => (v3Aa i hi).trans (v1Aa i hi).symm)).mono ?_
  rintro e w20 ⟨rfl, me20, hw20⟩
  have b20 := below_of_drewN hw20
  clear hw20
  have D20 : Below w19.heap.size w19 w20 := b20
  have s20 : w19.heap.size + 0 ≤ w20.heap.size := by have := b20.size; (try simp at this); omega
  have B20 : Below w.heap.size w w20 := B19.trans (D20.mono B19.size)
  replace omAa := omAa.kept (below_grew D20) (fun q hq => by cases hq)
  replace og3Aa := og3Aa.kept (below_grew D20) (fun q hq => by cases hq)
  replace DS1 := DS1.trans (D20.mono DS1.size)
  go_wp2_with fail
  go_at_call 17
  refine (heldFloat32S_any _ _ _ (1) _ _ (by omega) (by omega) (Own.fs omAa) (fun i hi => rfl)).mono ?_
  rintro e w21 ⟨rfl, hw21⟩
  have b21 := below_of_same hw21
  clear hw21
  have D21 : Below w20.heap.size w20 w21 := b21
  have s21 : w20.heap.size + 0 ≤ w21.heap.size := by have := b21.size; (try simp at this); omega
  have B21 : Below w.heap.size w w21 := B20.trans (D21.mono B20.size)
  replace omAa := omAa.kept (below_grew D21) (fun q hq => by cases hq)
  replace DS1 := DS1.trans (D21.mono DS1.size)
  go_wp2_with fail
  go_ret
  exact ⟨rfl, B21⟩
end Go.Proofs.Ytpmilaemmdcfaaa
