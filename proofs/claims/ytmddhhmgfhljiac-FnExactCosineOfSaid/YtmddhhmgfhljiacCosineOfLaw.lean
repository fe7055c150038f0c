/- Helper: the walk of the law FnExactCosineOf. Conditions: none. -/
import Derived.Test.YtmddhhmgfhljiacCosineKey
import Derived.Test.YtmddhhmgfhljiacMatCopy
import Derived.Test.YtmddhhmgfhljiacKeys
import Derived.Test.YtmddhhmgfhljiacBoxes
import Derived.Test.YtmddhhmgfhljiacMarkMore
import Derived.Deep.RegionHeld3
set_option linter.unusedVariables false
set_option linter.unusedSimpArgs false
namespace Go.Proofs.Ytmddhhmgfhljiac
open Go.RowKit

set_option maxRecDepth 100000 in
set_option maxHeartbeats 4000000 in
theorem law_FnExactCosineOf (w : World) (a0a : Option Addr) (n0a c0a : Nat) (Z0a : Nat → Nat) (h0a : FS .f32 w a0a n0a c0a Z0a) (a1a : Option Addr) (n1a c1a : Nat) (Z1a : Nat → Nat) (h1a : FS .f32 w a1a n1a c1a Z1a) :
    Calls Try.prog 8 #[.slice a0a n0a c0a, .slice a1a n1a c1a] w fun e w' => e = .returned (.bool true) ∧ Below w.heap.size w w' := by
  have hm0a : n0a ≤ 9223372036854775807 := by have hh1 := h0a.1; have hh2 := h0a.2.1; unfold maxLen at hh2; omega
  have hm1a : n1a ≤ 9223372036854775807 := by have hh1 := h1a.1; have hh2 := h1a.2.1; unfold maxLen at hh2; omega
  by_cases hbig0a : 1048576 < n0a
  · have hd0a : decide ((1048576 : Int) < n0a) = true := decide_eq_true (by omega)
    go_enter Try.func8, Try.ntmps8
    go_wp2
    go_ret
    exact ⟨rfl, (by repeat first | (with_reducible exact Below.refl _ _) | (with_reducible refine Below.setCell ?_ (by first | exact Nat.le_refl _ | (simp; done) | (simp; omega) | omega) _) | (with_reducible refine Below.alloc ?_ (by first | exact Nat.le_refl _ | (simp; done) | (simp; omega) | omega) _) | (with_reducible refine below_drewN ?_ _) | (with_reducible refine Below.drew ?_))⟩
  have hn0a : n0a ≤ 1048576 := by omega
  have hd0a : decide ((1048576 : Int) < n0a) = false := decide_eq_false (by omega)
  by_cases hbig1a : 1048576 < n1a
  · have hd1a : decide ((1048576 : Int) < n1a) = true := decide_eq_true (by omega)
    go_enter Try.func8, Try.ntmps8
    go_wp2
    go_ret
    exact ⟨rfl, (by repeat first | (with_reducible exact Below.refl _ _) | (with_reducible refine Below.setCell ?_ (by first | exact Nat.le_refl _ | (simp; done) | (simp; omega) | omega) _) | (with_reducible refine Below.alloc ?_ (by first | exact Nat.le_refl _ | (simp; done) | (simp; omega) | omega) _) | (with_reducible refine below_drewN ?_ _) | (with_reducible refine Below.drew ?_))⟩
  have hn1a : n1a ≤ 1048576 := by omega
  have hd1a : decide ((1048576 : Int) < n1a) = false := decide_eq_false (by omega)
  obtain ⟨ok, XAa, ks, ki⟩ := keyCosineOf n0a Z0a n1a Z1a hn0a hn1a
  go_enter Try.func8, Try.ntmps8
  go_wp2_with fail
  go_at_call 12
  refine (toFloat32S_own a0a n0a c0a Z0a _ hn0a h0a).mono ?_
  rintro e w1 ⟨ps0a, qs0a, rfl, os0a, b1⟩
  have D1 : Below w.heap.size w w1 := b1
  have s1 : w.heap.size + 0 ≤ w1.heap.size := by have := b1.size; (try simp at this); omega
  have B1 : Below w.heap.size w w1 := D1
  go_wp2_with fail
  go_at_call 12
  refine (toFloat32S_own a1a n1a c1a Z1a _ hn1a (h1a.below B1 (Nat.le_refl _))).mono ?_
  rintro e w2 ⟨ps1a, qs1a, rfl, os1a, b2⟩
  have D2 : Below w1.heap.size w1 w2 := b2
  have s2 : w1.heap.size + 0 ≤ w2.heap.size := by have := b2.size; (try simp at this); omega
  have B2 : Below w.heap.size w w2 := B1.trans (D2.mono B1.size)
  replace os0a := os0a.kept (below_grew D2) (fun q hq => by cases hq)
  go_wp2_with fail
  go_at_call 28
  refine (ks _ _ _ _ _ (Own.fs os0a) (Own.fs os1a)).mono ?_
  rintro e w3 ⟨r1Aa, rfl, v1Aa, b3⟩
  have D3 : Below w2.heap.size w2 w3 := b3
  have s3 : w2.heap.size + 0 ≤ w3.heap.size := by have := b3.size; (try simp at this); omega
  have B3 : Below w.heap.size w w3 := B2.trans (D3.mono B2.size)
  replace os0a := os0a.kept (below_grew D3) (fun q hq => by cases hq)
  replace os1a := os1a.kept (below_grew D3) (fun q hq => by cases hq)
  clear os0a os1a
  go_wp2_with fail
  go_at_call 12
  refine (toFloat32S_own a0a n0a c0a Z0a _ hn0a (h0a.below B3 (Nat.le_refl _))).mono ?_
  rintro e w4 ⟨px0a, qx0a, rfl, ox0a, b4⟩
  have D4 : Below w3.heap.size w3 w4 := b4
  have s4 : w3.heap.size + 0 ≤ w4.heap.size := by have := b4.size; (try simp at this); omega
  have B4 : Below w.heap.size w w4 := B3.trans (D4.mono B3.size)
  go_wp2_with fail
  go_at_call 12
  refine (toFloat32S_own a1a n1a c1a Z1a _ hn1a (h1a.below B4 (Nat.le_refl _))).mono ?_
  rintro e w5 ⟨px1a, qx1a, rfl, ox1a, b5⟩
  have D5 : Below w4.heap.size w4 w5 := b5
  have s5 : w4.heap.size + 0 ≤ w5.heap.size := by have := b5.size; (try simp at this); omega
  have B5 : Below w.heap.size w w5 := B4.trans (D5.mono B4.size)
  replace ox0a := ox0a.kept (below_grew D5) (fun q hq => by cases hq)
  go_wp2_with fail
  go_at_call 29
  refine (ki _ _ _ _ _ (Own.fs ox0a) (Own.fs ox1a)).mono ?_
  rintro e w6 ⟨r2Aa, rfl, v2Aa, b6⟩
  have D6 : Below w5.heap.size w5 w6 := b6
  have s6 : w5.heap.size + 0 ≤ w6.heap.size := by have := b6.size; (try simp at this); omega
  have B6 : Below w.heap.size w w6 := B5.trans (D6.mono B5.size)
  replace ox0a := ox0a.kept (below_grew D6) (fun q hq => by cases hq)
  replace ox1a := ox1a.kept (below_grew D6) (fun q hq => by cases hq)
  go_wp2_with (first | (refine wpList_widen rfl _ _ _ rfl _ rfl (by kernel_rfl) Try.underlying42 (by assumption) ?_; intro r m hr) | (go_at_call 23; refine (sameFloat_any _ _ (by assumption) (by assumption) _).mono ?_; rintro e w' ⟨rfl, q1, rfl⟩))
  generalize hd7 : World.drewN w6 _ = w7
  have b7 := below_of_drewN hd7.symm
  clear hd7
  have D7 : Below w6.heap.size w6 w7 := b7
  have s7 : w6.heap.size + 0 ≤ w7.heap.size := by have := b7.size; (try simp at this); omega
  have B7 : Below w.heap.size w w7 := B6.trans (D7.mono B6.size)
  replace ox0a := ox0a.kept (below_grew D7) (fun q hq => by cases hq)
  replace ox1a := ox1a.kept (below_grew D7) (fun q hq => by cases hq)
  go_wp2_with fail
  go_at_call 12
  refine (toFloat32S_own a0a n0a c0a Z0a _ hn0a (h0a.below B7 (Nat.le_refl _))).mono ?_
  rintro e w8 ⟨py0a, qy0a, rfl, oy0a, b8⟩
  have D8 : Below w7.heap.size w7 w8 := b8
  have s8 : w7.heap.size + 0 ≤ w8.heap.size := by have := b8.size; (try simp at this); omega
  have B8 : Below w.heap.size w w8 := B7.trans (D8.mono B7.size)
  replace ox0a := ox0a.kept (below_grew D8) (fun q hq => by cases hq)
  replace ox1a := ox1a.kept (below_grew D8) (fun q hq => by cases hq)
  go_wp2_with fail
  go_at_call 14
  refine (eqFloat32S_any _ _ n0a _ _ Z0a Z0a _ hn0a (Own.fs ox0a) (Own.fs oy0a) (fun i hi => rfl)).mono ?_
  rintro e w9 ⟨rfl, me9, hw9⟩
  have b9 := below_of_drewN hw9
  clear hw9
  clear oy0a
  have D9 : Below w8.heap.size w8 w9 := b9
  have s9 : w8.heap.size + 0 ≤ w9.heap.size := by have := b9.size; (try simp at this); omega
  have B9 : Below w.heap.size w w9 := B8.trans (D9.mono B8.size)
  replace ox0a := ox0a.kept (below_grew D9) (fun q hq => by cases hq)
  replace ox1a := ox1a.kept (below_grew D9) (fun q hq => by cases hq)
  go_wp2_with fail
  go_at_call 12
  refine (toFloat32S_own a1a n1a c1a Z1a _ hn1a (h1a.below B9 (Nat.le_refl _))).mono ?_
  rintro e w10 ⟨py1a, qy1a, rfl, oy1a, b10⟩
  have D10 : Below w9.heap.size w9 w10 := b10
  have s10 : w9.heap.size + 0 ≤ w10.heap.size := by have := b10.size; (try simp at this); omega
  have B10 : Below w.heap.size w w10 := B9.trans (D10.mono B9.size)
  replace ox0a := ox0a.kept (below_grew D10) (fun q hq => by cases hq)
  replace ox1a := ox1a.kept (below_grew D10) (fun q hq => by cases hq)
  go_wp2_with fail
  go_at_call 14
  refine (eqFloat32S_any _ _ n1a _ _ Z1a Z1a _ hn1a (Own.fs ox1a) (Own.fs oy1a) (fun i hi => rfl)).mono ?_
  rintro e w11 ⟨rfl, me11, hw11⟩
  have b11 := below_of_drewN hw11
  clear hw11
  clear oy1a
  have D11 : Below w10.heap.size w10 w11 := b11
  have s11 : w10.heap.size + 0 ≤ w11.heap.size := by have := b11.size; (try simp at this); omega
  have B11 : Below w.heap.size w w11 := B10.trans (D11.mono B10.size)
  replace ox0a := ox0a.kept (below_grew D11) (fun q hq => by cases hq)
  replace ox1a := ox1a.kept (below_grew D11) (fun q hq => by cases hq)
  go_wp2_with fail
  go_ret
  exact ⟨rfl, B11⟩
end Go.Proofs.Ytmddhhmgfhljiac
