/- Helper: the walk of the law FnExactOrderSign. Conditions: none. -/
import Derived.Test.YtffmjfgechdjjaaOrderMore
import Derived.Test.YtffmjfgechdjjaaMatCopy
import Derived.Test.YtffmjfgechdjjaaIntLaw
import Derived.Deep.RegionHeld3
set_option linter.unusedVariables false
set_option linter.unusedSimpArgs false
namespace Go.Proofs.Ytffmjfgechdjjaa
open Go.RowKit

set_option maxRecDepth 100000 in
set_option maxHeartbeats 4000000 in
theorem law_FnExactOrderSign (w : World) (a0 : Option Addr) (n0 c0 : Nat) (Z0 : Nat → Int) (h0 : IS .i64 w a0 n0 c0 Z0) :
    Calls Try.prog 5 #[.slice a0 n0 c0] w fun e w' => e = .returned (.bool true) ∧ Below w.heap.size w w' := by
  have hm0 : n0 ≤ 9223372036854775807 := by have hh1 := h0.1; have hh2 := h0.2.1; unfold maxLen at hh2; omega
  by_cases hbig0 : 1048576 < n0
  · have hd0 : decide ((1048576 : Int) < n0) = true := decide_eq_true (by omega)
    go_enter Try.func5, Try.ntmps5
    go_wp2
    go_ret
    exact ⟨rfl, (by repeat first | (with_reducible exact Below.refl _ _) | (with_reducible refine Below.setCell ?_ (by first | exact Nat.le_refl _ | (simp; done) | (simp; omega) | omega) _) | (with_reducible refine Below.alloc ?_ (by first | exact Nat.le_refl _ | (simp; done) | (simp; omega) | omega) _) | (with_reducible refine below_drewN ?_ _) | (with_reducible refine Below.drew ?_))⟩
  have hn0 : n0 ≤ 1048576 := by omega
  have hd0 : decide ((1048576 : Int) < n0) = false := decide_eq_false (by omega)
  obtain ⟨ok, Xr, ks, ki⟩ := keyOrderSign n0 Z0 hn0 
  go_enter Try.func5, Try.ntmps5
  go_wp2_with fail
  go_at_call 10
  refine (toInt64S_own a0 n0 c0 Z0 _ hn0 h0).mono ?_
  rintro e w1 ⟨ps0, qs0, rfl, os0, b1⟩
  have D1 : Below w.heap.size w w1 := b1
  have s1 : w.heap.size + 0 ≤ w1.heap.size := by have := b1.size; (try simp at this); omega
  have B1 : Below w.heap.size w w1 := D1
  go_wp2_with fail
  go_at_call 17
  refine (ks _ _ _ (OwnI.is os0)).mono ?_
  rintro e w2 ⟨rfl, b2⟩
  have D2 : Below w1.heap.size w1 w2 := b2
  have s2 : w1.heap.size + 0 ≤ w2.heap.size := by have := b2.size; (try simp at this); omega
  have B2 : Below w.heap.size w w2 := B1.trans (D2.mono B1.size)
  replace os0 := os0.kept (below_grew D2) (fun q hq => by cases hq)
  clear os0
  go_wp2_with fail
  go_at_call 10
  refine (toInt64S_own a0 n0 c0 Z0 _ hn0 (h0.below B2 (Nat.le_refl _))).mono ?_
  rintro e w3 ⟨px0, qx0, rfl, ox0, b3⟩
  have D3 : Below w2.heap.size w2 w3 := b3
  have s3 : w2.heap.size + 0 ≤ w3.heap.size := by have := b3.size; (try simp at this); omega
  have B3 : Below w.heap.size w w3 := B2.trans (D3.mono B2.size)
  go_wp2_with fail
  go_at_call 18
  refine (ki _ _ _ (OwnI.is ox0)).mono ?_
  rintro e w4 ⟨rfl, b4⟩
  have D4 : Below w3.heap.size w3 w4 := b4
  have s4 : w3.heap.size + 0 ≤ w4.heap.size := by have := b4.size; (try simp at this); omega
  have B4 : Below w.heap.size w w4 := B3.trans (D4.mono B3.size)
  replace ox0 := ox0.kept (below_grew D4) (fun q hq => by cases hq)
  go_wp2_with fail
  go_at_call 10
  refine (toInt64S_own a0 n0 c0 Z0 _ hn0 (h0.below B4 (Nat.le_refl _))).mono ?_
  rintro e w5 ⟨py0, qy0, rfl, oy0, b5⟩
  have D5 : Below w4.heap.size w4 w5 := b5
  have s5 : w4.heap.size + 0 ≤ w5.heap.size := by have := b5.size; (try simp at this); omega
  have B5 : Below w.heap.size w w5 := B4.trans (D5.mono B4.size)
  replace ox0 := ox0.kept (below_grew D5) (fun q hq => by cases hq)
  go_wp2_with fail
  go_at_call 12
  refine (eqInt64S_any _ _ n0 _ _ Z0 Z0 _ hn0 (OwnI.is ox0) (OwnI.is oy0) (fun i hi => rfl)).mono ?_
  rintro e w6 ⟨rfl, me6, hw6⟩
  have b6 := below_of_drewN hw6
  clear hw6
  clear oy0
  have D6 : Below w5.heap.size w5 w6 := b6
  have s6 : w5.heap.size + 0 ≤ w6.heap.size := by have := b6.size; (try simp at this); omega
  have B6 : Below w.heap.size w w6 := B5.trans (D6.mono B5.size)
  replace ox0 := ox0.kept (below_grew D6) (fun q hq => by cases hq)
  go_wp2_with fail
  go_ret
  exact ⟨rfl, B6⟩
end Go.Proofs.Ytffmjfgechdjjaa
