/- Helper: the walk of the law FnExactCarrySum. Conditions: none. -/
import Derived.Test.YtpgjfanacnbfkacVecSums
import Derived.Test.YtpgjfanacnbfkacMatLaw
set_option linter.unusedVariables false
namespace Go.Proofs.Ytpgjfanacnbfkac
open Go.RowKit

set_option maxHeartbeats 1000000 in
theorem law_FnExactCarrySum (w : World) (a0 : Option Addr) (n0 c0 : Nat) (Z0 : Nat → Nat) (h0 : FS .f32 w a0 n0 c0 Z0) :
    Calls Try.prog 8 #[.slice a0 n0 c0] w fun e w' => e = .returned (.bool true) ∧ Below w.heap.size w w' := by
  have hm0 : n0 ≤ 9223372036854775807 := by have hh1 := h0.1; have hh2 := h0.2.1; unfold maxLen at hh2; omega
  by_cases hbig0 : 1048576 < n0
  · have hd0 : decide ((1048576 : Int) < n0) = true := decide_eq_true (by omega)
    go_enter Try.func8, Try.ntmps8
    go_wp2
    go_ret
    exact ⟨rfl, Below.refl _ _⟩
  have hn0 : n0 ≤ 1048576 := by omega
  have hd0 : decide ((1048576 : Int) < n0) = false := decide_eq_false (by omega)
  go_enter Try.func8, Try.ntmps8
  go_wp2_with fail
  go_at_call 20
  refine (toFloat32S_own a0 n0 c0 Z0 _ hn0 (h0.below (Below.refl w.heap.size w) (Nat.le_refl _))).mono ?_
  rintro e w1 ⟨p1, q1, rfl, os0, b1⟩
  have bl1 : Below w.heap.size w w1 := (Below.refl w.heap.size w).trans (b1.mono (Below.refl w.heap.size w).size)
  have fs0 := os0.fs
  go_wp2_with fail
  go_at_call 25
  refine (specCarry_any _ n0 _ Z0 _ hn0 fs0).mono ?_
  rintro e w' ⟨r1, s1, rfl, hr1, hs1, m1, rfl⟩
  have bl2 : Below w.heap.size w (w1.drewN m1) := below_drewN bl1 m1
  go_wp2_with fail
  go_at_call 20
  refine (toFloat32S_own a0 n0 c0 Z0 _ hn0 (h0.below bl2 (Nat.le_refl _))).mono ?_
  rintro e w3 ⟨p3, q3, rfl, ox0, b3⟩
  have bl3 : Below w.heap.size w w3 := bl2.trans (b3.mono bl2.size)
  have fx0 := ox0.fs
  go_wp2_with fail
  go_at_call 26
  refine (implCarry_any _ n0 _ Z0 _ hn0 fx0).mono ?_
  rintro e w' ⟨r2, s2, rfl, hr2, hs2, m2, rfl⟩
  have bl4 : Below w.heap.size w (w3.drewN m2) := below_drewN bl3 m2
  clear fs0
  go_wp2_with (first | (refine wpList_widen rfl _ _ _ rfl _ rfl (by kernel_rfl) Try.underlying32 (by assumption) ?_; intro r m hr) | (go_at_call 13; refine (sameFloat_any _ _ (by assumption) (by assumption) _).mono ?_; rintro e w' ⟨rfl, q1, rfl⟩))
  go_wp2_with fail
  go_at_call 20
  refine (toFloat32S_own a0 n0 c0 Z0 _ hn0 (FS.drewN (h0.below bl3 (Nat.le_refl _)))).mono ?_
  rintro e w5 ⟨p5, q5, rfl, oy0, b5⟩
  have bl5 : Below w.heap.size w w5 := (below_drewN bl3 _).trans (b5.mono bl3.size)
  replace fx0 := (FS.drewN fx0).below b5 (Nat.le_refl _)
  go_wp2_with fail
  go_at_call 22
  refine (eqFloat32S_any _ _ n0 _ _ Z0 Z0 _ hn0 fx0 oy0.fs (fun i hi => rfl)).mono ?_
  rintro e w' ⟨rfl, e0, rfl⟩
  have bl6 : Below w.heap.size w (w5.drewN e0) := below_drewN bl5 _
  go_wp2_with fail
  go_ret
  exact ⟨rfl, bl6⟩
end Go.Proofs.Ytpgjfanacnbfkac
