/- Helper: the walk of the law FnExactDotVectors. Conditions: none. -/
import Derived.Test.YtpgjfanacnbfkacVecSums
import Derived.Test.YtpgjfanacnbfkacMatLaw
set_option linter.unusedVariables false
namespace Go.Proofs.Ytpgjfanacnbfkac
open Go.RowKit

set_option maxHeartbeats 1000000 in
theorem law_FnExactDotVectors (w : World) (a0 : Option Addr) (n0 c0 : Nat) (Z0 : Nat → Nat) (h0 : FS .f32 w a0 n0 c0 Z0) (a1 : Option Addr) (n1 c1 : Nat) (Z1 : Nat → Nat) (h1 : FS .f32 w a1 n1 c1 Z1) :
    Calls Try.prog 6 #[.slice a0 n0 c0, .slice a1 n1 c1] w fun e w' => e = .returned (.bool true) ∧ Below w.heap.size w w' := by
  have hm0 : n0 ≤ 9223372036854775807 := by have hh1 := h0.1; have hh2 := h0.2.1; unfold maxLen at hh2; omega
  have hm1 : n1 ≤ 9223372036854775807 := by have hh1 := h1.1; have hh2 := h1.2.1; unfold maxLen at hh2; omega
  by_cases hbig0 : 1048576 < n0
  · have hd0 : decide ((1048576 : Int) < n0) = true := decide_eq_true (by omega)
    go_enter Try.func6, Try.ntmps6
    go_wp2
    go_ret
    exact ⟨rfl, Below.refl _ _⟩
  have hn0 : n0 ≤ 1048576 := by omega
  have hd0 : decide ((1048576 : Int) < n0) = false := decide_eq_false (by omega)
  by_cases hbig1 : 1048576 < n1
  · have hd1 : decide ((1048576 : Int) < n1) = true := decide_eq_true (by omega)
    go_enter Try.func6, Try.ntmps6
    go_wp2
    go_ret
    exact ⟨rfl, Below.refl _ _⟩
  have hn1 : n1 ≤ 1048576 := by omega
  have hd1 : decide ((1048576 : Int) < n1) = false := decide_eq_false (by omega)
  go_enter Try.func6, Try.ntmps6
  go_wp2_with fail
  go_at_call 20
  refine (toFloat32S_own a0 n0 c0 Z0 _ hn0 (h0.below (Below.refl w.heap.size w) (Nat.le_refl _))).mono ?_
  rintro e w1 ⟨p1, q1, rfl, os0, b1⟩
  have bl1 : Below w.heap.size w w1 := (Below.refl w.heap.size w).trans (b1.mono (Below.refl w.heap.size w).size)
  have fs0 := os0.fs
  go_wp2_with fail
  go_at_call 20
  refine (toFloat32S_own a1 n1 c1 Z1 _ hn1 (h1.below bl1 (Nat.le_refl _))).mono ?_
  rintro e w2 ⟨p2, q2, rfl, os1, b2⟩
  have bl2 : Below w.heap.size w w2 := bl1.trans (b2.mono bl1.size)
  have fs1 := os1.fs
  replace fs0 := fs0.below b2 (Nat.le_refl _)
  go_wp2_with fail
  go_at_call 19
  refine (specDotVectors_any _ _ n0 _ n1 _ Z0 Z1 _ hn0 hn1 fs0 fs1).mono ?_
  rintro e w' ⟨r1, rfl, hr1, m1, rfl⟩
  have bl3 : Below w.heap.size w (w2.drewN m1) := below_drewN bl2 m1
  go_wp2_with fail
  go_at_call 20
  refine (toFloat32S_own a0 n0 c0 Z0 _ hn0 (h0.below bl3 (Nat.le_refl _))).mono ?_
  rintro e w4 ⟨p4, q4, rfl, ox0, b4⟩
  have bl4 : Below w.heap.size w w4 := bl3.trans (b4.mono bl3.size)
  have fx0 := ox0.fs
  go_wp2_with fail
  go_at_call 20
  refine (toFloat32S_own a1 n1 c1 Z1 _ hn1 (h1.below bl4 (Nat.le_refl _))).mono ?_
  rintro e w5 ⟨p5, q5, rfl, ox1, b5⟩
  have bl5 : Below w.heap.size w w5 := bl4.trans (b5.mono bl4.size)
  have fx1 := ox1.fs
  replace fx0 := fx0.below b5 (Nat.le_refl _)
  go_wp2_with fail
  go_at_call 21
  refine (implDotVectors_any _ _ n0 _ n1 _ Z0 Z1 _ hn0 hn1 fx0 fx1).mono ?_
  rintro e w' ⟨r2, rfl, hr2, m2, rfl⟩
  have bl6 : Below w.heap.size w (w5.drewN m2) := below_drewN bl5 m2
  clear fs0 fs1
  go_wp2_with (first | (refine wpList_widen rfl _ _ _ rfl _ rfl (by kernel_rfl) Try.underlying32 (by assumption) ?_; intro r m hr) | (go_at_call 13; refine (sameFloat_any _ _ (by assumption) (by assumption) _).mono ?_; rintro e w' ⟨rfl, q1, rfl⟩))
  go_wp2_with fail
  go_at_call 20
  refine (toFloat32S_own a0 n0 c0 Z0 _ hn0 (FS.drewN (h0.below bl5 (Nat.le_refl _)))).mono ?_
  rintro e w7 ⟨p7, q7, rfl, oy0, b7⟩
  have bl7 : Below w.heap.size w w7 := (below_drewN bl5 _).trans (b7.mono bl5.size)
  replace fx0 := (FS.drewN fx0).below b7 (Nat.le_refl _)
  replace fx1 := (FS.drewN fx1).below b7 (Nat.le_refl _)
  go_wp2_with fail
  go_at_call 22
  refine (eqFloat32S_any _ _ n0 _ _ Z0 Z0 _ hn0 fx0 oy0.fs (fun i hi => rfl)).mono ?_
  rintro e w' ⟨rfl, e0, rfl⟩
  have bl8 : Below w.heap.size w (w7.drewN e0) := below_drewN bl7 _
  go_wp2_with fail
  go_at_call 20
  refine (toFloat32S_own a1 n1 c1 Z1 _ hn1 (FS.drewN (h1.below bl7 (Nat.le_refl _)))).mono ?_
  rintro e w9 ⟨p9, q9, rfl, oy1, b9⟩
  have bl9 : Below w.heap.size w w9 := (below_drewN bl7 _).trans (b9.mono bl7.size)
  replace fx1 := (FS.drewN fx1).below b9 (Nat.le_refl _)
  go_wp2_with fail
  go_at_call 22
  refine (eqFloat32S_any _ _ n1 _ _ Z1 Z1 _ hn1 fx1 oy1.fs (fun i hi => rfl)).mono ?_
  rintro e w' ⟨rfl, e1, rfl⟩
  have bl10 : Below w.heap.size w (w9.drewN e1) := below_drewN bl9 _
  go_wp2_with fail
  go_ret
  exact ⟨rfl, bl10⟩
end Go.Proofs.Ytpgjfanacnbfkac
