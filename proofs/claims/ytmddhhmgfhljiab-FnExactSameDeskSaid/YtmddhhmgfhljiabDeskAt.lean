/- Helper: chains and wholes inside a box of more cells: what is valid, what is the same, of the reference. Conditions: none. -/
import Derived.Test.YtmddhhmgfhljiabChainKey
import Derived.Test.YtmddhhmgfhljiabValidWholeKey
import Derived.Test.YtmddhhmgfhljiabSameChainKey
import Derived.Test.YtmddhhmgfhljiabSameWholeKey
import Derived.Test.YtmddhhmgfhljiabSameSpec
import Derived.Test.YtmddhhmgfhljiabDesk
set_option linter.unusedVariables false
set_option linter.unusedSimpArgs false
namespace Go.Proofs.Ytmddhhmgfhljiab
open Go.RowKit

set_option maxHeartbeats 1000000 in
theorem l04Is_at (b : Nat) (a : Option Addr) (n c : Nat) (Z : Nat → Nat) (a2 : Option Addr) (n2 c2 : Nat) (Z2 : Nat → Nat) (w : World) (hn : n ≤ 1048576) (hn2 : n2 ≤ 1048576) (b0 : w.cell? ⟨b, 4, none⟩ = some (.slice a n c)) (b1 : w.cell? ⟨b, 5, none⟩ = some (.slice a2 n2 c2)) (h : FS .f32 w a n c Z) (h2 : FS .f32 w a2 n2 c2 Z2) :
    Calls Try.prog 65 #[.pointer (some ⟨b, 4, none⟩)] w fun e w' => e = .returned (.bool (chainB n (vals Z) n2 (vals Z2))) ∧ ∃ m, w' = w.drewN m := by
  unfold chainB
  by_cases h1 : 1 ≤ (n : Int)
  · have d1 : decide (1 ≤ (n : Int)) = true := decide_eq_true h1
    by_cases h12 : (n : Int) ≤ 12
    · have d2 : decide ((n : Int) ≤ 12) = true := decide_eq_true h12
      rw [sideB_yes h1 h12]
      by_cases h3 : (n2 : Int) = (n : Int) - 1
      · rw [decide_eq_true h3]
        have hd : ((n2 : Int) == (n : Int) - 1) = true := beq_iff_eq.2 h3
        have h3' := Lib.hid h3
        clear h3
        cases hv : allFin (vals Z) n with
        | false =>
          go_enter Try.func65, Try.ntmps65
          go_wp2_with fail
          go_at_call 81
          refine (specFin_any a n c Z _ hn h).mono ?_
          rintro e w' ⟨rfl, q, rfl⟩
          go_wp2_with fail
          go_ret
          exact ⟨rfl, _, rfl⟩
        | true =>
          go_enter Try.func65, Try.ntmps65
          go_wp2_with fail
          go_at_call 81
          refine (specFin_any a n c Z _ hn h).mono ?_
          rintro e w' ⟨rfl, q, rfl⟩
          go_wp2_with fail
          go_at_call 81
          refine (specFin_any a2 n2 c2 Z2 _ hn2 (FS.drewN h2)).mono ?_
          rintro e w' ⟨rfl, q2, rfl⟩
          go_wp2_with fail
          go_ret
          exact ⟨rfl, _, rfl⟩
      · rw [decide_eq_false h3]
        have hd : ((n2 : Int) == (n : Int) - 1) = false := beq_eq_false_iff_ne.2 h3
        have h3' := Lib.hid h3
        clear h3
        go_enter Try.func65, Try.ntmps65
        go_wp2_with fail
        go_ret
        exact ⟨rfl, 0, rfl⟩
    · have d2 : decide ((n : Int) ≤ 12) = false := decide_eq_false h12
      rw [sideB_no2 h12]
      go_enter Try.func65, Try.ntmps65
      go_wp2_with fail
      go_ret
      exact ⟨rfl, 0, rfl⟩
  · have d1 : decide (1 ≤ (n : Int)) = false := decide_eq_false h1
    rw [sideB_no1 h1]
    go_enter Try.func65, Try.ntmps65
    go_wp2_with fail
    go_ret
    exact ⟨rfl, 0, rfl⟩
set_option maxHeartbeats 2000000 in
theorem specWhole_at (m : Nat) (b : Nat) (R C : Int) (a : Option Addr) (n c : Nat) (Z : Nat → Int) (w : World) (hm : m ≤ 1000000) (hn : n ≤ 1048576) (hb0 : w.cell? ⟨b, 6, none⟩ = some (.int .i64 R)) (hb1 : w.cell? ⟨b, 7, none⟩ = some (.int .i64 C)) (hb2 : w.cell? ⟨b, 8, none⟩ = some (.slice a n c)) (h : IS .i64 w a n c Z) :
    Calls Try.prog 66 #[.pointer (some ⟨b, 6, none⟩), .int .i64 m] w fun e w' => e = .returned (.bool (wholeB m R C n Z)) ∧ ∃ q, w' = w.drewN q := by
  have hR : ∀ W, Calls Try.prog 82 #[.int .i64 R, .int .i64 1, .int .i64 6] W fun e w' => e = .returned (.bool (side6 R)) ∧ W = w' := fun W => l00In_any R 1 6 W
  have hC : ∀ W, Calls Try.prog 82 #[.int .i64 C, .int .i64 1, .int .i64 6] W fun e w' => e = .returned (.bool (side6 C)) ∧ W = w' := fun W => l00In_any C 1 6 W
  have hB : ∀ W, IS .i64 W a n c Z → Calls Try.prog 83 #[.slice a n c, .int .i64 m] W fun e w' => e = .returned (.bool (withB m Z n)) ∧ W = w' := fun W hW => specBound_any m a n c Z W hm hn hW
  cases h1 : side6 R with
  | false =>
    rw [h1] at hR
    have HB : Hid (wholeB m R C n Z = false) := Lib.hid (by unfold wholeB; rw [h1]; rfl)
    clear h1 hB hC
    go_enter Try.func66, Try.ntmps66
    go_wp2
    go_quiet ((go_at_call 82; exact quiet_left (hR _)))
    go_wp2
    go_ret
    exact ⟨by rw [HB.out]; rfl, _, rfl⟩
  | true =>
    rw [h1] at hR
    cases h2 : side6 C with
    | false =>
      rw [h2] at hC
      have HB : Hid (wholeB m R C n Z = false) := Lib.hid (by unfold wholeB; rw [h2]; simp)
      clear h1 h2 hB
      go_enter Try.func66, Try.ntmps66
      go_wp2
      go_quiet ((go_at_call 82; (first | (with_reducible exact quiet_left (hR _)) | (with_reducible exact quiet_left (hC _)))))
      go_wp2
      go_ret
      exact ⟨by rw [HB.out]; rfl, _, rfl⟩
    | true =>
      rw [h2] at hC
      obtain ⟨m1, m2⟩ := mul_side6 (side6_le h1) (side6_le h2)
      by_cases h3 : (n : Int) = R * C
      · have HB : Hid (wholeB m R C n Z = withB m Z n) := Lib.hid (by unfold wholeB; rw [h1, h2, decide_eq_true h3]; rfl)
        have hd : ((n : Int) == R * C) = true := beq_iff_eq.2 h3
        have h3' := Lib.hid h3
        clear h3 h1 h2
        cases hv : withB m Z n
        all_goals
          rw [hv] at HB hB
          clear hv
          go_enter Try.func66, Try.ntmps66
          go_wp2
          go_quiet (first | (go_at_call 82; (first | (with_reducible exact quiet_left (hR _)) | (with_reducible exact quiet_left (hC _)))) | (go_at_call 83; exact quiet_left (hB _ (IS.drewN h))))
          go_wp2
          go_ret
          exact ⟨by rw [HB.out]; rfl, _, rfl⟩
      · have HB : Hid (wholeB m R C n Z = false) := Lib.hid (by unfold wholeB; rw [decide_eq_false h3]; simp)
        have hd : ((n : Int) == R * C) = false := beq_eq_false_iff_ne.2 h3
        have h3' := Lib.hid h3
        clear h3 h1 h2 hB
        go_enter Try.func66, Try.ntmps66
        go_wp2
        go_quiet ((go_at_call 82; (first | (with_reducible exact quiet_left (hR _)) | (with_reducible exact quiet_left (hC _)))))
        go_wp2
        go_ret
        exact ⟨by rw [HB.out]; rfl, _, rfl⟩
set_option maxRecDepth 100000 in
set_option maxHeartbeats 2000000 in
theorem l04Same_at (b b2 : Nat) (a a2 : Option Addr) (n c n2 c2 : Nat) (X Y : Nat → Nat) (p p2 : Option Addr) (l d l2 d2 : Nat) (X2 Y2 : Nat → Nat) (w : World) (hn : n ≤ 1048576) (hm : n2 ≤ 1048576) (hl : l ≤ 1048576) (hl2 : l2 ≤ 1048576)
    (x0 : w.cell? ⟨b, 4, none⟩ = some (.slice a n c)) (x1 : w.cell? ⟨b, 5, none⟩ = some (.slice p l d)) (y0 : w.cell? ⟨b2, 4, none⟩ = some (.slice a2 n2 c2)) (y1 : w.cell? ⟨b2, 5, none⟩ = some (.slice p2 l2 d2))
    (h : FS .f32 w a n c X) (h2 : FS .f32 w a2 n2 c2 Y) (k : FS .f32 w p l d X2) (k2 : FS .f32 w p2 l2 d2 Y2) :
    Calls Try.prog 42 #[.pointer (some ⟨b, 4, none⟩), .pointer (some ⟨b2, 4, none⟩)] w fun e w' => e = .returned (.bool (sameC n n2 X Y l l2 X2 Y2)) ∧ ∃ m, w' = w.drewN m := by
  unfold sameC
  have e1 : ∀ m, Calls Try.prog 41 #[.slice a n c, .slice a2 n2 c2] (w.drewN m) fun e w' => e = .returned (.bool (decide (n = n2) && sameTo X Y n)) ∧ ∃ k, w' = (w.drewN m).drewN k := fun m => specSameAll_any a a2 n c n2 c2 X Y _ hn hm (FS.drewN h) (FS.drewN h2)
  have e2 : ∀ m, Calls Try.prog 41 #[.slice p l d, .slice p2 l2 d2] (w.drewN m) fun e w' => e = .returned (.bool (decide (l = l2) && sameTo X2 Y2 l)) ∧ ∃ k, w' = (w.drewN m).drewN k := fun m => specSameAll_any p p2 l d l2 d2 X2 Y2 _ hl hl2 (FS.drewN k) (FS.drewN k2)
  generalize (decide (n = n2) && sameTo X Y n) = u at e1 ⊢
  generalize (decide (l = l2) && sameTo X2 Y2 l) = v at e2 ⊢
  cases u
  · go_enter Try.func42, Try.ntmps42
    go_wp2
    go_quiet ((go_at_call 41; exact Calls.quiet_of (e1 _)))
    go_wp2
    go_ret
    exact ⟨rfl, _, rfl⟩
  · go_enter Try.func42, Try.ntmps42
    go_wp2
    go_quiet (first | (go_at_call 41; with_reducible exact Calls.quiet_of (e1 _)) | (go_at_call 41; with_reducible exact Calls.quiet_of (e2 _)))
    go_wp2
    go_ret
    exact ⟨rfl, _, rfl⟩
set_option maxHeartbeats 2000000 in
theorem specSameWhole_at (b : Nat) (R C : Int) (a : Option Addr) (n c : Nat) (Z : Nat → Int) (b2 : Nat) (R2 C2 : Int) (a2 : Option Addr) (n2 c2 : Nat) (Z2 : Nat → Int) (w : World) (hn : n ≤ 1048576) (hn2 : n2 ≤ 1048576) (x0 : w.cell? ⟨b, 6, none⟩ = some (.int .i64 R)) (x1 : w.cell? ⟨b, 7, none⟩ = some (.int .i64 C)) (x2 : w.cell? ⟨b, 8, none⟩ = some (.slice a n c)) (y0 : w.cell? ⟨b2, 6, none⟩ = some (.int .i64 R2)) (y1 : w.cell? ⟨b2, 7, none⟩ = some (.int .i64 C2)) (y2 : w.cell? ⟨b2, 8, none⟩ = some (.slice a2 n2 c2)) (h : IS .i64 w a n c Z) (h2 : IS .i64 w a2 n2 c2 Z2) :
    Calls Try.prog 43 #[.pointer (some ⟨b, 6, none⟩), .pointer (some ⟨b2, 6, none⟩)] w fun e w' => e = .returned (.bool (sameB R C n Z R2 C2 n2 Z2)) ∧ ∃ q, w' = w.drewN q := by
  unfold sameB
  by_cases hR : R = R2
  case neg =>
    rw [decide_eq_false hR]
    have e1 : (R == R2) = false := beq_eq_false_iff_ne.2 hR
    have f1 : (R != R2) = true := bne_iff_ne.2 hR
    go_enter Try.func43, Try.ntmps43
    go_wp2
    go_quiet (fail)
    go_wp2
    go_ret
    exact ⟨rfl, _, rfl⟩
  subst hR
  by_cases hC : C = C2
  case neg =>
    rw [decide_eq_false hC]
    have e1 : (C == C2) = false := beq_eq_false_iff_ne.2 hC
    have f1 : (C != C2) = true := bne_iff_ne.2 hC
    go_enter Try.func43, Try.ntmps43
    go_wp2
    go_quiet (fail)
    go_wp2
    go_ret
    exact ⟨by simp, _, rfl⟩
  subst hC
  by_cases hnn : n = n2
  case neg =>
    have HB : Hid (eqB n Z n2 Z2 = false) := Lib.hid (by unfold eqB; rw [decide_eq_false hnn]; rfl)
    have e1 : ((n : Int) == (n2 : Int)) = false := beq_eq_false_iff_ne.2 (by omega)
    have e2 : (n == n2) = false := beq_eq_false_iff_ne.2 hnn
    have f1 : ((n : Int) != (n2 : Int)) = true := bne_iff_ne.2 (by omega)
    have f2 : (n != n2) = true := bne_iff_ne.2 hnn
    go_enter Try.func43, Try.ntmps43
    go_wp2
    go_quiet (fail)
    go_wp2
    go_ret
    exact ⟨by rw [HB.out]; simp, _, rfl⟩
  subst hnn
  have HB : Hid (eqB n Z n Z2 = eqTo Z Z2 n) := Lib.hid (by unfold eqB; simp)
  go_enter Try.func43, Try.ntmps43
  go_wp2
  go_quiet (fail)
  go_wp2
  go_loopw [5] (fun s wr => ∃ j m : Nat, j ≤ n ∧ s = .int .i64 j ∧ wr = w.drewN m ∧ Hid (eqTo Z Z2 j = true)) (fun s _ => n - (intOf s).toNat)
  case atStart => exact ⟨0, _, Nat.zero_le _, rfl, rfl, Lib.hid rfl⟩
  case round =>
    obtain ⟨j, m, hj, rfl, rfl, ho⟩ := hrel
    by_cases hlt : j < n
    · obtain ⟨b1, off1, rfl, hbl, hc, hw⟩ := IS.at h hlt
      obtain ⟨b2, off2, rfl, hbl2, hc2, hw2⟩ := IS.at h2 hlt
      clear h h2 hbl hbl2 hw hw2
      have hdec : decide ((j : Int) < n) = true := decide_eq_true (by omega)
      cases hq : (Z j == Z2 j) with
      | false =>
        have HN := Lib.hid (eqTo_bad hq hlt)
        generalize Z j = x at hc hq
        generalize Z2 j = y at hc2 hq
        go_wp2
        go_quiet (fail)
        go_wp2
        go_ret
        exact ⟨by rw [HB.out, HN.out]; simp, _, World.drewN_drewN ..⟩
      | true =>
        have HN : Hid (eqTo Z Z2 (j + 1) = true) := Lib.hid (by simp only [eqTo, ho.out, hq]; rfl)
        generalize Z j = x at hc hq
        generalize Z2 j = y at hc2 hq
        have hq2 := beq_iff_eq.1 hq
        subst hq2
        clear hq
        go_wp2
        go_quiet (fail)
        go_wp2
        go_roundw
        case rel => exact ⟨j + 1, _, by omega, by go_num, rfl, HN⟩
        case measure => simp [intOf]; omega
    · obtain rfl : j = n := by omega
      go_wp2
      go_ret
      exact ⟨by rw [HB.out, ho.out]; simp, _, rfl⟩
end Go.Proofs.Ytmddhhmgfhljiab
