/- Helper: whether two wholes are equal, of the program and of its reference. Conditions: none. -/
import Derived.Test.YtmddhhmgfhljiadIntLaw
import Derived.Test.YtmddhhmgfhljiadBoxes
import Derived.Deep.QuietTactic
import Derived.BigQuiet
import Derived.IntWalk
set_option linter.unusedVariables false
set_option linter.unusedSimpArgs false
namespace Go.Proofs.Ytmddhhmgfhljiad
open Go.RowKit

/-- Whether the first k numbers of both are equal. -/
def eqTo (Z Y : Nat → Int) : Nat → Bool
  | 0 => true
  | k + 1 => eqTo Z Y k && (Z k == Y k)
theorem eqTo_bad {Z Y : Nat → Int} {i : Nat} (h : (Z i == Y i) = false) : ∀ {k : Nat}, i < k → eqTo Z Y k = false
  | 0, hk => by omega
  | k + 1, hk => by
    by_cases e : i = k
    · subst e; simp only [eqTo, h, Bool.and_false]
    · simp [eqTo, eqTo_bad h (show i < k by omega)]
def eqB (n : Nat) (Z : Nat → Int) (n2 : Nat) (Z2 : Nat → Int) : Bool := decide (n = n2) && eqTo Z Z2 n
def sameB (R C : Int) (n : Nat) (Z : Nat → Int) (R2 C2 : Int) (n2 : Nat) (Z2 : Nat → Int) : Bool := decide (R = R2) && (decide (C = C2) && eqB n Z n2 Z2)

set_option maxHeartbeats 1000000 in
theorem slicesEqual_any (a b : Option Addr) (n c n2 d : Nat) (Z Y : Nat → Int) (w : World) (hn : n ≤ 1048576) (hn2 : n2 ≤ 1048576) (ha : IS .i64 w a n c Z) (hb : IS .i64 w b n2 d Y) :
    Calls Try.prog 43 #[.slice a n c, .slice b n2 d] w fun e w' => e = .returned (.bool (eqB n Z n2 Y)) ∧ ∃ m, w' = w.drewN m := by
  by_cases hnn : n = n2
  case neg =>
    have HB : Hid (eqB n Z n2 Y = false) := Lib.hid (by unfold eqB; rw [decide_eq_false hnn]; rfl)
    have e1 : ((n : Int) == (n2 : Int)) = false := beq_eq_false_iff_ne.2 (by omega)
    have e2 : (n == n2) = false := beq_eq_false_iff_ne.2 hnn
    have f1 : ((n : Int) != (n2 : Int)) = true := bne_iff_ne.2 (by omega)
    have f2 : (n != n2) = true := bne_iff_ne.2 hnn
    go_enter Try.func43, Try.ntmps43
    go_wp2
    go_ret
    exact ⟨by rw [HB.out]; rfl, 0, rfl⟩
  subst hnn
  have HB : Hid (eqB n Z n Y = eqTo Z Y n) := Lib.hid (by unfold eqB; simp)
  go_enter Try.func43, Try.ntmps43
  go_wp2
  go_loopw [13] (fun s wr => ∃ j m : Nat, j ≤ n ∧ s = .int .i64 j ∧ wr = w.drewN m ∧ Hid (eqTo Z Y j = true)) (fun s _ => n - (intOf s).toNat)
  case atStart => exact ⟨0, 0, Nat.zero_le _, rfl, rfl, Lib.hid rfl⟩
  case round =>
    obtain ⟨j, m, hj, rfl, rfl, ho⟩ := hrel
    by_cases hlt : j < n
    · obtain ⟨b1, off1, rfl, hbl, hc, hw⟩ := IS.at ha hlt
      obtain ⟨b2, off2, rfl, hbl2, hc2, hw2⟩ := IS.at hb hlt
      clear ha hb hbl hbl2 hw hw2
      have hdec : decide ((j : Int) < n) = true := decide_eq_true (by omega)
      cases hq : (Z j == Y j) with
      | false =>
        have HN := Lib.hid (eqTo_bad hq hlt)
        generalize Z j = x at hc hq
        generalize Y j = y at hc2 hq
        go_wp2
        go_quiet (fail)
        go_wp2
        go_ret
        exact ⟨by rw [HB.out, HN.out]; rfl, _, World.drewN_drewN ..⟩
      | true =>
        have HN : Hid (eqTo Z Y (j + 1) = true) := Lib.hid (by simp only [eqTo, ho.out, hq]; rfl)
        generalize Z j = x at hc hq
        generalize Y j = y at hc2 hq
        have hq2 := beq_iff_eq.1 hq
        subst hq2
        clear hq
        go_wp2
        go_quiet (fail)
        go_wp2
        go_roundw
        case rel => exact ⟨j + 1, _, by omega, by go_num, rfl, HN⟩
        case measure => simp [intOf]; omega
    · obtain rfl : j = n := by omega
      go_wp2
      go_ret
      exact ⟨by rw [HB.out, ho.out]; rfl, _, rfl⟩
end Go.Proofs.Ytmddhhmgfhljiad
