/- Helper: the greatest divisor of two numbers, of the program and of its reference, and its law. Conditions: none. -/
import Derived.Test.YtinekdfpgkmbnacNumMath
import Derived.Test.YtinekdfpgkmbnacMatValid
import Derived.Test.YtinekdfpgkmbnacIntLaw
import Derived.Test.YtinekdfpgkmbnacKeys
import Derived.Deep.QuietTactic
import Derived.BigQuiet
set_option linter.unusedVariables false
set_option linter.unusedSimpArgs false
namespace Go.Proofs.Ytinekdfpgkmbnac
open Go.RowKit

/-- Numbers that are not too great. -/
def Fit (x : Int) : Prop := -4000000000000000000 ≤ x ∧ x ≤ 4000000000000000000
theorem fit_tmod {a b : Int} (ha : Fit a) (hb : Fit b) : Fit (a.tmod b) := by
  have h1 : (a.tmod b).natAbs ≤ a.natAbs := by rw [Int.natAbs_tmod]; exact Nat.mod_le _ _
  unfold Fit at *
  omega
def absI (a : Int) : Int := if a < 0 then -a else a

set_option maxHeartbeats 1000000 in
theorem specGcd_any (a b : Int) (w : World) (ha : Fit a) (hb : Fit b) :
    Calls Try.prog 48 #[.int .i64 a, .int .i64 b] w fun e w' => e = .returned (.int .i64 (Int.gcd a b : Int)) ∧ w = w' := by
  obtain ⟨G, hG⟩ : ∃ G : Nat, G = Int.gcd a b := ⟨_, rfl⟩
  rw [← hG]
  have HG := Lib.hid hG
  clear hG
  go_enter Try.func48, Try.ntmps48
  go_wp2
  go_loop [0, 1] (fun s t => ∃ x y : Int, s = .int .i64 x ∧ t = .int .i64 y ∧ Fit x ∧ Fit y ∧ Hid (Int.gcd x y = G)) (fun _ t => (intOf t).natAbs)
  case atStart => exact ⟨a, b, rfl, rfl, ha, hb, Lib.hid HG.out.symm⟩
  case round =>
    obtain ⟨x, y, rfl, rfl, hx, hy, hg⟩ := hrel
    by_cases h0 : y = 0
    · subst h0
      have he := gcd_end x
      rw [hg.out] at he
      have HE := Lib.hid he
      clear he
      have hx' := hx
      unfold Fit at hx'
      obtain ⟨x1, x2⟩ := hx'
      by_cases hn : x < 0
      · go_wp2
        go_ret
        exact ⟨by rw [HE.out, if_pos (by omega)]; rfl, rfl⟩
      · go_wp2
        go_ret
        exact ⟨by rw [HE.out, if_neg (by omega)]; rfl, rfl⟩
    · have hf := fit_tmod hx hy
      have hs := gcd_step x y
      rw [hg.out] at hs
      have HS := Lib.hid hs
      have hm := Lib.hid (tmod_small x y h0)
      clear hs
      have hx' := hx
      have hy' := hy
      unfold Fit at hx' hy'
      have hne : (y != 0) = true := bne_iff_ne.2 h0
      have hne2 : (y == 0) = false := beq_eq_false_iff_ne.2 h0
      go_wp2
      go_round
      case rel => exact ⟨y, x.tmod y, rfl, rfl, hy, hf, HS⟩
      case measure => exact hm.out
set_option maxHeartbeats 1000000 in
theorem implGcd_any (a b : Int) (w : World) (ha : Fit a) (hb : Fit b) :
    Calls Try.prog 66 #[.int .i64 a, .int .i64 b] w fun e w' => e = .returned (.int .i64 (Int.gcd a b : Int)) ∧ ∃ m, w' = w.drewN m := by
  obtain ⟨G, hG⟩ : ∃ G : Nat, G = Int.gcd a b := ⟨_, rfl⟩
  rw [← hG]
  have HG := Lib.hid hG
  clear hG
  go_enter Try.func66, Try.ntmps66
  go_wp2
  go_loopw [0, 1] (fun s t wr => ∃ (x y : Int) (m : Nat), s = .int .i64 x ∧ t = .int .i64 y ∧ Fit x ∧ Fit y ∧ Hid (Int.gcd x y = G) ∧ wr = w.drewN m) (fun _ t _ => (intOf t).natAbs)
  case atStart => exact ⟨a, b, 0, rfl, rfl, ha, hb, Lib.hid HG.out.symm, rfl⟩
  case round =>
    obtain ⟨x, y, m, rfl, rfl, hx, hy, hg, rfl⟩ := hrel
    by_cases h0 : y = 0
    · subst h0
      have he := gcd_end x
      rw [hg.out] at he
      have HE := Lib.hid he
      clear he
      have hx' := hx
      unfold Fit at hx'
      obtain ⟨x1, x2⟩ := hx'
      by_cases hn : x < 0
      · go_wp2
        all_goals
          go_ret
          exact ⟨by rw [HE.out, if_pos (by omega)]; rfl, _, rfl⟩
      · go_wp2
        all_goals
          go_ret
          exact ⟨by rw [HE.out, if_neg (by omega)]; rfl, _, rfl⟩
    · have hf := fit_tmod hx hy
      have hs := gcd_step x y
      rw [hg.out] at hs
      have HS := Lib.hid hs
      have hm := Lib.hid (tmod_small x y h0)
      clear hs
      have hx' := hx
      have hy' := hy
      unfold Fit at hx' hy'
      have hne : (y != 0) = true := bne_iff_ne.2 h0
      have hne2 : (y == 0) = false := beq_eq_false_iff_ne.2 h0
      go_wp2
      go_quiet (fail)
      go_wp2
      go_roundw
      case rel => exact ⟨y, x.tmod y, _, rfl, rfl, hy, hf, HS, World.drewN_drewN ..⟩
      case measure => exact hm.out

/-- Whether all of n numbers are from -m to m. -/
def withB (m : Int) (Z : Nat → Int) : Nat → Bool
  | 0 => true
  | k + 1 => withB m Z k && inB (Z k) (-m) m
theorem withB_bad {m : Int} {Z : Nat → Int} {i : Nat} (h : inB (Z i) (-m) m = false) : ∀ {k : Nat}, i < k → withB m Z k = false
  | 0, hk => by omega
  | k + 1, hk => by
    by_cases e : i = k
    · subst e; simp [withB, h]
    · simp [withB, withB_bad h (show i < k by omega)]
theorem withB_at {m : Int} {Z : Nat → Int} {n : Nat} : ∀ {i : Nat}, withB m Z n = true → i < n → -m ≤ Z i ∧ Z i ≤ m := by
  induction n with
  | zero => intro i _ h; omega
  | succ k ih =>
    intro i h hi
    simp only [withB, Bool.and_eq_true] at h
    by_cases e : i = k
    · subst e
      have := h.2
      unfold inB at this
      simpa using this
    · exact ih h.1 (by omega)
set_option maxHeartbeats 1000000 in
theorem areWithin_any (m : Nat) (a : Option Addr) (n c : Nat) (Z : Nat → Int) (w : World) (hm : m ≤ 1000000) (hn : n ≤ 1048576) (h : IS .i64 w a n c Z) :
    Calls Try.prog 58 #[.slice a n c, .int .i64 m] w fun e w' => e = .returned (.bool (withB m Z n)) ∧ w = w' := by
  go_enter Try.func58, Try.ntmps58
  go_wp2
  go_loop [9] (fun s => ∃ j : Nat, j ≤ n ∧ s = .int .i64 j ∧ Hid (withB m Z j = true)) (fun s => n - (intOf s).toNat)
  case atStart => exact ⟨0, Nat.zero_le _, rfl, Lib.hid rfl⟩
  case round =>
    obtain ⟨j, hj, rfl, ho⟩ := hrel
    by_cases hlt : j < n
    · obtain ⟨b, off, rfl, hbl, hc, hw⟩ := IS.at h hlt
      clear h hbl
      have hw' := hw
      cases hi : inB (Z j) (-(m : Int)) m with
      | false =>
        have HB := Lib.hid (withB_bad hi hlt)
        unfold inB at hi
        by_cases h1 : -(m : Int) ≤ Z j
        · have h2 : ¬ Z j ≤ m := fun h2 => by rw [decide_eq_true h1, decide_eq_true h2] at hi; cases hi
          have d1 : decide (Z j < -(m : Int)) = false := decide_eq_false (by omega)
          have d2 : decide ((m : Int) < Z j) = true := decide_eq_true (by omega)
          clear hi
          generalize Z j = x at hc d1 d2 h1 h2
          go_wp2
          go_ret
          exact ⟨by rw [HB.out]; rfl, rfl⟩
        · have d1 : decide (Z j < -(m : Int)) = true := decide_eq_true (by omega)
          clear hi
          generalize Z j = x at hc d1 h1
          go_wp2
          go_ret
          exact ⟨by rw [HB.out]; rfl, rfl⟩
      | true =>
        have HB : Hid (withB m Z (j + 1) = true) := Lib.hid (by simp only [withB, ho.out, hi]; rfl)
        unfold inB at hi
        simp only [Bool.and_eq_true, decide_eq_true_eq] at hi
        obtain ⟨h1, h2⟩ := hi
        have d1 : decide (Z j < -(m : Int)) = false := decide_eq_false (by omega)
        have d2 : decide ((m : Int) < Z j) = false := decide_eq_false (by omega)
        generalize Z j = x at hc d1 d2 h1 h2
        go_wp2
        go_round
        case rel => exact ⟨j + 1, by omega, by go_num, HB⟩
        case measure => simp [intOf]; omega
    · obtain rfl : j = n := by omega
      go_wp2
      go_ret
      exact ⟨by rw [ho.out]; rfl, rfl⟩
end Go.Proofs.Ytinekdfpgkmbnac
