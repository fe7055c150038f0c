/- Helper: whether two matrices are the same, of the program and of the reference. Conditions: none. -/
import Derived.Test.YtmddhhmgfhljiadMatWalks
import Derived.Test.YtmddhhmgfhljiadKindSteps
import Derived.Test.YtmddhhmgfhljiadWork
set_option linter.unusedVariables false
set_option linter.unusedSimpArgs false
namespace Go.Proofs.Ytmddhhmgfhljiad
open Go.RowKit

def sameAt (X Y : Nat → Nat) (j : Nat) : Bool := bitsP (cn .f32 (X j)) == bitsP (cn .f32 (Y j))
def sameTo (X Y : Nat → Nat) : Nat → Bool
  | 0 => true
  | n + 1 => sameTo X Y n && sameAt X Y n
theorem sameTo_lt {X Y : Nat → Nat} {j : Nat} : ∀ {n : Nat}, sameTo X Y n = true → j < n → sameAt X Y j = true
  | 0, _, h => by omega
  | n + 1, ha, h => by
    simp only [sameTo, Bool.and_eq_true] at ha
    by_cases e : j = n
    · subst e; exact ha.2
    · exact sameTo_lt ha.1 (by omega)
theorem sameTo_no {X Y : Nat → Nat} {j n : Nat} (h : j < n) (hf : sameAt X Y j = false) : sameTo X Y n = false := by
  cases e : sameTo X Y n with
  | false => rfl
  | true => rw [sameTo_lt e h] at hf; cases hf
theorem sameTo_succ {X Y : Nat → Nat} {j : Nat} (h : sameTo X Y j = true) (h2 : sameAt X Y j = true) : sameTo X Y (j + 1) = true := by simp [sameTo, h, h2]
/-- Whether two matrices are the same. -/
def sameM (R C R2 C2 : Int) (n n2 : Nat) (X Y : Nat → Nat) : Bool := decide (R = R2) && (decide (C = C2) && (decide (n = n2) && sameTo X Y n))

theorem l01Same_any (a : Nat) (ha : (Lit.float .f32 a).wf = true) (b : Nat) (hb : (Lit.float .f32 b).wf = true) (w : World) :
    Calls Try.prog 65 #[.float .f32 a, .float .f32 b] w fun e w' => e = .returned (.bool (bitsP (cn .f32 a) == bitsP (cn .f32 b))) ∧ w = w' := by
  go_enter Try.func65, Try.ntmps65
  go_wp2_with (go_at_call 75; refine (specBits_any _ (by assumption) _).mono ?_; rintro e w' ⟨rfl, rfl⟩)
  go_ret
  exact ⟨rfl, rfl⟩
theorem specSameAll_any (a a2 : Option Addr) (n c n2 c2 : Nat) (X Y : Nat → Nat) (w : World) (hn : n ≤ 1048576) (hm : n2 ≤ 1048576) (h : FS .f32 w a n c X) (h2 : FS .f32 w a2 n2 c2 Y) :
    Calls Try.prog 42 #[.slice a n c, .slice a2 n2 c2] w fun e w' => e = .returned (.bool (decide (n = n2) && sameTo X Y n)) ∧ ∃ m, w' = w.drewN m := by
  by_cases he : n = n2
  · subst he
    rw [decide_eq_true rfl, Bool.true_and]
    have hd : ((n : Int) != (n : Int)) = false := by simp
    go_enter Try.func42, Try.ntmps42
    go_wp2
    go_loopw [5] (fun i wr => ∃ j m : Nat, j ≤ n ∧ i = .int .i64 j ∧ sameTo X Y j = true ∧ wr = w.drewN m) (fun i _ => n - (intOf i).toNat)
    case atStart => exact ⟨0, 0, Nat.zero_le _, rfl, rfl, rfl⟩
    case round =>
      obtain ⟨j, m0, hj, rfl, ha, hwr⟩ := hrel
      have HA := Lib.hid ha
      have k1 : FS .f32 wr a n c X := hwr ▸ FS.drewN h
      have k2 : FS .f32 wr a2 n c2 Y := hwr ▸ FS.drewN h2
      have HW := Lib.hid hwr
      clear ha hwr
      by_cases hlt : j < n
      · obtain ⟨b, off, rfl, hbl, hc, hfv⟩ := k1.at hlt
        obtain ⟨b2, off2, rfl, hbl2, hc2, hfv2⟩ := k2.at hlt
        clear hbl h hbl2 h2 k1 k2
        have hcall : ∀ W, Calls Try.prog 65 #[.float .f32 (X j), .float .f32 (Y j)] W fun e w' => e = .returned (.bool (sameAt X Y j)) ∧ W = w' := fun W => l01Same_any _ hfv.2 _ hfv2.2 W
        have hd2 : decide ((j : Int) < (n : Int)) = true := decide_eq_true (by omega)
        cases hs : sameAt X Y j with
        | true =>
          have HF := Lib.hid (sameTo_succ HA.out hs)
          rw [hs] at hcall
          clear hs
          go_wp2
          go_quiet ((go_at_call 65; exact quiet_left (hcall _)))
          go_wp2
          go_roundw
          case rel => exact ⟨j + 1, _, by omega, by go_num, HF.out, by rw [HW.out, World.drewN_drewN]⟩
          case measure => simp [intOf]; omega
        | false =>
          have HN := Lib.hid (sameTo_no hlt hs)
          rw [hs] at hcall
          clear hs
          go_wp2
          go_quiet ((go_at_call 65; exact quiet_left (hcall _)))
          go_wp2
          go_ret
          exact ⟨by rw [HN.out]; rfl, _, by rw [HW.out, World.drewN_drewN]⟩
      · obtain rfl : j = n := by omega
        have hd2 : decide ((j : Int) < (j : Int)) = false := decide_eq_false (by omega)
        go_wp2
        go_ret
        exact ⟨by rw [HA.out]; rfl, _, HW.out⟩
  · rw [decide_eq_false he, Bool.false_and]
    have hd : ((n : Int) != (n2 : Int)) = true := by simp; omega
    go_enter Try.func42, Try.ntmps42
    go_wp2
    go_ret
    exact ⟨rfl, 0, rfl⟩
end Go.Proofs.Ytmddhhmgfhljiad
