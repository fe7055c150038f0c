/- Helper: walks of the laws' own draws from bytes, and of differences. Conditions: none. -/
import Derived.Test.YtnjkabckbnbboaaSmallWalks
import Derived.Test.YtnjkabckbnbboaaIntRows
import Derived.Lib.Hide
import Derived.WalkSmall
set_option linter.unusedVariables false
namespace Go.Proofs.Ytnjkabckbnbboaa
open Go.RowKit

theorem b10Long_yes (a b : Option Addr) (n c m d : Nat) (w : World) (hn : n ≤ 9223372036854775807) (hm : m ≤ 9223372036854775807) (h : 1048576 < n ∨ 1048576 < m) :
    Calls Try.prog 8 #[.slice a n c, .slice b m d] w fun e w' => e = .returned (.bool true) ∧ w = w' := by
  by_cases h1 : 1048576 < n
  · have hd : decide ((1048576 : Int) < n) = true := decide_eq_true (by omega)
    clear h
    go_enter Try.func8, Try.ntmps8
    go_wp2
    go_ret
    exact ⟨rfl, rfl⟩
  · have hd : decide ((1048576 : Int) < n) = false := decide_eq_false (by omega)
    have hd2 : decide ((1048576 : Int) < m) = true := decide_eq_true (by omega)
    clear h
    go_enter Try.func8, Try.ntmps8
    go_wp2
    go_ret
    exact ⟨rfl, rfl⟩
theorem b10Long_no (a b : Option Addr) (n c m d : Nat) (w : World) (hn : n ≤ 1048576) (hm : m ≤ 1048576) :
    Calls Try.prog 8 #[.slice a n c, .slice b m d] w fun e w' => e = .returned (.bool false) ∧ w = w' := by
  have hd : decide ((1048576 : Int) < n) = false := decide_eq_false (by omega)
  have hd2 : decide ((1048576 : Int) < m) = false := decide_eq_false (by omega)
  go_enter Try.func8, Try.ntmps8
  go_wp2
  go_ret
  exact ⟨rfl, rfl⟩

theorem b10At_any (a : Option Addr) (n c : Nat) (Z : Nat → Int) (w : World) (hn : n ≤ 1048576) (h : IS .u8 w a n c Z) (i m : Int) (hi : 0 ≤ i) (hi2 : i ≤ 1048576) (hm : 1 < m) (hm2 : m ≤ 1048576) :
    Calls Try.prog 9 #[.slice a n c, .int .i64 i, .int .i64 m] w fun e w' => ∃ v : Nat, (v : Int) < m ∧ e = .returned (.int .i64 v) ∧ w = w' := by
  have hd0 : decide (m ≤ 1) = false := decide_eq_false (by omega)
  by_cases hlt : i < n
  · obtain ⟨b, off, rfl, hbl, hc, hwf⟩ := h.at (i := i.toNat) (by omega)
    have hz : 0 ≤ Z i.toNat ∧ Z i.toNat ≤ 255 := by
      simpa [Lit.wf, IntKind.min, IntKind.max, IntKind.signed, IntKind.bits] using hwf
    generalize Z i.toNat = z at *
    obtain ⟨hz1, hz2⟩ := hz
    have e1 := Int.emod_nonneg z (show m ≠ 0 by omega)
    have e2 := Int.emod_lt_of_pos z (show 0 < m by omega)
    clear h hbl hwf
    go_enter Try.func9, Try.ntmps9
    go_wp2
    go_ret
    exact ⟨(z % m).toNat, by omega, congrArg (fun q : Int => Ending.returned (.int .i64 q)) (Int.toNat_of_nonneg e1).symm, rfl⟩
  · have e1 := Int.emod_nonneg (i * 37 + 11) (show m ≠ 0 by omega)
    have e2 := Int.emod_lt_of_pos (i * 37 + 11) (show 0 < m by omega)
    clear h
    go_enter Try.func9, Try.ntmps9
    go_wp2
    go_ret
    exact ⟨((i * 37 + 11) % m).toNat, by omega, congrArg (fun q : Int => Ending.returned (.int .i64 q)) (Int.toNat_of_nonneg e1).symm, rfl⟩

/-- The absolute difference. -/
def gapP (U V : Option Nat) : Option Nat := if ford .f64 U V == some .lt then fop .sub .f64 V U else fop .sub .f64 U V
theorem b10Gap_any (a b : Nat) {U V : Option Nat} (fa : FV .f64 a U) (fb : FV .f64 b V) (w : World) :
    Calls Try.prog 12 #[.float .f64 a, .float .f64 b] w fun e w' => ∃ r, e = .returned (.float .f64 r) ∧ FV .f64 r (gapP U V) ∧ ∃ m, w' = w.drewN m := by
  have ha1 := fa.1
  have hb1 := fb.1
  cases hlt : (ford .f64 U V == some .lt) with
  | true =>
    have hg : gapP U V = fop .sub .f64 V U := by unfold gapP; rw [if_pos hlt]
    rw [hg]
    go_enter Try.func12, Try.ntmps12
    go_wp2_with (refine wpList_farith rfl _ _ _ _ _ rfl rfl _ _ _ rfl rfl fb fa ?_; intro r m hr)
    go_ret
    exact ⟨_, rfl, hr, _, rfl⟩
  | false =>
    have hg : gapP U V = fop .sub .f64 U V := by unfold gapP; rw [if_neg (by rw [hlt]; decide)]
    rw [hg]
    go_enter Try.func12, Try.ntmps12
    go_wp2_with (refine wpList_farith rfl _ _ _ _ _ rfl rfl _ _ _ rfl rfl fa fb ?_; intro r m hr)
    go_ret
    exact ⟨_, rfl, hr, _, rfl⟩
end Go.Proofs.Ytnjkabckbnbboaa
