/- Helper: nodes: two lists of one length, of 1 to 32 finite numbers, of the program. Conditions: none. -/
import Derived.Test.YtpmilaemmdcfaaaFinWalks
set_option linter.unusedVariables false
set_option linter.unusedSimpArgs false
namespace Go.Proofs.Ytpmilaemmdcfaaa
open Go.RowKit

/-- A length of 1 to 32. -/
def lenB (n : Nat) : Bool := decide (1 ≤ n) && decide (n ≤ 32)
theorem lenB_yes {n : Nat} (h : lenB n = true) : 1 ≤ n ∧ n ≤ 32 := by unfold lenB at h; simpa using h
theorem lenB_no {n : Nat} (h : lenB n = false) : n < 1 ∨ 32 < n := by unfold lenB at h; simp at h; omega
theorem lenB_of {n : Nat} (h1 : 1 ≤ n) (h2 : n ≤ 32) : lenB n = true := by unfold lenB; simp; omega
def nodesB (n m : Nat) (V W : Nat → Option Nat) : Bool := lenB n && (decide (m = n) && (allFin V n && allFin W m))
theorem ringLength_any (n : Nat) (w : World) (hn : n ≤ 1048576) : Calls Try.prog 51 #[.int .i64 n] w fun e w' => e = .returned (.bool (lenB n)) ∧ w = w' := by
  by_cases h1 : 1 ≤ n
  · by_cases h2 : n ≤ 32
    · have HB : Hid (lenB n = true) := Lib.hid (lenB_of h1 h2)
      have d1 : decide ((1 : Int) ≤ n) = true := decide_eq_true (by omega)
      have d2 : decide ((n : Int) ≤ 32) = true := decide_eq_true (by omega)
      go_enter Try.func51, Try.ntmps51
      go_wp2
      go_ret
      exact ⟨by rw [HB.out]; rfl, rfl⟩
    · have HB : Hid (lenB n = false) := Lib.hid (by unfold lenB; rw [decide_eq_false h2]; simp)
      have d1 : decide ((1 : Int) ≤ n) = true := decide_eq_true (by omega)
      have d2 : decide ((n : Int) ≤ 32) = false := decide_eq_false (by omega)
      go_enter Try.func51, Try.ntmps51
      go_wp2
      go_ret
      exact ⟨by rw [HB.out]; rfl, rfl⟩
  · have HB : Hid (lenB n = false) := Lib.hid (by unfold lenB; rw [decide_eq_false h1]; simp)
    have d1 : decide ((1 : Int) ≤ n) = false := decide_eq_false (by omega)
    go_enter Try.func51, Try.ntmps51
    go_wp2
    go_ret
    exact ⟨by rw [HB.out]; rfl, rfl⟩
theorem implNodes_any (a b : Option Addr) (n c m d : Nat) (Z Y : Nat → Nat) (w : World) (hn : n ≤ 1048576) (hm : m ≤ 1048576) (h : FS .f32 w a n c Z) (h2 : FS .f32 w b m d Y) :
    Calls Try.prog 32 #[.slice a n c, .slice b m d] w fun e w' => e = .returned (.bool (nodesB n m (vals Z) (vals Y))) ∧ ∃ q, w' = w.drewN q := by
  cases hl : lenB n with
  | false =>
    have HB : Hid (nodesB n m (vals Z) (vals Y) = false) := Lib.hid (by unfold nodesB; rw [hl]; rfl)
    go_enter Try.func32, Try.ntmps32
    go_wp2_with (first | (go_at_call 51; refine (ringLength_any _ _ hn).mono ?_; rintro e w' ⟨rfl, rfl⟩) | (go_at_call 52; first | ((with_reducible refine (implFin_any a _ c Z _ hn h).mono ?_); rintro e w' ⟨rfl, q, rfl⟩) | ((with_reducible refine (implFin_any b _ d Y _ hm (FS.drewN h2)).mono ?_); rintro e w' ⟨rfl, q2, rfl⟩)))
    go_ret
    exact ⟨by rw [HB.out]; rfl, 0, rfl⟩
  | true =>
    by_cases he : m = n
    case neg =>
      have HB : Hid (nodesB n m (vals Z) (vals Y) = false) := Lib.hid (by unfold nodesB; rw [hl, decide_eq_false he]; rfl)
      have hd : ((m : Int) == n) = false := beq_eq_false_iff_ne.2 (by omega)
      have he' := Lib.hid he
      clear he
      go_enter Try.func32, Try.ntmps32
      go_wp2_with (first | (go_at_call 51; refine (ringLength_any _ _ hn).mono ?_; rintro e w' ⟨rfl, rfl⟩) | (go_at_call 52; first | ((with_reducible refine (implFin_any a _ c Z _ hn h).mono ?_); rintro e w' ⟨rfl, q, rfl⟩) | ((with_reducible refine (implFin_any b _ d Y _ hm (FS.drewN h2)).mono ?_); rintro e w' ⟨rfl, q2, rfl⟩)))
      go_ret
      exact ⟨by rw [HB.out]; rfl, 0, rfl⟩
    subst he
    cases f1 : allFin (vals Z) m with
    | false =>
      have HB : Hid (nodesB m m (vals Z) (vals Y) = false) := Lib.hid (by unfold nodesB; rw [hl, f1]; simp)
      go_enter Try.func32, Try.ntmps32
      go_wp2_with (first | (go_at_call 51; refine (ringLength_any _ _ hn).mono ?_; rintro e w' ⟨rfl, rfl⟩) | (go_at_call 52; first | ((with_reducible refine (implFin_any a _ c Z _ hn h).mono ?_); rintro e w' ⟨rfl, q, rfl⟩) | ((with_reducible refine (implFin_any b _ d Y _ hm (FS.drewN h2)).mono ?_); rintro e w' ⟨rfl, q2, rfl⟩)))
      go_ret
      exact ⟨by rw [HB.out]; rfl, _, rfl⟩
    | true =>
      have HB : Hid (nodesB m m (vals Z) (vals Y) = allFin (vals Y) m) := Lib.hid (by unfold nodesB; rw [hl, f1]; simp)
      go_enter Try.func32, Try.ntmps32
      go_wp2_with (first | (go_at_call 51; refine (ringLength_any _ _ hn).mono ?_; rintro e w' ⟨rfl, rfl⟩) | (go_at_call 52; first | ((with_reducible refine (implFin_any a _ c Z _ hn h).mono ?_); rintro e w' ⟨rfl, q, rfl⟩) | ((with_reducible refine (implFin_any b _ d Y _ hm (FS.drewN h2)).mono ?_); rintro e w' ⟨rfl, q2, rfl⟩)))
      go_ret
      exact ⟨by rw [HB.out]; rfl, by first | exact ⟨_, rfl⟩ | exact ⟨_, World.drewN_drewN _ _ _⟩⟩
theorem nodes_yes {n m : Nat} {V W : Nat → Option Nat} (h : nodesB n m V W = true) : (1 ≤ n ∧ n ≤ 32) ∧ m = n ∧ allFin V n = true ∧ allFin W m = true := by
  unfold nodesB at h
  simp only [Bool.and_eq_true, decide_eq_true_eq] at h
  exact ⟨lenB_yes h.1, h.2.1, h.2.2.1, h.2.2.2⟩
end Go.Proofs.Ytpmilaemmdcfaaa
