/- Helper: walks of the tests whether a matrix is valid, of the program and of its reference. Conditions: none. -/
import Derived.Test.YtmjlhmbnaifhaabFinWalks
import Derived.Test.YtmjlhmbnaifhaabMatCopy
set_option linter.unusedVariables false
set_option linter.unusedSimpArgs false
namespace Go.Proofs.Ytmjlhmbnaifhaab
open Go.RowKit

theorem quiet_left {P : Program} {f : FuncId} {args : Array Value} {w : World} {n : Nat} {v : Value}
    (h : Calls P f args (w.drewN n) fun e w' => e = .returned v ∧ w.drewN n = w') : Calls P f args (w.drewN n) fun e w'' => e = .returned v ∧ ∃ m, w'' = w.drewN m :=
  h.mono fun _ _ ⟨he, hm⟩ => ⟨he, n, hm.symm⟩

/-- What a side is. -/
def sideB (x : Int) : Bool := decide (1 ≤ x) && decide (x ≤ 12)
theorem sideB_yes {x : Int} (h1 : 1 ≤ x) (h2 : x ≤ 12) : sideB x = true := by unfold sideB; rw [decide_eq_true h1, decide_eq_true h2]; rfl
theorem sideB_le {x : Int} (h : sideB x = true) : 1 ≤ x ∧ x ≤ 12 := by unfold sideB at h; simpa using h
theorem sideB_no1 {x : Int} (h1 : ¬ 1 ≤ x) : sideB x = false := by unfold sideB; rw [decide_eq_false h1]; rfl
theorem sideB_no2 {x : Int} (h1 : ¬ x ≤ 12) : sideB x = false := by unfold sideB; rw [decide_eq_false h1]; simp

def inB (x a b : Int) : Bool := decide (a ≤ x) && decide (x ≤ b)
theorem l00In_any (x a b : Int) (w : World) : Calls Try.prog 40 #[.int .i64 x, .int .i64 a, .int .i64 b] w fun e w' => e = .returned (.bool (inB x a b)) ∧ w = w' := by
  by_cases h1 : a ≤ x
  · by_cases h2 : x ≤ b
    · have e : inB x a b = true := by unfold inB; rw [decide_eq_true h1, decide_eq_true h2]; rfl
      rw [e]
      clear e
      have hd1 : decide (a ≤ x) = true := decide_eq_true h1
      have hd2 : decide (x ≤ b) = true := decide_eq_true h2
      go_enter Try.func40, Try.ntmps40
      go_wp2
      go_ret
      exact ⟨rfl, rfl⟩
    · have e : inB x a b = false := by unfold inB; rw [decide_eq_false h2]; simp
      rw [e]
      clear e
      have hd1 : decide (a ≤ x) = true := decide_eq_true h1
      have hd2 : decide (x ≤ b) = false := decide_eq_false h2
      go_enter Try.func40, Try.ntmps40
      go_wp2
      go_ret
      exact ⟨rfl, rfl⟩
  · have e : inB x a b = false := by unfold inB; rw [decide_eq_false h1]; rfl
    rw [e]
    clear e
    have hd1 : decide (a ≤ x) = false := decide_eq_false h1
    go_enter Try.func40, Try.ntmps40
    go_wp2
    go_ret
    exact ⟨rfl, rfl⟩
theorem inB_side (x : Int) : inB x 1 12 = sideB x := rfl

/-- What a valid matrix is. -/
def validB (R C : Int) (n : Nat) (V : Nat → Option Nat) : Bool := (sideB R && sideB C) && (decide ((n : Int) = R * C) && allFin V n)
theorem mul_sides {R C : Int} (h1 : 1 ≤ R ∧ R ≤ 12) (h2 : 1 ≤ C ∧ C ≤ 12) : 1 ≤ R * C ∧ R * C ≤ 144 := by
  obtain ⟨a, b⟩ := h1
  obtain ⟨c, d⟩ := h2
  have e1 : 1 * 1 ≤ R * C := Int.mul_le_mul a c (by omega) (by omega)
  have e2 : R * C ≤ 12 * 12 := Int.mul_le_mul b d (by omega) (by omega)
  omega
/-- A valid matrix in natural numbers. -/
theorem valid_nat {R C : Int} {n : Nat} {V : Nat → Option Nat} (h : validB R C n V = true) : ∃ r c : Nat, R = r ∧ C = c ∧ 1 ≤ r ∧ r ≤ 12 ∧ 1 ≤ c ∧ c ≤ 12 ∧ n = r * c ∧ allFin V n = true := by
  unfold validB at h
  simp only [Bool.and_eq_true, decide_eq_true_eq] at h
  obtain ⟨⟨h1, h2⟩, h3, h4⟩ := h
  obtain ⟨a, b⟩ := sideB_le h1
  obtain ⟨c, d⟩ := sideB_le h2
  refine ⟨R.toNat, C.toNat, by omega, by omega, by omega, by omega, by omega, by omega, ?_, h4⟩
  have e1 : (R.toNat : Int) = R := by omega
  have e2 : (C.toNat : Int) = C := by omega
  have : ((R.toNat * C.toNat : Nat) : Int) = R * C := by rw [Int.natCast_mul, e1, e2]
  omega


/-- A matrix lies in a block of its own. -/
def Box (w : World) (b : Nat) (R C : Int) (a : Option Addr) (n c : Nat) : Prop :=
  w.cell? ⟨b, 0, none⟩ = some (.int .i64 R) ∧ w.cell? ⟨b, 1, none⟩ = some (.int .i64 C) ∧ w.cell? ⟨b, 2, none⟩ = some (.slice a n c)

end Go.Proofs.Ytmjlhmbnaifhaab
