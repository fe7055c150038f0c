/- Helper: a part of a matrix, of the program. Conditions: none. -/
import Derived.Test.YtcldaafmbmmhiaaCopy
import Derived.Test.YtcldaafmbmmhiaaKindSteps
import Derived.Test.YtcldaafmbmmhiaaGive
set_option linter.unusedVariables false
namespace Go.Proofs.Ytcldaafmbmmhiaa
open Go.RowKit

/-- Whether a part of p from s on lies in W. -/
def liB (W p s : Int) : Bool := decide (1 ≤ p) && (decide (p ≤ W) && (decide (0 ≤ s) && decide (s ≤ W - p)))
theorem liB_eq {R C p q x y : Int} (hR : R ≤ 12) (hC : C ≤ 12) : (liB R p x && liB C q y) = ((sideB p && sideB q) && (inB x 0 (R - p) && inB y 0 (C - q))) := by
  rw [Bool.eq_iff_iff]
  unfold liB sideB inB
  simp only [Bool.and_eq_true, decide_eq_true_eq]
  omega
/-- A part, so far; and at last. -/
def partP (c q j x y : Nat) (Z : Nat → Nat) (t : Nat) : Nat := if t / q < j then Z ((x + t / q) * c + (y + t % q)) else 0
def partZ (c q x y : Nat) (Z : Nat → Nat) (t : Nat) : Nat := Z ((x + t / q) * c + (y + t % q))
theorem partP_next {c q j x y : Nat} {Z : Nat → Nat} (hq : 0 < q) (t : Nat) : pasted (j * q) q (fun k => Z ((x + j) * c + (y + k))) (partP c q j x y Z) t = partP c q (j + 1) x y Z t := by
  unfold pasted partP
  have hp := place_eq (c := q) (t := t)
  have hm := Nat.mod_lt t hq
  by_cases h : j * q ≤ t ∧ t < j * q + q
  · have e : t / q = j := by
      have h1 : j ≤ t / q := (Nat.le_div_iff_mul_le hq).2 h.1
      have h2 : t / q < j + 1 := Nat.div_lt_of_lt_mul (by rw [Nat.mul_comm, Nat.add_mul, Nat.one_mul]; exact h.2)
      omega
    have e2 : t - j * q = t % q := by rw [e] at hp; omega
    rw [if_pos h, if_pos (by omega), e, e2]
  · rw [if_neg h]
    by_cases h2 : t / q < j
    · rw [if_pos h2, if_pos (by omega)]
    · rw [if_neg h2, if_neg]
      intro h3
      have e : t / q = j := by omega
      rw [e] at hp
      exact h ⟨by omega, by omega⟩

theorem liesInSide_any (W p s : Int) (w : World) (h0 : 0 ≤ W) (hW : W ≤ 12) : Calls Try.prog 104 #[.int .i64 W, .int .i64 p, .int .i64 s] w fun e w' => e = .returned (.bool (liB W p s)) ∧ w = w' := by
  unfold liB
  by_cases h1 : 1 ≤ p
  case neg =>
    have d1 := decide_eq_false h1
    rw [d1]
    clear h1
    go_enter Try.func104, Try.ntmps104
    go_wp2
    go_ret
    exact ⟨rfl, rfl⟩
  by_cases h2 : p ≤ W
  case neg =>
    have d1 := decide_eq_true h1
    have d2 := decide_eq_false h2
    rw [d1, d2]
    clear h1 h2
    go_enter Try.func104, Try.ntmps104
    go_wp2
    go_ret
    exact ⟨rfl, rfl⟩
  have hw : IntKind.i64.wrap (W - p) = W - p := IntWalk.i64_in _ (by omega)
  by_cases h3 : 0 ≤ s
  case neg =>
    have d1 := decide_eq_true h1
    have d2 := decide_eq_true h2
    have d3 := decide_eq_false h3
    rw [d1, d2, d3]
    clear h1 h2 h3
    go_enter Try.func104, Try.ntmps104
    go_wp2
    go_ret
    exact ⟨rfl, rfl⟩
  by_cases h4 : s ≤ W - p
  · have d1 := decide_eq_true h1
    have d2 := decide_eq_true h2
    have d3 := decide_eq_true h3
    have d4 := decide_eq_true h4
    rw [d1, d2, d3, d4]
    go_enter Try.func104, Try.ntmps104
    go_wp2
    go_ret
    exact ⟨rfl, rfl⟩
  · have d1 := decide_eq_true h1
    have d2 := decide_eq_true h2
    have d3 := decide_eq_true h3
    have d4 := decide_eq_false h4
    rw [d1, d2, d3, d4]
    go_enter Try.func104, Try.ntmps104
    go_wp2
    go_ret
    exact ⟨rfl, rfl⟩
theorem liesIn_any (W1 W2 p1 p2 s1 s2 : Int) (w : World) (h1 : 0 ≤ W1) (h2 : W1 ≤ 12) (h3 : 0 ≤ W2) (h4 : W2 ≤ 12) :
    Calls Try.prog 53 #[.agg #[.int .i64 W1, .int .i64 W2], .agg #[.int .i64 p1, .int .i64 p2], .int .i64 s1, .int .i64 s2] w fun e w' => e = .returned (.bool (liB W1 p1 s1 && liB W2 p2 s2)) ∧ Below w.heap.size w w' := by
  cases hl : liB W1 p1 s1 <;> cases hl2 : liB W2 p2 s2
  all_goals
    go_enter Try.func53, Try.ntmps53
    go_wp2_with (go_at_call 104; (first | (with_reducible refine (liesInSide_any W1 p1 s1 _ h1 h2).mono ?_) | (with_reducible refine (liesInSide_any W2 p2 s2 _ h3 h4).mono ?_)); rintro e w' ⟨rfl, rfl⟩)
    go_ret
    exact ⟨rfl, (by repeat first | (with_reducible exact Below.refl _ _) | (with_reducible refine Below.setCell ?_ (by first | exact Nat.le_refl _ | (simp; done) | (simp; omega) | omega) _) | (with_reducible refine Below.alloc ?_ (by first | exact Nat.le_refl _ | (simp; done) | (simp; omega) | omega) _) | (with_reducible refine below_drewN ?_ _) | (with_reducible refine Below.drew ?_))⟩
theorem sidesOf_any (R C : Int) (a : Option Addr) (n c : Nat) (w : World) : Calls Try.prog 54 #[.agg #[.int .i64 R, .int .i64 C, .slice a n c]] w fun e w' => e = .returned (.agg #[.int .i64 R, .int .i64 C]) ∧ Below w.heap.size w w' := by
  go_enter Try.func54, Try.ntmps54
  go_wp2
  refine bodyPost_ret (v := .agg #[.int .i64 R, .int .i64 C]) (by simp [results, Try.results54, go_sem]) rfl ?_
  exact ⟨rfl, (by repeat first | (with_reducible exact Below.refl _ _) | (with_reducible refine Below.setCell ?_ (by first | exact Nat.le_refl _ | (simp; done) | (simp; omega) | omega) _) | (with_reducible refine Below.alloc ?_ (by first | exact Nat.le_refl _ | (simp; done) | (simp; omega) | omega) _) | (with_reducible refine below_drewN ?_ _) | (with_reducible refine Below.drew ?_))⟩
end Go.Proofs.Ytcldaafmbmmhiaa
