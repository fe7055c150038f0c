/- Helper: the root of a square, told place by place. Conditions: none. -/
import Derived.Test.YtmjlhmbnaifhaacUp
import Derived.Test.YtmjlhmbnaifhaacRootWalks
import Derived.Test.YtmjlhmbnaifhaacSquare
import Derived.Test.YtmjlhmbnaifhaacGive
import Derived.Test.YtmjlhmbnaifhaacWork
import Derived.Test.YtmjlhmbnaifhaacZeroFacts
set_option linter.unusedVariables false
set_option linter.unusedSimpArgs false
namespace Go.Proofs.Ytmjlhmbnaifhaac
open Go.RowKit

/-- What stands at place p, told by the places before it. -/
def rtF (r : Nat) (Z : Nat → Option Nat) (S : Nat → Option Nat) (p : Nat) : Option Nat :=
  if p % r < p / r then fop .quo .f32 (lessG (Z p) (fun t => S (p / r * r + t)) (fun t => S (p % r * r + t)) (p % r)) (S (p % r * r + p % r))
  else if p % r = p / r then narrow (fsqrt (widen (lessG (Z p) (fun t => S (p / r * r + t)) (fun t => S (p / r * r + t)) (p % r))))
  else some 0
/-- The root, so far as p places are told. -/
def rtS (r : Nat) (Z : Nat → Option Nat) : Nat → Nat → Option Nat
  | 0, _ => some 0
  | p + 1, t => if t = p then rtF r Z (rtS r Z p) p else rtS r Z p t
theorem rtS_open {r : Nat} {Z : Nat → Option Nat} : ∀ {p t : Nat}, p ≤ t → rtS r Z p t = some 0
  | 0, _, _ => rfl
  | p + 1, t, h => by
    show (if t = p then _ else rtS r Z p t) = _
    rw [if_neg (by omega)]
    exact rtS_open (by omega)
theorem rtS_rest {r i : Nat} {Z : Nat → Option Nat} (hi : i < r) : ∀ {d : Nat}, i + 1 + d ≤ r → ∀ t, rtS r Z (i * r + (i + 1 + d)) t = rtS r Z (i * r + (i + 1)) t
  | 0, _, _ => rfl
  | d + 1, h, t => by
    have ih := rtS_rest (Z := Z) hi (d := d) (by omega) t
    rw [← ih]
    have hp : i * r + (i + 1 + (d + 1)) = (i * r + (i + 1 + d)) + 1 := by omega
    rw [hp]
    show (if t = i * r + (i + 1 + d) then rtF r Z (rtS r Z (i * r + (i + 1 + d))) (i * r + (i + 1 + d)) else rtS r Z (i * r + (i + 1 + d)) t) = _
    by_cases e : t = i * r + (i + 1 + d)
    · rw [if_pos e]
      obtain ⟨q1, q2⟩ := place_div (j := i) (show i + 1 + d < r by omega)
      unfold rtF
      rw [q1, q2, if_neg (by omega), if_neg (by omega), e, rtS_open (Nat.le_refl _)]
    · rw [if_neg e]
/-- What must be above 0 in row i. -/
def rtD (r : Nat) (Z : Nat → Option Nat) (i : Nat) : Option Nat := lessG (Z (i * r + i)) (fun t => rtS r Z (i * r + i) (i * r + t)) (fun t => rtS r Z (i * r + i) (i * r + t)) i
def rtOk (r : Nat) (Z : Nat → Option Nat) (i : Nat) : Bool := ford .f32 (rtD r Z i) (some 0) == some .gt
def rtAll (r : Nat) (Z : Nat → Option Nat) : Nat → Bool
  | 0 => true
  | n + 1 => rtAll r Z n && rtOk r Z n
theorem rtAll_lt {r : Nat} {Z : Nat → Option Nat} : ∀ {n i : Nat}, rtAll r Z n = true → i < n → rtOk r Z i = true
  | 0, _, _, h => by omega
  | n + 1, i, h, hi => by
    simp only [rtAll, Bool.and_eq_true] at h
    by_cases e : i = n
    · subst e; exact h.2
    · exact rtAll_lt h.1 (by omega)
theorem rtAll_no {r : Nat} {Z : Nat → Option Nat} {n i : Nat} (hi : i < n) (h : rtOk r Z i = false) : rtAll r Z n = false := by
  cases e : rtAll r Z n with
  | false => rfl
  | true => rw [rtAll_lt e hi] at h; cases h
theorem rt_put {r : Nat} {Z : Nat → Option Nat} {X : Nat → Nat} {p v : Nat} (h : ∀ t, vals X t = rtS r Z p t) (hv : FV .f32 v (rtF r Z (rtS r Z p) p)) : ∀ t, vals (fun t => if t = p then v else X t) t = rtS r Z (p + 1) t := by
  intro t
  show cn .f32 (if t = p then v else X t) = (if t = p then _ else rtS r Z p t)
  by_cases e : t = p
  · rw [if_pos e, if_pos e]; exact hv.1
  · rw [if_neg e, if_neg e]; exact h t
theorem rt_low {r i k : Nat} {Z : Nat → Option Nat} (hi : i < r) (hk : k < i) : rtF r Z (rtS r Z (i * r + k)) (i * r + k) = fop .quo .f32 (lessG (Z (i * r + k)) (fun t => rtS r Z (i * r + k) (i * r + t)) (fun t => rtS r Z (i * r + k) (k * r + t)) k) (rtS r Z (i * r + k) (k * r + k)) := by
  obtain ⟨q1, q2⟩ := place_div (j := i) (show k < r by omega)
  unfold rtF
  rw [q1, q2, if_pos hk]
theorem rt_mid {r i : Nat} {Z : Nat → Option Nat} (hi : i < r) : rtF r Z (rtS r Z (i * r + i)) (i * r + i) = narrow (fsqrt (widen (rtD r Z i))) := by
  obtain ⟨q1, q2⟩ := place_div (j := i) hi
  unfold rtF rtD
  rw [q1, q2, if_neg (by omega), if_pos rfl]
theorem rtS_step {r p : Nat} {Z Z' : Nat → Option Nat} (h : rtS r Z p = rtS r Z' p) (hF : rtF r Z (rtS r Z p) p = rtF r Z' (rtS r Z' p) p) : rtS r Z (p + 1) = rtS r Z' (p + 1) := by
  funext t
  show (if t = p then rtF r Z (rtS r Z p) p else rtS r Z p t) = (if t = p then rtF r Z' (rtS r Z' p) p else rtS r Z' p t)
  rw [hF, h]
theorem rt_row {r i : Nat} {Z Z' : Nat → Option Nat} (hi : i < r) (ho : ∀ k, k < i → Z (i * r + k) = Z' (i * r + k)) (h : rtS r Z (i * r) = rtS r Z' (i * r)) : ∀ {k : Nat}, k ≤ i → rtS r Z (i * r + k) = rtS r Z' (i * r + k)
  | 0, _ => h
  | k + 1, hk => by
    have ih := rt_row hi ho h (k := k) (by omega)
    refine rtS_step (p := i * r + k) ih ?_
    rw [rt_low hi (by omega), rt_low hi (by omega), ih, ho k (by omega)]
/-- What differs on the diagonal in the sign of zeros alone has the same root, or none. -/
theorem rt_same {r : Nat} {Z Z' : Nat → Option Nat} (hd : ∀ i, i < r → RZ (Z (i * r + i)) (Z' (i * r + i))) (ho : ∀ i k, i < r → k < i → Z (i * r + k) = Z' (i * r + k)) :
    ∀ {n : Nat}, n ≤ r → rtAll r Z n = rtAll r Z' n ∧ (rtAll r Z' n = true → rtS r Z (n * r) = rtS r Z' (n * r))
  | 0, _ => ⟨rfl, fun _ => by rw [Nat.zero_mul]; rfl⟩
  | n + 1, hn => by
    have hnr : n < r := by omega
    obtain ⟨e1, e2⟩ := rt_same hd ho (n := n) (by omega)
    cases hA : rtAll r Z' n with
    | false =>
      have hA' : rtAll r Z n = false := by rw [e1, hA]
      refine ⟨by simp only [rtAll, hA, hA', Bool.false_and], fun q => ?_⟩
      simp only [rtAll, hA, Bool.false_and] at q
      cases q
    | true =>
      have hA' : rtAll r Z n = true := by rw [e1, hA]
      have hS := rt_row hnr (fun k hk => ho n k hnr hk) (e2 hA) (k := n) (Nat.le_refl _)
      have hz : RZ (rtD r Z n) (rtD r Z' n) := by
        unfold rtD
        rw [hS]
        exact RZ.less (hd n hnr) n
      obtain ⟨a1, a2⟩ := hz.above
      have hk : rtOk r Z n = rtOk r Z' n := a1
      refine ⟨by simp only [rtAll, hA, hA', hk], fun q => ?_⟩
      simp only [rtAll, hA, Bool.true_and] at q
      have hD := a2 q
      have h1 : rtS r Z (n * r + (n + 1)) = rtS r Z' (n * r + (n + 1)) := by
        refine rtS_step (p := n * r + n) hS ?_
        rw [rt_mid hnr, rt_mid hnr, hD]
      funext t
      have r1 := rtS_rest (Z := Z) hnr (d := r - (n + 1)) (by omega) t
      have r2 := rtS_rest (Z := Z') hnr (d := r - (n + 1)) (by omega) t
      rw [show n * r + (n + 1 + (r - (n + 1))) = (n + 1) * r by rw [Nat.succ_mul]; omega] at r1 r2
      rw [r1, r2, h1]
/-- Whether there is a root. -/
def rtGood (r N : Nat) (Z : Nat → Option Nat) : Bool := rtAll r Z r && allFin (rtS r Z N) N
theorem rt_good {r N : Nat} {Z Z' : Nat → Option Nat} (hN : N = r * r) (hd : ∀ i, i < r → RZ (Z (i * r + i)) (Z' (i * r + i))) (ho : ∀ i k, i < r → k < i → Z (i * r + k) = Z' (i * r + k)) :
    rtGood r N Z = rtGood r N Z' ∧ (rtGood r N Z' = true → rtS r Z N = rtS r Z' N) := by
  obtain ⟨e1, e2⟩ := rt_same hd ho (Nat.le_refl r)
  unfold rtGood
  rw [hN]
  cases hA : rtAll r Z' r with
  | false => rw [e1, hA]; exact ⟨rfl, fun q => by cases q⟩
  | true => rw [e1, hA, e2 hA]; exact ⟨rfl, fun _ => rfl⟩
end Go.Proofs.Ytmjlhmbnaifhaac
