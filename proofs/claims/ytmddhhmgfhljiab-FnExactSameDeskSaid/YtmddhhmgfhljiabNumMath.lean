/- Helper: divisors, primes and what leads back over a prime, in plain numbers. Conditions: none. -/
set_option linter.unusedVariables false
set_option linter.unusedSimpArgs false
namespace Go.Proofs.Ytmddhhmgfhljiab

theorem gcd_step (a b : Int) : Int.gcd b (a.tmod b) = Int.gcd a b := by
  show Nat.gcd b.natAbs (a.tmod b).natAbs = Nat.gcd a.natAbs b.natAbs
  rw [Int.natAbs_tmod, Nat.gcd_comm, ← Nat.gcd_rec, Nat.gcd_comm]
theorem tmod_small (a b : Int) (h : b ≠ 0) : (a.tmod b).natAbs < b.natAbs := by
  rw [Int.natAbs_tmod]; exact Nat.mod_lt _ (by omega)
theorem gcd_end (a : Int) : (Int.gcd a 0 : Int) = if a < 0 then -a else a := by
  have : Int.gcd a 0 = a.natAbs := by show Nat.gcd _ _ = _; simp
  rw [this]; split <;> omega

/-- Whether one of the numbers from 2 on and below k divides p. -/
def partsB (p : Nat) : Nat → Bool
  | 0 => false
  | k + 1 => partsB p k || (decide (2 ≤ k) && p % k == 0)
theorem partsB_iff (p : Nat) : ∀ k, partsB p k = true ↔ ∃ d, 2 ≤ d ∧ d < k ∧ p % d = 0
  | 0 => by simp [partsB]
  | k + 1 => by
    simp only [partsB, Bool.or_eq_true, partsB_iff p k, Bool.and_eq_true, decide_eq_true_eq, beq_iff_eq]
    constructor
    · rintro (⟨d, h1, h2, h3⟩ | ⟨h1, h2⟩)
      · exact ⟨d, h1, by omega, h3⟩
      · exact ⟨k, h1, by omega, h2⟩
    · rintro ⟨d, h1, h2, h3⟩
      by_cases e : d = k
      · subst e; exact .inr ⟨h1, h3⟩
      · exact .inl ⟨d, h1, by omega, h3⟩
/-- A prime from 2 to 997. -/
def primeN (p : Nat) : Bool := decide (2 ≤ p) && (decide (p ≤ 997) && !partsB p p)
def primeI (x : Int) : Bool := decide (0 ≤ x) && primeN x.toNat
/-- What the lesser divisors tell. -/
theorem parts_root {p k : Nat} (hp : 2 ≤ p) (hk : p < k * k) (h : partsB p k = false) : partsB p p = false := by
  cases hh : partsB p p with
  | false => rfl
  | true =>
    obtain ⟨d, h1, h2, h3⟩ := (partsB_iff p p).1 hh
    have hno : ∀ d, 2 ≤ d → d < k → p % d ≠ 0 := fun d a b c => by
      have := (partsB_iff p k).2 ⟨d, a, b, c⟩
      rw [h] at this; cases this
    by_cases hd : d < k
    · exact absurd h3 (hno d h1 hd)
    · have e : d * (p / d) = p := Nat.mul_div_cancel' (Nat.dvd_of_mod_eq_zero h3)
      have hq2 : 2 ≤ p / d := by
        rcases Nat.lt_or_ge (p / d) 2 with h4 | h4
        · have h5 : d * (p / d) ≤ d * 1 := Nat.mul_le_mul_left _ (by omega)
          omega
        · exact h4
      have hqk : p / d < k := by
        rcases Nat.lt_or_ge (p / d) k with h4 | h4
        · exact h4
        · have h5 : k * k ≤ d * (p / d) := Nat.mul_le_mul (by omega) h4
          omega
      have : p % (p / d) = 0 := by
        have e2 : (p / d) * d = p := by rw [Nat.mul_comm]; exact e
        exact Nat.mod_eq_zero_of_dvd ⟨d, e2.symm⟩
      exact absurd this (hno _ hq2 hqk)
theorem parts_upto {p k : Nat} (hk : k ≤ p) (h : partsB p k = true) : partsB p p = true := by
  obtain ⟨d, h1, h2, h3⟩ := (partsB_iff p k).1 h
  exact (partsB_iff p p).2 ⟨d, h1, by omega, h3⟩

/-- The power that leads back. -/
def backN (r p : Nat) : Nat → Nat
  | 0 => 1
  | n + 1 => backN r p n * r % p
theorem backN_pow (r p : Nat) (hp : 2 ≤ p) : ∀ n, backN r p n = r ^ n % p
  | 0 => by show 1 = r ^ 0 % p; rw [Nat.pow_zero]; exact (Nat.mod_eq_of_lt (by omega)).symm
  | n + 1 => by rw [backN, backN_pow r p hp n, Nat.pow_succ, Nat.mod_mul_mod]
/-- By looking at all of them: over each prime the power less 2 leads back. -/
def lookAt (p : Nat) : Bool := (List.range p).all fun r => r == 0 || (r ^ (p - 2) * r) % p == 1
def lookAll : Bool := (List.range 998).all fun p => !primeN p || lookAt p
set_option maxRecDepth 100000 in
theorem lookAll_true : lookAll = true := by decide +kernel
theorem look {p r : Nat} (hp : primeN p = true) (h0 : r ≠ 0) (hr : r < p) : (r ^ (p - 2) * r) % p = 1 := by
  have hp' := hp
  unfold primeN at hp'
  simp only [Bool.and_eq_true, decide_eq_true_eq] at hp'
  have h1 := lookAll_true
  unfold lookAll at h1
  have h2 := List.all_eq_true.1 h1 p (List.mem_range.2 (by omega))
  rw [hp] at h2
  have h3 : lookAt p = true := by simpa using h2
  unfold lookAt at h3
  have h4 := List.all_eq_true.1 h3 r (List.mem_range.2 hr)
  simp only [Bool.or_eq_true, beq_iff_eq] at h4
  rcases h4 with h4 | h4
  · exact absurd h4 h0
  · exact h4
/-- The number that leads back is the only one. -/
theorem back_only {p r x y : Nat} (hx : x < p) (hy : y < p) (h1 : x * r % p = 1) (h2 : y * r % p = 1) : x = y := by
  have e1 : x * (y * r) % p = x := by rw [Nat.mul_mod, h2, Nat.mul_one, Nat.mod_mod, Nat.mod_eq_of_lt hx]
  have e2 : y * (x * r) % p = y := by rw [Nat.mul_mod, h1, Nat.mul_one, Nat.mod_mod, Nat.mod_eq_of_lt hy]
  have e3 : x * (y * r) = y * (x * r) := by rw [Nat.mul_left_comm]
  rw [e3] at e1
  omega
end Go.Proofs.Ytmddhhmgfhljiab
