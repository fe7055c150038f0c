/- Helper: primes, remainders and what leads back over a prime, of the program and of its reference. Conditions: none. -/
import Derived.Test.YtinekdfpgkmbnaaNumMath
import Derived.Test.YtinekdfpgkmbnaaKeys
import Derived.IntWalk
set_option linter.unusedVariables false
set_option linter.unusedSimpArgs false
namespace Go.Proofs.Ytinekdfpgkmbnaa
open Go.RowKit

theorem primeI_no1 {x : Int} (h : x < 2) : primeI x = false := by
  unfold primeI
  by_cases h0 : 0 ≤ x
  · have : primeN x.toNat = false := by unfold primeN; rw [decide_eq_false (by omega)]; rfl
    rw [this]; simp
  · rw [decide_eq_false h0]; rfl
theorem primeI_no2 {x : Int} (h : 997 < x) : primeI x = false := by
  unfold primeI
  have : primeN x.toNat = false := by unfold primeN; rw [decide_eq_false (show ¬ x.toNat ≤ 997 by omega)]; simp
  rw [this]; simp
theorem primeI_nat {p : Nat} (h1 : 2 ≤ p) (h2 : p ≤ 997) : primeI (p : Int) = !partsB p p := by
  unfold primeI primeN
  rw [Int.toNat_natCast, decide_eq_true (show (0 : Int) ≤ p by omega), decide_eq_true h1, decide_eq_true h2]; rfl
theorem primeI_range {x : Int} (h : primeI x = true) : ∃ p : Nat, x = p ∧ 2 ≤ p ∧ p ≤ 997 ∧ primeN p = true := by
  have h' := h
  unfold primeI at h'
  simp only [Bool.and_eq_true, decide_eq_true_eq] at h'
  have h3 := h'.2
  unfold primeN at h3
  simp only [Bool.and_eq_true, decide_eq_true_eq] at h3
  exact ⟨x.toNat, by omega, h3.1, h3.2.1, h'.2⟩

set_option maxHeartbeats 1000000 in
theorem implPrime_any (x : Int) (w : World) :
    Calls Try.prog 12 #[.int .i64 x] w fun e w' => e = .returned (.bool (primeI x)) ∧ w = w' := by
  by_cases h1 : x < 2
  · rw [primeI_no1 h1]
    have d1 : decide (x < 2) = true := decide_eq_true h1
    go_enter Try.func12, Try.ntmps12
    go_wp2
    go_ret
    exact ⟨rfl, rfl⟩
  by_cases h2 : 997 < x
  · rw [primeI_no2 h2]
    have d1 : decide (x < 2) = false := decide_eq_false h1
    have d2 : decide (997 < x) = true := decide_eq_true h2
    go_enter Try.func12, Try.ntmps12
    go_wp2
    go_ret
    exact ⟨rfl, rfl⟩
  obtain ⟨p, rfl⟩ : ∃ p : Nat, x = p := ⟨x.toNat, by omega⟩
  have hp1 : 2 ≤ p := by omega
  have hp2 : p ≤ 997 := by omega
  have HP := Lib.hid (primeI_nat hp1 hp2)
  have d1 : decide ((p : Int) < 2) = false := decide_eq_false h1
  have d2 : decide (997 < (p : Int)) = false := decide_eq_false h2
  clear h1 h2
  go_enter Try.func12, Try.ntmps12
  go_wp2
  clear d1 d2
  go_loop [11] (fun s => ∃ j : Nat, j ≤ p ∧ s = .int .i64 j ∧ Hid (partsB p j = false)) (fun s => p - (intOf s).toNat)
  case atStart => exact ⟨0, Nat.zero_le _, rfl, Lib.hid rfl⟩
  case round =>
    obtain ⟨j, hj, rfl, ho⟩ := hrel
    by_cases hlt : j < p
    · by_cases h2 : 2 ≤ j
      · have d3 : decide (1 < (j : Int)) = true := decide_eq_true (by omega)
        have hm : ((p : Int) % (j : Int)) = ((p % j : Nat) : Int) := (Int.natCast_emod p j).symm
        by_cases h3 : p % j = 0
        · have HB : Hid (partsB p p = true) := Lib.hid (parts_upto (k := j + 1) (by omega) (by simp [partsB, h2, h3]))
          rw [h3] at hm
          have hq : ((p : Int) % (j : Int) == 0) = true := beq_iff_eq.2 hm
          clear hm h3
          go_wp2
          go_ret
          exact ⟨by rw [HP.out, HB.out]; rfl, rfl⟩
        · have HB : Hid (partsB p (j + 1) = false) := Lib.hid (by simp [partsB, ho.out, h3])
          have hq : ((p : Int) % (j : Int) == 0) = false := beq_eq_false_iff_ne.2 (by omega)
          clear hm h3
          go_wp2
          go_round
          case rel => exact ⟨j + 1, by omega, by go_num, HB⟩
          case measure => simp [intOf]; omega
      · have d3 : decide (1 < (j : Int)) = false := decide_eq_false (by omega)
        have HB : Hid (partsB p (j + 1) = false) := Lib.hid (by simp only [partsB, ho.out, decide_eq_false h2]; rfl)
        go_wp2
        go_round
        case rel => exact ⟨j + 1, by omega, by go_num, HB⟩
        case measure => simp [intOf]; omega
    · obtain rfl : j = p := by omega
      go_wp2
      go_ret
      exact ⟨by rw [HP.out, ho.out]; rfl, rfl⟩
theorem sq_le {k p : Nat} (h : k * k ≤ p) (hp : p ≤ 997) : k ≤ 31 := by
  rcases Nat.lt_or_ge k 32 with h1 | h1
  · omega
  · have : 32 * 32 ≤ k * k := Nat.mul_le_mul h1 h1
    omega
set_option maxHeartbeats 1000000 in
theorem specPrime_any (x : Int) (w : World) (wx : (Lit.int .i64 x).wf = true) :
    Calls Try.prog 28 #[.int .i64 x] w fun e w' => e = .returned (.bool (primeI x)) ∧ w = w' := by
  by_cases h1 : x < 2
  · rw [primeI_no1 h1]
    have d1 : decide (2 ≤ x) = false := decide_eq_false (by omega)
    have d2 : decide (4 ≤ x) = false := decide_eq_false (by omega)
    go_enter Try.func28, Try.ntmps28
    go_wp2
    go_loop [3] (fun s => s = .int .i64 2) (fun _ => 0)
    case atStart => rfl
    case round =>
      obtain rfl := hrel
      go_wp2
      go_ret
      exact ⟨rfl, rfl⟩
  by_cases h2 : 997 < x
  · rw [primeI_no2 h2]
    have d1 : decide (2 ≤ x) = true := decide_eq_true (by omega)
    have d2 : decide (4 ≤ x) = true := decide_eq_true (by omega)
    have d3 : decide (x ≤ 997) = false := decide_eq_false (by omega)
    go_enter Try.func28, Try.ntmps28
    go_wp2
    go_loop [3] (fun s => s = .int .i64 2) (fun _ => 0)
    case atStart => rfl
    case round =>
      obtain rfl := hrel
      go_wp2
      go_ret
      exact ⟨rfl, rfl⟩
  obtain ⟨p, rfl⟩ : ∃ p : Nat, x = p := ⟨x.toNat, by omega⟩
  have hp1 : 2 ≤ p := by omega
  have hp2 : p ≤ 997 := by omega
  have HP := Lib.hid (primeI_nat hp1 hp2)
  have d1 : decide (2 ≤ (p : Int)) = true := decide_eq_true (by omega)
  have d2 : decide ((p : Int) ≤ 997) = true := decide_eq_true (by omega)
  clear h1 h2 wx
  go_enter Try.func28, Try.ntmps28
  go_wp2
  go_loop [3] (fun s => ∃ j : Nat, 2 ≤ j ∧ j ≤ 32 ∧ s = .int .i64 j ∧ Hid (partsB p j = false)) (fun s => 40 - (intOf s).toNat)
  case atStart => exact ⟨2, Nat.le_refl _, by omega, rfl, Lib.hid (by simp [partsB])⟩
  case round =>
    obtain ⟨j, hj2, hj, rfl, ho⟩ := hrel
    have hjj : (j : Int) * (j : Int) = ((j * j : Nat) : Int) := (Int.natCast_mul j j).symm
    have hb : j * j ≤ 32 * 32 := Nat.mul_le_mul hj hj
    by_cases hlt : j * j ≤ p
    · have hj31 := sq_le hlt hp2
      have d3 : decide ((j : Int) * (j : Int) ≤ (p : Int)) = true := decide_eq_true (by omega)
      have hb1 : (0 : Int) ≤ (j : Int) * (j : Int) := by omega
      have hb2 : (j : Int) * (j : Int) ≤ 1024 := by omega
      have hm : ((p : Int) % (j : Int)) = ((p % j : Nat) : Int) := (Int.natCast_emod p j).symm
      have hjp : j ≤ p := Nat.le_trans (Nat.le_mul_self j) hlt
      clear hjj hb
      by_cases h3 : p % j = 0
      · have hjlt : j < p := by
          rcases Nat.lt_or_ge j p with h4 | h4
          · exact h4
          · have e : j = p := by omega
            subst e
            have : 2 * j ≤ j * j := Nat.mul_le_mul_right j hj2
            omega
        have HB : Hid (partsB p p = true) := Lib.hid (parts_upto (k := j + 1) (by omega) (by simp [partsB, hj2, h3]))
        rw [h3] at hm
        have hq : ((p : Int) % (j : Int) == 0) = true := beq_iff_eq.2 hm
        clear hm h3 hlt
        go_wp2
        go_ret
        exact ⟨by rw [HP.out, HB.out]; rfl, rfl⟩
      · have HB : Hid (partsB p (j + 1) = false) := Lib.hid (by simp [partsB, ho.out, h3])
        have hq : ((p : Int) % (j : Int) == 0) = false := beq_eq_false_iff_ne.2 (by omega)
        clear hm h3 hlt
        go_wp2
        go_round
        case rel => exact ⟨j + 1, by omega, by omega, by go_num, HB⟩
        case measure => simp [intOf]; omega
    · have HB : Hid (partsB p p = false) := Lib.hid (parts_root hp1 (by omega) ho.out)
      have d3 : decide ((j : Int) * (j : Int) ≤ (p : Int)) = false := decide_eq_false (by omega)
      have hb1 : (0 : Int) ≤ (j : Int) * (j : Int) := by omega
      have hb2 : (j : Int) * (j : Int) ≤ 1024 := by omega
      clear hjj hb
      go_wp2
      go_ret
      exact ⟨by rw [HP.out, HB.out]; rfl, rfl⟩
end Go.Proofs.Ytinekdfpgkmbnaa
