/- Helper: the walk of the law FnExactBackOver. Conditions: none. -/
import Derived.Test.YtinekdfpgkmbnaaPrimeKey
set_option linter.unusedVariables false
set_option linter.unusedSimpArgs false
namespace Go.Proofs.Ytinekdfpgkmbnaa
open Go.RowKit

/-- The remainder of a over p, of at least 0. -/
def modN (a : Int) (p : Nat) : Nat := (a % (p : Int)).toNat
theorem modN_lt (a : Int) {p : Nat} (hp : 2 ≤ p) : modN a p < p := by
  unfold modN
  have h1 := Int.emod_nonneg a (show (p : Int) ≠ 0 by omega)
  have h2 := Int.emod_lt_of_pos a (show (0 : Int) < p by omega)
  omega
theorem modN_eq (a : Int) {p : Nat} (hp : 2 ≤ p) : ((modN a p : Nat) : Int) = a % (p : Int) := by
  unfold modN
  have h1 := Int.emod_nonneg a (show (p : Int) ≠ 0 by omega)
  omega
theorem tmod_cases (a : Int) {p : Nat} (hp : 2 ≤ p) : (a.tmod p = (modN a p : Int) ∨ a.tmod p = (modN a p : Int) - p) ∧ (a.tmod p < 0 → a.tmod p = (modN a p : Int) - p) ∧ (0 ≤ a.tmod p → a.tmod p = (modN a p : Int)) ∧ (a.tmod p = 0 ↔ modN a p = 0) := by
  have h1 := modN_lt a hp
  have h2 := modN_eq a hp
  have h3 : a.tmod p = a % p - ((if 0 ≤ a ∨ (p : Int) ∣ a then 0 else (p : Int).natAbs : Nat) : Int) := Int.tmod_eq_emod
  have h4 : (p : Int).natAbs = p := rfl
  rw [h4, ← h2] at h3
  by_cases h5 : 0 ≤ a ∨ (p : Int) ∣ a
  · rw [if_pos h5] at h3
    exact ⟨.inl (by omega), fun h => by omega, fun _ => by omega, by omega⟩
  · rw [if_neg h5] at h3
    have h6 : modN a p ≠ 0 := fun h => h5 (.inr (Int.dvd_of_emod_eq_zero (by rw [← h2, h]; rfl)))
    exact ⟨.inr (by omega), fun _ => by omega, fun h => by omega, by omega⟩
theorem tmod_bd (a : Int) {p : Nat} (hp : 2 ≤ p) : -(p : Int) < a.tmod p ∧ a.tmod p < p := by
  have h1 := modN_lt a hp
  obtain ⟨h2 | h2, h3, h4, h5⟩ := tmod_cases a hp
  · omega
  · constructor
    · have : modN a p ≠ 0 := fun h => by have := h5.2 h; omega
      omega
    · omega

theorem specMod_any (a : Int) (p : Nat) (w : World) (hp : 2 ≤ p) (hp2 : p ≤ 997) :
    Calls Try.prog 30 #[.int .i64 a, .int .i64 p] w fun e w' => e = .returned (.int .i64 (modN a p : Int)) ∧ w = w' := by
  obtain ⟨hc0, hc1, hc2, hc3⟩ := tmod_cases a hp
  have hbd := tmod_bd a hp
  have hne : (p : Int) ≠ 0 := by omega
  generalize hM : modN a p = M at hc0 hc1 hc2 hc3
  clear hM hc0 hc3
  have hq1 := Lib.hid hc1
  have hq2 := Lib.hid hc2
  clear hc1 hc2
  by_cases h : a.tmod p < 0
  · have he := Lib.hid (hq1.out h)
    go_enter Try.func30, Try.ntmps30
    go_wp2
    go_ret
    refine ⟨?_, rfl⟩
    have he' := he.out
    have e : a.tmod p + p = (M : Int) := by omega
    rw [← e]; rfl
  · have he := Lib.hid (hq2.out (by omega))
    go_enter Try.func30, Try.ntmps30
    go_wp2
    go_ret
    refine ⟨?_, rfl⟩
    rw [← he.out]; rfl
theorem implMod_any (a : Int) (p : Nat) (w : World) (hp : 2 ≤ p) (hp2 : p ≤ 997) :
    Calls Try.prog 31 #[.int .i64 a, .int .i64 p] w fun e w' => e = .returned (.int .i64 (modN a p : Int)) ∧ w = w' := by
  obtain ⟨hc0, hc1, hc2, hc3⟩ := tmod_cases a hp
  have hlt := modN_lt a hp
  have hbd := tmod_bd a hp
  have hne : (p : Int) ≠ 0 := by omega
  have he : Hid ((a.tmod p + p) % (p : Int) = (modN a p : Int)) := Lib.hid (by
    rcases hc0 with h | h
    · rw [h, Int.add_emod_right]; exact Int.emod_eq_of_lt (by omega) (by omega)
    · rw [h, Int.sub_add_cancel]; exact Int.emod_eq_of_lt (by omega) (by omega))
  clear hc0 hc1 hc2 hc3
  generalize modN a p = M at he hlt
  go_enter Try.func31, Try.ntmps31
  go_wp2
  go_ret
  refine ⟨?_, rfl⟩
  rw [← he.out]; rfl
theorem backN_lt (r p : Nat) (hp : 2 ≤ p) (n : Nat) : backN r p n < p := by
  rw [backN_pow r p hp]; exact Nat.mod_lt _ (by omega)
set_option maxHeartbeats 1000000 in
theorem specBack_any (r p : Nat) (w : World) (hp : 2 ≤ p) (hp2 : p ≤ 997) (hr : r < p) :
    Calls Try.prog 29 #[.int .i64 r, .int .i64 p] w fun e w' => e = .returned (.int .i64 (backN r p (p - 2) : Int)) ∧ w = w' := by
  go_enter Try.func29, Try.ntmps29
  go_wp2
  go_loop [5, 6] (fun s t => ∃ j : Nat, j ≤ p - 2 ∧ s = .int .i64 (backN r p j) ∧ t = .int .i64 ((p - 2 - j : Nat) : Int)) (fun _ t => (intOf t).toNat)
  case atStart => exact ⟨0, Nat.zero_le _, rfl, by simp; omega⟩
  case round =>
    obtain ⟨j, hj, rfl, rfl⟩ := hrel
    have hb := backN_lt r p hp j
    by_cases hlt : j < p - 2
    · have hs : Hid ((backN r p j : Int) * (r : Int) % (p : Int) = (backN r p (j + 1) : Int)) := Lib.hid (by
        rw [backN, Int.natCast_emod, Int.natCast_mul])
      generalize backN r p j = x at hb hs
      have hm : x * r ≤ 997 * 997 := Nat.mul_le_mul (by omega) (by omega)
      have hmi : (x : Int) * (r : Int) = ((x * r : Nat) : Int) := (Int.natCast_mul x r).symm
      have h0 : (0 : Int) ≤ (x : Int) * (r : Int) := by omega
      have h1 : (x : Int) * (r : Int) ≤ 994009 := by omega
      have hd : decide (0 < ((p - 2 - j : Nat) : Int)) = true := decide_eq_true (by omega)
      clear hmi hm
      obtain ⟨k, hk⟩ : ∃ k : Nat, p - 2 - j = k + 1 := ⟨p - 2 - j - 1, by omega⟩
      rw [hk] at hd ⊢
      have hk9 : k ≤ 997 := by omega
      have e : p - 2 - (j + 1) = k := by omega
      have HK := Lib.hid e
      clear e
      clear hk
      go_wp2
      go_round
      case rel => exact ⟨j + 1, by omega, by rw [hs.out], by rw [HK.out]⟩
      case measure => simp [intOf]
    · obtain rfl : j = p - 2 := by omega
      have e0 : p - 2 - (p - 2) = 0 := by omega
      rw [e0]
      clear e0
      go_wp2
      go_ret
      exact ⟨rfl, rfl⟩

/-- What leads back, and whether there is such a number. -/
def backOk (a x : Int) : Bool := primeI x && (modN a x.toNat != 0)
def backVal (a x : Int) : Int := if backOk a x = true then (backN (modN a x.toNat) x.toNat (x.toNat - 2) : Int) else 0
set_option maxHeartbeats 1000000 in
theorem specBackOver_any (a x : Int) (w : World) (wx : (Lit.int .i64 x).wf = true) :
    Calls Try.prog 13 #[.int .i64 a, .int .i64 x] w fun e w' => e = .returned (.tuple #[.int .i64 (backVal a x), .bool (backOk a x)]) ∧ w = w' := by
  have hP := fun W => specPrime_any x W wx
  cases h1 : primeI x with
  | false =>
    have HO : Hid (backOk a x = false) := Lib.hid (by unfold backOk; rw [h1]; rfl)
    have HV : Hid (backVal a x = 0) := Lib.hid (by unfold backVal; rw [HO.out]; rfl)
    rw [h1] at hP
    clear h1
    go_enter Try.func13, Try.ntmps13
    go_wp2_with (go_at_call 28; refine (hP _).mono ?_; rintro e w' ⟨rfl, rfl⟩)
    go_ret2
    exact ⟨by rw [HO.out, HV.out]; rfl, rfl⟩
  | true =>
    rw [h1] at hP
    obtain ⟨p, rfl, hp1, hp2, hpN⟩ := primeI_range h1
    have hlt := modN_lt a hp1
    obtain ⟨hc0, hc1, hc2, hc3⟩ := tmod_cases a hp1
    have hbd := tmod_bd a hp1
    have hne : (p : Int) ≠ 0 := by omega
    clear hc0 hc1 hc2
    by_cases hz : modN a p = 0
    · have HO : Hid (backOk a p = false) := Lib.hid (by unfold backOk; rw [Int.toNat_natCast, hz]; simp)
      have HV : Hid (backVal a p = 0) := Lib.hid (by unfold backVal; rw [HO.out]; rfl)
      have ht : (a.tmod p == 0) = true := beq_iff_eq.2 (hc3.2 hz)
      clear h1 hz hc3 hlt
      go_enter Try.func13, Try.ntmps13
      go_wp2_with (go_at_call 28; refine (hP _).mono ?_; rintro e w' ⟨rfl, rfl⟩)
      go_ret2
      exact ⟨by rw [HO.out, HV.out]; rfl, rfl⟩
    · have HO : Hid (backOk a p = true) := Lib.hid (by unfold backOk; rw [h1, Int.toNat_natCast]; simp [hz])
      have HV : Hid (backVal a p = (backN (modN a p) p (p - 2) : Int)) := Lib.hid (by unfold backVal; rw [if_pos HO.out, Int.toNat_natCast])
      have ht : (a.tmod p == 0) = false := beq_eq_false_iff_ne.2 (fun h => hz (hc3.1 h))
      have hM := fun W => specMod_any a p W hp1 hp2
      have hB := fun W => specBack_any (modN a p) p W hp1 hp2 hlt
      clear h1 hz hc3
      generalize modN a p = r at hM hB HV hlt
      go_enter Try.func13, Try.ntmps13
      go_wp2_with (first | (go_at_call 28; refine (hP _).mono ?_; rintro e w' ⟨rfl, rfl⟩) | (go_at_call 30; refine (hM _).mono ?_; rintro e w' ⟨rfl, rfl⟩) | (go_at_call 29; refine (hB _).mono ?_; rintro e w' ⟨rfl, rfl⟩))
      go_ret2
      exact ⟨by rw [HO.out, HV.out]; rfl, rfl⟩
set_option maxHeartbeats 2000000 in
theorem implBackOver_any (a x : Int) (w : World) :
    Calls Try.prog 14 #[.int .i64 a, .int .i64 x] w fun e w' => e = .returned (.tuple #[.int .i64 (backVal a x), .bool (backOk a x)]) ∧ w = w' := by
  have hP := fun W => implPrime_any x W
  cases h1 : primeI x with
  | false =>
    have HO : Hid (backOk a x = false) := Lib.hid (by unfold backOk; rw [h1]; rfl)
    have HV : Hid (backVal a x = 0) := Lib.hid (by unfold backVal; rw [HO.out]; rfl)
    rw [h1] at hP
    clear h1
    go_enter Try.func14, Try.ntmps14
    go_wp2_with (go_at_call 12; refine (hP _).mono ?_; rintro e w' ⟨rfl, rfl⟩)
    go_ret2
    exact ⟨by rw [HO.out, HV.out]; rfl, rfl⟩
  | true =>
    rw [h1] at hP
    obtain ⟨p, rfl, hp1, hp2, hpN⟩ := primeI_range h1
    have hlt := modN_lt a hp1
    have hM := fun W => implMod_any a p W hp1 hp2
    -- what the rounds look for
    have hfound : Hid (modN a p ≠ 0 → backN (modN a p) p (p - 2) * modN a p % p = 1) := Lib.hid (fun hz => by
      rw [backN_pow _ _ hp1, Nat.mod_mul_mod]
      exact look hpN hz hlt)
    have hbl : Hid (backN (modN a p) p (p - 2) < p) := Lib.hid (by rw [backN_pow _ _ hp1]; exact Nat.mod_lt _ (by omega))
    have hOk : Hid (backOk a p = (modN a p != 0)) := Lib.hid (by unfold backOk; rw [h1, Int.toNat_natCast]; rfl)
    have hVal : Hid (backVal a p = if (modN a p != 0) = true then (backN (modN a p) p (p - 2) : Int) else 0) := Lib.hid (by
      unfold backVal; rw [hOk.out, Int.toNat_natCast])
    have hp2' : (2 : Int) ≤ p := by omega
    have hpN' := Lib.hid hpN
    clear h1 hpN
    generalize modN a p = r at hM hlt hfound hbl hOk hVal
    go_enter Try.func14, Try.ntmps14
    go_wp2_with (first | (go_at_call 12; refine (hP _).mono ?_; rintro e w' ⟨rfl, rfl⟩) | (go_at_call 31; refine (hM _).mono ?_; rintro e w' ⟨rfl, rfl⟩))
    go_loop [14] (fun s => ∃ j : Nat, j ≤ p ∧ s = .int .i64 j ∧ Hid (∀ t, t < j → t * r % p ≠ 1)) (fun s => p - (intOf s).toNat)
    case atStart => exact ⟨0, Nat.zero_le _, rfl, Lib.hid fun t h => by omega⟩
    case round =>
      obtain ⟨j, hj, rfl, hno⟩ := hrel
      by_cases hlt2 : j < p
      · have hm : j * r ≤ 997 * 997 := Nat.mul_le_mul (by omega) (by omega)
        have hmi : (j : Int) * (r : Int) = ((j * r : Nat) : Int) := (Int.natCast_mul j r).symm
        have h0 : (0 : Int) ≤ (j : Int) * (r : Int) := by omega
        have h1 : (j : Int) * (r : Int) ≤ 994009 := by omega
        have hmod : (j : Int) * (r : Int) % (p : Int) = ((j * r % p : Nat) : Int) := by rw [hmi, Int.natCast_emod]
        clear hmi hm
        by_cases he : j * r % p = 1
        · have ht : ((j : Int) * (r : Int) % (p : Int) == 1) = true := beq_iff_eq.2 (by rw [hmod, he]; rfl)
          have hrz : r ≠ 0 := fun h => by rw [h, Nat.mul_zero, Nat.zero_mod] at he; cases he
          have HE : Hid (backN r p (p - 2) = j) := Lib.hid (back_only hbl.out hlt2 (hfound.out hrz) he)
          have HR : Hid ((r != 0) = true) := Lib.hid (bne_iff_ne.2 hrz)
          clear hmod he hrz
          go_wp2
          go_ret2
          exact ⟨by rw [hVal.out, hOk.out, HR.out, if_pos rfl, HE.out]; rfl, rfl⟩
        · have ht : ((j : Int) * (r : Int) % (p : Int) == 1) = false := beq_eq_false_iff_ne.2 (by rw [hmod]; omega)
          have HN : Hid (∀ t, t < j + 1 → t * r % p ≠ 1) := Lib.hid fun t h => by
            by_cases e : t = j
            · rw [e]; exact he
            · exact hno.out t (by omega)
          clear hmod he
          go_wp2
          go_round
          case rel => exact ⟨j + 1, by omega, by go_num, HN⟩
          case measure => simp [intOf]; omega
      · obtain rfl : j = p := by omega
        have HR : Hid ((r != 0) = false) := Lib.hid (by
          by_cases hz : r = 0
          · rw [hz]; rfl
          · exact absurd (hfound.out hz) (hno.out _ hbl.out))
        go_wp2
        go_ret2
        exact ⟨by rw [hVal.out, hOk.out, HR.out]; rfl, rfl⟩
theorem law_FnExactBackOver (w : World) (a : Int) (wa : (Lit.int .i64 a).wf = true) (x : Int) (wx : (Lit.int .i64 x).wf = true) :
    Calls Try.prog 5 #[.int .i64 a, .int .i64 x] w fun e w' => e = .returned (.bool true) ∧ Below w.heap.size w w' := by
  have k1 := fun W => specBackOver_any a x W wx
  have k2 := fun W => implBackOver_any a x W
  cases h : backOk a x
  all_goals
    rw [h] at k1 k2
    clear h
    generalize backVal a x = v at k1 k2
    go_enter Try.func5, Try.ntmps5
    go_wp2_with (first | (go_at_call 13; refine (k1 _).mono ?_; rintro e w' ⟨rfl, rfl⟩) | (go_at_call 14; refine (k2 _).mono ?_; rintro e w' ⟨rfl, rfl⟩))
    go_ret
    exact ⟨rfl, (by repeat first | (with_reducible exact Below.refl _ _) | (with_reducible refine Below.setCell ?_ (by first | exact Nat.le_refl _ | (simp; done) | (simp; omega) | omega) _) | (with_reducible refine Below.alloc ?_ (by first | exact Nat.le_refl _ | (simp; done) | (simp; omega) | omega) _) | (with_reducible refine below_drewN ?_ _) | (with_reducible refine Below.drew ?_))⟩
end Go.Proofs.Ytinekdfpgkmbnaa
