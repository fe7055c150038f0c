/- Helper: subnormal numbers, told by their bits and by comparing. Conditions: none. -/
import Derived.Test.YtnjkabckbnbboaaFloatBounds
namespace Go.Proofs.Ytnjkabckbnbboaa
open Ieee (Datum)

theorem cut_zero (s : Bool) (n : Nat) : Ieee.Toward.even.cut s n 0 = n := by
  unfold Ieee.Toward.cut
  simp [Nat.mod_one]

theorem word_rung (s : Bool) (m : Nat) (e : Int) (h0 : m ≠ 0) (last : Int) (hl : last = e + m.log2 - 52) (hl' : -1074 ≤ last) (hlog : m.log2 ≤ 52) (hb : last ≤ 900) :
    Ieee.double.write (.number s m e) = Ieee.double.word s ((last + 1074).toNat * 4503599627370496 + m * 2 ^ (52 - m.log2)) := by
  obtain ⟨e1, e2, e3, e4⟩ := double_consts
  have ef : Ieee.double.fractionBits = 52 := rfl
  simp only [Ieee.Format.write, Ieee.Format.nearest, if_neg h0, e2, e3, e4, ef]
  have hmax : max (e + (m.log2 : Int) - (52 : Nat)) (-1074) = last := by omega
  rw [hmax]
  have hd : (last - e).toNat = 0 := by omega
  have hs : (e - last).toNat = 52 - m.log2 := by omega
  rw [hd, hs, cut_zero, Nat.shiftLeft_eq]
  have hm : m * 2 ^ (52 - m.log2) < 2 ^ (m.log2 + 1) * 2 ^ (52 - m.log2) := Nat.mul_lt_mul_of_pos_right (lt_log2' m) (Nat.two_pow_pos _)
  rw [← Nat.pow_add] at hm
  have h53 : m.log2 + 1 + (52 - m.log2) = 53 := by omega
  rw [h53] at hm
  have hp : (2 : Nat) ^ 53 = 9007199254740992 := by decide
  rw [hp] at hm
  have : (last + 1074).toNat ≤ 1974 := by omega
  have hq : last - -1074 = last + 1074 := by omega
  rw [hq, Nat.min_eq_left (by omega)]

theorem mul_ge (m : Nat) (h0 : m ≠ 0) (hlog : m.log2 ≤ 52) : 4503599627370496 ≤ m * 2 ^ (52 - m.log2) := by
  have h := Nat.mul_le_mul_right (2 ^ (52 - m.log2)) (log2_le' h0)
  rw [← Nat.pow_add] at h
  have h52 : m.log2 + (52 - m.log2) = 52 := by omega
  rw [h52] at h
  have hp : (2 : Nat) ^ 52 = 4503599627370496 := by decide
  rw [hp] at h
  exact h

theorem mul_lt (m : Nat) (hlog : m.log2 ≤ 52) : m * 2 ^ (52 - m.log2) < 9007199254740992 := by
  have h := Nat.mul_lt_mul_of_pos_right (lt_log2' m) (Nat.two_pow_pos (52 - m.log2))
  rw [← Nat.pow_add] at h
  have h53 : m.log2 + 1 + (52 - m.log2) = 53 := by omega
  rw [h53] at h
  have hp : (2 : Nat) ^ 53 = 9007199254740992 := by decide
  rw [hp] at h
  exact h

/-- A positive number of a rung, held against 2 to the power of -126. -/
theorem order_least (s : Bool) (rung : Nat) (h : rung < 9218868437227405312) :
    ((dabs (Ieee.double.read (Ieee.double.word s rung))).order (Ieee.double.read 4039728865751334912) == some .lt) = decide (rung < 4039728865751334912) := by
  have hd : Ieee.double.read 4039728865751334912 = .number false 4503599627370496 (-178) := by decide +kernel
  rw [hd, read_word64 s rung h]
  have key : ∀ (m : Nat) (e : Int) (b : Bool), -1074 ≤ e → (b = true → m < 9007199254740992 ∧ e ≤ -179) → (b = false → 4503599627370496 ≤ m ∧ -178 ≤ e) →
      ((dabs (.number s m e)).order (.number false 4503599627370496 (-178)) == some .lt) = b := by
    intro m e b he ht hf
    show (some (compare (Ieee.signed false m (e - min e (-178)).toNat) (Ieee.signed false 4503599627370496 (-178 - min e (-178)).toNat)) == some Ordering.lt) = b
    unfold Ieee.signed
    simp only [Bool.false_eq_true, if_false, Nat.shiftLeft_eq]
    cases b with
    | true =>
      obtain ⟨h1, h2⟩ := ht rfl
      have hb : min e (-178) = e := by omega
      rw [hb]
      have hk : (e - e).toNat = 0 := by omega
      rw [hk, Nat.pow_zero, Nat.mul_one]
      have h3 : 2 ^ 1 ≤ 2 ^ (-178 - e).toNat := Nat.pow_le_pow_right (by decide) (by omega)
      have h4 := Nat.mul_le_mul_left 4503599627370496 h3
      have h5 : m < 4503599627370496 * 2 ^ (-178 - e).toNat := by omega
      have h6 : compare ((m : Nat) : Int) ((4503599627370496 * 2 ^ (-178 - e).toNat : Nat) : Int) = .lt := Int.compare_eq_lt.2 (Int.ofNat_lt.2 h5)
      rw [h6]; rfl
    | false =>
      obtain ⟨h1, h2⟩ := hf rfl
      have hb : min e (-178) = -178 := by omega
      rw [hb]
      have hk : (-178 - (-178) : Int).toNat = 0 := by decide
      rw [hk, Nat.pow_zero, Nat.mul_one]
      have h3 : 0 < 2 ^ (e - -178).toNat := Nat.two_pow_pos _
      have h4 : m * 1 ≤ m * 2 ^ (e - -178).toNat := Nat.mul_le_mul_left _ h3
      have h5 : ¬ m * 2 ^ (e - -178).toNat < 4503599627370496 := by omega
      rcases hc : compare ((m * 2 ^ (e - -178).toNat : Nat) : Int) ((4503599627370496 : Nat) : Int) with _ | _ | _
      · exact absurd (Int.ofNat_lt.1 (Int.compare_eq_lt.1 hc)) h5
      · rfl
      · rfl
  split
  · rename_i hr
    refine key _ _ _ (by omega) (fun _ => ⟨by omega, by omega⟩) (fun hb => ?_)
    have : ¬ rung < 4039728865751334912 := of_decide_eq_false hb
    omega
  · rename_i hr
    refine key _ _ _ (by omega) (fun hb => ?_) (fun hb => ?_)
    · have : rung < 4039728865751334912 := of_decide_eq_true hb
      omega
    · have : ¬ rung < 4039728865751334912 := of_decide_eq_false hb
      omega

theorem read_single_q (x : Nat) : Ieee.single.read x = (if x % 2147483648 < 8388608 then .number (x / 2147483648 % 2 == 1) (x % 2147483648) (-149) else if x % 2147483648 < 2139095040 then .number (x / 2147483648 % 2 == 1) (8388608 + x % 2147483648 % 8388608) (-149 + (x % 2147483648 / 8388608 - 1 : Nat)) else if x % 2147483648 = 2139095040 then .infinity (x / 2147483648 % 2 == 1) else .nan (x / 2147483648 % 2 == 1) (x % 2147483648 - 2139095040)) := by
  obtain ⟨e1, e2, e3, e4⟩ := single_consts
  unfold Ieee.Format.read
  simp only [e1, e2, e3, e4]

/-- Nearer to 0 than all normal numbers: its exponent's bits are 0. -/
theorem least_iff {x : Nat} (hx : (Ieee.single.read x).isNaN = false) :
    (ford .f64 (fabs (widen (some x))) (some 4039728865751334912) == some .lt) = decide (x % 2147483648 < 8388608) := by
  have e0 : ford .f64 (fabs (widen (some x))) (some 4039728865751334912) = (Ieee.double.read ((Ieee.double.write (Ieee.single.read x)) % 9223372036854775808)).order (Ieee.double.read 4039728865751334912) := rfl
  rw [e0, read_abs]
  rw [read_single_q] at hx ⊢
  generalize hq : x % 2147483648 = q at *
  have hq' : q < 2147483648 := by omega
  generalize (x / 2147483648 % 2 == 1) = s at *
  by_cases h1 : q < 8388608
  · rw [if_pos h1]
    by_cases h0 : q = 0
    · subst h0
      have : Ieee.double.write (.number s 0 (-149)) = Ieee.double.word s 0 := by simp [Ieee.Format.write, Ieee.Format.nearest]
      rw [this, order_least s 0 (by decide)]
      rfl
    · have hl : q.log2 < 23 := (Nat.log2_lt h0).2 h1
      rw [word_rung s q (-149) h0 _ rfl (by omega) (by omega) (by omega)]
      have hm := mul_lt q (by omega)
      have hg := mul_ge q h0 (by omega)
      generalize q * 2 ^ (52 - q.log2) = z at *
      have hr : (((-149 : Int) + q.log2 - 52 + 1074).toNat * 4503599627370496 + z) < 4039728865751334912 := by omega
      rw [order_least s _ (by omega), decide_eq_true hr, decide_eq_true h1]
  · rw [if_neg h1]
    by_cases h2 : q < 2139095040
    · rw [if_pos h2]
      have h0 : 8388608 + q % 8388608 ≠ 0 := by omega
      have hl : (8388608 + q % 8388608).log2 = 23 := by
        have ha : (8388608 + q % 8388608).log2 < 24 := (Nat.log2_lt h0).2 (by omega)
        have hb : ¬ (8388608 + q % 8388608).log2 < 23 := fun h => by
          have := (Nat.log2_lt h0).1 h
          omega
        omega
      rw [word_rung s _ _ h0 _ rfl (by omega) (by omega) (by omega)]
      have hm := mul_lt (8388608 + q % 8388608) (by omega)
      have hg := mul_ge (8388608 + q % 8388608) h0 (by omega)
      generalize (8388608 + q % 8388608) * 2 ^ (52 - (8388608 + q % 8388608).log2) = z at *
      rw [hl]
      have hr : ¬ (((-149 : Int) + (q / 8388608 - 1 : Nat) + (23 : Nat) - 52 + 1074).toNat * 4503599627370496 + z) < 4039728865751334912 := by omega
      rw [order_least s _ (by omega), decide_eq_false hr, decide_eq_false h1]
    · rw [if_neg h2] at hx ⊢
      rw [if_neg h1] at hx
      by_cases h3 : q = 2139095040
      · rw [if_pos h3, decide_eq_false h1]
        cases s <;> decide +kernel
      · rw [if_neg h3] at hx
        cases hx
end Go.Proofs.Ytnjkabckbnbboaa
