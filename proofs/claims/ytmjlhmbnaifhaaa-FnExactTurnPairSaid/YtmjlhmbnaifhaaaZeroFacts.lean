/- Helper: numbers that differ in the sign of a zero alone: what is added to them and taken from them. Conditions: none. -/
import Derived.Test.YtmjlhmbnaifhaaaSizeFacts
import Derived.Test.YtmjlhmbnaifhaaaTri
set_option linter.unusedVariables false
set_option linter.unusedSimpArgs false
namespace Go.Proofs.Ytmjlhmbnaifhaaa
open Ieee

theorem nearest_true (m : Nat) (e : Int) : single.nearest true m e = 2147483648 + single.nearest false m e := by
  obtain ⟨e1, e2, e3, e4⟩ := single_consts
  unfold Format.nearest Format.word
  by_cases h : m = 0
  · rw [if_pos h, if_pos h, e1]; simp
  · rw [if_neg h, if_neg h, e1]
    have hc : ∀ n d, Toward.even.cut true n d = Toward.even.cut false n d := fun n d => rfl
    simp only [hc]
    rw [if_pos trivial, if_neg (show ¬ (false = true) by decide)]
/-- A finite number, read and written again. -/
theorem write_same {x : Nat} {s : Bool} {m : Nat} {e : Int} (hx : x < 4294967296) (h : single.read x = .number s m e) : single.nearest s m e = x := by
  obtain ⟨w1, w2, w3, _⟩ := write_read_single h
  have hd : x / 2147483648 < 2 := Nat.div_lt_of_lt_mul (by omega)
  cases s with
  | false =>
    rw [w1]
    have : x / 2147483648 % 2 ≠ 1 := by simpa using w3
    omega
  | true =>
    rw [nearest_true, w1]
    have : x / 2147483648 % 2 = 1 := by simpa using w3
    omega
/-- A zero of either sign. -/
def isZ (P : Option Nat) : Prop := P = some 0 ∨ P = some 2147483648
def RZ (P Q : Option Nat) : Prop := P = Q ∨ (isZ P ∧ isZ Q)
theorem isZ_of {x : Nat} (hx : x < 4294967296) (h : x % 2147483648 = 0) : isZ (some x) := by
  have hd : x / 2147483648 < 2 := Nat.div_lt_of_lt_mul (by omega)
  have := Nat.div_add_mod x 2147483648
  rcases (show x = 0 ∨ x = 2147483648 by omega) with q | q
  · exact .inl (by rw [q])
  · exact .inr (by rw [q])
theorem signed_two (s : Bool) (m k : Nat) : signed s m k = if s then -((m <<< k : Nat) : Int) else ((m <<< k : Nat) : Int) := rfl
/-- What 0 is added to stays, but for a zero's sign. -/
theorem RZ.add0 {x : Nat} (hx : x < 4294967296) (hf : finite .f32 (some x) = true) : RZ (fop .add .f32 (some x) (some 0)) (some x) := by
  rcases read_single x with ⟨s, hr⟩ | ⟨s, t, hr⟩ | ⟨s, m, e, hr, hm, h1, h2⟩
  · exfalso; unfold finite at hf; simp only at hf; have hr' : FloatKind.f32.decode x = .infinity s := hr; rw [hr'] at hf; cases hf
  · exfalso; unfold finite at hf; simp only at hf; have hr' : FloatKind.f32.decode x = .nan s t := hr; rw [hr'] at hf; cases hf
  · have es : fop .add .f32 (some x) (some 0) = ((single.read x).sum (single.read 0)).map single.write := rfl
    have e0 : single.read 0 = .number false 0 (-149) := by decide +kernel
    have em : min e (-149 : Int) = -149 := by omega
    have hws := write_same hx hr
    obtain ⟨w1, _⟩ := write_read_single hr
    rw [es, e0, hr]
    simp only [Datum.sum, em, signed_zero, Int.add_zero, Option.map_some]
    have et : (e - -149).toNat = (e + 149).toNat := by omega
    have hT : m <<< (e + 149).toNat = 0 ↔ m = 0 := by rw [Nat.shiftLeft_eq]; have := Nat.two_pow_pos (e + 149).toNat; rw [Nat.mul_eq_zero]; omega
    have hsh := nearest_shift single s m e (e + 149).toNat
    have hee : e - (((e + 149).toNat : Nat) : Int) = -149 := by omega
    rw [hee, hws] at hsh
    rw [et, signed_two]
    generalize m <<< (e + 149).toNat = T at hT hsh ⊢
    by_cases h0 : m = 0
    · right
      have hT0 := hT.2 h0
      subst hT0
      have hz : single.nearest false 0 e = 0 := by unfold Format.nearest Format.word; simp
      rw [h0, hz] at w1
      refine ⟨?_, isZ_of hx w1.symm⟩
      cases s <;> exact .inl (by decide +kernel)
    · left
      have hT0 : T ≠ 0 := fun q => h0 (hT.1 q)
      cases s with
      | true =>
        rw [if_pos rfl, if_neg (by omega), decide_eq_true (show -((T : Nat) : Int) < 0 by omega), Int.natAbs_neg, Int.natAbs_natCast]
        show some (single.nearest true T (-149)) = some x
        rw [hsh]
      | false =>
        rw [if_neg (show ¬ (false = true) by decide), if_neg (by omega), decide_eq_false (show ¬ ((T : Nat) : Int) < 0 by omega), Int.natAbs_natCast]
        show some (single.nearest false T (-149)) = some x
        rw [hsh]
theorem zero_read {P : Option Nat} (h : isZ P) : ∃ x s, P = some x ∧ single.read x = .number s 0 (-149) := by
  rcases h with rfl | rfl
  · exact ⟨0, false, rfl, by decide +kernel⟩
  · exact ⟨2147483648, true, rfl, by decide +kernel⟩
/-- What is taken from zeros of either sign is the same, or both stay zeros. -/
theorem RZ.sub {P Q M : Option Nat} (h : RZ P Q) : RZ (fop .sub .f32 P M) (fop .sub .f32 Q M) := by
  rcases h with rfl | ⟨hp, hq⟩
  · exact .inl rfl
  obtain ⟨x, s, rfl, hx⟩ := zero_read hp
  obtain ⟨y, t, rfl, hy⟩ := zero_read hq
  cases M with
  | none => exact .inl rfl
  | some z =>
    have es : ∀ u, fop .sub .f32 (some u) (some z) = ((single.read u).sum (single.read z).opposite).map single.write := fun u => rfl
    rw [es, es, hx, hy]
    rcases read_single z with ⟨v, hz⟩ | ⟨v, v2, hz⟩ | ⟨v, m, e, hz, hm, h1, h2⟩
    · rw [hz]; exact .inl rfl
    · rw [hz]; exact .inl rfl
    · rw [hz]
      have em : min (-149 : Int) e = -149 := by omega
      have em2 : min e (-149 : Int) = -149 := by omega
      simp only [Datum.opposite, Datum.sum, em, em2, signed_zero, Int.zero_add, Option.map_some]
      by_cases h0 : m = 0
      · right
        subst h0
        simp only [signed_zero]
        constructor
        · cases s <;> cases v <;> first | exact .inl (by decide +kernel) | exact .inr (by decide +kernel)
        · cases t <;> cases v <;> first | exact .inl (by decide +kernel) | exact .inr (by decide +kernel)
      · left
        have hT : signed (!v) m (e - -149).toNat ≠ 0 := by
          rw [signed_two]
          have : m <<< (e - -149).toNat ≠ 0 := by rw [Nat.shiftLeft_eq]; have := Nat.two_pow_pos (e - -149).toNat; exact Nat.mul_ne_zero h0 (by omega)
          split <;> omega
        rw [if_neg hT, if_neg hT]
theorem RZ.less {P Q : Option Nat} {A B : Nat → Option Nat} (h : RZ P Q) : ∀ n, RZ (lessG P A B n) (lessG Q A B n)
  | 0 => h
  | n + 1 => RZ.sub (RZ.less h n)
/-- Zeros are not above 0. -/
theorem RZ.above {P Q : Option Nat} (h : RZ P Q) : ((ford .f32 P (some 0) == some .gt) = (ford .f32 Q (some 0) == some .gt)) ∧ ((ford .f32 Q (some 0) == some .gt) = true → P = Q) := by
  rcases h with rfl | ⟨hp, hq⟩
  · exact ⟨rfl, fun _ => rfl⟩
  · rcases hp with rfl | rfl <;> rcases hq with rfl | rfl <;> exact ⟨by decide +kernel, fun q => by first | rfl | (exfalso; revert q; decide +kernel)⟩
end Go.Proofs.Ytmjlhmbnaifhaaa
