/- Helper: bounds that rounding keeps: numbers of at most a power of two. Conditions: none. -/
import Derived.Test.YtnjkabckbnbboaaAngleFacts
set_option linter.unusedVariables false
namespace Go.Proofs.Ytnjkabckbnbboaa
open Ieee (Datum)

/-- m times 2 to the power of e is at most 2 to the power of i. -/
def le2 (i : Int) (m : Nat) (e : Int) : Prop := lt2 i m e ∨ ((m.log2 : Int) + e = i ∧ m = 2 ^ m.log2)
def Le2 (i : Int) (X : Option Nat) : Prop := ∃ x s m e, X = some x ∧ Ieee.double.read x = .number s m e ∧ le2 i m e ∧ m < 9007199254740992 ∧ -1074 ≤ e ∧ e ≤ 971

theorem le2_lt {i : Int} {m : Nat} {e : Int} (h : le2 i m e) : lt2 (i + 1) m e := by
  rcases h with h | ⟨h, -⟩
  · exact lt2_mono h (by omega)
  · exact .inr (by omega)
theorem le2_mono {i j : Int} {m : Nat} {e : Int} (h : le2 i m e) (hij : i ≤ j) : le2 j m e := by
  rcases h with h | ⟨h, h2⟩
  · exact .inl (lt2_mono h hij)
  · by_cases hj : i = j
    · subst hj; exact .inr ⟨h, h2⟩
    · exact .inl (.inr (by omega))
theorem Le2.mono {i j : Int} {X : Option Nat} (h : Le2 i X) (hij : i ≤ j) : Le2 j X := by
  obtain ⟨x, s, m, e, h1, h2, h3, h4⟩ := h
  exact ⟨x, s, m, e, h1, h2, le2_mono h3 hij, h4⟩
theorem Le2.lt {i : Int} {X : Option Nat} (h : Le2 i X) : Lt2 (i + 1) X := by
  obtain ⟨x, s, m, e, h1, h2, h3, h4⟩ := h
  exact ⟨x, s, m, e, h1, h2, le2_lt h3, h4⟩
theorem Le2.of_lt {i : Int} {X : Option Nat} (h : Lt2 i X) : Le2 i X := by
  obtain ⟨x, s, m, e, h1, h2, h3, h4⟩ := h
  exact ⟨x, s, m, e, h1, h2, .inl h3, h4⟩

theorem rung_le2 (s : Bool) (rung : Nat) (i : Int) (hi : -1000 ≤ i) (h : (rung : Int) ≤ (i + 1023) * 4503599627370496) (h' : rung < 9218868437227405312) :
    ∃ m e, Ieee.double.read (Ieee.double.word s rung) = .number s m e ∧ le2 i m e ∧ m < 9007199254740992 ∧ -1074 ≤ e ∧ e ≤ 971 := by
  rw [read_word64 s rung h']
  split
  · rename_i hr
    refine ⟨_, _, rfl, .inl ?_, by omega, by omega, by omega⟩
    by_cases h0 : rung = 0
    · exact .inl h0
    · have : rung.log2 < 52 := (Nat.log2_lt h0).2 hr
      exact .inr (by omega)
  · rename_i hr
    refine ⟨_, _, rfl, ?_, by omega, by omega, by omega⟩
    have hlog := log2_eq52 (m := 4503599627370496 + rung % 4503599627370496) (by omega) (by omega)
    have hp : (2 : Nat) ^ 52 = 4503599627370496 := by decide
    by_cases he : (rung : Int) = (i + 1023) * 4503599627370496
    · right
      rw [hlog, hp]
      exact ⟨by omega, by omega⟩
    · left; right
      rw [hlog]
      omega

theorem write_le2 (s : Bool) (m : Nat) (e : Int) (i : Int) (hi : -1000 ≤ i) (hi' : i ≤ 1020) (h : le2 i m e) :
    ∃ m' e', Ieee.double.read (Ieee.double.write (.number s m e)) = .number s m' e' ∧ le2 i m' e' ∧ m' < 9007199254740992 ∧ -1074 ≤ e' ∧ e' ≤ 971 := by
  obtain ⟨e1, e2, e3, e4⟩ := double_consts
  have ef : Ieee.double.fractionBits = 52 := rfl
  simp only [Ieee.Format.write, Ieee.Format.nearest]
  split
  · exact rung_le2 s 0 i hi (by omega) (by decide)
  · rename_i h0
    have hk := kept_le' s m e (max (e + (m.log2 : Int) - (52 : Nat)) (-1074)) 52 (by omega)
    have hp : (2 : Nat) ^ (52 + 1) = 9007199254740992 := by decide
    rw [hp] at hk
    simp only [e2, e3, e4, ef]
    rcases h with h | ⟨h, hpow⟩
    · have hl : (m.log2 : Int) + e < i := by rcases h with h | h; exact absurd h h0; exact h
      generalize Ieee.Toward.even.cut s _ _ = c at *
      have hq : ((max (e + (m.log2 : Int) - (52 : Nat)) (-1074) - -1074).toNat : Int) ≤ i + 1021 := by omega
      generalize (max (e + (m.log2 : Int) - (52 : Nat)) (-1074) - -1074).toNat = q at *
      have hb : ((q * 4503599627370496 + c : Nat) : Int) ≤ (i + 1023) * 4503599627370496 := by omega
      have hlt : q * 4503599627370496 + c < 9218868437227405312 := by omega
      rw [Nat.min_eq_left (Nat.le_of_lt hlt)]
      exact rung_le2 s _ i hi hb hlt
    · have hmax : max (e + (m.log2 : Int) - (52 : Nat)) (-1074) = i - 52 := by omega
      have hcut : Ieee.Toward.even.cut s (m <<< (e - (i - 52)).toNat) ((i - 52) - e).toNat = 4503599627370496 := by
        have hp52 : (2 : Nat) ^ 52 = 4503599627370496 := by decide
        by_cases hd : m.log2 ≤ 52
        · have h1 : (e - (i - 52)).toNat = 52 - m.log2 := by omega
          have h2 : ((i - 52) - e).toNat = 0 := by omega
          rw [h1, h2, Nat.shiftLeft_eq, hpow, Nat.log2_two_pow, ← Nat.pow_add]
          have h3 : m.log2 + (52 - m.log2) = 52 := by omega
          rw [h3, hp52]
          unfold Ieee.Toward.cut
          simp [Nat.mod_one]
        · have h1 : (e - (i - 52)).toNat = 0 := by omega
          have h2 : ((i - 52) - e).toNat = m.log2 - 52 := by omega
          rw [h1, h2, Nat.shiftLeft_zero]
          have h3 : m = 4503599627370496 * 2 ^ (m.log2 - 52) := by
            rw [← hp52, ← Nat.pow_add]
            have h4 : 52 + (m.log2 - 52) = m.log2 := by omega
            rw [h4]
            exact hpow
          generalize hL : m.log2 - 52 = t at *
          have hlt : t ≤ m.log2 + 2 := by omega
          unfold Ieee.Toward.cut
          rw [Nat.min_eq_left hlt, Nat.shiftLeft_eq, Nat.one_mul]
          dsimp only
          rw [h3, Nat.mul_mod_left, Nat.mul_div_cancel _ (Nat.two_pow_pos t)]
          have hpt := Nat.two_pow_pos t
          have h7 : decide (2 ^ t < 2 * 0) = false := decide_eq_false (by omega)
          have h8 : (2 ^ t == 2 * 0) = false := beq_eq_false_iff_ne.2 (by omega)
          rw [h7, h8]
          rfl
      rw [hmax, hcut]
      have hq : ((i - 52 - -1074).toNat : Int) = i + 1022 := by omega
      generalize (i - 52 - -1074).toNat = q at *
      have hlt : q * 4503599627370496 + 4503599627370496 < 9218868437227405312 := by omega
      rw [Nat.min_eq_left (Nat.le_of_lt hlt)]
      exact rung_le2 s _ i hi (by omega) hlt

theorem Le2.of_write {i : Int} {s : Bool} {m : Nat} {e : Int} (hi : -1000 ≤ i) (hi' : i ≤ 1020) (h : le2 i m e) : Le2 i (some (Ieee.double.write (.number s m e))) := by
  obtain ⟨m', e', h1, h2, h3⟩ := write_le2 s m e i hi hi' h
  exact ⟨_, s, m', e', rfl, h1, h2, h3⟩

theorem le2_mul {i j : Int} {m n : Nat} {e f : Int} (h1 : le2 i m e) (h2 : le2 j n f) : le2 (i + j) (m * n) (e + f) := by
  rcases h1 with h1 | ⟨h1, p1⟩
  · rcases h2 with h2 | ⟨h2, p2⟩
    · exact .inl (lt2_mul h1 h2)
    · left
      by_cases hm : m = 0
      · exact .inl (by simp [hm])
      · have a : (m.log2 : Int) + e < i := by rcases h1 with h | h; exact absurd h hm; exact h
        have hlt : m * n < 2 ^ (m.log2 + 1 + n.log2) := by
          rw [Nat.pow_add, ← p2]
          exact Nat.mul_lt_mul_of_pos_right (lt_log2' m) (by rw [p2]; exact Nat.two_pow_pos _)
        by_cases hz : m * n = 0
        · exact .inl hz
        · have := log2_lt' hz hlt
          exact .inr (by omega)
  · rcases h2 with h2 | ⟨h2, p2⟩
    · left
      by_cases hn : n = 0
      · exact .inl (by simp [hn])
      · have a : (n.log2 : Int) + f < j := by rcases h2 with h | h; exact absurd h hn; exact h
        have hlt : m * n < 2 ^ (m.log2 + (n.log2 + 1)) := by
          rw [Nat.pow_add, ← p1]
          exact Nat.mul_lt_mul_of_pos_left (lt_log2' n) (by rw [p1]; exact Nat.two_pow_pos _)
        by_cases hz : m * n = 0
        · exact .inl hz
        · have := log2_lt' hz hlt
          exact .inr (by omega)
    · right
      have hmn : m * n = 2 ^ (m.log2 + n.log2) := by rw [Nat.pow_add, ← p1, ← p2]
      rw [hmn, Nat.log2_two_pow]
      exact ⟨by omega, rfl⟩

theorem Le2.mul {i j : Int} {X Y : Option Nat} (h1 : Le2 i X) (h2 : Le2 j Y) (hi : -1000 ≤ i + j) (hi' : i + j ≤ 1020) : Le2 (i + j) (fop .mul .f64 X Y) := by
  obtain ⟨x, s, m, e, rfl, hx, hl, -⟩ := h1
  obtain ⟨y, t, n, f, rfl, hy, hk, -⟩ := h2
  rw [fop_mul, hx, hy]
  exact Le2.of_write hi hi' (le2_mul hl hk)

theorem shift_le {i : Int} {m : Nat} {e base : Int} (h : le2 i m e) (hb : base ≤ e) (hbi : base ≤ i) : m <<< (e - base).toNat ≤ 2 ^ (i - base).toNat := by
  rcases h with h | ⟨h, hp⟩
  · exact Nat.le_of_lt (shift_lt h hb hbi)
  · rw [Nat.shiftLeft_eq]
    have h3 : m * 2 ^ (e - base).toNat = 2 ^ (m.log2 + (e - base).toNat) := by rw [Nat.pow_add, ← hp]
    rw [h3]
    exact Nat.pow_le_pow_right (by decide) (by omega)

theorem le2_of_le {i base : Int} {z : Nat} (hb : base ≤ i) (h : z ≤ 2 ^ (i - base).toNat) : le2 i z base := by
  by_cases hz : z = 2 ^ (i - base).toNat
  · right
    rw [hz, Nat.log2_two_pow]
    exact ⟨by omega, rfl⟩
  · left
    by_cases h0 : z = 0
    · exact .inl h0
    · have := log2_lt' h0 (show z < 2 ^ (i - base).toNat by omega)
      exact .inr (by omega)

theorem le2_sum {i : Int} {s t : Bool} {m n : Nat} {e f : Int} (h1 : le2 i m e) (h2 : le2 i n f) :
    le2 (i + 1) (Ieee.signed s m (e - min e f).toNat + Ieee.signed t n (f - min e f).toNat).natAbs (min e f) := by
  by_cases hbi : min e f ≤ i
  · have a := shift_le h1 (Int.min_le_left e f) hbi
    have b := shift_le h2 (Int.min_le_right e f) hbi
    have hs := Int.natAbs_add_le (Ieee.signed s m (e - min e f).toNat) (Ieee.signed t n (f - min e f).toNat)
    rw [natAbs_signed, natAbs_signed] at hs
    refine le2_of_le (by omega) ?_
    have he : (i + 1 - min e f).toNat = (i - min e f).toNat + 1 := by omega
    rw [he, Nat.pow_succ]
    omega
  · have zero_of : ∀ {k : Nat} {g : Int}, min e f ≤ g → le2 i k g → k = 0 := by
      intro k g hg h
      by_cases hk : k = 0
      · exact hk
      · exfalso
        have := le2_lt h
        rcases this with h | h
        · exact hk h
        · have : 0 ≤ (k.log2 : Int) := by omega
          omega
    have hm := zero_of (Int.min_le_left e f) h1
    have hn := zero_of (Int.min_le_right e f) h2
    subst hm; subst hn
    left; left
    cases s <;> cases t <;> simp [Ieee.signed]

theorem Le2.add {i : Int} {X Y : Option Nat} (h1 : Le2 i X) (h2 : Le2 i Y) (hi : -1000 ≤ i) (hi' : i ≤ 1010) : Le2 (i + 1) (fop .add .f64 X Y) := by
  obtain ⟨x, s, m, e, rfl, hx, hl, -⟩ := h1
  obtain ⟨y, t, n, f, rfl, hy, hk, -⟩ := h2
  rw [fop_add, hx, hy]
  exact Le2.of_write (s := (if Ieee.signed s m (e - min e f).toNat + Ieee.signed t n (f - min e f).toNat = 0 then s && t else decide (Ieee.signed s m (e - min e f).toNat + Ieee.signed t n (f - min e f).toNat < 0))) (i := i + 1) (by omega) (by omega) (le2_sum (s := s) (t := t) hl hk)

theorem Le2.sub {i : Int} {X Y : Option Nat} (h1 : Le2 i X) (h2 : Le2 i Y) (hi : -1000 ≤ i) (hi' : i ≤ 1010) : Le2 (i + 1) (fop .sub .f64 X Y) := by
  obtain ⟨x, s, m, e, rfl, hx, hl, -⟩ := h1
  obtain ⟨y, t, n, f, rfl, hy, hk, -⟩ := h2
  rw [fop_sub, hx, hy]
  exact Le2.of_write (s := (if Ieee.signed s m (e - min e f).toNat + Ieee.signed (!t) n (f - min e f).toNat = 0 then s && (!t) else decide (Ieee.signed s m (e - min e f).toNat + Ieee.signed (!t) n (f - min e f).toNat < 0))) (i := i + 1) (by omega) (by omega) (le2_sum (s := s) (t := !t) hl hk)

theorem Le2.quo {i j : Int} {X Y : Option Nat} (h1 : Lt2 i X) (h2 : Ge2 j Y) (hi : -990 ≤ i - j) (hi' : i - j ≤ 1010) : Le2 (i - j) (fop .quo .f64 X Y) := by
  obtain ⟨x, s, m, e, rfl, hx, hl, -⟩ := h1
  obtain ⟨y, t, n, f, rfl, hy, hn, hk, -⟩ := h2
  rw [fop_quo, hx, hy]
  simp only [Datum.quotient, if_neg hn, Option.map_some]
  have hd : m = 0 ∨ (m.log2 : Int) + e - ((n.log2 : Int) + f) < i - j := by
    rcases hl with h | h
    · exact .inl h
    · exact .inr (by omega)
  have hq := lt2_quo hn hd (m <<< (54 + n.log2 - m.log2) % n != 0) (54 + n.log2 - m.log2) (Nat.le_refl _)
  have hq' : lt2 (i - j) (2 * (m <<< (54 + n.log2 - m.log2) / n) + (m <<< (54 + n.log2 - m.log2) % n != 0).toNat) (e - f - (54 + n.log2 - m.log2 : Nat) - 1) := by
    rcases hq with hq | rfl
    · exact hq
    · left; simp
  exact Le2.of_write (by omega) (by omega) (.inl hq')
end Go.Proofs.Ytnjkabckbnbboaa
