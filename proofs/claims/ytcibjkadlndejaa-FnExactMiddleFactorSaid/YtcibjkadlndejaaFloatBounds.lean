/- Helper: how great and how small the results of operations on 64-bit floats are; numbers that are told exactly. Conditions: none. -/
import Derived.Test.YtcibjkadlndejaaFloatFacts
namespace Go.Proofs.Ytcibjkadlndejaa
open Ieee (Datum)

/-- m times 2 to the power of e is below 2 to the power of i. -/
def lt2 (i : Int) (m : Nat) (e : Int) : Prop := m = 0 ∨ (m.log2 : Int) + e < i

/-- A finite number whose absolute value is below 2 to the power of i. -/
def Lt2 (i : Int) (X : Option Nat) : Prop := ∃ x s m e, X = some x ∧ Ieee.double.read x = .number s m e ∧ lt2 i m e ∧ m < 9007199254740992 ∧ -1074 ≤ e ∧ e ≤ 971

theorem log2_lt' {m : Nat} {k : Nat} (h : m ≠ 0) (hb : m < 2 ^ k) : m.log2 < k := (Nat.log2_lt h).2 hb
theorem lt_log2' (m : Nat) : m < 2 ^ (m.log2 + 1) := Nat.lt_log2_self
theorem log2_le' {m : Nat} (h : m ≠ 0) : 2 ^ m.log2 ≤ m := Nat.log2_self_le h

theorem lt2_mono {i j : Int} {m : Nat} {e : Int} (h : lt2 i m e) (hij : i ≤ j) : lt2 j m e := by
  rcases h with h | h
  · exact .inl h
  · exact .inr (by omega)
theorem Lt2.mono {i j : Int} {X : Option Nat} (h : Lt2 i X) (hij : i ≤ j) : Lt2 j X := by
  obtain ⟨x, s, m, e, h1, h2, h3, h4⟩ := h
  exact ⟨x, s, m, e, h1, h2, lt2_mono h3 hij, h4⟩

theorem kept_le' (neg : Bool) (mag : Nat) (place last : Int) (fb : Nat) (hl : place + mag.log2 - fb ≤ last) :
    Ieee.Toward.even.cut neg (mag <<< (place - last).toNat) (last - place).toNat ≤ 2 ^ (fb + 1) := by
  have hmag := lt_log2' mag
  by_cases h : place ≤ last
  · have e : (place - last).toNat = 0 := by omega
    rw [e, Nat.shiftLeft_zero]
    refine Nat.le_trans (cut_even_le _ _ _) ?_
    rw [Nat.shiftLeft_eq, Nat.one_mul]
    have : mag / 2 ^ min (last - place).toNat (mag.log2 + 2) < 2 ^ (fb + 1) := by
      by_cases hm : (last - place).toNat ≤ mag.log2 + 2
      · rw [Nat.min_eq_left hm, Nat.div_lt_iff_lt_mul (Nat.two_pow_pos _), ← Nat.pow_add]
        exact Nat.lt_of_lt_of_le hmag (Nat.pow_le_pow_right (by decide) (by omega))
      · rw [Nat.min_eq_right (by omega)]
        have : mag / 2 ^ (mag.log2 + 2) = 0 := Nat.div_eq_of_lt (Nat.lt_of_lt_of_le hmag (Nat.pow_le_pow_right (by decide) (by omega)))
        rw [this]; exact Nat.two_pow_pos _
    omega
  · have e : (last - place).toNat = 0 := by omega
    rw [e]
    refine Nat.le_trans (cut_even_le _ _ _) ?_
    have e2 : (1 <<< min 0 ((mag <<< (place - last).toNat).log2 + 2)) = 1 := by simp
    rw [e2, Nat.div_one, Nat.shiftLeft_eq]
    have h2 : mag * 2 ^ (place - last).toNat < 2 ^ (mag.log2 + 1) * 2 ^ (place - last).toNat := Nat.mul_lt_mul_of_pos_right hmag (Nat.two_pow_pos _)
    rw [← Nat.pow_add] at h2
    have h3 : 2 ^ (mag.log2 + 1 + (place - last).toNat) ≤ 2 ^ (fb + 1) := Nat.pow_le_pow_right (by decide) (by omega)
    omega

/-- What a word of a sign and a rung reads as, written out. -/
theorem read_word64 (s : Bool) (rung : Nat) (h : rung < 9218868437227405312) :
    Ieee.double.read (Ieee.double.word s rung) = if rung < 4503599627370496 then .number s rung (-1074) else .number s (4503599627370496 + rung % 4503599627370496) (-1074 + (rung / 4503599627370496 - 1 : Nat)) := by
  obtain ⟨e1, e2, e3, e4⟩ := double_consts
  have hm : Ieee.double.word s rung % Ieee.double.signWeight = rung := by
    unfold Ieee.Format.word
    rw [e1]
    split <;> omega
  have hd : (Ieee.double.word s rung / Ieee.double.signWeight % 2 == 1) = s := by
    unfold Ieee.Format.word
    rw [e1]
    cases s <;> simp <;> omega
  unfold Ieee.Format.read
  simp only [hm, hd, e2, e3, e4]
  split
  · rfl
  · first | rfl | rw [if_pos h]

theorem log2_eq52 {m : Nat} (h1 : 4503599627370496 ≤ m) (h2 : m < 9007199254740992) : m.log2 = 52 := by
  have h0 : m ≠ 0 := by omega
  have ha : m.log2 < 53 := (Nat.log2_lt h0).2 h2
  have hb : ¬ m.log2 < 52 := fun h => by
    have := (Nat.log2_lt h0).1 h
    omega
  omega

theorem rung_lt2 (s : Bool) (rung : Nat) (i : Int) (hi : -1000 ≤ i) (h : (rung : Int) ≤ (i + 1023) * 4503599627370496) (h' : rung < 9218868437227405312) :
    ∃ m e, Ieee.double.read (Ieee.double.word s rung) = .number s m e ∧ lt2 (i + 1) m e ∧ m < 9007199254740992 ∧ -1074 ≤ e ∧ e ≤ 971 := by
  rw [read_word64 s rung h']
  split
  · rename_i hr
    refine ⟨_, _, rfl, ?_, by omega, by omega, by omega⟩
    by_cases h0 : rung = 0
    · exact .inl h0
    · have : rung.log2 < 52 := (Nat.log2_lt h0).2 hr
      exact .inr (by omega)
  · rename_i hr
    refine ⟨_, _, rfl, ?_, by omega, by omega, by omega⟩
    have := log2_eq52 (m := 4503599627370496 + rung % 4503599627370496) (by omega) (by omega)
    refine .inr ?_
    rw [this]
    omega

/-- What is written of a number below 2 to the power of i is below 2 to the power of i + 1. -/
theorem write_lt2 (s : Bool) (m : Nat) (e : Int) (i : Int) (hi : -1000 ≤ i) (hi' : i ≤ 1020) (h : lt2 i m e) :
    ∃ m' e', Ieee.double.read (Ieee.double.write (.number s m e)) = .number s m' e' ∧ lt2 (i + 1) m' e' ∧ m' < 9007199254740992 ∧ -1074 ≤ e' ∧ e' ≤ 971 := by
  obtain ⟨e1, e2, e3, e4⟩ := double_consts
  have ef : Ieee.double.fractionBits = 52 := rfl
  simp only [Ieee.Format.write, Ieee.Format.nearest]
  split
  · exact rung_lt2 s 0 i hi (by omega) (by decide)
  · rename_i h0
    have hk := kept_le' s m e (max (e + (m.log2 : Int) - (52 : Nat)) (-1074)) 52 (by omega)
    have hl : (m.log2 : Int) + e < i := by rcases h with h | h; exact absurd h h0; exact h
    simp only [e2, e3, e4, ef]
    generalize Ieee.Toward.even.cut s _ _ = c at *
    have hp : (2 : Nat) ^ (52 + 1) = 9007199254740992 := by decide
    rw [hp] at hk
    have hq : ((max (e + (m.log2 : Int) - (52 : Nat)) (-1074) - -1074).toNat : Int) ≤ i + 1021 := by omega
    generalize (max (e + (m.log2 : Int) - (52 : Nat)) (-1074) - -1074).toNat = q at *
    have hb : ((q * 4503599627370496 + c : Nat) : Int) ≤ (i + 1023) * 4503599627370496 := by omega
    have hlt : q * 4503599627370496 + c < 9218868437227405312 := by omega
    rw [Nat.min_eq_left (Nat.le_of_lt hlt)]
    exact rung_lt2 s _ i hi hb hlt

theorem Lt2.of_write {i : Int} {s : Bool} {m : Nat} {e : Int} (hi : -1000 ≤ i) (hi' : i ≤ 1020) (h : lt2 i m e) : Lt2 (i + 1) (some (Ieee.double.write (.number s m e))) := by
  obtain ⟨m', e', h1, h2, h3⟩ := write_lt2 s m e i hi hi' h
  exact ⟨_, s, m', e', rfl, h1, h2, h3⟩

theorem fop_add {x y : Nat} : fop .add .f64 (some x) (some y) = ((Ieee.double.read x).sum (Ieee.double.read y)).map Ieee.double.write := rfl
theorem fop_sub {x y : Nat} : fop .sub .f64 (some x) (some y) = ((Ieee.double.read x).sum (Ieee.double.read y).opposite).map Ieee.double.write := rfl
theorem fop_mul {x y : Nat} : fop .mul .f64 (some x) (some y) = ((Ieee.double.read x).product (Ieee.double.read y)).map Ieee.double.write := rfl
theorem fop_quo {x y : Nat} : fop .quo .f64 (some x) (some y) = ((Ieee.double.read x).quotient 54 (Ieee.double.read y)).map Ieee.double.write := rfl

theorem lt2_mul {i j : Int} {m n : Nat} {e f : Int} (h1 : lt2 i m e) (h2 : lt2 j n f) : lt2 (i + j) (m * n) (e + f) := by
  by_cases hm : m = 0
  · exact .inl (by simp [hm])
  by_cases hn : n = 0
  · exact .inl (by simp [hn])
  have a : (m.log2 : Int) + e < i := by rcases h1 with h | h; exact absurd h hm; exact h
  have b : (n.log2 : Int) + f < j := by rcases h2 with h | h; exact absurd h hn; exact h
  have : m * n < 2 ^ (m.log2 + 1 + (n.log2 + 1)) := by
    rw [Nat.pow_add]
    exact Nat.mul_lt_mul_of_lt_of_lt (lt_log2' m) (lt_log2' n)
  have := log2_lt' (Nat.mul_ne_zero hm hn) this
  exact .inr (by omega)

theorem Lt2.mul {i j : Int} {X Y : Option Nat} (h1 : Lt2 i X) (h2 : Lt2 j Y) (hi : -1000 ≤ i + j) (hi' : i + j ≤ 1020) : Lt2 (i + j + 1) (fop .mul .f64 X Y) := by
  obtain ⟨x, s, m, e, rfl, hx, hl, -⟩ := h1
  obtain ⟨y, t, n, f, rfl, hy, hk, -⟩ := h2
  rw [fop_mul, hx, hy]
  exact Lt2.of_write hi hi' (lt2_mul hl hk)

theorem shift_lt {i : Int} {m : Nat} {e base : Int} (h : lt2 i m e) (hb : base ≤ e) (hbi : base ≤ i) : m <<< (e - base).toNat < 2 ^ (i - base).toNat := by
  rw [Nat.shiftLeft_eq]
  rcases h with rfl | h
  · simp; exact Nat.two_pow_pos _
  · have : m * 2 ^ (e - base).toNat < 2 ^ (m.log2 + 1) * 2 ^ (e - base).toNat := Nat.mul_lt_mul_of_pos_right (lt_log2' m) (Nat.two_pow_pos _)
    rw [← Nat.pow_add] at this
    exact Nat.lt_of_lt_of_le this (Nat.pow_le_pow_right (by decide) (by omega))

theorem natAbs_signed (s : Bool) (m k : Nat) : (Ieee.signed s m k).natAbs = m <<< k := by
  unfold Ieee.signed; cases s
  · rw [if_neg (by decide), Int.natAbs_natCast]
  · rw [if_pos rfl, Int.natAbs_neg, Int.natAbs_natCast]

theorem lt2_sum {i : Int} {s t : Bool} {m n : Nat} {e f : Int} (h1 : lt2 i m e) (h2 : lt2 i n f) :
    lt2 (i + 1) (Ieee.signed s m (e - min e f).toNat + Ieee.signed t n (f - min e f).toNat).natAbs (min e f) := by
  generalize hb : min e f = base
  have b1 : base ≤ e := by omega
  have b2 : base ≤ f := by omega
  by_cases hbi : base ≤ i
  · have a := shift_lt h1 b1 hbi
    have b := shift_lt h2 b2 hbi
    have hs := Int.natAbs_add_le (Ieee.signed s m (e - base).toNat) (Ieee.signed t n (f - base).toNat)
    rw [natAbs_signed, natAbs_signed] at hs
    generalize (Ieee.signed s m (e - base).toNat + Ieee.signed t n (f - base).toNat).natAbs = z at *
    by_cases hz : z = 0
    · exact .inl hz
    · have : z < 2 ^ ((i - base).toNat + 1) := by rw [Nat.pow_succ]; omega
      have := log2_lt' hz this
      exact .inr (by omega)
  · have hm : m = 0 := by
      rcases h1 with h | h
      · exact h
      · omega
    have hn : n = 0 := by
      rcases h2 with h | h
      · exact h
      · omega
    subst hm; subst hn
    left
    cases s <;> cases t <;> simp [Ieee.signed]

theorem Lt2.add {i : Int} {X Y : Option Nat} (h1 : Lt2 i X) (h2 : Lt2 i Y) (hi : -1000 ≤ i) (hi' : i ≤ 1010) : Lt2 (i + 2) (fop .add .f64 X Y) := by
  obtain ⟨x, s, m, e, rfl, hx, hl, -⟩ := h1
  obtain ⟨y, t, n, f, rfl, hy, hk, -⟩ := h2
  rw [fop_add, hx, hy]
  have := Lt2.of_write (s := (if Ieee.signed s m (e - min e f).toNat + Ieee.signed t n (f - min e f).toNat = 0 then s && t else decide (Ieee.signed s m (e - min e f).toNat + Ieee.signed t n (f - min e f).toNat < 0))) (i := i + 1) (by omega) (by omega) (lt2_sum (s := s) (t := t) hl hk)
  rw [show i + 2 = i + 1 + 1 by omega]
  exact this

theorem Lt2.sub {i : Int} {X Y : Option Nat} (h1 : Lt2 i X) (h2 : Lt2 i Y) (hi : -1000 ≤ i) (hi' : i ≤ 1010) : Lt2 (i + 2) (fop .sub .f64 X Y) := by
  obtain ⟨x, s, m, e, rfl, hx, hl, -⟩ := h1
  obtain ⟨y, t, n, f, rfl, hy, hk, -⟩ := h2
  rw [fop_sub, hx, hy]
  have := Lt2.of_write (s := (if Ieee.signed s m (e - min e f).toNat + Ieee.signed (!t) n (f - min e f).toNat = 0 then s && (!t) else decide (Ieee.signed s m (e - min e f).toNat + Ieee.signed (!t) n (f - min e f).toNat < 0))) (i := i + 1) (by omega) (by omega) (lt2_sum (s := s) (t := !t) hl hk)
  rw [show i + 2 = i + 1 + 1 by omega]
  exact this

/-- A finite number whose absolute value is at least 2 to the power of j. -/
def Ge2 (j : Int) (X : Option Nat) : Prop := ∃ x s m e, X = some x ∧ Ieee.double.read x = .number s m e ∧ m ≠ 0 ∧ j ≤ (m.log2 : Int) + e ∧ m < 9007199254740992 ∧ -1074 ≤ e ∧ e ≤ 971

theorem lt2_quo {c : Int} {m n : Nat} {e f : Int} (hn : n ≠ 0) (h : m = 0 ∨ (m.log2 : Int) + e - ((n.log2 : Int) + f) < c) (b : Bool) (more : Nat) (hmore : 54 + n.log2 - m.log2 ≤ more) :
    lt2 c (2 * (m <<< more / n) + b.toNat) (e - f - more - 1) ∨ m = 0 := by
  by_cases hm : m = 0
  · exact .inr hm
  left
  have h' : (m.log2 : Int) + e - ((n.log2 : Int) + f) < c := by rcases h with h | h; exact absurd h hm; exact h
  have hq : m <<< more / n < 2 ^ (m.log2 + 1 + more - n.log2) := by
    rw [Nat.shiftLeft_eq, Nat.div_lt_iff_lt_mul (by omega)]
    have h1 : m * 2 ^ more < 2 ^ (m.log2 + 1) * 2 ^ more := Nat.mul_lt_mul_of_pos_right (lt_log2' m) (Nat.two_pow_pos _)
    rw [← Nat.pow_add] at h1
    have h2 : 2 ^ (m.log2 + 1 + more - n.log2) * 2 ^ n.log2 ≤ 2 ^ (m.log2 + 1 + more - n.log2) * n := Nat.mul_le_mul_left _ (log2_le' hn)
    rw [← Nat.pow_add] at h2
    have h3 : m.log2 + 1 + more - n.log2 + n.log2 = m.log2 + 1 + more := by omega
    rw [h3] at h2
    omega
  have hb : b.toNat ≤ 1 := Bool.toNat_le b
  have hz : 2 * (m <<< more / n) + b.toNat < 2 ^ (m.log2 + 1 + more - n.log2 + 1) := by rw [Nat.pow_succ]; omega
  by_cases h0 : 2 * (m <<< more / n) + b.toNat = 0
  · exact .inl h0
  · have := log2_lt' h0 hz
    exact .inr (by omega)

theorem Lt2.quo {i j : Int} {X Y : Option Nat} (h1 : Lt2 i X) (h2 : Ge2 j Y) (hi : -990 ≤ i - j) (hi' : i - j ≤ 1010) : Lt2 (i - j + 1) (fop .quo .f64 X Y) := by
  obtain ⟨x, s, m, e, rfl, hx, hl, -⟩ := h1
  obtain ⟨y, t, n, f, rfl, hy, hn, hk, -⟩ := h2
  rw [fop_quo, hx, hy]
  simp only [Datum.quotient, if_neg hn, Option.map_some]
  have hd : m = 0 ∨ (m.log2 : Int) + e - ((n.log2 : Int) + f) < i - j := by
    rcases hl with h | h
    · exact .inl h
    · exact .inr (by omega)
  have hq := lt2_quo hn hd (m <<< (54 + n.log2 - m.log2) % n != 0) (54 + n.log2 - m.log2) (Nat.le_refl _)
  rcases hq with hq | rfl
  · exact Lt2.of_write (by omega) (by omega) hq
  · have hz : (2 * (0 <<< (54 + n.log2 - Nat.log2 0) / n) + (0 <<< (54 + n.log2 - Nat.log2 0) % n != 0).toNat) = 0 := by simp
    rw [hz]
    exact Lt2.of_write (by omega) (by omega) (.inl rfl)

/-- The same, to be asked of a number that is known. -/
def lt2b (i : Int) (X : Option Nat) : Bool := match X with
  | some x => match Ieee.double.read x with
    | .number _ m e => (m == 0 || decide ((m.log2 : Int) + e < i)) && decide (m < 9007199254740992) && decide (-1074 ≤ e) && decide (e ≤ 971)
    | _ => false
  | none => false

theorem Lt2.of_b {i : Int} {X : Option Nat} (h : lt2b i X = true) : Lt2 i X := by
  unfold lt2b at h
  split at h
  · split at h
    · rename_i s m e hr
      simp only [Bool.and_eq_true, Bool.or_eq_true, beq_iff_eq, decide_eq_true_eq] at h
      obtain ⟨⟨⟨h1, h2⟩, h3⟩, h4⟩ := h
      exact ⟨_, _, _, _, rfl, hr, h1, h2, h3, h4⟩
    · cases h
  · cases h

def ge2b (j : Int) (X : Option Nat) : Bool := match X with
  | some x => match Ieee.double.read x with
    | .number _ m e => (m != 0) && decide (j ≤ (m.log2 : Int) + e) && decide (m < 9007199254740992) && decide (-1074 ≤ e) && decide (e ≤ 971)
    | _ => false
  | none => false

theorem Ge2.of_b {j : Int} {X : Option Nat} (h : ge2b j X = true) : Ge2 j X := by
  unfold ge2b at h
  split at h
  · split at h
    · rename_i s m e hr
      simp only [Bool.and_eq_true, bne_iff_ne, ne_eq, decide_eq_true_eq] at h
      obtain ⟨⟨⟨⟨h1, h2⟩, h3⟩, h4⟩, h5⟩ := h
      exact ⟨_, _, _, _, rfl, hr, h1, h2, h3, h4, h5⟩
    · cases h
  · cases h
end Go.Proofs.Ytcibjkadlndejaa
