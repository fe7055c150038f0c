/- Helper: normal numbers told by their digits and their place; the logarithm's sum and its bounds. Conditions: none. -/
import Derived.Test.YtnjkabckbnbboaaAngleFacts
import Derived.Test.YtnjkabckbnbboaaSubFacts
set_option linter.unusedVariables false
namespace Go.Proofs.Ytnjkabckbnbboaa
open Ieee (Datum)

/-- The word of m times 2 to the power of f, where m has 53 digits. -/
def W (m : Nat) (f : Int) : Nat := (f + 1074).toNat * 4503599627370496 + m

theorem readW {m : Nat} {f : Int} (h1 : 4503599627370496 ≤ m) (h2 : m < 9007199254740992) (h3 : -1074 ≤ f) (h4 : f ≤ 900) : Ieee.double.read (W m f) = .number false m f := by
  have hq : ((f + 1074).toNat : Int) = f + 1074 := by omega
  unfold W
  generalize (f + 1074).toNat = q at *
  have hr := read_word64 false (q * 4503599627370496 + m) (by omega)
  rw [if_neg (by omega)] at hr
  have hw : Ieee.double.word false (q * 4503599627370496 + m) = q * 4503599627370496 + m := rfl
  rw [hw] at hr
  rw [hr]
  have e1 : 4503599627370496 + (q * 4503599627370496 + m) % 4503599627370496 = m := by omega
  have e2 : (-1074 : Int) + (((q * 4503599627370496 + m) / 4503599627370496 - 1 : Nat) : Int) = f := by omega
  rw [e1, e2]

theorem cut_exact (s : Bool) (m t : Nat) (h : t ≤ (m * 2 ^ t).log2 + 2) : Ieee.Toward.even.cut s (m * 2 ^ t) t = m := by
  unfold Ieee.Toward.cut
  rw [Nat.min_eq_left h, Nat.shiftLeft_eq, Nat.one_mul]
  dsimp only
  rw [Nat.mul_mod_left, Nat.mul_div_cancel _ (Nat.two_pow_pos t)]
  have hp := Nat.two_pow_pos t
  have h7 : decide (2 ^ t < 2 * 0) = false := decide_eq_false (by omega)
  have h8 : (2 ^ t == 2 * 0) = false := by
    have : ¬ 2 ^ t = 2 * 0 := by omega
    exact beq_eq_false_iff_ne.2 this
  rw [h7, h8]
  rfl

theorem log2_scaled {m t : Nat} (h1 : 4503599627370496 ≤ m) (h2 : m < 9007199254740992) : (m * 2 ^ t).log2 = 52 + t := by
  have hm0 : m ≠ 0 := by omega
  have hz : m * 2 ^ t ≠ 0 := Nat.mul_ne_zero hm0 (Nat.pos_iff_ne_zero.1 (Nat.two_pow_pos _))
  have hp52 : (2 : Nat) ^ 52 = 4503599627370496 := by decide
  have hp53 : (2 : Nat) ^ 53 = 9007199254740992 := by decide
  have ha : (m * 2 ^ t).log2 < 53 + t := (Nat.log2_lt hz).2 (by rw [Nat.pow_add, hp53]; exact Nat.mul_lt_mul_of_pos_right h2 (Nat.two_pow_pos _))
  have hb : ¬ (m * 2 ^ t).log2 < 52 + t := fun h => by
    have := (Nat.log2_lt hz).1 h
    rw [Nat.pow_add, hp52] at this
    have := Nat.lt_of_mul_lt_mul_right this
    omega
  omega

theorem writeW {m : Nat} {f : Int} (t : Nat) (h1 : 4503599627370496 ≤ m) (h2 : m < 9007199254740992) (h3 : -1074 ≤ f) (h4 : f ≤ 900) (ht : t ≤ 60) :
    Ieee.double.write (.number false (m * 2 ^ t) (f - t)) = W m f := by
  obtain ⟨e1, e2, e3, e4⟩ := double_consts
  have ef : Ieee.double.fractionBits = 52 := rfl
  have hz : m * 2 ^ t ≠ 0 := Nat.mul_ne_zero (by omega) (Nat.pos_iff_ne_zero.1 (Nat.two_pow_pos _))
  have hl := log2_scaled (t := t) h1 h2
  have hcut := cut_exact false m t (by omega)
  generalize m * 2 ^ t = z at *
  simp only [Ieee.Format.write, Ieee.Format.nearest, if_neg hz, e2, e3, e4, ef, hl]
  have hmax : max (f - t + ((52 + t : Nat) : Int) - (52 : Nat)) (-1074) = f := by omega
  rw [hmax]
  have h5 : (f - t - f).toNat = 0 := by omega
  have h6 : (f - (f - t)).toNat = t := by omega
  rw [h5, h6, Nat.shiftLeft_zero, hcut]
  have hq : ((f + 1074).toNat : Int) = f + 1074 := by omega
  have h9 : (f - -1074).toNat = (f + 1074).toNat := by omega
  rw [h9]
  unfold W
  generalize (f + 1074).toNat = q at *
  rw [Nat.min_eq_left (by omega)]
  unfold Ieee.Format.word
  rw [if_neg (by decide)]

theorem two_read : Ieee.double.read 4611686018427387904 = .number false 4503599627370496 (-51) := by decide +kernel

theorem halfW {m : Nat} {f : Int} (h1 : 4503599627370496 ≤ m) (h2 : m < 9007199254740992) (h3 : -1073 ≤ f) (h4 : f ≤ 900) :
    fop .quo .f64 (some (W m f)) (some 4611686018427387904) = some (W m (f - 1)) := by
  rw [fop_quo, readW h1 h2 (by omega) h4, two_read]
  have hl : m.log2 = 52 := log2_eq52 h1 h2
  have hl2 : (4503599627370496 : Nat).log2 = 52 := one_log
  simp only [Datum.quotient, hl, hl2, Nat.reduceAdd, Nat.reduceSub, Nat.shiftLeft_eq]
  rw [if_neg (by decide)]
  have hp : (2 : Nat) ^ 54 = 18014398509481984 := by decide
  rw [hp]
  have e1 : m * 18014398509481984 / 4503599627370496 = m * 4 := by omega
  have e2 : m * 18014398509481984 % 4503599627370496 = 0 := by omega
  rw [e1, e2]
  have hw := writeW (m := m) (f := f - 1) 3 h1 h2 (by omega) (by omega) (by omega)
  have e0 : ((0 : Nat) != 0).toNat = 0 := rfl
  have e3 : 2 * (m * 4) + ((0 : Nat) != 0).toNat = m * 2 ^ 3 := by rw [e0]; omega
  have e4 : f - -51 - ((54 : Nat) : Int) - 1 = f - 1 - ((3 : Nat) : Int) := by omega
  rw [e3, e4, Bool.xor_self, Option.map_some, hw]

theorem doubleW {m : Nat} {f : Int} (h1 : 4503599627370496 ≤ m) (h2 : m < 9007199254740992) (h3 : -1074 ≤ f) (h4 : f ≤ 899) :
    fop .mul .f64 (some (W m f)) (some 4611686018427387904) = some (W m (f + 1)) := by
  rw [fop_mul, readW h1 h2 (by omega) (by omega), two_read]
  have hw := writeW (m := m) (f := f + 1) 52 h1 h2 (by omega) (by omega) (by omega)
  have e4 : f + 1 - ((52 : Nat) : Int) = f + -51 := by omega
  rw [e4] at hw
  have hp : (2 : Nat) ^ 52 = 4503599627370496 := by decide
  rw [hp] at hw
  show some (Ieee.double.write (.number (false ^^ false) (m * 4503599627370496) (f + -51))) = _
  rw [Bool.xor_self, hw]

/-- Two normal numbers: the place decides, then the digits. -/
theorem order_canon {m n : Nat} {f g : Int} (h1 : 4503599627370496 ≤ m) (h2 : m < 9007199254740992) (k1 : 4503599627370496 ≤ n) (k2 : n < 9007199254740992) :
    (Datum.number false m f).order (.number false n g) = some (if f < g then .lt else if g < f then .gt else compare (m : Int) (n : Int)) := by
  show some (compare (Ieee.signed false m (f - min f g).toNat) (Ieee.signed false n (g - min f g).toNat)) = _
  congr 1
  unfold Ieee.signed
  rw [if_neg (by decide), if_neg (by decide), Nat.shiftLeft_eq, Nat.shiftLeft_eq]
  by_cases hlt : f < g
  · rw [if_pos hlt]
    have e1 : (f - min f g).toNat = 0 := by omega
    have e2 : 2 ^ 1 ≤ 2 ^ (g - min f g).toNat := Nat.pow_le_pow_right (by decide) (by omega)
    rw [e1, Nat.pow_zero, Nat.mul_one]
    have := Nat.mul_le_mul_left n e2
    exact Int.compare_eq_lt.2 (Int.ofNat_lt.2 (by omega))
  · rw [if_neg hlt]
    by_cases hgt : g < f
    · rw [if_pos hgt]
      have e1 : (g - min f g).toNat = 0 := by omega
      have e2 : 2 ^ 1 ≤ 2 ^ (f - min f g).toNat := Nat.pow_le_pow_right (by decide) (by omega)
      rw [e1, Nat.pow_zero, Nat.mul_one]
      have := Nat.mul_le_mul_left m e2
      exact Int.compare_eq_gt.2 (Int.ofNat_lt.2 (by omega))
    · rw [if_neg hgt]
      have e1 : (f - min f g).toNat = 0 := by omega
      have e2 : (g - min f g).toNat = 0 := by omega
      rw [e1, e2, Nat.pow_zero, Nat.mul_one, Nat.mul_one]

/-- The place at which m lies from 0.75 to 1.5. -/
def red (m : Nat) : Int := if m < 6755399441055744 then -52 else -53

theorem ge_canon {m n : Nat} {f g : Int} (h1 : 4503599627370496 ≤ m) (h2 : m < 9007199254740992) (k1 : 4503599627370496 ≤ n) (k2 : n < 9007199254740992) :
    ((Datum.number false m f).order (.number false n g) == some .gt || (Datum.number false m f).order (.number false n g) == some .eq) = decide (g < f ∨ (f = g ∧ n ≤ m)) := by
  rw [order_canon h1 h2 k1 k2]
  by_cases hlt : f < g
  · rw [if_pos hlt, decide_eq_false (by omega)]; rfl
  · rw [if_neg hlt]
    by_cases hgt : g < f
    · rw [if_pos hgt, decide_eq_true (by omega)]; rfl
    · rw [if_neg hgt]
      by_cases hm : m < n
      · rw [Int.compare_eq_lt.2 (Int.ofNat_lt.2 hm), decide_eq_false (by omega)]; rfl
      · by_cases hm2 : n < m
        · rw [Int.compare_eq_gt.2 (Int.ofNat_lt.2 hm2), decide_eq_true (by omega)]; rfl
        · have : m = n := by omega
          subst this
          rw [Int.compare_eq_eq.2 rfl, decide_eq_true (by omega)]; rfl

theorem lt_canon {m n : Nat} {f g : Int} (h1 : 4503599627370496 ≤ m) (h2 : m < 9007199254740992) (k1 : 4503599627370496 ≤ n) (k2 : n < 9007199254740992) :
    ((Datum.number false m f).order (.number false n g) == some .lt) = decide (f < g ∨ (f = g ∧ m < n)) := by
  rw [order_canon h1 h2 k1 k2]
  by_cases hlt : f < g
  · rw [if_pos hlt, decide_eq_true (by omega)]; rfl
  · rw [if_neg hlt]
    by_cases hgt : g < f
    · rw [if_pos hgt, decide_eq_false (by omega)]; rfl
    · rw [if_neg hgt]
      by_cases hm : m < n
      · rw [Int.compare_eq_lt.2 (Int.ofNat_lt.2 hm), decide_eq_true (by omega)]; rfl
      · by_cases hm2 : n < m
        · rw [Int.compare_eq_gt.2 (Int.ofNat_lt.2 hm2), decide_eq_false (by omega)]; rfl
        · have : m = n := by omega
          subst this
          rw [Int.compare_eq_eq.2 rfl, decide_eq_false (by omega)]; rfl

theorem ge_gen {x c m n : Nat} {f g : Int} (hx : Ieee.double.read x = .number false m f) (hc : Ieee.double.read c = .number false n g)
    (h1 : 4503599627370496 ≤ m) (h2 : m < 9007199254740992) (k1 : 4503599627370496 ≤ n) (k2 : n < 9007199254740992) (b : Bool) (hb : decide (g < f ∨ (f = g ∧ n ≤ m)) = b) :
    (ford .f64 (some x) (some c) == some .gt || ford .f64 (some x) (some c) == some .eq) = b := by
  have e : ford .f64 (some x) (some c) = (Ieee.double.read x).order (Ieee.double.read c) := rfl
  rw [e, hx, hc, ge_canon h1 h2 k1 k2, hb]

theorem lt_gen {x c m n : Nat} {f g : Int} (hx : Ieee.double.read x = .number false m f) (hc : Ieee.double.read c = .number false n g)
    (h1 : 4503599627370496 ≤ m) (h2 : m < 9007199254740992) (k1 : 4503599627370496 ≤ n) (k2 : n < 9007199254740992) (b : Bool) (hb : decide (f < g ∨ (f = g ∧ m < n)) = b) :
    (ford .f64 (some x) (some c) == some .lt) = b := by
  have e : ford .f64 (some x) (some c) = (Ieee.double.read x).order (Ieee.double.read c) := rfl
  rw [e, hx, hc, lt_canon h1 h2 k1 k2, hb]

theorem read15 : Ieee.double.read 4609434218613702656 = .number false 6755399441055744 (-52) := by decide +kernel
theorem read75 : Ieee.double.read 4604930618986332160 = .number false 6755399441055744 (-53) := by decide +kernel
theorem red_ge (m : Nat) (f : Int) : decide (-52 < f ∨ (f = -52 ∧ 6755399441055744 ≤ m)) = decide (red m < f) := by
  refine decide_eq_decide.2 ?_
  rcases Nat.lt_or_ge m 6755399441055744 with h | h
  · rw [show red m = -52 from if_pos h]; omega
  · rw [show red m = -53 from if_neg (by omega)]; omega
theorem red_lt (m : Nat) (f : Int) : decide (f < -53 ∨ (f = -53 ∧ m < 6755399441055744)) = decide (f < red m) := by
  refine decide_eq_decide.2 ?_
  rcases Nat.lt_or_ge m 6755399441055744 with h | h
  · rw [show red m = -52 from if_pos h]; omega
  · rw [show red m = -53 from if_neg (by omega)]; omega

theorem ge15 {m : Nat} {f : Int} (h1 : 4503599627370496 ≤ m) (h2 : m < 9007199254740992) (h3 : -1074 ≤ f) (h4 : f ≤ 900) :
    (ford .f64 (some (W m f)) (some 4609434218613702656) == some .gt || ford .f64 (some (W m f)) (some 4609434218613702656) == some .eq) = decide (red m < f) :=
  ge_gen (readW h1 h2 h3 h4) read15 h1 h2 (by decide) (by decide) _ (red_ge m f)

theorem lt75 {m : Nat} {f : Int} (h1 : 4503599627370496 ≤ m) (h2 : m < 9007199254740992) (h3 : -1074 ≤ f) (h4 : f ≤ 900) :
    (ford .f64 (some (W m f)) (some 4604930618986332160) == some .lt) = decide (f < red m) :=
  lt_gen (readW h1 h2 h3 h4) read75 h1 h2 (by decide) (by decide) _ (red_lt m f)

def k2 (j : Nat) : Nat := floatOfInt .f64 (25 - 2 * j)
def polyQ (u : Option Nat) : Nat → Option Nat
  | 0 => some 0
  | j + 1 => fop .add .f64 (fop .quo .f64 (some 4607182418800017408) (some (k2 j))) (fop .mul .f64 u (polyQ u j))
def sP (m : Nat) : Option Nat := fop .quo .f64 (fop .sub .f64 (some (W m (red m))) (some 4607182418800017408)) (fop .add .f64 (some (W m (red m))) (some 4607182418800017408))
def logB (m : Nat) (c : Int) : Option Nat :=
  fop .add .f64 (fop .mul .f64 (some 4611686018427387904) (fop .mul .f64 (sP m) (polyQ (fop .mul .f64 (sP m) (sP m)) 13))) (fop .mul .f64 (some (floatOfInt .f64 c)) (some 4604418534313441775))

theorem sum_comm (a b : Datum) : a.sum b = b.sum a := by
  cases a with
  | nan s t => cases b <;> rfl
  | infinity s =>
    cases b with
    | nan s t => rfl
    | infinity t => simp only [Datum.sum]; cases s <;> cases t <;> rfl
    | number t n f => rfl
  | number s m e =>
    cases b with
    | nan s t => rfl
    | infinity t => rfl
    | number t n f =>
      simp only [Datum.sum]
      rw [Int.min_comm f e, Int.add_comm (Ieee.signed t n (f - min e f).toNat), Bool.and_comm t s]
theorem add_comm64 (X Y : Option Nat) : fop .add .f64 X Y = fop .add .f64 Y X := by
  cases X with
  | none => cases Y <;> rfl
  | some x =>
    cases Y with
    | none => rfl
    | some y => rw [fop_add, fop_add, sum_comm]

theorem red_cases (m : Nat) : (m < 6755399441055744 ∧ red m = -52) ∨ (6755399441055744 ≤ m ∧ red m = -53) := by
  unfold red
  by_cases h : m < 6755399441055744
  · exact .inl ⟨h, if_pos h⟩
  · exact .inr ⟨by omega, if_neg h⟩

/-- s is small. -/
theorem sP_bound {m : Nat} (h1 : 4503599627370496 ≤ m) (h2 : m < 9007199254740992) : Lt2 1 (sP m) := by
  have hr := red_cases m
  have hread := readW h1 h2 (f := red m) (by omega) (by omega)
  have hx : Lt2 1 (some (W m (red m))) := ⟨_, _, _, _, rfl, hread, .inr (by rw [log2_eq52 h1 h2]; omega), h2, by omega, by omega⟩
  have px : Pos (some (W m (red m))) := ⟨_, _, _, rfl, hread⟩
  obtain ⟨g1, g2⟩ := one_add hx px (by omega) (by omega)
  have g3 : Ge2 0 (fop .add .f64 (some (W m (red m))) (some 4607182418800017408)) := by rw [add_comm64]; exact g1
  have hsub : Lt2 0 (fop .sub .f64 (some (W m (red m))) (some 4607182418800017408)) := by
    rw [fop_sub, hread, one_read]
    simp only [Datum.opposite, Datum.sum, Option.map_some]
    rw [show (0 : Int) = -1 + 1 by omega]
    refine Lt2.of_write (by omega) (by omega) ?_
    have hp : (2 : Nat) ^ 51 = 2251799813685248 := by decide
    have hp2 : (2 : Nat) ^ 52 = 4503599627370496 := by decide
    have hs0 : ∀ k, Ieee.signed false m k = ((m * 2 ^ k : Nat) : Int) := fun k => by unfold Ieee.signed; rw [if_neg (by decide), Nat.shiftLeft_eq]
    have hs1 : ∀ k, Ieee.signed (!false) 4503599627370496 k = -((4503599627370496 * 2 ^ k : Nat) : Int) := fun k => by unfold Ieee.signed; rw [if_pos (by decide), Nat.shiftLeft_eq]
    rw [hs0, hs1]
    rcases hr with ⟨ha, hb⟩ | ⟨ha, hb⟩
    · rw [hb]
      have e1 : (-52 - min (-52) (-52) : Int).toNat = 0 := by decide
      have e2 : min (-52 : Int) (-52) = -52 := by decide
      rw [e1, e2, Nat.pow_zero, Nat.mul_one, Nat.mul_one]
      have hz : (((m : Nat) : Int) + -((4503599627370496 : Nat) : Int)).natAbs < 2251799813685248 := by omega
      generalize (((m : Nat) : Int) + -((4503599627370496 : Nat) : Int)).natAbs = z at *
      by_cases h0 : z = 0
      · exact .inl h0
      · have := log2_lt' h0 (by rw [hp]; exact hz)
        exact .inr (by omega)
    · rw [hb]
      have e1 : (-53 - min (-53) (-52) : Int).toNat = 0 := by decide
      have e2 : (-52 - min (-53) (-52) : Int).toNat = 1 := by decide
      have e3 : min (-53 : Int) (-52) = -53 := by decide
      rw [e1, e2, e3, Nat.pow_zero, Nat.mul_one, Nat.pow_one]
      have hz : (((m : Nat) : Int) + -((4503599627370496 * 2 : Nat) : Int)).natAbs < 4503599627370496 := by omega
      generalize (((m : Nat) : Int) + -((4503599627370496 * 2 : Nat) : Int)).natAbs = z at *
      by_cases h0 : z = 0
      · exact .inl h0
      · have := log2_lt' h0 (by rw [hp2]; exact hz)
        exact .inr (by omega)
  exact (hsub.quo g3 (by omega) (by omega)).mono (by omega)

theorem inv_bound2 : ∀ j : Nat, j < 13 → lt2b 2 (fop .quo .f64 (some 4607182418800017408) (some (k2 j))) = true := by decide +kernel

theorem polyQ_bound {u : Option Nat} (h : Lt2 3 u) : ∀ j : Nat, j ≤ 13 → Lt2 (6 * j) (polyQ u j) := by
  intro j
  induction j with
  | zero => intro _; exact (Lt2.of_b (i := 0) (X := some 0) (by decide +kernel)).mono (by simp)
  | succ j ih =>
    intro hj
    have a := Lt2.of_b (inv_bound2 j (by omega))
    have b := h.mul (ih (by omega)) (by omega) (by omega)
    have c := (a.mono (j := 3 + 6 * j + 1) (by omega)).add b (by omega) (by omega)
    exact c.mono (by push_cast; omega)

theorem count_bound : ∀ c : Nat, c < 300 → lt2b 10 (some (floatOfInt .f64 (c : Int))) = true ∧ lt2b 10 (some (floatOfInt .f64 (-(c : Int)))) = true := by decide +kernel
theorem count_bound' (c : Int) (h1 : -299 ≤ c) (h2 : c ≤ 299) : Lt2 10 (some (floatOfInt .f64 c)) := by
  by_cases h : 0 ≤ c
  · have := (count_bound c.toNat (by omega)).1
    rw [Int.toNat_of_nonneg h] at this
    exact Lt2.of_b this
  · have := (count_bound (-c).toNat (by omega)).2
    rw [Int.toNat_of_nonneg (by omega), Int.neg_neg] at this
    exact Lt2.of_b this

theorem logB_bound {m : Nat} (h1 : 4503599627370496 ≤ m) (h2 : m < 9007199254740992) (c : Int) (h3 : -299 ≤ c) (h4 : c ≤ 299) : Lt2 90 (logB m c) := by
  have a := sP_bound h1 h2
  have u := (a.mul a (by omega) (by omega)).mono (j := 3) (by omega)
  have q := polyQ_bound u 13 (by omega)
  have d := (a.mul q (by omega) (by omega)).mono (j := 80) (by omega)
  have two : Lt2 2 (some 4611686018427387904) := Lt2.of_b (by decide +kernel)
  have ln : Lt2 0 (some 4604418534313441775) := Lt2.of_b (by decide +kernel)
  have e := (two.mul d (by omega) (by omega)).mono (j := 83) (by omega)
  have f := ((count_bound' c h3 h4).mul ln (by omega) (by omega)).mono (j := 83) (by omega)
  exact (e.add f (by omega) (by omega)).mono (by omega)

/-- A positive 32-bit number, widened: its digits and its place. -/
theorem widen_normal {X : Option Nat} (h : finite .f32 X = true) (hz : ¬ ford .f32 X (some 0) = some .eq) (hn : ¬ ford .f32 X (some 0) = some .lt) :
    ∃ m f, widen X = some (W m f) ∧ 4503599627370496 ≤ m ∧ m < 9007199254740992 ∧ -201 ≤ f ∧ f ≤ 75 := by
  cases X with
  | none => cases h
  | some x =>
    have h2 : finite .f32 (some x) = (match Ieee.single.read x with | .number .. => true | _ => false) := rfl
    rw [h2] at h
    have h32 : Ieee.single.read 0 = .number false 0 (-149) := by decide +kernel
    have ho : ford .f32 (some x) (some 0) = (Ieee.single.read x).order (Ieee.single.read 0) := rfl
    rw [ho, h32] at hz hn
    rcases read_single x with ⟨s, hx⟩ | ⟨s, t, hx⟩ | ⟨s, m, e, hx, hm, h1, h2⟩
    · rw [hx] at h; cases h
    · rw [hx] at h; cases h
    · rw [hx] at hz hn
      have key : (Datum.number s m e).order (.number false 0 (-149)) = some (compare (Ieee.signed s m (e - min e (-149)).toNat) 0) := by
        have h0 : Ieee.signed false 0 (-149 - min e (-149)).toNat = 0 := by unfold Ieee.signed; rw [if_neg (by decide), Nat.shiftLeft_eq, Nat.zero_mul]; rfl
        show some (compare _ (Ieee.signed false 0 (-149 - min e (-149)).toNat)) = _
        rw [h0]
      rw [key] at hz hn
      have hne : ¬ Ieee.signed s m (e - min e (-149)).toNat = 0 := fun hh => hz (congrArg some (Int.compare_eq_eq.2 hh))
      have hge : ¬ Ieee.signed s m (e - min e (-149)).toNat < 0 := fun hh => hn (congrArg some (Int.compare_eq_lt.2 hh))
      have hm0 : m ≠ 0 := by
        rintro rfl
        apply hne
        unfold Ieee.signed
        rw [Nat.shiftLeft_eq, Nat.zero_mul]
        cases s <;> rfl
      have hs : s = false := by
        cases s
        · rfl
        · exfalso
          apply hge
          unfold Ieee.signed
          rw [if_pos rfl, Nat.shiftLeft_eq]
          have := Nat.mul_pos (Nat.pos_of_ne_zero hm0) (Nat.two_pow_pos (e - min e (-149)).toNat)
          omega
      subst hs
      have hlog : m.log2 < 24 := (Nat.log2_lt hm0).2 hm
      have hw := word_rung false m e hm0 _ rfl (by omega) (by omega) (by omega)
      refine ⟨m * 2 ^ (52 - m.log2), e + m.log2 - 52, ?_, mul_ge m hm0 (by omega), mul_lt m (by omega), by omega, by omega⟩
      show some (Ieee.double.write (Ieee.single.read x)) = _
      rw [hx, hw]
      rfl

theorem order_zero2 (k : FloatKind) (s : Bool) (m : Nat) (e p : Int) : (Ieee.Datum.number s m e).order (.number false 0 p) = some (if m = 0 then .eq else if s then .lt else .gt) := by
  show some (compare (Ieee.signed s m (e - min e p).toNat) (Ieee.signed false 0 (p - min e p).toNat)) = _
  have h0 : Ieee.signed false 0 (p - min e p).toNat = 0 := by unfold Ieee.signed; rw [if_neg (by decide), Nat.shiftLeft_eq, Nat.zero_mul]; rfl
  rw [h0]
  congr 1
  by_cases hm : m = 0
  · subst hm
    have : Ieee.signed s 0 (e - min e p).toNat = 0 := by unfold Ieee.signed; rw [Nat.shiftLeft_eq, Nat.zero_mul]; cases s <;> rfl
    rw [this, if_pos rfl]
    rfl
  · rw [if_neg hm]
    have hp : 0 < m <<< (e - min e p).toNat := by rw [Nat.shiftLeft_eq]; exact Nat.mul_pos (Nat.pos_of_ne_zero hm) (Nat.two_pow_pos _)
    unfold Ieee.signed
    cases s
    · rw [if_neg (by decide), if_neg (by decide)]
      exact Int.compare_eq_gt.2 (by omega)
    · rw [if_pos rfl, if_pos rfl]
      exact Int.compare_eq_lt.2 (by omega)

/-- Held against zero, a number and the widened one stand alike. -/
theorem widen_zero2 {X : Option Nat} (h : clean .f32 X) : ford .f64 (widen X) (some 0) = ford .f32 X (some 0) := by
  cases X with
  | none => rfl
  | some x =>
    have hx : (Ieee.single.read x).isNaN = false := h x rfl
    have h32 : Ieee.single.read 0 = .number false 0 (-149) := by decide +kernel
    have h64 : Ieee.double.read 0 = .number false 0 (-1074) := by decide +kernel
    show (Ieee.double.read (Ieee.double.write (Ieee.single.read x))).order (Ieee.double.read 0) = (Ieee.single.read x).order (Ieee.single.read 0)
    rw [h32, h64]
    rcases read_single x with ⟨s, h⟩ | ⟨s, t, h⟩ | ⟨s, m, e, h, hm, h1, h2⟩
    · rw [h]; cases s <;> decide +kernel
    · rw [h] at hx; cases hx
    · rw [h]
      by_cases h0 : m = 0
      · subst h0
        have : Ieee.double.write (.number s 0 e) = Ieee.double.word s 0 := by simp [Ieee.Format.write, Ieee.Format.nearest]
        rw [this, read_word64 s 0 (by decide), if_pos (by decide), order_zero2 .f64, order_zero2 .f64, if_pos rfl]
      · have hlog : m.log2 < 24 := (Nat.log2_lt h0).2 hm
        rw [word_rung s m e h0 _ rfl (by omega) (by omega) (by omega)]
        have hg := mul_ge m h0 (by omega)
        have hl := mul_lt m (by omega)
        generalize m * 2 ^ (52 - m.log2) = z at *
        have hq : (e + (m.log2 : Int) - 52 + 1074).toNat ≤ 1149 := by omega
        generalize (e + (m.log2 : Int) - 52 + 1074).toNat = q at *
        rw [read_word64 s _ (by omega), if_neg (by omega), order_zero2 .f64, order_zero2 .f64, if_neg h0, if_neg (by omega)]

end Go.Proofs.Ytnjkabckbnbboaa
