/- Helper: facts of the sine of turns and of whole parts: what is cut off, what is left, how great it is. Conditions: none. -/
import Derived.Test.YtnjkabckbnbboaaLeBounds
import Derived.Test.YtnjkabckbnbboaaSubFacts
set_option linter.unusedVariables false
namespace Go.Proofs.Ytnjkabckbnbboaa
open Ieee (Datum)

theorem cut_toward_zero (s : Bool) (n d : Nat) : Ieee.Toward.zero.cut s n d = n / 2 ^ d := by
  unfold Ieee.Toward.cut
  simp only [Bool.toNat_false, Nat.add_zero, Nat.shiftLeft_eq, Nat.one_mul]
  by_cases h : d ≤ n.log2 + 2
  · rw [Nat.min_eq_left h]
  · rw [Nat.min_eq_right (by omega)]
    have h1 : n < 2 ^ (n.log2 + 2) := Nat.lt_of_lt_of_le (lt_log2' n) (Nat.pow_le_pow_right (by decide) (by omega))
    have h2 : n < 2 ^ d := Nat.lt_of_lt_of_le h1 (Nat.pow_le_pow_right (by decide) (by omega))
    rw [Nat.div_eq_of_lt h1, Nat.div_eq_of_lt h2]

/-- The whole part of m times 2 to the power of e. -/
def wholeN (m : Nat) (e : Int) : Nat := (m <<< e.toNat) / 2 ^ (-e).toNat
/-- The whole part of a number, with its sign. -/
def wholeI (X : Option Nat) : Int := match X with
  | some x => match Ieee.double.read x with
    | .number s m e => Ieee.signed s (wholeN m e) 0
    | _ => 0
  | none => 0

theorem wholeN_lt {i : Int} {m : Nat} {e : Int} (hi : 0 ≤ i) (h : lt2 i m e) : wholeN m e < 2 ^ i.toNat := by
  unfold wholeN
  rcases h with rfl | h
  · simp only [Nat.shiftLeft_eq, Nat.zero_mul, Nat.zero_div]; exact Nat.two_pow_pos _
  · rw [Nat.div_lt_iff_lt_mul (Nat.two_pow_pos _), Nat.shiftLeft_eq, ← Nat.pow_add]
    have h1 : m * 2 ^ e.toNat < 2 ^ (m.log2 + 1) * 2 ^ e.toNat := Nat.mul_lt_mul_of_pos_right (lt_log2' m) (Nat.two_pow_pos _)
    rw [← Nat.pow_add] at h1
    exact Nat.lt_of_lt_of_le h1 (Nat.pow_le_pow_right (by decide) (by omega))

theorem signed_zero_up (s : Bool) (n : Nat) : Ieee.signed s n 0 = if s then -(n : Int) else n := by
  unfold Ieee.signed
  rw [Nat.shiftLeft_zero]

theorem toInt_whole {x : Nat} {s : Bool} {m : Nat} {e : Int} (hx : Ieee.double.read x = .number s m e) {i : Int} (hi : 0 ≤ i) (hi' : i ≤ 62) (h : lt2 i m e) :
    floatToIntVal .f64 x .i64 = some (wholeI (some x)) ∧ (wholeI (some x)).natAbs = wholeN m e ∧ wholeN m e < 2 ^ i.toNat := by
  have hlt := wholeN_lt hi h
  have hp : 2 ^ i.toNat ≤ 2 ^ 62 := Nat.pow_le_pow_right (by decide) (by omega)
  have hp2 : (2 : Nat) ^ 62 = 4611686018427387904 := by decide
  have hd : FloatKind.f64.decode x = .number s m e := hx
  have hv : wholeI (some x) = if s then -(wholeN m e : Int) else wholeN m e := by
    unfold wholeI
    rw [← signed_zero_up]
    simp only [hx]
  have ht : (FloatKind.f64.decode x).toInt .zero = some (wholeI (some x)) := by
    rw [hd]
    unfold Ieee.Datum.toInt Ieee.Datum.integral
    simp only [cut_toward_zero]
    rw [hv, ← signed_zero_up]
    rfl
  refine ⟨?_, by rw [hv]; split <;> omega, hlt⟩
  unfold floatToIntVal
  rw [ht]
  have h1 : IntKind.i64.min = -9223372036854775808 := by decide
  have h2 : IntKind.i64.max = 9223372036854775807 := by decide
  simp only [h1, h2]
  rw [if_pos]
  rw [hv]
  split <;> omega

/-- A whole number of at most 53 digits is told exactly. -/
theorem read_ofInt {n : Int} (h : n.natAbs < 9007199254740992) : ∃ m e, Ieee.double.read (floatOfInt .f64 n) = .number (decide (n < 0)) m e ∧ e ≤ 0 ∧ m = n.natAbs * 2 ^ (-e).toNat := by
  by_cases h0 : n.natAbs = 0
  · obtain rfl : n = 0 := by omega
    exact ⟨0, -1074, by decide +kernel, by omega, by rw [show (0 : Int).natAbs = 0 from rfl, Nat.zero_mul]⟩
  · have hlog : n.natAbs.log2 < 53 := (Nat.log2_lt h0).2 h
    have hw := word_rung (decide (n < 0)) n.natAbs 0 h0 _ rfl (by omega) (by omega) (by omega)
    have hr : floatOfInt .f64 n = Ieee.double.write (.number (decide (n < 0)) n.natAbs 0) := rfl
    have hg := mul_ge n.natAbs h0 (by omega)
    have hl := mul_lt n.natAbs (by omega)
    rw [hr, hw]
    have hq : ((0 + (n.natAbs.log2 : Int) - 52 + 1074).toNat : Int) = n.natAbs.log2 + 1022 := by omega
    generalize (0 + (n.natAbs.log2 : Int) - 52 + 1074).toNat = q at *
    refine ⟨n.natAbs * 2 ^ (52 - n.natAbs.log2), (n.natAbs.log2 : Int) - 52, ?_, by omega, ?_⟩
    · generalize n.natAbs * 2 ^ (52 - n.natAbs.log2) = z at *
      rw [read_word64 _ _ (by omega), if_neg (by omega)]
      congr 1 <;> omega
    · congr 2
      omega

theorem lt2_of_lt {i base : Int} {z : Nat} (h : z < 2 ^ (i - base).toNat) (hb : base ≤ i) : lt2 i z base := by
  by_cases h0 : z = 0
  · exact .inl h0
  · have := log2_lt' h0 h
    exact .inr (by omega)

/-- What is left of a number when its whole part is taken away. -/
def partD (X : Option Nat) : Option Nat := fop .sub .f64 X (some (floatOfInt .f64 (wholeI X)))

theorem partD_bound {X : Option Nat} (h : Lt2 52 X) : Le2 0 (partD X) := by
  obtain ⟨x, s, m, e, rfl, hx, hl, hm, he1, he2⟩ := h
  obtain ⟨-, ha, hlt⟩ := toInt_whole hx (by omega) (by omega) hl
  have hsgn : wholeI (some x) ≠ 0 → decide (wholeI (some x) < 0) = s := by
    have hv : wholeI (some x) = if s then -(wholeN m e : Int) else wholeN m e := by
      unfold wholeI
      rw [← signed_zero_up]
      simp only [hx]
    rw [hv]
    cases s
    · intro _; exact decide_eq_false (by simp)
    · intro hne; exact decide_eq_true (by simp at hne ⊢; omega)
  have hp : (2 : Nat) ^ (52 : Int).toNat = 4503599627370496 := by decide
  rw [hp] at hlt
  obtain ⟨n, f, hn, hf, hv⟩ := read_ofInt (n := wholeI (some x)) (by omega)
  rw [ha] at hv
  unfold partD
  rw [fop_sub, hx, hn]
  generalize hI : wholeI (some x) = I at *
  refine Le2.of_write (i := 0) (s := (if Ieee.signed s m (e - min e f).toNat + Ieee.signed (!decide (I < 0)) n (f - min e f).toNat = 0 then s && !decide (I < 0) else decide (Ieee.signed s m (e - min e f).toNat + Ieee.signed (!decide (I < 0)) n (f - min e f).toNat < 0))) (by omega) (by omega) (.inl ?_)
  have hb : min e f ≤ 0 := by omega
  refine lt2_of_lt ?_ hb
  have e2 : n <<< (f - min e f).toNat = wholeN m e * 2 ^ (0 - min e f).toNat := by
    rw [hv, Nat.shiftLeft_eq, Nat.mul_assoc, ← Nat.pow_add]
    congr 2
    omega
  have e1 : wholeN m e * 2 ^ (0 - min e f).toNat ≤ m <<< (e - min e f).toNat ∧ m <<< (e - min e f).toNat < wholeN m e * 2 ^ (0 - min e f).toNat + 2 ^ (0 - min e f).toNat := by
    unfold wholeN
    rw [Nat.shiftLeft_eq, Nat.shiftLeft_eq]
    by_cases h0 : 0 ≤ e
    · have z1 : (-e).toNat = 0 := by omega
      have z2 : (e - min e f).toNat = e.toNat + (0 - min e f).toNat := by omega
      rw [z1, z2, Nat.pow_zero, Nat.div_one, Nat.pow_add, ← Nat.mul_assoc]
      exact ⟨Nat.le_refl _, Nat.lt_add_of_pos_right (Nat.two_pow_pos _)⟩
    · have z1 : e.toNat = 0 := by omega
      have z2 : (0 - min e f).toNat = (-e).toNat + (e - min e f).toNat := by omega
      rw [z1, z2, Nat.pow_zero, Nat.mul_one, Nat.pow_add, ← Nat.mul_assoc]
      have hdm := Nat.div_add_mod m (2 ^ (-e).toNat)
      have hr := Nat.mod_lt m (Nat.two_pow_pos (-e).toNat)
      generalize m / 2 ^ (-e).toNat = q at *
      generalize m % 2 ^ (-e).toNat = r at *
      generalize 2 ^ (-e).toNat = A at *
      have hB := Nat.two_pow_pos (e - min e f).toNat
      generalize 2 ^ (e - min e f).toNat = B at *
      rw [← hdm, Nat.add_mul, Nat.mul_comm q A]
      exact ⟨Nat.le_add_right _ _, Nat.add_lt_add_left (Nat.mul_lt_mul_of_pos_right hr hB) _⟩
  by_cases hz : I = 0
  · have hw0 : wholeN m e = 0 := by omega
    rw [hw0] at e1 e2
    have e3 := natAbs_signed s m (e - min e f).toNat
    have e4 := natAbs_signed (!decide (I < 0)) n (f - min e f).toNat
    generalize m <<< (e - min e f).toNat = A at *
    generalize n <<< (f - min e f).toNat = B at *
    generalize 2 ^ (0 - min e f).toNat = C at *
    omega
  · rw [hsgn hz]
    unfold Ieee.signed
    generalize m <<< (e - min e f).toNat = A at *
    generalize n <<< (f - min e f).toNat = B at *
    generalize wholeN m e * 2 ^ (0 - min e f).toNat = D at *
    generalize 2 ^ (0 - min e f).toNat = C at *
    cases s <;> simp only [Bool.not_true, Bool.not_false, Bool.false_eq_true, if_true, if_false] <;> omega

/-- Whether a number's absolute value is at least 2 to the power of 52. -/
def many (X : Option Nat) : Bool := ford .f64 (fabs X) (some 4841369599423283200) == some .gt || ford .f64 (fabs X) (some 4841369599423283200) == some .eq

theorem c52_read : Ieee.double.read 4841369599423283200 = .number false 4503599627370496 0 := by decide +kernel
theorem c52n_read : Ieee.double.read 14064741636278059008 = .number true 4503599627370496 0 := by decide +kernel

theorem few_lt2 {X : Option Nat} (hf : finite .f64 X = true) (h : many X = false) : Lt2 52 X := by
  cases X with
  | none => cases hf
  | some x =>
    have hf' : (match Ieee.double.read x with | .number .. => true | _ => false) = true := hf
    rcases read_double x with ⟨s, hx⟩ | ⟨s, t, hx⟩ | ⟨s, m, e, hx, hm, h1, h2⟩
    · rw [hx] at hf'; cases hf'
    · rw [hx] at hf'; cases hf'
    · refine ⟨x, s, m, e, rfl, hx, ?_, hm, h1, h2⟩
      have ho : ford .f64 (fabs (some x)) (some 4841369599423283200) = (dabs (Ieee.double.read x)).order (Ieee.double.read 4841369599423283200) := by
        rw [← read_abs]; rfl
      unfold many at h
      rw [ho, hx, c52_read] at h
      have hk : (dabs (.number s m e)).order (.number false 4503599627370496 0) = some (compare (Ieee.signed false m (e - min e 0).toNat) (Ieee.signed false 4503599627370496 (0 - min e 0).toNat)) := rfl
      rw [hk] at h
      have hlt : Ieee.signed false m (e - min e 0).toNat < Ieee.signed false 4503599627370496 (0 - min e 0).toNat := by
        rcases hc : compare (Ieee.signed false m (e - min e 0).toNat) (Ieee.signed false 4503599627370496 (0 - min e 0).toNat) with _ | _ | _
        · exact Int.compare_eq_lt.1 hc
        · rw [hc] at h; cases h
        · rw [hc] at h; cases h
      unfold Ieee.signed at hlt
      simp only [Bool.false_eq_true, if_false] at hlt
      have hlt' := Int.ofNat_lt.1 hlt
      have hp52 : (2 : Nat) ^ 52 = 4503599627370496 := by decide
      rw [← hp52, Nat.shiftLeft_eq, Nat.shiftLeft_eq, ← Nat.pow_add] at hlt'
      by_cases h0 : m = 0
      · exact .inl h0
      · have hz : m * 2 ^ (e - min e 0).toNat ≠ 0 := by
          have := Nat.mul_pos (Nat.pos_of_ne_zero h0) (Nat.two_pow_pos (e - min e 0).toNat)
          omega
        have hge : 2 ^ (m.log2 + (e - min e 0).toNat) ≤ m * 2 ^ (e - min e 0).toNat := by
          rw [Nat.pow_add]
          exact Nat.mul_le_mul_right _ (log2_le' h0)
        have := (Nat.pow_lt_pow_iff_right (a := 2) (by decide)).1 (Nat.lt_of_le_of_lt hge hlt')
        exact .inr (by omega)

/-- The reference's test for it. -/
theorem many_two {X : Option Nat} (h : clean .f64 X) : many X = ((ford .f64 X (some 4841369599423283200) == some .gt || ford .f64 X (some 4841369599423283200) == some .eq) || (ford .f64 X (some 14064741636278059008) == some .lt || ford .f64 X (some 14064741636278059008) == some .eq)) := by
  cases X with
  | none => rfl
  | some x =>
    have hx' : (Ieee.double.read x).isNaN = false := h x rfl
    have ho : ford .f64 (fabs (some x)) (some 4841369599423283200) = (dabs (Ieee.double.read x)).order (Ieee.double.read 4841369599423283200) := by
      rw [← read_abs]; rfl
    have ho1 : ford .f64 (some x) (some 4841369599423283200) = (Ieee.double.read x).order (Ieee.double.read 4841369599423283200) := rfl
    have ho2 : ford .f64 (some x) (some 14064741636278059008) = (Ieee.double.read x).order (Ieee.double.read 14064741636278059008) := rfl
    unfold many
    rw [ho, ho1, ho2, c52_read, c52n_read]
    rcases read_double x with ⟨s, hx⟩ | ⟨s, t, hx⟩ | ⟨s, m, e, hx, hm, h1, h2⟩
    · rw [hx]; cases s <;> rfl
    · rw [hx] at hx'; cases hx'
    · rw [hx]
      have k1 : ∀ a b : Datum, a = .number s m e → (dabs a).order (.number false 4503599627370496 0) = some (compare (Ieee.signed false m (e - min e 0).toNat) (Ieee.signed false 4503599627370496 (0 - min e 0).toNat)) := by rintro a b rfl; rfl
      have k2 : (Datum.number s m e).order (.number false 4503599627370496 0) = some (compare (Ieee.signed s m (e - min e 0).toNat) (Ieee.signed false 4503599627370496 (0 - min e 0).toNat)) := rfl
      have k3 : (Datum.number s m e).order (.number true 4503599627370496 0) = some (compare (Ieee.signed s m (e - min e 0).toNat) (Ieee.signed true 4503599627370496 (0 - min e 0).toNat)) := rfl
      rw [k1 _ (.number s m e) rfl, k2, k3]
      have hC : 0 < 4503599627370496 <<< (0 - min e 0).toNat := by
        rw [Nat.shiftLeft_eq]; exact Nat.mul_pos (by decide) (Nat.two_pow_pos _)
      unfold Ieee.signed
      generalize m <<< (e - min e 0).toNat = A at *
      generalize 4503599627370496 <<< (0 - min e 0).toNat = C at *
      have cmp : ∀ a b : Int, (some (compare a b) == some Ordering.gt) = decide (b < a) ∧ (some (compare a b) == some Ordering.eq) = decide (a = b) ∧ (some (compare a b) == some Ordering.lt) = decide (a < b) := by
        intro a b
        rcases hc : compare a b with _ | _ | _
        · have := Int.compare_eq_lt.1 hc
          exact ⟨(decide_eq_false (by omega)).symm, (decide_eq_false (by omega)).symm, (decide_eq_true (by omega)).symm⟩
        · have := Int.compare_eq_eq.1 hc
          exact ⟨(decide_eq_false (by omega)).symm, (decide_eq_true (by omega)).symm, (decide_eq_false (by omega)).symm⟩
        · have := Int.compare_eq_gt.1 hc
          exact ⟨(decide_eq_true (by omega)).symm, (decide_eq_false (by omega)).symm, (decide_eq_false (by omega)).symm⟩
      rw [(cmp _ _).1, (cmp _ _).2.1, (cmp _ _).1, (cmp _ _).2.1, (cmp _ _).2.2, (cmp _ _).2.1]
      cases s <;> simp only [Bool.false_eq_true, if_true, if_false] <;> rw [Bool.eq_iff_iff] <;> simp only [Bool.or_eq_true, decide_eq_true_eq] <;> omega

theorem sub_self_zero64 {u : Option Nat} (h : clean .f64 u) : (ford .f64 (fop .sub .f64 u u) (some 0) == some .eq) = finite .f64 u := by
  cases u with
  | none => rfl
  | some x =>
    have hx := h x rfl
    have hr : (fop .sub .f64 (some x) (some x)) = ((Ieee.double.read x).sum (Ieee.double.read x).opposite).map Ieee.double.write := rfl
    rw [hr]
    have hf : finite .f64 (some x) = (match Ieee.double.read x with | .number .. => true | _ => false) := rfl
    rw [hf]
    have hx' : (Ieee.double.read x).isNaN = false := hx
    generalize Ieee.double.read x = d at *
    cases d with
    | nan s t => cases hx'
    | infinity s => cases s <;> rfl
    | number s m e =>
      have hs : (Ieee.Datum.number s m e).sum (Ieee.Datum.number s m e).opposite = some (.number false 0 e) := by
        simp only [Ieee.Datum.opposite, Ieee.Datum.sum, Int.min_self, Int.sub_self, Int.toNat_zero]
        have h0 : Ieee.signed s m 0 + Ieee.signed (!s) m 0 = 0 := by
          cases s <;> simp [Ieee.signed] <;> omega
        rw [h0]
        simp
      rw [hs]
      have hw : Ieee.double.write (.number false 0 e) = 0 := by simp [Ieee.Format.write, Ieee.Format.nearest, Ieee.Format.word]
      simp only [Option.map_some, hw]
      decide +kernel

/-- The part of a turn, and the sine of it. -/
def partP (X : Option Nat) : Option Nat := if ford .f64 (partD X) (some 0) == some .lt then fop .add .f64 (partD X) (some 4607182418800017408) else partD X
def half : Option Nat := some 4602678819172646912
def quarter : Option Nat := some 4598175219545276416
def isHalf (F : Option Nat) : Bool := ford .f64 F half == some .gt || ford .f64 F half == some .eq
def sineF1 (F : Option Nat) : Option Nat := if isHalf F then fop .sub .f64 F half else F
def sineF2 (F : Option Nat) : Option Nat := if ford .f64 F quarter == some .gt then fop .sub .f64 half F else F
def k8 (j : Nat) : Nat := floatOfInt .f64 (8 - j)
def d8 (j : Nat) : Nat := floatOfInt .f64 (2 * (8 - j) * (2 * (8 - j) + 1))
def polyS (u : Option Nat) : Nat → Option Nat
  | 0 => some 4607182418800017408
  | j + 1 => fop .sub .f64 (some 4607182418800017408) (fop .quo .f64 (fop .mul .f64 u (polyS u j)) (some (d8 j)))
def sineZ (F : Option Nat) : Option Nat := fop .mul .f64 (sineF2 (sineF1 F)) (some 4618760256179416344)
def sineU (F : Option Nat) : Option Nat := fop .mul .f64 (sineZ F) (polyS (fop .mul .f64 (sineZ F) (sineZ F)) 8)
def sineP (X : Option Nat) : Option Nat := if isHalf (partP X) then fneg .f64 (sineU (partP X)) else sineU (partP X)

theorem d8_ge : ∀ j : Nat, j < 8 → ge2b 2 (some (d8 j)) = true := by decide +kernel

theorem partP_bound {X : Option Nat} (h : Lt2 52 X) : Le2 1 (partP X) := by
  have h1 := partD_bound h
  have one : Le2 0 (some 4607182418800017408) := by
    refine ⟨_, false, 4503599627370496, -52, rfl, one_read, .inr ⟨by rw [one_log]; omega, by rw [one_log]⟩, by omega, by omega, by omega⟩
  unfold partP
  split
  · exact h1.add one (by omega) (by omega)
  · exact h1.mono (by omega)

theorem sineF_bound {F : Option Nat} (h : Le2 1 F) : Le2 3 (sineF2 (sineF1 F)) := by
  have hh : Le2 1 half := Le2.of_lt (Lt2.of_b (by decide +kernel))
  have h1 : Le2 2 (sineF1 F) := by
    unfold sineF1
    split
    · exact h.sub hh (by omega) (by omega)
    · exact h.mono (by omega)
  unfold sineF2
  split
  · exact (hh.mono (by omega)).sub h1 (by omega) (by omega)
  · exact h1.mono (by omega)

theorem polyS_bound {u : Option Nat} (h : Le2 12 u) : ∀ j : Nat, j ≤ 8 → Le2 (12 * j) (polyS u j) := by
  have one : Le2 0 (some 4607182418800017408) := by
    refine ⟨_, false, 4503599627370496, -52, rfl, one_read, .inr ⟨by rw [one_log]; omega, by rw [one_log]⟩, by omega, by omega, by omega⟩
  intro j
  induction j with
  | zero => intro _; exact one
  | succ j ih =>
    intro hj
    have a := ih (by omega)
    have b := (h.mul a (by omega) (by omega)).lt
    have c := Le2.quo b (Ge2.of_b (d8_ge j (by omega))) (by omega) (by omega)
    exact ((one.mono (by omega)).sub c (by omega) (by omega)).mono (by push_cast; omega)

theorem neg_read (x : Nat) (h : x < 18446744073709551616) {s : Bool} {m : Nat} {e : Int} (hx : Ieee.double.read x = .number s m e) : Ieee.double.read (Op.negFloat .f64 x) = .number (!s) m e := by
  have hm : Op.negFloat .f64 x % 9223372036854775808 = x % 9223372036854775808 := by
    show (x ^^^ 2 ^ 63) % 2 ^ 63 = x % 2 ^ 63
    rw [Nat.xor_mod_two_pow, Nat.mod_self, Nat.xor_zero]
  have hd : Op.negFloat .f64 x / 9223372036854775808 % 2 = 1 - x / 9223372036854775808 % 2 := by
    have h1 : Op.negFloat .f64 x / 9223372036854775808 = (x / 9223372036854775808) ^^^ 1 := by
      show (x ^^^ 2 ^ 63) / 2 ^ 63 = x / 2 ^ 63 ^^^ 1
      rw [← Nat.shiftRight_eq_div_pow, ← Nat.shiftRight_eq_div_pow, Nat.shiftRight_xor_distrib]
      congr 1
    rw [h1]
    have h2 : x / 9223372036854775808 < 2 := by omega
    have : x / 9223372036854775808 = 0 ∨ x / 9223372036854775808 = 1 := by omega
    rcases this with e | e <;> rw [e] <;> decide
  obtain ⟨e1, e2, e3, e4⟩ := double_consts
  unfold Ieee.Format.read at hx ⊢
  simp only [e1, e2, e3, e4, hm] at hx ⊢
  have hb : (Op.negFloat .f64 x / 9223372036854775808 % 2 == 1) = !(x / 9223372036854775808 % 2 == 1) := by
    rw [hd]
    have : x / 9223372036854775808 % 2 = 0 ∨ x / 9223372036854775808 % 2 = 1 := by omega
    rcases this with e | e <;> rw [e] <;> rfl
  rw [hb]
  split at hx
  · rename_i h1; rw [if_pos h1]; cases hx; rfl
  · rename_i h1
    rw [if_neg h1]
    split at hx
    · rename_i h2; rw [if_pos h2]; cases hx; rfl
    · split at hx <;> cases hx

theorem Le2.neg {i : Int} {X : Option Nat} (h : Le2 i X) (hw : ∀ x, X = some x → x < 18446744073709551616) : Le2 i (fneg .f64 X) := by
  obtain ⟨x, s, m, e, rfl, h2, h3, h4⟩ := h
  exact ⟨_, !s, m, e, rfl, neg_read x (hw x rfl) h2, h3, h4⟩

theorem FV.lt64 {r : Nat} {u : Option Nat} (h : FV .f64 r u) : ∀ x, u = some x → x < 18446744073709551616 := by
  intro x hx
  subst hx
  obtain rfl := h.eq
  have := h.2
  simpa [Lit.wf] using this

theorem sineU_bound {X : Option Nat} (h : Lt2 52 X) : Le2 102 (sineU (partP X)) := by
  have hf := sineF_bound (partP_bound h)
  have hc : Le2 3 (some 4618760256179416344) := Le2.of_lt (Lt2.of_b (by decide +kernel))
  have hz : Le2 6 (sineZ (partP X)) := hf.mul hc (by omega) (by omega)
  have hu := hz.mul hz (by omega) (by omega)
  exact (hz.mul (polyS_bound hu 8 (by omega)) (by omega) (by omega)).mono (by omega)

theorem k8_ge : ∀ j : Nat, j < 8 → (ford .f64 (some (k8 j)) (some 4607182418800017408) == some .gt || ford .f64 (some (k8 j)) (some 4607182418800017408) == some .eq) = true := by decide +kernel
theorem k8_end : (ford .f64 (some (k8 8)) (some 4607182418800017408) == some .gt || ford .f64 (some (k8 8)) (some 4607182418800017408) == some .eq) = false := by decide +kernel
theorem k8_next : ∀ j : Nat, j < 8 → fop .sub .f64 (some (k8 j)) (some 4607182418800017408) = some (k8 (j + 1)) := by decide +kernel
theorem k8_start : k8 0 = 4620693217682128896 := by decide +kernel
theorem k8_d : ∀ j : Nat, j < 8 → fop .mul .f64 (fop .mul .f64 (some 4611686018427387904) (some (k8 j))) (fop .add .f64 (fop .mul .f64 (some 4611686018427387904) (some (k8 j))) (some 4607182418800017408)) = some (d8 j) := by decide +kernel
theorem k8_two : ∀ j : Nat, j < 8 → fop .mul .f64 (some 4611686018427387904) (some (k8 j)) = some (floatOfInt .f64 (2 * (8 - j))) := by decide +kernel
theorem cn_k8 (j : Nat) : cn .f64 (k8 j) = some (k8 j) := cn_number .f64 _ _ _
def k8Idx (b : Nat) : Nat := 9 - (List.range 9).findIdx (fun j => k8 j == b)
theorem k8Idx_k8 : ∀ j : Nat, j < 9 → k8Idx (k8 j) = 9 - j := by decide +kernel
theorem polyS_succ (u : Option Nat) (j : Nat) : fop .sub .f64 (some 4607182418800017408) (fop .quo .f64 (fop .mul .f64 u (polyS u j)) (some (d8 j))) = polyS u (j + 1) := rfl
end Go.Proofs.Ytnjkabckbnbboaa
