/- Helper: numbers without sign, and those that are at least 1; quotients of at most 1. Conditions: none. -/
import Derived.Test.YtnjkabckbnbboaaFloatRoots
namespace Go.Proofs.Ytnjkabckbnbboaa
open Ieee (Datum)

/-- A finite number whose sign bit is 0. -/
def Pos (X : Option Nat) : Prop := ∃ x m e, X = some x ∧ Ieee.double.read x = .number false m e

theorem Lt2.finite {i : Int} {X : Option Nat} (h : Lt2 i X) : finite .f64 X = true := by
  obtain ⟨x, s, m, e, rfl, hx, -⟩ := h
  show (match Ieee.double.read x with | .number .. => true | _ => false) = true
  rw [hx]

/-- What is written of a number that is not too great keeps its sign. -/
theorem write_sign (s : Bool) (m : Nat) (e i : Int) (hi : -1000 ≤ i) (hi' : i ≤ 1020) (h : lt2 i m e) :
    ∃ m' e', Ieee.double.read (Ieee.double.write (.number s m e)) = .number s m' e' := by
  obtain ⟨m', e', h1, -⟩ := write_lt2 s m e i hi hi' h
  exact ⟨m', e', h1⟩

theorem Pos.mul_self {i : Int} {X : Option Nat} (h : Lt2 i X) (hi : -1000 ≤ i + i) (hi' : i + i ≤ 1020) : Pos (fop .mul .f64 X X) := by
  obtain ⟨x, s, m, e, rfl, hx, hl, -⟩ := h
  rw [fop_mul, hx]
  obtain ⟨m', e', hr⟩ := write_sign (s ^^ s) (m * m) (e + e) (i + i) hi hi' (lt2_mul hl hl)
  rw [Bool.xor_self] at hr
  exact ⟨_, m', e', by simp [Datum.product], hr⟩

theorem Pos.mul {i j : Int} {X Y : Option Nat} (h : Lt2 i X) (k : Lt2 j Y) (px : Pos X) (py : Pos Y) (hi : -1000 ≤ i + j) (hi' : i + j ≤ 1020) : Pos (fop .mul .f64 X Y) := by
  obtain ⟨x, s, m, e, rfl, hx, hl, -⟩ := h
  obtain ⟨y, t, n, f, rfl, hy, hk, -⟩ := k
  obtain ⟨x', m1, e1, hx1, hx2⟩ := px
  obtain ⟨y', n1, f1, hy1, hy2⟩ := py
  obtain rfl : x = x' := by simpa using hx1
  obtain rfl : y = y' := by simpa using hy1
  rw [hx] at hx2
  rw [hy] at hy2
  cases hx2; cases hy2
  rw [fop_mul, hx, hy]
  obtain ⟨m', e', hr⟩ := write_sign (false ^^ false) (m * n) (e + f) (i + j) hi hi' (lt2_mul hl hk)
  exact ⟨Ieee.double.write (.number (false ^^ false) (m * n) (e + f)), m', e', rfl, by simpa using hr⟩

/-- What is written of a number that is at least 2 to the power of j is so, too. -/
theorem write_ge2 (m : Nat) (e i j : Int) (hj : -900 ≤ j) (hi : -1000 ≤ i) (hi' : i ≤ 1020) (h : lt2 i m e) (h0 : m ≠ 0) (hg : j ≤ (m.log2 : Int) + e) :
    Ge2 j (some (Ieee.double.write (.number false m e))) ∧ Pos (some (Ieee.double.write (.number false m e))) := by
  obtain ⟨e1, e2, e3, e4⟩ := double_consts
  have ef : Ieee.double.fractionBits = 52 := rfl
  have hl : (m.log2 : Int) + e < i := by rcases h with h | h; exact absurd h h0; exact h
  have hk := kept_le' false m e (max (e + (m.log2 : Int) - (52 : Nat)) (-1074)) 52 (by omega)
  have hw : Ieee.double.write (.number false m e) = Ieee.double.word false (min ((max (e + (m.log2 : Int) - (52 : Nat)) (-1074) - -1074).toNat * 4503599627370496 + Ieee.Toward.even.cut false (m <<< (e - max (e + (m.log2 : Int) - (52 : Nat)) (-1074)).toNat) (max (e + (m.log2 : Int) - (52 : Nat)) (-1074) - e).toNat) 9218868437227405312) := by
    simp only [Ieee.Format.write, Ieee.Format.nearest, if_neg h0, e2, e3, e4, ef]
  have hkept : 4503599627370496 ≤ Ieee.Toward.even.cut false (m <<< (e - max (e + (m.log2 : Int) - (52 : Nat)) (-1074)).toNat) (max (e + (m.log2 : Int) - (52 : Nat)) (-1074) - e).toNat := by
    have hmax : max (e + (m.log2 : Int) - (52 : Nat)) (-1074) = e + m.log2 - 52 := by omega
    rw [hmax]
    have hp : (2 : Nat) ^ 52 = 4503599627370496 := by decide
    rw [← hp]
    unfold Ieee.Toward.cut
    dsimp only
    refine Nat.le_trans ?_ (Nat.le_add_right _ _)
    by_cases hd : m.log2 ≤ 52
    · have h1 : (e + (m.log2 : Int) - 52 - e).toNat = 0 := by omega
      have h2 : (e - (e + (m.log2 : Int) - 52)).toNat = 52 - m.log2 := by omega
      rw [h1, h2, Nat.zero_min, Nat.shiftLeft_zero, Nat.div_one, Nat.shiftLeft_eq]
      have := Nat.mul_le_mul_right (2 ^ (52 - m.log2)) (log2_le' h0)
      rw [← Nat.pow_add] at this
      have h3 : m.log2 + (52 - m.log2) = 52 := by omega
      rw [h3] at this
      exact this
    · have h1 : (e + (m.log2 : Int) - 52 - e).toNat = m.log2 - 52 := by omega
      have h2 : (e - (e + (m.log2 : Int) - 52)).toNat = 0 := by omega
      rw [h1, h2, Nat.shiftLeft_zero, Nat.min_eq_left (by omega), Nat.shiftLeft_eq, Nat.one_mul, Nat.le_div_iff_mul_le (Nat.two_pow_pos _), ← Nat.pow_add]
      have h3 : 52 + (m.log2 - 52) = m.log2 := by omega
      rw [h3]
      exact log2_le' h0
  rw [hw]
  have hp : (2 : Nat) ^ (52 + 1) = 9007199254740992 := by decide
  rw [hp] at hk
  generalize Ieee.Toward.even.cut false (m <<< (e - max (e + (m.log2 : Int) - (52 : Nat)) (-1074)).toNat) (max (e + (m.log2 : Int) - (52 : Nat)) (-1074) - e).toNat = c at *
  have hq : ((max (e + (m.log2 : Int) - (52 : Nat)) (-1074) - -1074).toNat : Int) = e + m.log2 - 52 + 1074 := by omega
  generalize (max (e + (m.log2 : Int) - (52 : Nat)) (-1074) - -1074).toNat = q at *
  have hlt : q * 4503599627370496 + c < 9218868437227405312 := by omega
  rw [Nat.min_eq_left (Nat.le_of_lt hlt)]
  have hr := read_word64 false (q * 4503599627370496 + c) hlt
  rw [if_neg (by omega)] at hr
  have hlog := log2_eq52 (m := 4503599627370496 + (q * 4503599627370496 + c) % 4503599627370496) (by omega) (by omega)
  exact ⟨⟨_, false, _, _, rfl, hr, by omega, by rw [hlog]; omega, by omega, by omega, by omega⟩, ⟨_, _, _, rfl, hr⟩⟩

def one64 : Option Nat := some 4607182418800017408
theorem one_read : Ieee.double.read 4607182418800017408 = .number false 4503599627370496 (-52) := by decide +kernel
theorem one_log : (4503599627370496 : Nat).log2 = 52 := by decide +kernel

/-- 1 plus a number without sign is at least 1, and has no sign. -/
theorem one_add {i : Int} {X : Option Nat} (h : Lt2 i X) (px : Pos X) (h1 : 1 ≤ i) (hi' : i ≤ 1000) : Ge2 0 (fop .add .f64 one64 X) ∧ Pos (fop .add .f64 one64 X) := by
  obtain ⟨x, s, m, e, rfl, hx, hl, -⟩ := h
  obtain ⟨x', m1, e1, hx1, hx2⟩ := px
  obtain rfl : x = x' := by simpa using hx1
  rw [hx] at hx2
  cases hx2
  show Ge2 0 (fop .add .f64 (some 4607182418800017408) (some x)) ∧ Pos (fop .add .f64 (some 4607182418800017408) (some x))
  rw [fop_add, one_read, hx]
  have hone : lt2 i 4503599627370496 (-52) := .inr (by rw [one_log]; omega)
  have hs := lt2_sum (s := false) (t := false) hone hl
  have hnn : Ieee.signed false 4503599627370496 (-52 - min (-52) e).toNat + Ieee.signed false m (e - min (-52) e).toNat = (((4503599627370496 <<< (-52 - min (-52) e).toNat) + (m <<< (e - min (-52) e).toNat) : Nat) : Int) := by
    unfold Ieee.signed
    rw [if_neg (by decide), if_neg (by decide), Int.natCast_add]
  simp only [Datum.sum, Option.map_some]
  rw [hnn] at hs ⊢
  have hge : 4503599627370496 * 2 ^ (-52 - min (-52) e).toNat ≤ (4503599627370496 <<< (-52 - min (-52) e).toNat) + (m <<< (e - min (-52) e).toNat) := by
    rw [Nat.shiftLeft_eq]
    exact Nat.le_add_right _ _
  generalize (4503599627370496 <<< (-52 - min (-52) e).toNat) + (m <<< (e - min (-52) e).toNat) = z at *
  have h2 : 0 < 2 ^ (-52 - min (-52) e).toNat := Nat.two_pow_pos _
  have hz : z ≠ 0 := by
    have := Nat.mul_le_mul_left 4503599627370496 h2
    omega
  have hz' : ¬ ((z : Int) = 0) := by omega
  have hneg : ¬ ((z : Int) < 0) := by omega
  rw [if_neg hz', decide_eq_false hneg]
  rw [Int.natAbs_natCast] at hs ⊢
  refine write_ge2 z (min (-52) e) (i + 1) 0 (by omega) (by omega) (by omega) hs hz ?_
  have hlog : ¬ z.log2 < 52 + (-52 - min (-52) e).toNat := by
    intro hlt
    have := (Nat.log2_lt hz).1 hlt
    rw [Nat.pow_add] at this
    have hp : (2 : Nat) ^ 52 = 4503599627370496 := by decide
    rw [hp] at this
    omega
  omega

/-- A quotient by a number that is at least 1 and has no sign. -/
theorem Pos.quo {i : Int} {X Y : Option Nat} (h : Lt2 i X) (px : Pos X) (hy : Ge2 0 Y) (py : Pos Y) (hi : -900 ≤ i) (hi' : i ≤ 1000) : Pos (fop .quo .f64 X Y) := by
  obtain ⟨x, s, m, e, rfl, hx, hl, -⟩ := h
  obtain ⟨x', m1, e1, hx1, hx2⟩ := px
  obtain rfl : x = x' := by simpa using hx1
  rw [hx] at hx2
  cases hx2
  obtain ⟨y, t, n, f, rfl, hy1, hn, hk, -⟩ := hy
  obtain ⟨y', n1, f1, hy2, hy3⟩ := py
  obtain rfl : y = y' := by simpa using hy2
  rw [hy1] at hy3
  cases hy3
  rw [fop_quo, hx, hy1]
  simp only [Datum.quotient, if_neg hn, Option.map_some]
  have hd : m = 0 ∨ (m.log2 : Int) + e - ((n.log2 : Int) + f) < i := by
    rcases hl with h | h
    · exact .inl h
    · exact .inr (by omega)
  have hq := lt2_quo hn hd (m <<< (54 + n.log2 - m.log2) % n != 0) (54 + n.log2 - m.log2) (Nat.le_refl _)
  have hq' : lt2 i (2 * (m <<< (54 + n.log2 - m.log2) / n) + (m <<< (54 + n.log2 - m.log2) % n != 0).toNat) (e - f - (54 + n.log2 - m.log2 : Nat) - 1) := by
    rcases hq with hq | rfl
    · exact hq
    · left; simp
  obtain ⟨m', e', hr⟩ := write_sign (false ^^ false) _ _ i (by omega) (by omega) hq'
  exact ⟨_, m', e', rfl, hr⟩

theorem Pos.sqrt {i : Int} {X : Option Nat} (h : Lt2 (2 * i) X) (px : Pos X) (hi : 0 ≤ i) (hi' : i ≤ 500) : Lt2 (i + 3) (fsqrt X) ∧ Pos (fsqrt X) := by
  have hl : Lt2 (i + 3) (fsqrt X) := by
    refine Lt2.sqrt h ?_ hi hi'
    intro x m e hx hx2
    obtain ⟨x', m1, e1, hx3, hx4⟩ := px
    rw [hx] at hx3
    obtain rfl : x = x' := by simpa using hx3
    rw [hx2] at hx4
    cases hx4
  refine ⟨hl, ?_⟩
  obtain ⟨x, m, e, rfl, hx⟩ := px
  obtain ⟨y, s, n, f, hy, hy2, -⟩ := hl
  refine ⟨y, n, f, hy, ?_⟩
  have e1 : fsqrt (some x) = ((Ieee.double.read x).root 54).map Ieee.double.write := rfl
  rw [e1, hx] at hy
  simp only [Datum.root] at hy
  by_cases hm : m = 0
  · rw [if_pos hm] at hy
    obtain rfl : _ = y := by simpa using hy
    subst hm
    have : Ieee.double.write (.number false 0 e) = Ieee.double.word false 0 := by simp [Ieee.Format.write, Ieee.Format.nearest]
    rw [this] at hy2 ⊢
    have h0 : Ieee.double.read (Ieee.double.word false 0) = .number false 0 (-1074) := by decide +kernel
    rw [h0] at hy2 ⊢
    cases hy2
    rfl
  · rw [if_neg hm, if_neg (by decide)] at hy
    simp only [Option.map_some, Option.some.injEq] at hy
    subst hy
    have hw : ∀ m e, ∃ d, Ieee.double.read (Ieee.double.write (.number false m e)) = d ∧ d.neg = false := by
      intro m e
      obtain ⟨e1, e2, e3, e4⟩ := double_consts
      have key : ∀ rung, rung ≤ 9218868437227405312 → (Ieee.double.read (Ieee.double.word false rung)).neg = false := by
        intro rung hr
        have hd : (Ieee.double.word false rung / Ieee.double.signWeight % 2 == 1) = false := by
          unfold Ieee.Format.word
          rw [e1, if_neg (by decide)]
          have : rung / 9223372036854775808 = 0 := by omega
          rw [this]
          rfl
        unfold Ieee.Format.read
        simp only [hd]
        split
        · rfl
        · split
          · rfl
          · split <;> rfl
      refine ⟨_, rfl, ?_⟩
      simp only [Ieee.Format.write, Ieee.Format.nearest]
      split
      · exact key 0 (by decide)
      · refine key _ ?_
        rw [e3]
        exact Nat.min_le_right _ _
    obtain ⟨d, hd1, hd2⟩ := hw (2 * Datum.rootFrom (m <<< (2 * 54 - m.log2 + ((e - ((2 * 54 - m.log2 : Nat) : Int)) % 2).toNat)) ((m <<< (2 * 54 - m.log2 + ((e - ((2 * 54 - m.log2 : Nat) : Int)) % 2).toNat)).log2 / 2 + 1) 0 + (Datum.rootFrom (m <<< (2 * 54 - m.log2 + ((e - ((2 * 54 - m.log2 : Nat) : Int)) % 2).toNat)) ((m <<< (2 * 54 - m.log2 + ((e - ((2 * 54 - m.log2 : Nat) : Int)) % 2).toNat)).log2 / 2 + 1) 0 * Datum.rootFrom (m <<< (2 * 54 - m.log2 + ((e - ((2 * 54 - m.log2 : Nat) : Int)) % 2).toNat)) ((m <<< (2 * 54 - m.log2 + ((e - ((2 * 54 - m.log2 : Nat) : Int)) % 2).toNat)).log2 / 2 + 1) 0 != m <<< (2 * 54 - m.log2 + ((e - ((2 * 54 - m.log2 : Nat) : Int)) % 2).toNat)).toNat) ((e - ((2 * 54 - m.log2 + ((e - ((2 * 54 - m.log2 : Nat) : Int)) % 2).toNat : Nat) : Int)) / 2 - 1)
    rw [hy2] at hd1
    subst hd1
    cases s
    · exact hy2
    · cases hd2

/-- Numbers without sign: the order tells which logarithm is greater. -/
theorem order_log {m n : Nat} {e f : Int} (hm : m ≠ 0) (h : ¬ ((Datum.number false m e).order (.number false n f) = some .gt)) : n ≠ 0 ∧ (m.log2 : Int) + e ≤ (n.log2 : Int) + f := by
  have hle : m * 2 ^ (e - min e f).toNat ≤ n * 2 ^ (f - min e f).toNat := by
    refine Nat.le_of_not_lt fun hlt => h ?_
    show some (compare (Ieee.signed false m (e - min e f).toNat) (Ieee.signed false n (f - min e f).toNat)) = some .gt
    unfold Ieee.signed
    rw [if_neg (by decide), if_neg (by decide), Nat.shiftLeft_eq, Nat.shiftLeft_eq]
    exact congrArg some (Int.compare_eq_gt.2 (Int.ofNat_lt.2 hlt))
  have hn : n ≠ 0 := by
    rintro rfl
    rw [Nat.zero_mul] at hle
    have := Nat.mul_le_mul (Nat.one_le_iff_ne_zero.2 hm) (Nat.two_pow_pos (e - min e f).toNat)
    omega
  refine ⟨hn, ?_⟩
  have h1 : 2 ^ m.log2 * 2 ^ (e - min e f).toNat ≤ m * 2 ^ (e - min e f).toNat := Nat.mul_le_mul_right _ (log2_le' hm)
  have h2 : n * 2 ^ (f - min e f).toNat < 2 ^ (n.log2 + 1) * 2 ^ (f - min e f).toNat := Nat.mul_lt_mul_of_pos_right (lt_log2' n) (Nat.two_pow_pos _)
  rw [← Nat.pow_add] at h1 h2
  have h3 : 2 ^ (m.log2 + (e - min e f).toNat) < 2 ^ (n.log2 + 1 + (f - min e f).toNat) := by omega
  have h4 := (Nat.pow_lt_pow_iff_right (a := 2) (by decide)).1 h3
  omega

/-- The quotient of two numbers without sign, of which the first is not greater: below 4, without sign. -/
theorem quo_le_one {X Y : Option Nat} (px : Pos X) (py : Pos Y) (hz : ¬ (ford .f64 X (some 0) = some .eq ∧ ford .f64 Y (some 0) = some .eq)) (h : ¬ (ford .f64 X Y = some .gt)) :
    Lt2 2 (fop .quo .f64 X Y) ∧ Pos (fop .quo .f64 X Y) := by
  obtain ⟨x, m, e, rfl, hx⟩ := px
  obtain ⟨y, n, f, rfl, hy⟩ := py
  have h' : ¬ ((Datum.number false m e).order (.number false n f) = some .gt) := by rw [← hx, ← hy]; exact h
  have h0 : Ieee.double.read 0 = .number false 0 (-1074) := by decide +kernel
  have zero_of : ∀ (z k : Nat) (g : Int), Ieee.double.read z = .number false k g → k = 0 → ford .f64 (some z) (some 0) = some .eq := by
    intro z k g hz hk
    show (Ieee.double.read z).order (Ieee.double.read 0) = some .eq
    rw [hz, h0, hk]
    simp [Datum.order, Ieee.signed]
  have hn : n ≠ 0 := by
    rintro rfl
    by_cases hm : m = 0
    · exact hz ⟨zero_of x m e hx hm, zero_of y 0 f hy rfl⟩
    · exact (order_log hm h').1 rfl
  have hd : m = 0 ∨ (m.log2 : Int) + e - ((n.log2 : Int) + f) < 1 := by
    by_cases hm : m = 0
    · exact .inl hm
    · have := (order_log hm h').2
      exact .inr (by omega)
  rw [fop_quo, hx, hy]
  simp only [Datum.quotient, if_neg hn, Option.map_some]
  have hq := lt2_quo hn hd (m <<< (54 + n.log2 - m.log2) % n != 0) (54 + n.log2 - m.log2) (Nat.le_refl _)
  have hq' : lt2 1 (2 * (m <<< (54 + n.log2 - m.log2) / n) + (m <<< (54 + n.log2 - m.log2) % n != 0).toNat) (e - f - (54 + n.log2 - m.log2 : Nat) - 1) := by
    rcases hq with hq | rfl
    · exact hq
    · left; simp
  obtain ⟨m', e', hr⟩ := write_sign (false ^^ false) _ _ 1 (by omega) (by omega) hq'
  refine ⟨?_, ⟨_, m', e', rfl, hr⟩⟩
  rw [show (2 : Int) = 1 + 1 by omega]
  exact Lt2.of_write (by omega) (by omega) hq'

/-- One halving of an angle: its tangent stays small. -/
theorem half_bound {i : Int} {T : Option Nat} (h : Lt2 i T) (p : Pos T) (h1 : 1 ≤ i) (h2 : i ≤ 20) :
    Lt2 (i + 1) (fop .quo .f64 T (fop .add .f64 one64 (fsqrt (fop .add .f64 one64 (fop .mul .f64 T T))))) ∧ Pos (fop .quo .f64 T (fop .add .f64 one64 (fsqrt (fop .add .f64 one64 (fop .mul .f64 T T))))) := by
  have hone : Lt2 1 one64 := Lt2.of_b (by decide +kernel)
  have a1 := h.mul h (by omega) (by omega)
  have a2 := Pos.mul_self h (by omega) (by omega)
  obtain ⟨a3, a4⟩ := one_add a1 a2 (by omega) (by omega)
  have a5 := (hone.mono (by omega)).add a1 (by omega) (by omega)
  obtain ⟨a6, a7⟩ := Pos.sqrt (i := i + 2) (a5.mono (by omega)) a4 (by omega) (by omega)
  obtain ⟨a8, a9⟩ := one_add a6 a7 (by omega) (by omega)
  have a10 := h.quo a8 (by omega) (by omega)
  exact ⟨a10.mono (by omega), Pos.quo h p a8 a9 (by omega) (by omega)⟩
end Go.Proofs.Ytnjkabckbnbboaa
