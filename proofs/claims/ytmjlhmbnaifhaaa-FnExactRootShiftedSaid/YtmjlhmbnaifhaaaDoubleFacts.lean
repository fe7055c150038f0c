/- Helper: numbers that are doubled, in order; roots of squares with a number in the middle that is not finite. Conditions: none. -/
import Derived.Test.YtmjlhmbnaifhaaaUnitFacts
import Derived.Test.YtmjlhmbnaifhaaaRootSqFacts
set_option linter.unusedVariables false
set_option linter.unusedSimpArgs false
namespace Go.Proofs.Ytmjlhmbnaifhaaa
open Ieee

theorem read_low {q : Nat} (h : q < 8388608) : single.read q = .number false q (-149) := by
  obtain ⟨e1, e2, e3, e4⟩ := single_consts
  unfold Format.read
  simp only [e1, e2, e3, e4]
  rw [Nat.mod_eq_of_lt (show q < 2147483648 by omega), if_pos h, Nat.div_eq_of_lt (show q < 2147483648 by omega)]
  rfl
theorem read_high {q E f : Nat} (hE : 1 ≤ E) (hE2 : E ≤ 254) (hf : f < 8388608) (h : q = E * 8388608 + f) : single.read q = .number false (8388608 + f) ((E : Int) - 150) := by
  obtain ⟨e1, e2, e3, e4⟩ := single_consts
  unfold Format.read
  simp only [e1, e2, e3, e4]
  have h1 : q < 2139095040 := by omega
  have h2 : ¬ (q < 8388608) := by omega
  have h3 : q % 8388608 = f := by omega
  have h4 : q / 8388608 = E := by omega
  rw [Nat.mod_eq_of_lt (show q < 2147483648 by omega), if_neg h2, if_pos h1, Nat.div_eq_of_lt (show q < 2147483648 by omega), h3, h4]
  have : (-149 : Int) + ((E - 1 : Nat) : Int) = (E : Int) - 150 := by omega
  rw [this]
  rfl
theorem read_wd {q : Nat} (h : q < 2139095040) : (q < 8388608 ∧ single.read q = .number false q (-149)) ∨ ∃ E f, 1 ≤ E ∧ E ≤ 254 ∧ f < 8388608 ∧ q = E * 8388608 + f ∧ single.read q = .number false (8388608 + f) ((E : Int) - 150) := by
  by_cases hl : q < 8388608
  · exact .inl ⟨hl, read_low hl⟩
  · have hq := Nat.div_add_mod q 8388608
    have hf := Nat.mod_lt q (show 0 < 8388608 by decide)
    refine .inr ⟨q / 8388608, q % 8388608, by omega, by omega, hf, by omega, read_high (by omega) (by omega) hf (by omega)⟩
theorem read_inf0 : single.read 2139095040 = .infinity false := by decide +kernel
theorem shl_ge (x k : Nat) : x ≤ x <<< k := by rw [Nat.shiftLeft_eq]; exact Nat.le_mul_of_pos_right _ (Nat.two_pow_pos k)
/-- Positive words stand in the order of their numbers. -/
theorem word_lt {a b : Nat} (hab : a < b) (hb : b ≤ 2139095040) : ford .f32 (some a) (some b) = some .lt := by
  have e1 : ford .f32 (some a) (some b) = (single.read a).order (single.read b) := rfl
  rw [e1]
  by_cases hi : b = 2139095040
  · subst hi
    rw [read_inf0]
    rcases read_wd (q := a) (by omega) with ⟨_, h⟩ | ⟨E, f, _, _, _, _, h⟩ <;> rw [h] <;> rfl
  · have key : ∀ (m n : Nat) (e f : Int), m <<< (e - min e f).toNat < n <<< (f - min e f).toNat → (Datum.number false m e).order (.number false n f) = some .lt := fun m n e f h => by
      simp only [Datum.order]
      have : signed false m (e - min e f).toNat < signed false n (f - min e f).toNat := by
        show ((m <<< (e - min e f).toNat : Nat) : Int) < ((n <<< (f - min e f).toNat : Nat) : Int)
        omega
      rw [Int.compare_eq_lt.2 this]
    rcases read_wd (q := a) (by omega) with ⟨hl, h1⟩ | ⟨E, f, hE1, hE2, hf, he, h1⟩ <;> rcases read_wd (q := b) (by omega) with ⟨hl2, h2⟩ | ⟨E2, f2, hF1, hF2, hf2, he2, h2⟩ <;> rw [h1, h2]
    · exact key _ _ _ _ (by rw [show ((-149 : Int) - min (-149) (-149)).toNat = 0 by decide, Nat.shiftLeft_zero, Nat.shiftLeft_zero]; exact hab)
    · refine key _ _ _ _ ?_
      rw [show ((-149 : Int) - min (-149) ((E2 : Int) - 150)).toNat = 0 by omega, Nat.shiftLeft_zero]
      have := shl_ge (8388608 + f2) ((E2 : Int) - 150 - min (-149) ((E2 : Int) - 150)).toNat
      omega
    · omega
    · refine key _ _ _ _ ?_
      by_cases hh : E = E2
      · subst hh
        rw [show ((E : Int) - 150 - min ((E : Int) - 150) ((E : Int) - 150)).toNat = 0 by omega, Nat.shiftLeft_zero, Nat.shiftLeft_zero]
        omega
      · rw [show ((E : Int) - 150 - min ((E : Int) - 150) ((E2 : Int) - 150)).toNat = 0 by omega, Nat.shiftLeft_zero, show ((E2 : Int) - 150 - min ((E : Int) - 150) ((E2 : Int) - 150)).toNat = (E2 - E - 1) + 1 by omega, Nat.shiftLeft_add]
        have h3 := shl_ge (8388608 + f2) (E2 - E - 1)
        generalize (8388608 + f2) <<< (E2 - E - 1) = y at h3 ⊢
        rw [Nat.shiftLeft_eq]
        omega
theorem word_eq {a : Nat} (ha : a ≤ 2139095040) : ford .f32 (some a) (some a) = some .eq := by
  rcases Pz.order ha ha with ⟨h1, h2⟩ | ⟨h1, h2⟩ | ⟨h1, _⟩
  · rw [h1] at h2; cases h2
  · rw [h1] at h2; cases h2
  · exact h1
/-- A positive number, doubled, is greater. -/
theorem dbl {q : Nat} (h0 : 0 < q) (h : q < 2139095040) : ∃ r, fop .mul .f32 (some 1073741824) (some q) = some r ∧ q < r ∧ r ≤ 2139095040 := by
  have e1 : fop .mul .f32 (some 1073741824) (some q) = ((single.read 1073741824).product (single.read q)).map single.write := rfl
  have e2 : single.read 1073741824 = .number false 8388608 (-22) := by decide +kernel
  have key : ∀ (m : Nat) (e : Int), single.read q = .number false m e → fop .mul .f32 (some 1073741824) (some q) = some (single.nearest false m (e + 1)) := fun m e hr => by
    rw [e1, e2, hr]
    show some (single.nearest false (8388608 * m) (-22 + e)) = _
    have := nearest_shift single false m (e + 1) 23
    rw [show m <<< 23 = 8388608 * m by rw [Nat.shiftLeft_eq, Nat.mul_comm], show e + 1 - ((23 : Nat) : Int) = -22 + e by omega] at this
    rw [this]
  have w : ∀ (x m : Nat) (e : Int), x < 2139095040 → single.read x = .number false m e → single.nearest false m e = x := fun x m e hx hr => by
    rw [(write_read_single hr).1]; exact Nat.mod_eq_of_lt (by omega)
  rcases read_wd h with ⟨hl, hr⟩ | ⟨E, f, hE1, hE2, hf, he, hr⟩
  · rw [key _ _ hr]
    have h2 := nearest_shift single false q (-149 + 1) 1
    rw [show q <<< 1 = 2 * q by rw [Nat.shiftLeft_eq]; omega, show (-149 : Int) + 1 - ((1 : Nat) : Int) = -149 by decide] at h2
    have h3 : single.nearest false (2 * q) (-149) = 2 * q := by
      by_cases hl2 : 2 * q < 8388608
      · exact w _ _ _ (by omega) (read_low hl2)
      · have := read_high (q := 2 * q) (E := 1) (f := 2 * q - 8388608) (by omega) (by omega) (by omega) (by omega)
        rw [show 8388608 + (2 * q - 8388608) = 2 * q by omega] at this
        exact w _ _ _ (by omega) this
    refine ⟨2 * q, by rw [← h2, h3], by omega, by omega⟩
  · rw [key _ _ hr]
    by_cases hE : E = 254
    · have h5 := nearest_ge32 (m := 8388608 + f) (e := (E : Int) - 150 + 1) (j := 128) (by omega) (by rw [log2_eq23 (by omega) (by omega)]; omega) (by decide) (by decide)
      have h6 := nearest_pz (8388608 + f) ((E : Int) - 150 + 1)
      have h7 : rg 128 = 2139095040 := by decide
      rw [h7] at h5
      exact ⟨2139095040, by rw [Nat.le_antisymm h6 h5], h, Nat.le_refl _⟩
    · have h5 := read_high (q := (E + 1) * 8388608 + f) (E := E + 1) (f := f) (by omega) (by omega) hf rfl
      rw [show ((E + 1 : Nat) : Int) - 150 = (E : Int) - 150 + 1 by omega] at h5
      refine ⟨_, by rw [w _ _ _ (by omega) h5], by omega, by omega⟩
/-- A positive finite number's word. -/
theorem word_pos {x : Nat} (hx : x < 4294967296) (hf : finite .f32 (some x) = true) (hg : ford .f32 (some x) (some 0) = some .gt) : 0 < x ∧ x < 2139095040 := by
  rcases read_single x with ⟨s, hr⟩ | ⟨s, t, hr⟩ | ⟨s, m, e, hr, hm, h1, h2⟩
  · exfalso; unfold finite at hf; simp only at hf; have hr' : FloatKind.f32.decode x = .infinity s := hr; rw [hr'] at hf; cases hf
  · exfalso; unfold finite at hf; simp only at hf; have hr' : FloatKind.f32.decode x = .nan s t := hr; rw [hr'] at hf; cases hf
  · obtain ⟨w1, w2, w3, w4, w5, w6⟩ := write_read_single hr
    rw [ford_zero hr h1] at hg
    have hgt := Int.compare_eq_gt.1 (Option.some.inj hg)
    cases s with
    | true =>
      exfalso
      have h9 : signed true m (e + 149).toNat = -((m <<< (e + 149).toNat : Nat) : Int) := rfl
      rw [h9] at hgt
      generalize m <<< (e + 149).toNat = y at hgt
      omega
    | false =>
      have hd : x / 2147483648 < 2 := Nat.div_lt_of_lt_mul (by omega)
      have hd2 : x / 2147483648 % 2 ≠ 1 := by simpa using w3
      have h0 : x ≠ 0 := by
        rintro rfl
        rw [show single.read 0 = .number false 0 (-149) by decide +kernel] at hr
        cases hr
        rw [signed_zero] at hgt
        omega
      omega
theorem word_finite {q : Nat} (h : q ≤ 2139095040) : finite .f32 (some q) = decide (q < 2139095040) := by
  unfold finite
  simp only
  by_cases hq : q < 2139095040
  · rw [decide_eq_true hq]
    rcases read_wd hq with ⟨_, hr⟩ | ⟨E, f, _, _, _, _, hr⟩
    · have hr' : FloatKind.f32.decode q = _ := hr; rw [hr']
    · have hr' : FloatKind.f32.decode q = _ := hr; rw [hr']
  · have : q = 2139095040 := by omega
    subst this
    decide +kernel

theorem read_single_q' (x : Nat) : Ieee.single.read x = (if x % 2147483648 < 8388608 then .number (x / 2147483648 % 2 == 1) (x % 2147483648) (-149) else if x % 2147483648 < 2139095040 then .number (x / 2147483648 % 2 == 1) (8388608 + x % 2147483648 % 8388608) (-149 + (x % 2147483648 / 8388608 - 1 : Nat)) else if x % 2147483648 = 2139095040 then .infinity (x / 2147483648 % 2 == 1) else .nan (x / 2147483648 % 2 == 1) (x % 2147483648 - 2139095040)) := by
  obtain ⟨e1, e2, e3, e4⟩ := single_consts
  unfold Ieee.Format.read
  simp only [e1, e2, e3, e4]
/-- No finite number. -/
def isNF (P : Option Nat) : Prop := P = none ∨ P = some 2139095040 ∨ P = some 4286578688
theorem isNF.inf (s : Bool) : isNF (some (single.write (.infinity s))) := by cases s; exact .inr (.inl (by decide +kernel)); exact .inr (.inr (by decide +kernel))
theorem read_ninf : single.read 4286578688 = .infinity true := by decide +kernel
theorem isNF.sub {P M : Option Nat} (h : isNF P) : isNF (fop .sub .f32 P M) := by
  have key : ∀ (x : Nat) (s : Bool), single.read x = .infinity s → isNF (fop .sub .f32 (some x) M) := by
    intro x s hx
    cases M with
    | none => exact .inl rfl
    | some y =>
      have es : fop .sub .f32 (some x) (some y) = ((single.read x).sum (single.read y).opposite).map single.write := rfl
      rw [es, hx]
      rcases read_single y with ⟨v, hy⟩ | ⟨v, v2, hy⟩ | ⟨v, m, e, hy, _⟩ <;> rw [hy]
      · simp only [Datum.opposite, Datum.sum]
        split
        · exact isNF.inf s
        · exact .inl rfl
      · exact .inl rfl
      · exact isNF.inf s
  rcases h with rfl | rfl | rfl
  · exact .inl (by cases M <;> rfl)
  · exact key _ _ read_inf0
  · exact key _ _ read_ninf
theorem isNF.less {P : Option Nat} {A B : Nat → Option Nat} (h : isNF P) : ∀ n, isNF (lessG P A B n)
  | 0 => h
  | n + 1 => isNF.sub (isNF.less h n)
theorem isNF.root {P : Option Nat} (h : isNF P) (hg : (ford .f32 P (some 0) == some .gt) = true) : finite .f32 (narrow (fsqrt (widen P))) = false := by
  rcases h with rfl | rfl | rfl
  · cases hg
  · decide +kernel
  · exfalso; revert hg; decide +kernel
theorem rtS_keep {r p : Nat} {Z : Nat → Option Nat} : ∀ {d : Nat}, rtS r Z (p + 1 + d) p = rtF r Z (rtS r Z p) p
  | 0 => by
    show (if p = p then _ else _) = _
    rw [if_pos rfl]
  | d + 1 => by
    show (if p = p + 1 + d then _ else rtS r Z (p + 1 + d) p) = _
    rw [if_neg (by omega)]
    exact rtS_keep
/-- Where the middle has no finite number there is no root. -/
theorem rt_inf {r N i : Nat} {Z : Nat → Option Nat} (hN : N = r * r) (hi : i < r) (h : isNF (Z (i * r + i))) : rtGood r N Z = false := by
  cases hg : rtGood r N Z with
  | false => rfl
  | true =>
    exfalso
    unfold rtGood at hg
    simp only [Bool.and_eq_true] at hg
    have hp : i * r + i < N := by rw [hN]; exact place_lt hi hi
    have hk := rtAll_lt hg.1 hi
    have hf := allFin_lt hg.2 hp
    have h2 := rtS_keep (r := r) (Z := Z) (p := i * r + i) (d := N - (i * r + i + 1))
    rw [show i * r + i + 1 + (N - (i * r + i + 1)) = N by omega, rt_mid hi] at h2
    have hd : isNF (rtD r Z i) := isNF.less h i
    rw [h2, isNF.root hd hk] at hf
    cases hf
/-- A sum of finite numbers that is not finite. -/
theorem isNF.sum {x y : Nat} (hx : finite .f32 (some x) = true) (hy : finite .f32 (some y) = true) (h : finite .f32 (fop .add .f32 (some x) (some y)) = false) : isNF (fop .add .f32 (some x) (some y)) := by
  have es : fop .add .f32 (some x) (some y) = ((single.read x).sum (single.read y)).map single.write := rfl
  rcases read_single x with ⟨s, hr⟩ | ⟨s, t, hr⟩ | ⟨s, m, e, hr, hm, h1, h2⟩
  · exfalso; unfold finite at hx; simp only at hx; have hr' : FloatKind.f32.decode x = .infinity s := hr; rw [hr'] at hx; cases hx
  · exfalso; unfold finite at hx; simp only at hx; have hr' : FloatKind.f32.decode x = .nan s t := hr; rw [hr'] at hx; cases hx
  rcases read_single y with ⟨s2, hr2⟩ | ⟨s2, t2, hr2⟩ | ⟨s2, m2, e2, hr2, hm2, h12, h22⟩
  · exfalso; unfold finite at hy; simp only at hy; have hr' : FloatKind.f32.decode y = .infinity s2 := hr2; rw [hr'] at hy; cases hy
  · exfalso; unfold finite at hy; simp only at hy; have hr' : FloatKind.f32.decode y = .nan s2 t2 := hr2; rw [hr'] at hy; cases hy
  rw [es, hr, hr2] at h ⊢
  have key : ∀ (s : Bool) (m : Nat) (e : Int), finite .f32 (some (single.write (.number s m e))) = false → isNF (some (single.write (.number s m e))) := by
    intro s m e hh
    have hpz := nearest_pz m e
    cases s with
    | false =>
      have hw : single.write (.number false m e) = single.nearest false m e := rfl
      rw [hw] at hh ⊢
      rw [word_finite hpz] at hh
      have : single.nearest false m e = 2139095040 := by have := of_decide_eq_false hh; omega
      rw [this]; exact .inr (.inl rfl)
    | true =>
      have hw : single.write (.number true m e) = 2147483648 + single.nearest false m e := nearest_true m e
      rw [hw] at hh ⊢
      by_cases hq : single.nearest false m e < 2139095040
      · exfalso
        unfold finite at hh
        simp only at hh
        have hd : FloatKind.f32.decode (2147483648 + single.nearest false m e) = single.read (2147483648 + single.nearest false m e) := rfl
        rw [hd, read_single_q'] at hh
        rw [show (2147483648 + single.nearest false m e) % 2147483648 = single.nearest false m e by omega] at hh
        by_cases h8 : single.nearest false m e < 8388608
        · rw [if_pos h8] at hh; cases hh
        · rw [if_neg h8, if_pos hq] at hh; cases hh
      · have : single.nearest false m e = 2139095040 := by omega
        rw [this]; exact .inr (.inr rfl)
  exact key _ _ _ h
end Go.Proofs.Ytmjlhmbnaifhaaa
