/- Helper: products and sums of opposite numbers. Conditions: none. -/
import Derived.Test.YtmjlhmbnaifhaaaZeroFacts
set_option linter.unusedVariables false
set_option linter.unusedSimpArgs false
namespace Go.Proofs.Ytmjlhmbnaifhaaa
open Ieee

theorem neg_word {y : Nat} (hy : y < 4294967296) : Op.negFloat .f32 y = if y < 2147483648 then y + 2147483648 else y - 2147483648 := by
  have hd : Op.negFloat .f32 y = y ^^^ 2 ^ 31 := rfl
  have h1 : (y ^^^ 2 ^ 31) % 2 ^ 31 = y % 2 ^ 31 := by rw [Nat.xor_mod_two_pow, Nat.mod_self, Nat.xor_zero]
  have h2 : (y ^^^ 2 ^ 31) / 2 ^ 31 = y / 2 ^ 31 ^^^ 1 := by rw [Nat.xor_div_two_pow, Nat.div_self (by decide)]
  have h3 := Nat.div_add_mod (y ^^^ 2 ^ 31) (2 ^ 31)
  have h4 := Nat.div_add_mod y (2 ^ 31)
  rw [hd]
  rw [h1, h2] at h3
  generalize y ^^^ 2 ^ 31 = z at h3 ⊢
  by_cases h : y < 2147483648
  · rw [if_pos h]
    have e : y / 2 ^ 31 = 0 := Nat.div_eq_of_lt (by omega)
    rw [e] at h3 h4
    have e2 : (0 ^^^ 1 : Nat) = 1 := by decide
    rw [e2] at h3
    omega
  · rw [if_neg h]
    have e : y / 2 ^ 31 = 1 := by omega
    rw [e] at h3 h4
    have e2 : (1 ^^^ 1 : Nat) = 0 := by decide
    rw [e2] at h3
    omega
theorem read_neg {y : Nat} (hy : y < 4294967296) : single.read (Op.negFloat .f32 y) = (single.read y).opposite := by
  obtain ⟨e1, e2, e3, e4⟩ := single_consts
  have hw := neg_word hy
  have hm : Op.negFloat .f32 y % 2147483648 = y % 2147483648 := by rw [hw]; split <;> omega
  have hb : (Op.negFloat .f32 y / 2147483648 % 2 == 1) = !(y / 2147483648 % 2 == 1) := by
    rw [hw]
    by_cases h : y < 2147483648
    · rw [if_pos h, show (y + 2147483648) / 2147483648 % 2 = 1 by omega, show y / 2147483648 % 2 = 0 by omega]; rfl
    · rw [if_neg h, show (y - 2147483648) / 2147483648 % 2 = 0 by omega, show y / 2147483648 % 2 = 1 by omega]; rfl
  unfold Format.read
  simp only [e1, e2, e3, e4, hm, hb]
  by_cases h1 : y % 2147483648 < 8388608
  · rw [if_pos h1, if_pos h1]; rfl
  · rw [if_neg h1, if_neg h1]
    by_cases h2 : y % 2147483648 < 2139095040
    · rw [if_pos h2, if_pos h2]; rfl
    · rw [if_neg h2, if_neg h2]
      by_cases h3 : y % 2147483648 = 2139095040
      · rw [if_pos h3, if_pos h3]; rfl
      · rw [if_neg h3, if_neg h3]; rfl
theorem nearest_small (m : Nat) (e : Int) : single.nearest false m e ≤ 2139095040 := by
  obtain ⟨e1, e2, e3, e4⟩ := single_consts
  unfold Format.nearest Format.word
  by_cases h : m = 0
  · rw [if_pos h]; simp
  · rw [if_neg h, e4, if_neg (show ¬ (false = true) by decide)]
    omega
theorem write_opp {d : Datum} (hd : d.isNaN = false) : single.write d.opposite = Op.negFloat .f32 (single.write d) ∧ single.write d < 4294967296 := by
  cases d with
  | nan s t => cases hd
  | infinity s => cases s <;> exact ⟨by decide +kernel, by decide +kernel⟩
  | number s m e =>
    have hs := nearest_small m e
    show single.nearest (!s) m e = Op.negFloat .f32 (single.nearest s m e) ∧ single.nearest s m e < 4294967296
    cases s with
    | false =>
      refine ⟨?_, by omega⟩
      rw [neg_word (by omega), if_pos (by omega)]
      show single.nearest true m e = _
      rw [nearest_true]; omega
    | true =>
      have ht := nearest_true m e
      refine ⟨?_, by omega⟩
      rw [neg_word (by omega), if_neg (by omega)]
      show single.nearest false m e = _
      omega
theorem opp_product (a b : Datum) : a.opposite.product b = (a.product b).map Datum.opposite := by
  cases a with
  | nan s t => cases b <;> rfl
  | infinity s =>
    cases b with
    | nan s t => rfl
    | infinity t => simp only [Datum.opposite, Datum.product, Option.map_some]; cases s <;> cases t <;> rfl
    | number t n f =>
      simp only [Datum.opposite, Datum.product]
      by_cases h : n = 0
      · rw [if_pos h, if_pos h]; rfl
      · rw [if_neg h, if_neg h]; cases s <;> cases t <;> rfl
  | number s m e =>
    cases b with
    | nan s t => rfl
    | infinity t =>
      simp only [Datum.opposite, Datum.product]
      by_cases h : m = 0
      · rw [if_pos h, if_pos h]; rfl
      · rw [if_neg h, if_neg h]; cases s <;> cases t <;> rfl
    | number t n f => simp only [Datum.opposite, Datum.product, Option.map_some]; cases s <;> cases t <;> rfl
theorem product_num {a b d : Datum} (h : a.product b = some d) : d.isNaN = false := by
  cases a <;> cases b <;> simp only [Datum.product] at h <;> (try cases h) <;> (try rfl) <;> (split at h <;> first | (cases h; done) | (cases h; rfl))
theorem sumT_comm (a b : Datum) : a.sum b = b.sum a := by
  cases a with
  | nan s t => cases b <;> rfl
  | infinity s =>
    cases b with
    | nan s t => rfl
    | infinity t => simp only [Datum.sum]; cases s <;> cases t <;> rfl
    | number t n f => rfl
  | number s m e =>
    cases b with
    | nan s t => rfl
    | infinity t => rfl
    | number t n f =>
      simp only [Datum.sum]
      rw [Int.min_comm f e, Int.add_comm (Ieee.signed t n (f - min e f).toNat), Bool.and_comm t s]
theorem addT_comm (X Y : Option Nat) : fop .add .f32 X Y = fop .add .f32 Y X := by
  cases X with
  | none => cases Y <;> rfl
  | some x =>
    cases Y with
    | none => rfl
    | some y =>
      show ((single.read x).sum (single.read y)).map single.write = ((single.read y).sum (single.read x)).map single.write
      rw [sumT_comm]
/-- A number that is none, or a word. -/
def isW (X : Option Nat) : Prop := ∀ x, X = some x → x < 4294967296
theorem isW.of {r : Nat} {X : Option Nat} (h : FV .f32 r X) : isW X := fun x hx => by
  have h1 := h.1
  rw [hx] at h1
  unfold cn at h1
  split at h1
  · cases h1
  · cases h1; have := lt32 h.2; omega
theorem isW.mul (X Y : Option Nat) : isW (fop .mul .f32 X Y) := fun z hz => by
  cases X with
  | none => cases hz
  | some x =>
    cases Y with
    | none => cases hz
    | some y =>
      have hz' : ((single.read x).product (single.read y)).map single.write = some z := hz
      cases hp : (single.read x).product (single.read y) with
      | none => rw [hp] at hz'; cases hz'
      | some d =>
        rw [hp] at hz'
        cases hz'
        exact (write_opp (product_num hp)).2
theorem mul_neg {S Y : Option Nat} (hS : isW S) : fop .mul .f32 (fneg .f32 S) Y = fneg .f32 (fop .mul .f32 S Y) := by
  cases S with
  | none => rfl
  | some s =>
    cases Y with
    | none => rfl
    | some y =>
      show ((single.read (Op.negFloat .f32 s)).product (single.read y)).map single.write = (((single.read s).product (single.read y)).map single.write).map (Op.negFloat .f32)
      rw [read_neg (hS s rfl), opp_product]
      cases hp : (single.read s).product (single.read y) with
      | none => rfl
      | some d =>
        show some (single.write d.opposite) = some (Op.negFloat .f32 (single.write d))
        rw [(write_opp (product_num hp)).1]
theorem add_neg {X Z : Option Nat} (hZ : isW Z) : fop .add .f32 X (fneg .f32 Z) = fop .sub .f32 X Z := by
  cases X with
  | none => cases Z <;> rfl
  | some x =>
    cases Z with
    | none => rfl
    | some z =>
      show ((single.read x).sum (single.read (Op.negFloat .f32 z))).map single.write = ((single.read x).sum (single.read z).opposite).map single.write
      rw [read_neg (hZ z rfl)]
theorem sub_neg {X Z : Option Nat} (hZ : isW Z) : fop .sub .f32 X (fneg .f32 Z) = fop .add .f32 X Z := by
  cases X with
  | none => cases Z <;> rfl
  | some x =>
    cases Z with
    | none => rfl
    | some z =>
      show ((single.read x).sum (single.read (Op.negFloat .f32 z)).opposite).map single.write = ((single.read x).sum (single.read z)).map single.write
      rw [read_neg (hZ z rfl)]
      congr 2
      cases single.read z <;> simp only [Datum.opposite, Bool.not_not]
/-- What turnBy makes of a pair is what the reference does. -/
theorem turn_x {C S X Y : Option Nat} (hS : isW S) : fop .add .f32 (fop .mul .f32 C X) (fop .mul .f32 (fneg .f32 S) Y) = fop .sub .f32 (fop .mul .f32 C X) (fop .mul .f32 S Y) := by
  rw [mul_neg hS, add_neg (isW.mul _ _)]
theorem turn_y {C S X Y : Option Nat} (hS : isW S) : fop .sub .f32 (fop .mul .f32 C Y) (fop .mul .f32 (fneg .f32 S) X) = fop .add .f32 (fop .mul .f32 S X) (fop .mul .f32 C Y) := by
  rw [mul_neg hS, sub_neg (isW.mul _ _), addT_comm]
end Go.Proofs.Ytmjlhmbnaifhaaa
