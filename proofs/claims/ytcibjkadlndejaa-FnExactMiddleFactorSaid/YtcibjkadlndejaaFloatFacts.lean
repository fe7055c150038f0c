/- Helper: facts of 32-bit and 64-bit floats: signs, finiteness, comparisons. Conditions: none. -/
import Derived.Test.YtcibjkadlndejaaFloatKit
namespace Go.Proofs.Ytcibjkadlndejaa

theorem single_consts : Ieee.single.signWeight = 2147483648 ∧ Ieee.single.binade = 8388608 ∧ Ieee.single.infRung = 2139095040 ∧ Ieee.single.leastPlace = -149 := by decide

theorem read_double (x : Nat) : (∃ s, Ieee.double.read x = .infinity s) ∨ (∃ s t, Ieee.double.read x = .nan s t) ∨ ∃ s m e, Ieee.double.read x = .number s m e ∧ m < 9007199254740992 ∧ -1074 ≤ e ∧ e ≤ 971 := by
  obtain ⟨e1, e2, e3, e4⟩ := double_consts
  unfold Ieee.Format.read
  simp only [e1, e2, e3, e4]
  generalize x % 9223372036854775808 = q
  split
  · exact .inr (.inr ⟨_, _, _, rfl, by omega, by omega, by omega⟩)
  · split
    · exact .inr (.inr ⟨_, _, _, rfl, by omega, by omega, by omega⟩)
    · split
      · exact .inl ⟨_, rfl⟩
      · exact .inr (.inl ⟨_, _, rfl⟩)

/-- Without its sign. -/
def dabs : Ieee.Datum → Ieee.Datum
  | .number _ m e => .number false m e
  | .infinity _ => .infinity false
  | .nan _ t => .nan false t

theorem read_abs (x : Nat) : Ieee.double.read (x % 9223372036854775808) = dabs (Ieee.double.read x) := by
  obtain ⟨e1, e2, e3, e4⟩ := double_consts
  have hl : x % 9223372036854775808 < 9223372036854775808 := Nat.mod_lt _ (by decide)
  have hd : x % 9223372036854775808 / 9223372036854775808 = 0 := Nat.div_eq_of_lt hl
  unfold Ieee.Format.read
  simp only [e1, e2, e3, e4, Nat.mod_mod, hd]
  split
  · rfl
  · split
    · rfl
    · split <;> rfl

def fabs (u : Option Nat) : Option Nat := u.map (· % 9223372036854775808)

theorem FV.abs {x : Nat} {X : Option Nat} (h : FV .f64 x X) : FV .f64 (x % 9223372036854775808) (fabs X) := by
  have hd : FloatKind.f64.decode (x % 9223372036854775808) = dabs (FloatKind.f64.decode x) := read_abs x
  constructor
  · rw [← h.1]
    unfold cn fabs
    rw [hd]
    cases FloatKind.f64.decode x <;> rfl
  · have : x % 9223372036854775808 < 9223372036854775808 := Nat.mod_lt _ (by decide)
    have : x % 9223372036854775808 < 18446744073709551616 := by omega
    simpa [Lit.wf] using this

/-- It is neither an infinity nor a not-a-number. -/
def finite (k : FloatKind) (u : Option Nat) : Bool := match u with
  | some x => match k.decode x with
    | .number .. => true
    | _ => false
  | none => false

def isInf (k : FloatKind) (u : Option Nat) : Bool := match u with
  | some x => (k.decode x).isInfinity
  | none => false

theorem gt_max (X : Option Nat) : (ford .f64 (fabs X) (some 9218868437227405311) == some .gt) = isInf .f64 X := by
  cases X with
  | none => rfl
  | some x =>
    have hd : Ieee.double.read 9218868437227405311 = .number false 9007199254740991 971 := by decide +kernel
    show (((Ieee.double.read (x % 9223372036854775808)).order (Ieee.double.read 9218868437227405311)) == some .gt) = (Ieee.double.read x).isInfinity
    rw [read_abs, hd]
    rcases read_double x with ⟨s, h⟩ | ⟨s, t, h⟩ | ⟨s, m, e, h, hm, h1, h2⟩
    · rw [h]; rfl
    · rw [h]; rfl
    · rw [h]
      show (some (compare _ _) == some Ordering.gt) = false
      have hb : min e 971 = e := by omega
      rw [hb]
      have : ¬ (Ieee.signed false 9007199254740991 (971 - e).toNat < Ieee.signed false m (e - e).toNat) := by
        unfold Ieee.signed
        simp only [Int.sub_self, Int.toNat_zero, Nat.shiftLeft_eq]
        have h3 : 0 < 2 ^ (971 - e).toNat := Nat.two_pow_pos _
        have h4 : 9007199254740991 * 1 ≤ 9007199254740991 * 2 ^ (971 - e).toNat := Nat.mul_le_mul_left _ h3
        intro hlt
        simp only [Bool.false_eq_true, if_false, Nat.pow_zero, Nat.mul_one] at hlt
        have hlt' : (((9007199254740991 * 2 ^ (971 - e).toNat : Nat)) : Int) < ((m : Nat) : Int) := hlt
        have := Int.ofNat_lt.1 hlt'
        omega
      rcases hc : compare (Ieee.signed false m (e - e).toNat) (Ieee.signed false 9007199254740991 (971 - e).toNat) with _ | _ | _
      · rfl
      · rfl
      · exact absurd (Int.compare_eq_gt.1 hc) this

theorem cn_nan_iff {k : FloatKind} {x : Nat} : cn k x = none ↔ (k.decode x).isNaN = true := by
  unfold cn; split <;> simp_all

/-- A word that stands for a number of its own is told as it is. -/
def clean (k : FloatKind) (u : Option Nat) : Prop := ∀ x, u = some x → (k.decode x).isNaN = false

theorem FV.clean {k : FloatKind} {r : Nat} {u : Option Nat} (h : FV k r u) : clean k u := by
  intro x hx
  subst hx
  obtain rfl := h.eq
  have := h.1
  unfold cn at this
  split at this
  · cases this
  · rename_i h; simpa using h

theorem ford_self' {k : FloatKind} {u : Option Nat} (h : clean k u) : ford k u u = u.map fun _ => .eq := by
  cases u with
  | none => rfl
  | some x =>
    have hx := h x rfl
    show k.format.order x x = some .eq
    have hx' : (k.format.read x).isNaN = false := hx
    unfold Ieee.Format.order
    generalize k.format.read x = d at *
    cases d with
    | nan s t => cases hx'
    | infinity s => cases s <;> rfl
    | number s m e => simp [Ieee.Datum.order]

theorem finite_of {k : FloatKind} {u : Option Nat} (h : clean k u) : finite k u = (!isInf k u && !(ford k u u != some .eq)) := by
  rw [ford_self' h]
  cases u with
  | none => rfl
  | some x =>
    have hx := h x rfl
    simp only [finite, isInf]
    generalize k.decode x = d at *
    cases d <;> first | rfl | cases hx

theorem sub_self_zero {u : Option Nat} (h : clean .f32 u) : (ford .f32 (fop .sub .f32 u u) (some 0) == some .eq) = finite .f32 u := by
  cases u with
  | none => rfl
  | some x =>
    have hx := h x rfl
    have hr : (fop .sub .f32 (some x) (some x)) = ((Ieee.single.read x).sum (Ieee.single.read x).opposite).map Ieee.single.write := rfl
    rw [hr]
    have hf : finite .f32 (some x) = (match Ieee.single.read x with | .number .. => true | _ => false) := rfl
    rw [hf]
    have hx' : (Ieee.single.read x).isNaN = false := hx
    generalize Ieee.single.read x = d at *
    cases d with
    | nan s t => cases hx'
    | infinity s => cases s <;> rfl
    | number s m e =>
      have hs : (Ieee.Datum.number s m e).sum (Ieee.Datum.number s m e).opposite = some (.number false 0 e) := by
        simp only [Ieee.Datum.opposite, Ieee.Datum.sum, Int.min_self, Int.sub_self, Int.toNat_zero]
        have h0 : Ieee.signed s m 0 + Ieee.signed (!s) m 0 = 0 := by
          cases s <;> simp [Ieee.signed] <;> omega
        rw [h0]
        simp
      rw [hs]
      have hw : Ieee.single.write (.number false 0 e) = 0 := by simp [Ieee.Format.write, Ieee.Format.nearest, Ieee.Format.word]
      simp only [Option.map_some, hw]
      decide +kernel

theorem widen_finite {u : Option Nat} (h : clean .f32 u) : finite .f64 (widen u) = finite .f32 u := by
  cases u with
  | none => rfl
  | some x =>
    have hx : (Ieee.single.read x).isNaN = false := h x rfl
    have h1 : finite .f64 (widen (some x)) = (match Ieee.double.read (Ieee.double.write (Ieee.single.read x)) with | .number .. => true | _ => false) := rfl
    have h2 : finite .f32 (some x) = (match Ieee.single.read x with | .number .. => true | _ => false) := rfl
    rw [h1, h2]
    rcases read_single x with ⟨s, h⟩ | ⟨s, t, h⟩ | ⟨s, m, e, h, hm, h1, h2⟩
    · rw [h]; cases s <;> decide +kernel
    · rw [h] at hx; cases hx
    · obtain ⟨m', e', hr⟩ := widen_number s m e hm h1 h2
      rw [h, hr]
end Go.Proofs.Ytcibjkadlndejaa
