/- Helper: bounds of roots and of widened numbers; what fits 32 bits. Conditions: none. -/
import Derived.Test.YtcibjkadlndejaaFloatBounds
namespace Go.Proofs.Ytcibjkadlndejaa
open Ieee (Datum)

def fsqrt (u : Option Nat) : Option Nat := u.bind Ieee.double.sqrt

theorem root_ok {n : Nat} {a d : Datum} (h : Datum.root n a = some d) : d.isNaN = false ∧ a.isNaN = false := by
  cases a with
  | nan s t => simp [Datum.root] at h
  | infinity s =>
    simp only [Datum.root] at h
    split at h
    · cases h
    · cases h; exact ⟨rfl, rfl⟩
  | number s m e =>
    simp only [Datum.root] at h
    split at h
    · cases h; exact ⟨rfl, rfl⟩
    · split at h
      · cases h
      · cases h; exact ⟨rfl, rfl⟩

theorem sqrt_ok {x r : Nat} (h : Ieee.double.sqrt x = some r) : (FloatKind.f64.decode r).isNaN = false ∧ (FloatKind.f64.decode x).isNaN = false := by
  simp only [Ieee.Format.sqrt, Option.map_eq_some_iff] at h
  obtain ⟨d, hd, rfl⟩ := h
  have := root_ok hd
  exact ⟨read_write _ _ this.1, this.2⟩

theorem fsqrt_some {x r : Nat} (h : Ieee.double.sqrt x = some r) : FV .f64 r (fsqrt (cn .f64 x)) := by
  obtain ⟨h1, h2⟩ := sqrt_ok h
  refine ⟨?_, wf_of_lt .f64 r (Ieee.Format.sqrt_lt _ h)⟩
  rw [cn_of h1, cn_of h2]
  simp [fsqrt, h]

theorem fsqrt_none {x : Nat} (h : Ieee.double.sqrt x = none) : fsqrt (cn .f64 x) = none := by
  unfold cn fsqrt
  split
  · rfl
  · simpa using h

theorem rootFrom_lt (n : Nat) : ∀ todo root, Datum.rootFrom n todo root < root + 2 ^ todo := by
  intro todo
  induction todo with
  | zero => intro root; simp [Datum.rootFrom]
  | succ k ih =>
    intro root
    simp only [Datum.rootFrom]
    refine Nat.lt_of_lt_of_le (ih _) ?_
    rw [Nat.pow_succ, Nat.shiftLeft_eq, Nat.one_mul]
    split <;> omega

theorem Lt2.sqrt {X : Option Nat} {i : Int} (h : Lt2 (2 * i) X) (hs : ∀ x m e, X = some x → Ieee.double.read x = .number true m e → m = 0) (hi : 0 ≤ i) (hi' : i ≤ 500) : Lt2 (i + 3) (fsqrt X) := by
  obtain ⟨x, s, m, e, rfl, hx, hl, hb⟩ := h
  have e1 : fsqrt (some x) = ((Ieee.double.read x).root 54).map Ieee.double.write := rfl
  rw [e1, hx]
  simp only [Datum.root]
  by_cases hm : m = 0
  · rw [if_pos hm]
    rw [show i + 3 = i + 2 + 1 by omega]
    exact Lt2.of_write (by omega) (by omega) (.inl hm)
  · rw [if_neg hm]
    cases s with
    | true => exact absurd (hs x m e rfl hx) hm
    | false =>
      rw [if_neg (by decide)]
      have hl' : (m.log2 : Int) + e < 2 * i := by rcases hl with h | h; exact absurd h hm; exact h
      simp only [Option.map_some]
      rw [show i + 3 = i + 2 + 1 by omega]
      refine Lt2.of_write (by omega) (by omega) ?_
      generalize hq : (((e - ((2 * 54 - m.log2 : Nat) : Int)) % 2).toNat) = q
      have hq1 : q ≤ 1 := by omega
      generalize hmore : 2 * 54 - m.log2 + q = more
      generalize hn : m <<< more = n
      have hn0 : n ≠ 0 := by
        rw [← hn, Nat.shiftLeft_eq]
        exact Nat.mul_ne_zero hm (Nat.pos_iff_ne_zero.1 (Nat.two_pow_pos _))
      have hnl : n.log2 < m.log2 + 1 + more := by
        refine log2_lt' hn0 ?_
        rw [← hn, Nat.shiftLeft_eq, Nat.pow_add]
        exact Nat.mul_lt_mul_of_pos_right (lt_log2' m) (Nat.two_pow_pos _)
      have hw := rootFrom_lt n (n.log2 / 2 + 1) 0
      generalize Datum.rootFrom n (n.log2 / 2 + 1) 0 = whole at *
      rw [Nat.zero_add] at hw
      generalize hbb : (whole * whole != n) = bb
      have hbt : bb.toNat ≤ 1 := Bool.toNat_le bb
      by_cases h0 : 2 * whole + bb.toNat = 0
      · exact .inl h0
      · have hz : 2 * whole + bb.toNat < 2 ^ (n.log2 / 2 + 1 + 1) := by rw [Nat.pow_succ]; omega
        have := log2_lt' h0 hz
        exact .inr (by omega)

theorem widen_lt2 {u : Option Nat} (h : finite .f32 u = true) : Lt2 129 (widen u) := by
  cases u with
  | none => cases h
  | some x =>
    have h2 : finite .f32 (some x) = (match Ieee.single.read x with | .number .. => true | _ => false) := rfl
    rw [h2] at h
    rcases read_single x with ⟨s, hx⟩ | ⟨s, t, hx⟩ | ⟨s, m, e, hx, hm, h1, h2⟩
    · rw [hx] at h; cases h
    · rw [hx] at h; cases h
    · have hw : widen (some x) = some (Ieee.double.write (.number s m e)) := by
        show some (Ieee.double.write (Ieee.single.read x)) = _
        rw [hx]
      rw [hw]
      rw [show (129 : Int) = 128 + 1 by omega]
      refine Lt2.of_write (by omega) (by omega) ?_
      by_cases h0 : m = 0
      · exact .inl h0
      · have : m.log2 < 24 := (Nat.log2_lt h0).2 hm
        exact .inr (by omega)

/-- A number below 2 to the power of 127 is not too great for 32 bits. -/
theorem fits_of_lt2 {X : Option Nat} (h : Lt2 127 X) : fits X := by
  obtain ⟨x, s, m, e, rfl, hx, hl, -⟩ := h
  intro y hy
  obtain rfl : x = y := by simpa using hy
  right
  have hd : FloatKind.f64.decode x = .number s m e := hx
  rw [hd]
  show (Ieee.single.read (Ieee.single.write (.number s m e))).isInfinity = false
  have e1 : Ieee.single.signWeight = 2147483648 := by decide
  have e2 : Ieee.single.binade = 8388608 := by decide
  have e3 : Ieee.single.infRung = 2139095040 := by decide
  have e4 : Ieee.single.leastPlace = -149 := by decide
  have ef : Ieee.single.fractionBits = 23 := rfl
  have key : ∀ rung, rung < 2139095040 → (Ieee.single.read (Ieee.single.word s rung)).isInfinity = false := by
    intro rung hr
    have hm : Ieee.single.word s rung % Ieee.single.signWeight = rung := by
      unfold Ieee.Format.word
      rw [e1]
      split <;> omega
    unfold Ieee.Format.read
    simp only [hm, e2, e3]
    split
    · rfl
    · first | rfl | (rw [if_pos hr]; rfl)
  simp only [Ieee.Format.write, Ieee.Format.nearest]
  split
  · exact key 0 (by decide)
  · rename_i h0
    have hl' : (m.log2 : Int) + e < 127 := by rcases hl with h | h; exact absurd h h0; exact h
    have hk := kept_le' s m e (max (e + (m.log2 : Int) - (23 : Nat)) (-149)) 23 (by omega)
    simp only [e2, e3, e4, ef]
    generalize Ieee.Toward.even.cut s _ _ = c at *
    have hp : (2 : Nat) ^ (23 + 1) = 16777216 := by decide
    rw [hp] at hk
    have hq : (max (e + (m.log2 : Int) - (23 : Nat)) (-149) - -149).toNat ≤ 252 := by omega
    generalize (max (e + (m.log2 : Int) - (23 : Nat)) (-149) - -149).toNat = q at *
    have hlt : q * 8388608 + c < 2139095040 := by omega
    rw [Nat.min_eq_left (Nat.le_of_lt hlt)]
    exact key _ hlt
end Go.Proofs.Ytcibjkadlndejaa
