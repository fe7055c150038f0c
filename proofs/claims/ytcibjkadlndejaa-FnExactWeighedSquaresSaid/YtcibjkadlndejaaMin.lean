/- Helper: the least number of a list, and whether all are greater than nothing. Conditions: none. -/
import Derived.Test.YtcibjkadlndejaaMid
set_option linter.unusedVariables false
set_option linter.unusedSimpArgs false
namespace Go.Proofs.Ytcibjkadlndejaa
open Go.RowKit

/-- Whether a number is greater than 0. -/
def posB (X : Option Nat) : Bool := ford .f32 X (some 0) == some .gt
def allPos (V : Nat → Option Nat) : Nat → Bool
  | 0 => true
  | i + 1 => allPos V i && posB (V i)
theorem allPos_at {V : Nat → Option Nat} {n i : Nat} (h : allPos V n = true) (hi : i < n) : posB (V i) = true := by
  induction n with
  | zero => omega
  | succ n ih =>
    simp only [allPos, Bool.and_eq_true] at h
    by_cases e : i = n
    · subst e; exact h.2
    · exact ih h.1 (by omega)
theorem allPos_off {V : Nat → Option Nat} {n i : Nat} (hi : i < n) (h : posB (V i) = false) : allPos V n = false := by
  cases e : allPos V n with
  | false => rfl
  | true => rw [allPos_at e hi] at h; cases h
theorem allPos_of {V : Nat → Option Nat} : ∀ {n : Nat}, (∀ i, i < n → posB (V i) = true) → allPos V n = true
  | 0, _ => rfl
  | n + 1, h => by simp only [allPos]; rw [allPos_of fun i hi => h i (by omega), h n (by omega)]; rfl
theorem dec0 : FloatKind.f32.decode 0 = .number false 0 (-149) := by decide
theorem signed_zero (u : Nat) : Ieee.signed false 0 u = 0 := by unfold Ieee.signed; simp
theorem posB_num {x m : Nat} {s : Bool} {e : Int} (h : FloatKind.f32.decode x = .number s m e) : posB (some x) = (!s && decide (m ≠ 0)) := by
  show ((FloatKind.f32.decode x).order (FloatKind.f32.decode 0) == some .gt) = _
  rw [h, dec0]
  show (some (compare (Ieee.signed s m (e - min e (-149)).toNat) (Ieee.signed false 0 ((-149) - min e (-149)).toNat)) == some Ordering.gt) = _
  rw [signed_zero]
  generalize (e - min e (-149)).toNat = u
  unfold Ieee.signed
  by_cases hm : m = 0
  · subst hm; cases s <;> simp
  · have h2 : 0 < m <<< u := by rw [Nat.shiftLeft_eq]; exact Nat.mul_pos (by omega) (Nat.two_pow_pos u)
    generalize m <<< u = y at h2
    cases s
    · have : compare ((y : Nat) : Int) 0 = .gt := by rw [Int.compare_eq_gt]; omega
      simp [this, hm]
    · have : compare (-((y : Nat) : Int)) 0 = .lt := by rw [Int.compare_eq_lt]; omega
      simp [this]
theorem pos_signed (s : Bool) (m u : Nat) : (!s && decide (m ≠ 0)) = decide (0 < Ieee.signed s m u) := by
  unfold Ieee.signed
  by_cases hm : m = 0
  · subst hm; cases s <;> simp
  · have h2 : 0 < m <<< u := by rw [Nat.shiftLeft_eq]; exact Nat.mul_pos (by omega) (Nat.two_pow_pos u)
    generalize m <<< u = y at h2
    cases s
    · have : (0 : Int) < (y : Nat) := by omega
      simp [hm, h2]
    · have : ¬ (0 : Int) < -((y : Nat) : Int) := by omega
      simp [this]
theorem ord_pos {a b m k : Nat} {s t : Bool} {e f : Int} (ha : FloatKind.f32.decode a = .number s m e) (hb : FloatKind.f32.decode b = .number t k f) :
    ∃ o, FloatKind.f32.format.order a b = some o ∧ (o = .lt → posB (some a) = (posB (some a) && posB (some b))) ∧ (o = .gt → posB (some b) = (posB (some a) && posB (some b))) ∧ (o = .eq → posB (some a) = posB (some b)) := by
  refine ⟨compare (Ieee.signed s m (e - min e f).toNat) (Ieee.signed t k (f - min e f).toNat), ?_, ?_⟩
  · show (FloatKind.f32.decode a).order (FloatKind.f32.decode b) = _
    rw [ha, hb]; rfl
  · rw [posB_num ha, posB_num hb, pos_signed s m (e - min e f).toNat, pos_signed t k (f - min e f).toNat]
    generalize Ieee.signed s m (e - min e f).toNat = A
    generalize Ieee.signed t k (f - min e f).toNat = B
    refine ⟨fun h => ?_, fun h => ?_, fun h => ?_⟩
    · rw [Int.compare_eq_lt] at h
      by_cases h0 : 0 < A
      · simp [h0, show 0 < B by omega]
      · simp [h0]
    · rw [Int.compare_eq_gt] at h
      by_cases h0 : 0 < B
      · simp [h0, show 0 < A by omega]
      · simp [h0]
    · rw [Int.compare_eq_eq] at h
      rw [h]
theorem run_minF {P : Program} (ts : Array TypeId) (t : TypeId) (a b : Nat) (o : Ordering) (ho : FloatKind.f32.format.order a b = some o) (w : World) :
    (Builtin.min_ ts t #[.float .f32 a, .float .f32 b]).run P w = .ok (.float .f32 (match o with | .lt => a | .gt => b | .eq => if (FloatKind.f32.decode a).neg then a else b)) w := by
  cases o <;> simp [Builtin.min_, Builtin.min2, ho]
/-- The least of two finite numbers. -/
theorem min_two {a b : Nat} (ha : finite .f32 (cn .f32 a) = true) (hb : finite .f32 (cn .f32 b) = true) (wa : (Lit.float .f32 a).wf = true) (wb : (Lit.float .f32 b).wf = true) :
    ∃ r, (∀ (ts : Array TypeId) (t : TypeId) (w : World), (Builtin.min_ ts t #[.float .f32 a, .float .f32 b]).run Try.prog w = .ok (.float .f32 r) w) ∧ (Lit.float .f32 r).wf = true ∧ finite .f32 (cn .f32 r) = true ∧ posB (cn .f32 r) = (posB (cn .f32 a) && posB (cn .f32 b)) := by
  obtain ⟨e1, s, m, e, h1⟩ := cn_fin ha
  obtain ⟨e2, t, k, f, h2⟩ := cn_fin hb
  obtain ⟨o, ho, q1, q2, q3⟩ := ord_pos h1 h2
  refine ⟨_, fun ts t w => run_minF ts t a b o ho w, ?_⟩
  rw [e1, e2]
  rw [e1] at ha
  rw [e2] at hb
  cases o with
  | lt => exact ⟨wa, by show finite .f32 (cn .f32 a) = true; rw [e1]; exact ha, by show posB (cn .f32 a) = _; rw [e1]; exact q1 rfl⟩
  | gt => exact ⟨wb, by show finite .f32 (cn .f32 b) = true; rw [e2]; exact hb, by show posB (cn .f32 b) = _; rw [e2]; exact q2 rfl⟩
  | eq =>
    cases hn : (FloatKind.f32.decode a).neg with
    | true => exact ⟨wa, by show finite .f32 (cn .f32 a) = true; rw [e1]; exact ha, by show posB (cn .f32 a) = _; rw [e1, ← q3 rfl]; simp⟩
    | false => exact ⟨wb, by show finite .f32 (cn .f32 b) = true; rw [e2]; exact hb, by show posB (cn .f32 b) = _; rw [e2, q3 rfl]; simp⟩
theorem leq_pos {r : Nat} (h : finite .f32 (cn .f32 r) = true) : (ford .f32 (cn .f32 r) (some 0) == some .lt || ford .f32 (cn .f32 r) (some 0) == some .eq) = !posB (cn .f32 r) := by
  obtain ⟨e1, s, m, e, h1⟩ := cn_fin h
  obtain ⟨o, ho, _⟩ := ord_pos h1 dec0
  rw [e1]
  show (FloatKind.f32.format.order r 0 == some .lt || FloatKind.f32.format.order r 0 == some .eq) = !(FloatKind.f32.format.order r 0 == some .gt)
  rw [ho]
  cases o <;> rfl
set_option maxRecDepth 20000 in
theorem min_any (a : Option Addr) (n c : Nat) (Z : Nat → Nat) (w : World) (h1 : 1 ≤ n) (hn : n ≤ 1048576) (h : FS .f32 w a n c Z) (hf : allFin (vals Z) n = true) :
    Calls Try.prog 55 #[.slice a n c] w fun e w' => w = w' ∧ ∃ r, e = .returned (.float .f32 r) ∧ (Lit.float .f32 r).wf = true ∧ finite .f32 (cn .f32 r) = true ∧ posB (cn .f32 r) = allPos (vals Z) n := by
  obtain ⟨b, off, rfl, hbl, hc0, hfv0⟩ := h.at (show 0 < n by omega)
  have hF := Lib.hid hf
  rw [Nat.add_zero] at hc0
  have W0 := Lib.hid hfv0.2
  have F0 : Hid (finite .f32 (cn .f32 (Z 0)) = true) := Lib.hid (show finite .f32 (vals Z 0) = true from allFin_lt hf (by omega))
  have P0 : Hid (posB (cn .f32 (Z 0)) = allPos (vals Z) 1) := Lib.hid (by simp [allPos, vals])
  have hd : decide ((n : Int) < 1) = false := decide_eq_false (by omega)
  clear hbl hfv0 hf
  go_enter Try.func55, Try.ntmps55
  go_wp2
  go_loop [3, 4] (fun s i => ∃ k r : Nat, 1 ≤ k ∧ k ≤ n ∧ i = .int .i64 k ∧ s = .float .f32 r ∧ Hid ((Lit.float .f32 r).wf = true) ∧ Hid (finite .f32 (cn .f32 r) = true) ∧ Hid (posB (cn .f32 r) = allPos (vals Z) k)) (fun _ i => n - (intOf i).toNat)
  case atStart => exact ⟨1, _, Nat.le_refl _, h1, rfl, rfl, W0, F0, P0⟩
  case round =>
    obtain ⟨k, r, hk1, hk, rfl, rfl, hw, hfr, hp⟩ := hrel
    by_cases hlt : k < n
    · obtain ⟨b', off', e, hbl, hck, hfk⟩ := h.at hlt
      simp only [Option.some.injEq, Addr.mk.injEq, and_true] at e
      obtain ⟨rfl, rfl⟩ := e
      obtain ⟨r2, hrun, hw2, hf2, hp2⟩ := min_two hfr.out (show finite .f32 (cn .f32 (Z k)) = true from (show finite .f32 (vals Z k) = true from allFin_lt hF.out hlt)) hw.out hfk.2
      have HW2 := Lib.hid hw2
      have HF2 := Lib.hid hf2
      have HP2 : Hid (posB (cn .f32 r2) = allPos (vals Z) (k + 1)) := Lib.hid (by rw [hp2, hp.out]; rfl)
      clear hbl hfk hc0 h hw2 hf2 hp2
      go_wp2
      go_round
      case rel => exact ⟨k + 1, r2, by omega, by omega, by go_num, rfl, HW2, HF2, HP2⟩
      case measure => simp [intOf]; omega
    · obtain rfl : k = n := by omega
      go_wp2
      go_ret
      exact ⟨rfl, r, rfl, hw.out, hfr.out, hp.out⟩
end Go.Proofs.Ytcibjkadlndejaa
