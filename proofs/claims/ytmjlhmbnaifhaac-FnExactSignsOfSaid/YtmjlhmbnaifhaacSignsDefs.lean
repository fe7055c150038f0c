/- Helper: the numbers of the characteristic sums of a square, by rounds; quotients by small integers. Conditions: none. -/
import Derived.Test.YtmjlhmbnaifhaacUnitFacts
import Derived.Test.YtmjlhmbnaifhaacZeroFacts
import Derived.Test.YtmjlhmbnaifhaacMulImpl
import Derived.Test.YtmjlhmbnaifhaacTraceKey
import Derived.Test.YtmjlhmbnaifhaacShiftedImpl
set_option linter.unusedVariables false
set_option linter.unusedSimpArgs false
namespace Go.Proofs.Ytmjlhmbnaifhaac
open Go.RowKit Ieee

theorem read_sq (x : Nat) : Ieee.single.read x = (if x % 2147483648 < 8388608 then .number (x / 2147483648 % 2 == 1) (x % 2147483648) (-149) else if x % 2147483648 < 2139095040 then .number (x / 2147483648 % 2 == 1) (8388608 + x % 2147483648 % 8388608) (-149 + (x % 2147483648 / 8388608 - 1 : Nat)) else if x % 2147483648 = 2139095040 then .infinity (x / 2147483648 % 2 == 1) else .nan (x / 2147483648 % 2 == 1) (x % 2147483648 - 2139095040)) := by
  obtain ⟨e1, e2, e3, e4⟩ := single_consts
  unfold Ieee.Format.read
  simp only [e1, e2, e3, e4]
theorem fin_mod (y : Nat) : finite .f32 (some y) = decide (y % 2147483648 < 2139095040) := by
  unfold finite
  simp only
  have hd : FloatKind.f32.decode y = single.read y := rfl
  rw [hd, read_sq]
  by_cases h1 : y % 2147483648 < 8388608
  · rw [if_pos h1, decide_eq_true (by omega)]
  · rw [if_neg h1]
    by_cases h2 : y % 2147483648 < 2139095040
    · rw [if_pos h2, decide_eq_true h2]
    · rw [if_neg h2, decide_eq_false h2]
      by_cases h3 : y % 2147483648 = 2139095040
      · rw [if_pos h3]
      · rw [if_neg h3]
theorem fin_neg (x : Nat) : finite .f32 (fneg .f32 (some x)) = finite .f32 (some x) := by
  show finite .f32 (some (Op.negFloat .f32 x)) = _
  rw [fin_mod, fin_mod]
  have hm : Op.negFloat .f32 x % 2147483648 = x % 2147483648 := by
    have hs : FloatKind.f32.format.signWeight = 2147483648 := rfl
    have h : Op.negFloat .f32 x % FloatKind.f32.format.signWeight = x % FloatKind.f32.format.signWeight := by
      unfold Op.negFloat Ieee.Format.signWeight
      rw [Nat.xor_mod_two_pow, Nat.mod_self, Nat.xor_zero]
    rw [hs] at h
    exact h
  rw [hm]
/-- A number through one. -/
theorem quo_one {x : Nat} (hx : x < 4294967296) (hf : finite .f32 (some x) = true) : fop .quo .f32 (some x) (some 1065353216) = some x := by
  rcases read_single x with ⟨s, hr⟩ | ⟨s, t, hr⟩ | ⟨s, m, i, hr, hm0, h1, h2⟩
  · exfalso; unfold finite at hf; simp only at hf; have hr' : FloatKind.f32.decode x = .infinity s := hr; rw [hr'] at hf; cases hf
  · exfalso; unfold finite at hf; simp only at hf; have hr' : FloatKind.f32.decode x = .nan s t := hr; rw [hr'] at hf; cases hf
  · have hws := write_same hx hr
    obtain ⟨_, _, _, hm, _, _⟩ := write_read_single hr
    have e0 : fop .quo .f32 (some x) (some 1065353216) = ((single.read x).quotient 25 (single.read 1065353216)).map single.write := rfl
    have e1 : single.read 1065353216 = .number false 8388608 (-23) := by decide +kernel
    have hl : m.log2 ≤ 23 := by
      by_cases h0 : m = 0
      · subst h0; decide
      · have := (Nat.log2_lt h0).2 (show m < 2 ^ 24 by omega); omega
    have l23 : Nat.log2 8388608 = 23 := by decide +kernel
    rw [e0, e1, hr]
    simp only [Datum.quotient, l23, Option.map_some]
    rw [if_neg (by decide)]
    simp only [Option.map_some]
    obtain ⟨p, hp⟩ : ∃ p, 25 + 23 - m.log2 = p + 23 := ⟨25 - m.log2, by omega⟩
    rw [hp]
    have e3 : m <<< (p + 23) = m <<< p * 8388608 := by rw [Nat.shiftLeft_add, Nat.shiftLeft_eq (m <<< p) 23]
    rw [e3, Nat.mul_div_cancel _ (by decide), Nat.mul_mod_left]
    have e2 : (2 * (m <<< p) + ((0 : Nat) != 0).toNat) = m <<< (p + 1) := by
      show 2 * (m <<< p) + 0 = m <<< (p + 1)
      rw [Nat.shiftLeft_add, Nat.shiftLeft_eq (m <<< p) 1]; omega
    rw [e2]
    show some (single.nearest (s ^^ false) (m <<< (p + 1)) (i - -23 - ((p + 23 : Nat) : Int) - 1)) = some x
    have e4 : i - -23 - ((p + 23 : Nat) : Int) - 1 = i - ((p + 1 : Nat) : Int) := by omega
    rw [e4, nearest_shift, Bool.xor_false, hws]
/-- The number of round k. -/
def sgV (k : Nat) (T : Option Nat) : Option Nat := fop .quo .f32 (fneg .f32 T) (some (floatOfInt .f32 ((k : Int) + 1)))
def smallQ (q : Nat) : Bool := match single.read q with | .number false n f => decide (n ≠ 0) && (decide (n < 16777216) && decide ((1 : Int) ≤ (n.log2 : Int) + f)) | _ => false
theorem small_all : ∀ k : Nat, k < 12 → 1 ≤ k → smallQ (floatOfInt .f32 ((k : Int) + 1)) = true := by decide +kernel
theorem quo_small {y q : Nat} (hy : finite .f32 (some y) = true) (hs : smallQ q = true) : finite .f32 (fop .quo .f32 (some y) (some q)) = true := by
  rcases read_single y with ⟨s, hr⟩ | ⟨s, t, hr⟩ | ⟨s, m, i, hr, hm0, h1, h2⟩
  · exfalso; unfold finite at hy; simp only at hy; have hr' : FloatKind.f32.decode y = .infinity s := hr; rw [hr'] at hy; cases hy
  · exfalso; unfold finite at hy; simp only at hy; have hr' : FloatKind.f32.decode y = .nan s t := hr; rw [hr'] at hy; cases hy
  · unfold smallQ at hs
    cases hq : single.read q with
    | nan a b => rw [hq] at hs; cases hs
    | infinity a => rw [hq] at hs; cases hs
    | number a n f =>
      rw [hq] at hs
      cases a with
      | true => cases hs
      | false =>
        simp only [Bool.and_eq_true, decide_eq_true_eq] at hs
        obtain ⟨_, _, _, hm, _, he⟩ := write_read_single hr
        have hlog : m = 0 ∨ (m.log2 : Int) + i < 128 := by
          by_cases h0 : m = 0
          · exact .inl h0
          · have := (Nat.log2_lt h0).2 (show m < 2 ^ 24 by omega)
            exact .inr (by omega)
        exact quo_fin hr hq hs.1 hm hs.2.1 hlog hs.2.2 (by decide)
theorem one_int : floatOfInt .f32 (((0 : Nat) : Int) + 1) = 1065353216 := by decide +kernel
theorem sgV_zero {T : Option Nat} (hf : finite .f32 T = true) (hw : ∀ x, T = some x → x < 4294967296) : sgV 0 T = fneg .f32 T := by
  cases T with
  | none => cases hf
  | some x =>
    unfold sgV
    rw [one_int]
    have hx := hw x rfl
    have hn := fneg_not_nan .f32 x (by simpa [Lit.wf] using hx)
    have hlt := lt32 hn.2
    show fop .quo .f32 (some (Op.negFloat .f32 x)) (some 1065353216) = some (Op.negFloat .f32 x)
    exact quo_one (by omega) (by have := fin_neg x; rw [show fneg .f32 (some x) = some (Op.negFloat .f32 x) from rfl] at this; rw [this]; exact hf)
theorem sgV_fin {k : Nat} (hk : k < 12) {T : Option Nat} (hf : finite .f32 T = true) (hw : ∀ x, T = some x → x < 4294967296) : finite .f32 (sgV k T) = true := by
  by_cases h0 : k = 0
  · subst h0
    rw [sgV_zero hf hw]
    cases T with
    | none => cases hf
    | some x => rw [fin_neg]; exact hf
  · cases T with
    | none => cases hf
    | some x =>
      have hs := small_all k hk (by omega)
      have hnf := fin_neg x
      rw [hf] at hnf
      unfold sgV
      generalize floatOfInt .f32 ((k : Int) + 1) = q at hs ⊢
      exact quo_small (y := Op.negFloat .f32 x) hnf hs
/-- Numbers as they lie in cells. -/
def datG (V : Nat → Option Nat) (t : Nat) : Nat := (V t).getD 0
theorem datG_of {V : Nat → Option Nat} {t y : Nat} (h : FV .f32 y (V t)) (hf : finite .f32 (V t) = true) : y = datG V t := by
  unfold datG
  cases hv : V t with
  | none => rw [hv] at hf; cases hf
  | some x => rw [hv] at h; exact h.eq
theorem fsG_fv {w : World} {a : Option Addr} {n c t : Nat} {Y : Nat → Nat} (h : FS .f32 w a n c Y) (ht : t < n) : FV .f32 (Y t) (vals Y t) := (h.at ht).elim fun _ q => q.elim fun _ q => q.2.2.2
theorem same_datG {w : World} {a : Option Addr} {n c : Nat} {Y : Nat → Nat} {V : Nat → Option Nat} (h : FS .f32 w a n c Y) (e : ∀ t, t < n → vals Y t = V t) (hf : allFin V n = true) : ∀ t, t < n → Y t = datG V t := fun t ht =>
  datG_of (FV.of_eq (fsG_fv h ht) (e t ht)) (allFin_lt hf ht)
theorem FS.sameG {k : FloatKind} {w : World} {a : Option Addr} {n c : Nat} {Z Y : Nat → Nat} (h : FS k w a n c Z) (e : ∀ j, j < n → Z j = Y j) : FS k w a n c Y :=
  ⟨h.1, h.2.1, fun i hi => by
    obtain ⟨b, off, q1, q2, q3, q4⟩ := h.2.2 i hi
    exact ⟨b, off, q1, q2, by rw [← e i hi]; exact q3, by rw [← e i hi]; exact q4⟩⟩
def sR (r : Nat) (o : Option (Nat → Nat)) : Int := if o.isSome then (r : Int) else 0
def sNn (N : Nat) (o : Option (Nat → Nat)) : Nat := if o.isSome then N else 0
def sDd (o : Option (Nat → Nat)) : Nat → Nat := o.getD (fun _ => 0)
def goodG (N : Nat) (o : Option (Nat → Nat)) : Prop := ∀ D, o = some D → allFin (vals D) N = true
/-- The square of the next round. -/
def sgW (r : Nat) (D : Nat → Nat) (l : Nat) : Nat → Option Nat := diagV r (vals D) (some l)
def sgP (r N : Nat) (Z D : Nat → Nat) (l : Nat) : Option (Nat → Nat) :=
  if allFin (sgW r D l) N && allFin (mulV r r Z (datG (sgW r D l))) N then some (datG (mulV r r Z (datG (sgW r D l)))) else none
def sgT (r : Nat) (D : Nat → Nat) : Option Nat := tr (vals D) r r
/-- The square and the numbers behind k rounds. -/
def sgS (r N : Nat) (Z : Nat → Nat) : Nat → Option ((Nat → Nat) × (Nat → Nat))
  | 0 => some (Z, fun _ => 0)
  | k + 1 => match sgS r N Z k with
    | none => none
    | some s => match (if k = 0 then some s.1 else sgP r N Z s.1 (s.2 (k - 1))) with
      | none => none
      | some D => if finite .f32 (sgT r D) then some (D, fun t => if t = k then datG (fun _ => sgV k (sgT r D)) 0 else s.2 t) else none
theorem sg_none {r N : Nat} {Z : Nat → Nat} {j : Nat} (h : sgS r N Z j = none) : ∀ i, sgS r N Z (j + i) = none
  | 0 => h
  | i + 1 => by
    show (match sgS r N Z (j + i) with | none => none | some s => _) = none
    rw [sg_none h i]
def SqG (r N : Nat) (o : Option (Nat → Nat)) (w : World) (e : Ending) (w' : World) : Prop :=
  ∃ g d, e = .returned (.tuple #[.agg #[.int .i64 (sR r o), .int .i64 (sR r o), .slice g (sNn N o) d], .bool o.isSome]) ∧ Own 38 .f32 w.heap.size w'.heap.size w' g (sNn N o) d (sDd o) ∧ goodG N o ∧ Below w.heap.size w w'
theorem SqG.no {r N : Nat} {w : World} {e : Ending} {w' : World} (h : MatOwn false 0 0 0 (fun _ => none) w e w') : SqG r N none w e w' := by
  obtain ⟨g, d, Y, e1, o, v, b⟩ := h
  exact ⟨g, d, e1, o.same (fun j hj => absurd hj (Nat.not_lt_zero _)), fun D hD => (by cases hD), b⟩
theorem fsG_dat {w : World} {a : Option Addr} {n c : Nat} {Y : Nat → Nat} {V : Nat → Option Nat} (h : FS .f32 w a n c Y) (e : ∀ t, t < n → vals Y t = V t) (hf : allFin V n = true) : allFin (vals (datG V)) n = true := by
  have hs := same_datG h e hf
  have hc : ∀ t, t < n → vals (datG V) t = V t := fun t ht => by
    show cn .f32 (datG V t) = V t
    rw [← hs t ht]
    exact e t ht
  rw [allFin_congr hc]
  exact hf
theorem SqG.of {r N : Nat} {V : Nat → Option Nat} {w : World} {e : Ending} {w' : World} (h : OwnIf (allFin V N) r r N V w e w') : SqG r N (if allFin V N then some (datG V) else none) w e w' := by
  cases hf : allFin V N with
  | true =>
    rw [hf] at h
    obtain ⟨g, d, Y, e1, o, v, b⟩ := h
    refine ⟨g, d, e1, o.same (same_datG o.fs v hf), ?_, b⟩
    intro D hD
    have hD' : datG V = D := Option.some.inj hD
    subst hD'
    exact fsG_dat o.fs v hf
  | false =>
    rw [hf] at h
    exact SqG.no h
variable {r N : Nat}
theorem mulG_I (h1 : 1 ≤ r) (h12 : r ≤ 12) (hn : N = r * r) (Z D Y : Nat → Nat) (l : Nat) (hZ : allFin (vals Z) N = true) (p1 o1 c g d : Nat) (W : World) (h : FS .f32 W (some ⟨p1, o1, none⟩) N c Z) (h2 : FS .f32 W (some ⟨g, 0, none⟩) N d Y) (hY : ∀ t, t < N → vals Y t = sgW r D l t) :
    Calls Try.prog 57 #[.agg #[.int .i64 r, .int .i64 r, .slice (some ⟨p1, o1, none⟩) N c], .agg #[.int .i64 r, .int .i64 r, .slice (some ⟨g, 0, none⟩) N d]] W (SqG r N (sgP r N Z D l) W) := by
  have h144 : N ≤ 144 := by have := sides_le h12 h12; omega
  unfold sgP
  have hva : validB r r N (vals Z) = true := by rw [validB_nat h1 h12 h1 h12 hn]; exact hZ
  cases hf : allFin (sgW r D l) N with
  | false =>
    have hvb : validB r r N (vals Y) = false := by rw [validB_nat h1 h12 h1 h12 hn, allFin_congr hY]; exact hf
    exact (implMul_no _ _ _ _ _ _ _ _ _ _ _ _ W (by omega) (by omega) h h2 (by unfold mulB; rw [hvb]; simp)).mono fun e w' hh => SqG.no hh
  | true =>
    have hvb : validB r r N (vals Y) = true := by rw [validB_nat h1 h12 h1 h12 hn, allFin_congr hY]; exact hf
    have h3 := FS.sameG h2 (same_datG h2 hY hf)
    have hvc : validB r r N (vals (datG (sgW r D l))) = true := by rw [validB_nat h1 h12 h1 h12 hn]; exact fsG_dat h2 hY hf
    rw [Bool.true_and]
    exact (implMul_yes r r r N N N p1 o1 c g 0 d Z (datG (sgW r D l)) W h1 h12 h1 h12 h1 h12 hn hn hn (by unfold mulB; rw [hva, hvc, decide_eq_true rfl]; rfl) h h3).mono fun e w' hh => SqG.of hh
end Go.Proofs.Ytmjlhmbnaifhaac
