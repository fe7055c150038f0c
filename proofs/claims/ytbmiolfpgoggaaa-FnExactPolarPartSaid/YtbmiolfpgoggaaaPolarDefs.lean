/- Helper: squares by rounds, as they lie in cells: flips, products and weighed sums of squares that may have failed. Conditions: none. -/
import Derived.Test.YtbmiolfpgoggaaaUnitVec
import Derived.Test.YtbmiolfpgoggaaaFlipKey
import Derived.Test.YtbmiolfpgoggaaaMulKey
import Derived.Test.YtbmiolfpgoggaaaWeighKey
set_option linter.unusedVariables false
set_option linter.unusedSimpArgs false
namespace Go.Proofs.Ytbmiolfpgoggaaa
open Go.RowKit

/-- Numbers as they lie in cells. -/
def datP (V : Nat → Option Nat) (t : Nat) : Nat := (V t).getD 0
theorem datP_of {V : Nat → Option Nat} {t y : Nat} (h : FV .f32 y (V t)) (hf : finite .f32 (V t) = true) : y = datP V t := by
  unfold datP
  cases hv : V t with
  | none => rw [hv] at hf; cases hf
  | some x => rw [hv] at h; exact h.eq
theorem fsP_fv {w : World} {a : Option Addr} {n c t : Nat} {Y : Nat → Nat} (h : FS .f32 w a n c Y) (ht : t < n) : FV .f32 (Y t) (vals Y t) := (h.at ht).elim fun _ q => q.elim fun _ q => q.2.2.2
theorem same_datP {w : World} {a : Option Addr} {n c : Nat} {Y : Nat → Nat} {V : Nat → Option Nat} (h : FS .f32 w a n c Y) (e : ∀ t, t < n → vals Y t = V t) (hf : allFin V n = true) : ∀ t, t < n → Y t = datP V t := fun t ht =>
  datP_of (FV.of_eq (fsP_fv h ht) (e t ht)) (allFin_lt hf ht)
theorem FS.sameQ {k : FloatKind} {w : World} {a : Option Addr} {n c : Nat} {Z Y : Nat → Nat} (h : FS k w a n c Z) (e : ∀ j, j < n → Z j = Y j) : FS k w a n c Y :=
  ⟨h.1, h.2.1, fun i hi => by
    obtain ⟨b, off, q1, q2, q3, q4⟩ := h.2.2 i hi
    exact ⟨b, off, q1, q2, by rw [← e i hi]; exact q3, by rw [← e i hi]; exact q4⟩⟩
theorem vals_datP {V : Nat → Option Nat} {n t : Nat} {y : Nat} (hf : allFin V n = true) (ht : t < n) (h : FV .f32 y (V t)) : vals (datP V) t = V t := by
  have := datP_of h (allFin_lt hf ht)
  show cn .f32 (datP V t) = V t
  rw [← this]; exact h.1
/-- A square that may have failed. -/
def qR (r : Nat) (o : Option (Nat → Nat)) : Int := if o.isSome then (r : Int) else 0
def qN (N : Nat) (o : Option (Nat → Nat)) : Nat := if o.isSome then N else 0
def qD (o : Option (Nat → Nat)) : Nat → Nat := o.getD (fun _ => 0)
def good (N : Nat) (o : Option (Nat → Nat)) : Prop := ∀ D, o = some D → allFin (vals D) N = true
def optM (N : Nat) (V : Nat → Option Nat) : Option (Nat → Nat) := if allFin V N then some (datP V) else none
def flipO (r : Nat) (o : Option (Nat → Nat)) : Option (Nat → Nat) := o.map (flipZ r r)
def mulO (r N : Nat) : Option (Nat → Nat) → Option (Nat → Nat) → Option (Nat → Nat)
  | some A, some B => optM N (mulV r r A B)
  | _, _ => none
def weighO (N x y : Nat) : Option (Nat → Nat) → Option (Nat → Nat) → Option (Nat → Nat)
  | some A, some B => optM N (weighV x y A B)
  | _, _ => none
def roundO (r N x y : Nat) (o : Option (Nat → Nat)) : Option (Nat → Nat) := weighO N x y o (mulO r N o (mulO r N (flipO r o) o))
def polO (r N x y : Nat) (D0 : Nat → Nat) : Nat → Option (Nat → Nat)
  | 0 => some D0
  | k + 1 => roundO r N x y (polO r N x y D0 k)
theorem round_none {r N x y : Nat} : roundO r N x y none = none := rfl
theorem pol_none {r N x y : Nat} {D0 : Nat → Nat} {j : Nat} (h : polO r N x y D0 j = none) : ∀ i, polO r N x y D0 (j + i) = none
  | 0 => h
  | i + 1 => by
    show roundO r N x y (polO r N x y D0 (j + i)) = none
    rw [pol_none h i, round_none]
def SqO (r N : Nat) (o : Option (Nat → Nat)) (w : World) (e : Ending) (w' : World) : Prop :=
  ∃ g d, e = .returned (.tuple #[.agg #[.int .i64 (qR r o), .int .i64 (qR r o), .slice g (qN N o) d], .bool o.isSome]) ∧ Own 34 .f32 w.heap.size w'.heap.size w' g (qN N o) d (qD o) ∧ good N o ∧ Below w.heap.size w w'
def SqB (r N : Nat) (o : Option (Nat → Nat)) (w : World) (e : Ending) (w' : World) : Prop :=
  ∃ g d, e = .returned (.tuple #[.agg #[.int .i64 (qR r o), .int .i64 (qR r o), .slice g (qN N o) d], .bool o.isSome]) ∧ FS .f32 w' g (qN N o) d (qD o) ∧ good N o ∧ Below w.heap.size w w'
theorem optM_fin {N : Nat} {V : Nat → Option Nat} (hV : allFin V N = true) (hf : ∀ t, t < N → vals (datP V) t = V t) : allFin (vals (datP V)) N = true := by
  rw [allFin_congr hf]; exact hV
theorem SqO.of {r N : Nat} {V : Nat → Option Nat} {w : World} {e : Ending} {w' : World} (h : OwnIf (allFin V N) r r N V w e w') : SqO r N (optM N V) w e w' := by
  unfold optM
  cases hf : allFin V N with
  | true =>
    rw [hf] at h
    obtain ⟨g, d, Y, e1, o, v, b⟩ := h
    have hs := same_datP o.fs v hf
    refine ⟨g, d, e1, o.same hs, ?_, b⟩
    intro D hD
    have hD' : datP V = D := Option.some.inj hD
    subst hD'
    exact optM_fin hf (fun t ht => vals_datP hf ht (FV.of_eq (fsP_fv o.fs ht) (v t ht)))
  | false =>
    rw [hf] at h
    obtain ⟨g, d, Y, e1, o, v, b⟩ := h
    exact ⟨g, d, e1, o.same (fun j hj => absurd hj (Nat.not_lt_zero _)), fun D hD => (by cases hD), b⟩
theorem SqB.of {r N : Nat} {V : Nat → Option Nat} {w : World} {e : Ending} {w' : World} (h : BelIf (allFin V N) r r N V w e w') : SqB r N (optM N V) w e w' := by
  unfold optM
  cases hf : allFin V N with
  | true =>
    rw [hf] at h
    obtain ⟨g, d, Y, e1, o, v, b⟩ := h
    have hs := same_datP o v hf
    refine ⟨g, d, e1, FS.sameQ o hs, ?_, b⟩
    intro D hD
    have hD' : datP V = D := Option.some.inj hD
    subst hD'
    exact optM_fin hf (fun t ht => vals_datP hf ht (FV.of_eq (fsP_fv o ht) (v t ht)))
  | false =>
    rw [hf] at h
    obtain ⟨g, d, Y, e1, o, v, b⟩ := h
    exact ⟨g, d, e1, FS.sameQ o (fun j hj => absurd hj (Nat.not_lt_zero _)), fun D hD => (by cases hD), b⟩
theorem SqO.no {r N : Nat} {w : World} {e : Ending} {w' : World} (h : MatOwn false 0 0 0 (fun _ => none) w e w') : SqO r N none w e w' := by
  obtain ⟨g, d, Y, e1, o, v, b⟩ := h
  exact ⟨g, d, e1, o.same (fun j hj => absurd hj (Nat.not_lt_zero _)), fun D hD => (by cases hD), b⟩
theorem SqB.no {r N : Nat} {w : World} {e : Ending} {w' : World} (h : MatBel false 0 0 0 (fun _ => none) w e w') : SqB r N none w e w' := by
  obtain ⟨g, d, Y, e1, o, v, b⟩ := h
  exact ⟨g, d, e1, FS.sameQ o (fun j hj => absurd hj (Nat.not_lt_zero _)), fun D hD => (by cases hD), b⟩
theorem valid_zero {V : Nat → Option Nat} : validB 0 0 0 V = false := by unfold validB; simp [sideB]
theorem flip_fin {r N : Nat} {D : Nat → Nat} (hn : N = r * r) (h : allFin (vals D) N = true) : allFin (vals (flipZ r r D)) N = true := by
  have key : ∀ m, m ≤ N → allFin (vals (flipZ r r D)) m = true := by
    intro m
    induction m with
    | zero => intro _; rfl
    | succ m ih =>
      intro hm
      have hd : m / r < r := Nat.div_lt_of_lt_mul (by rw [← hn]; omega)
      have hr : 0 < r := Nat.lt_of_le_of_lt (Nat.zero_le _) hd
      have hp := place_lt (Nat.mod_lt m hr) hd
      rw [← hn] at hp
      have hf := allFin_lt h hp
      have h1 := ih (by omega)
      have h2 : finite .f32 (vals (flipZ r r D) m) = true := hf
      simp only [allFin, h1, h2, Bool.and_self]
  exact key N (Nat.le_refl _)
variable {r N : Nat}
theorem flip_cI (h1 : 1 ≤ r) (h12 : r ≤ 12) (hn : N = r * r) (o : Option (Nat → Nat)) (hg : good N o) (a : Option Addr) (c : Nat) (W : World) (h : FS .f32 W a (qN N o) c (qD o)) :
    Calls Try.prog 26 #[.agg #[.int .i64 (qR r o), .int .i64 (qR r o), .slice a (qN N o) c]] W (SqO r N (flipO r o) W) := by
  cases o with
  | none => exact (implFlip_no 0 0 a 0 c (fun _ => 0) W (by omega) h valid_zero).mono fun e w' hh => SqO.no hh
  | some D =>
    have hf := hg D rfl
    have hpos : 0 < N := by rw [hn]; exact Nat.mul_pos h1 h1
    obtain ⟨p, o, rfl, _⟩ := h.at (show 0 < qN N (some D) from hpos)
    have hv : validB r r N (vals D) = true := by rw [validB_nat h1 h12 h1 h12 hn]; exact hf
    refine (implFlip_yes r r N p o c D W h1 h12 h1 h12 hn hv h).mono ?_
    rintro e w' ⟨g, d, Y, e1, o2, v, b⟩
    have hff := flip_fin hn hf
    refine ⟨g, d, e1, o2.same (fun t ht => ?_), ?_, b⟩
    · have hY := fsP_fv o2.fs ht
      have hx := allFin_lt hff ht
      have e2 := (cn_fin hx).1
      have e3 : vals Y t = some (flipZ r r D t) := (v t ht).trans e2
      rw [e3] at hY
      exact hY.eq
    · intro D' hD'
      have : flipZ r r D = D' := Option.some.inj hD'
      subst this
      exact hff
theorem mul_cI (h1 : 1 ≤ r) (h12 : r ≤ 12) (hn : N = r * r) (o p : Option (Nat → Nat)) (hg : good N o) (hp : good N p) (a : Option Addr) (c : Nat) (b : Option Addr) (d : Nat) (W : World) (h : FS .f32 W a (qN N o) c (qD o)) (h2 : FS .f32 W b (qN N p) d (qD p)) :
    Calls Try.prog 27 #[.agg #[.int .i64 (qR r o), .int .i64 (qR r o), .slice a (qN N o) c], .agg #[.int .i64 (qR r p), .int .i64 (qR r p), .slice b (qN N p) d]] W (SqO r N (mulO r N o p) W) := by
  have h144 : N ≤ 144 := by have := sides_le h12 h12; omega
  have hle : ∀ o, qN N o ≤ 1048576 := fun o => by unfold qN; split <;> omega
  have hpos : 0 < N := by rw [hn]; exact Nat.mul_pos h1 h1
  cases o with
  | none => exact (implMul_no _ _ _ _ _ _ _ _ _ _ _ _ W (hle none) (hle p) h h2 (by unfold mulB; rw [show validB (qR r none) (qR r none) (qN N none) (vals (qD none)) = false from valid_zero]; rfl)).mono fun e w' hh => SqO.no hh
  | some A =>
    cases p with
    | none => exact (implMul_no _ _ _ _ _ _ _ _ _ _ _ _ W (hle (some A)) (hle none) h h2 (by unfold mulB; rw [show validB (qR r none) (qR r none) (qN N none) (vals (qD none)) = false from valid_zero]; simp)).mono fun e w' hh => SqO.no hh
    | some B =>
      obtain ⟨p1, o1, rfl, _⟩ := h.at (show 0 < qN N (some A) from hpos)
      obtain ⟨p2, o2, rfl, _⟩ := h2.at (show 0 < qN N (some B) from hpos)
      have hv : mulB r r N (vals A) r r N (vals B) = true := by
        unfold mulB
        rw [validB_nat h1 h12 h1 h12 hn, validB_nat h1 h12 h1 h12 hn, hg A rfl, hp B rfl, decide_eq_true rfl]; rfl
      exact (implMul_yes r r r N N N p1 o1 c p2 o2 d A B W h1 h12 h1 h12 h1 h12 hn hn hn hv h h2).mono fun e w' hh => SqO.of hh
theorem mul_cS (h1 : 1 ≤ r) (h12 : r ≤ 12) (hn : N = r * r) (o p : Option (Nat → Nat)) (hg : good N o) (hp : good N p) (a : Option Addr) (c : Nat) (b : Option Addr) (d : Nat) (W : World) (h : FS .f32 W a (qN N o) c (qD o)) (h2 : FS .f32 W b (qN N p) d (qD p)) :
    Calls Try.prog 17 #[.agg #[.int .i64 (qR r o), .int .i64 (qR r o), .slice a (qN N o) c], .agg #[.int .i64 (qR r p), .int .i64 (qR r p), .slice b (qN N p) d]] W (SqB r N (mulO r N o p) W) := by
  have h144 : N ≤ 144 := by have := sides_le h12 h12; omega
  have hle : ∀ o, qN N o ≤ 1048576 := fun o => by unfold qN; split <;> omega
  have hpos : 0 < N := by rw [hn]; exact Nat.mul_pos h1 h1
  cases o with
  | none => exact (specMul_no _ _ _ _ _ _ _ _ _ _ _ _ W (hle none) (hle p) h h2 (by unfold mulB; rw [show validB (qR r none) (qR r none) (qN N none) (vals (qD none)) = false from valid_zero]; rfl)).mono fun e w' hh => SqB.no hh
  | some A =>
    cases p with
    | none => exact (specMul_no _ _ _ _ _ _ _ _ _ _ _ _ W (hle (some A)) (hle none) h h2 (by unfold mulB; rw [show validB (qR r none) (qR r none) (qN N none) (vals (qD none)) = false from valid_zero]; simp)).mono fun e w' hh => SqB.no hh
    | some B =>
      obtain ⟨p1, o1, rfl, _⟩ := h.at (show 0 < qN N (some A) from hpos)
      obtain ⟨p2, o2, rfl, _⟩ := h2.at (show 0 < qN N (some B) from hpos)
      have hv : mulB r r N (vals A) r r N (vals B) = true := by
        unfold mulB
        rw [validB_nat h1 h12 h1 h12 hn, validB_nat h1 h12 h1 h12 hn, hg A rfl, hp B rfl, decide_eq_true rfl]; rfl
      exact (specMul_yes r r r N N N p1 o1 c p2 o2 d A B W h1 h12 h1 h12 h1 h12 hn hn hn hv (hg A rfl) (hp B rfl) h h2).mono fun e w' hh => SqB.of hh
theorem weigh_cI (h1 : 1 ≤ r) (h12 : r ≤ 12) (hn : N = r * r) (x y : Nat) (wx : (Lit.float .f32 x).wf = true) (wy : (Lit.float .f32 y).wf = true) (hx : finite .f32 (cn .f32 x) = true) (hy : finite .f32 (cn .f32 y) = true) (o p : Option (Nat → Nat)) (hg : good N o) (hp : good N p) (a : Option Addr) (c : Nat) (b : Option Addr) (d : Nat) (W : World) (h : FS .f32 W a (qN N o) c (qD o)) (h2 : FS .f32 W b (qN N p) d (qD p)) :
    Calls Try.prog 28 #[.agg #[.int .i64 (qR r o), .int .i64 (qR r o), .slice a (qN N o) c], .agg #[.int .i64 (qR r p), .int .i64 (qR r p), .slice b (qN N p) d], .float .f32 x, .float .f32 y] W (SqO r N (weighO N x y o p) W) := by
  have h144 : N ≤ 144 := by have := sides_le h12 h12; omega
  have hle : ∀ o, qN N o ≤ 1048576 := fun o => by unfold qN; split <;> omega
  have hpos : 0 < N := by rw [hn]; exact Nat.mul_pos h1 h1
  cases o with
  | none => exact (implWeigh_no0 x y _ _ _ _ _ _ _ _ _ _ _ _ W wx wy (hle none) (hle p) h h2 valid_zero).mono fun e w' hh => SqO.no hh
  | some A =>
    have hvA : validB r r N (vals A) = true := by rw [validB_nat h1 h12 h1 h12 hn]; exact hg A rfl
    cases p with
    | none => exact (implWeigh_no1 x y _ _ _ _ _ _ _ _ _ _ _ _ W wx wy (hle (some A)) (hle none) h h2 hvA valid_zero).mono fun e w' hh => SqO.no hh
    | some B =>
      have hvB : validB r r N (vals B) = true := by rw [validB_nat h1 h12 h1 h12 hn]; exact hp B rfl
      obtain ⟨p1, o1, rfl, _⟩ := h.at (show 0 < qN N (some A) from hpos)
      obtain ⟨p2, o2, rfl, _⟩ := h2.at (show 0 < qN N (some B) from hpos)
      exact (implWeigh_yes r r N x y p1 o1 c p2 o2 d A B W h1 h12 h1 h12 hn wx wy hvA hvB hx hy h h2).mono fun e w' hh => SqO.of hh
theorem weigh_cS (h1 : 1 ≤ r) (h12 : r ≤ 12) (hn : N = r * r) (x y : Nat) (wx : (Lit.float .f32 x).wf = true) (wy : (Lit.float .f32 y).wf = true) (hx : finite .f32 (cn .f32 x) = true) (hy : finite .f32 (cn .f32 y) = true) (o p : Option (Nat → Nat)) (hg : good N o) (hp : good N p) (a : Option Addr) (c : Nat) (b : Option Addr) (d : Nat) (W : World) (h : FS .f32 W a (qN N o) c (qD o)) (h2 : FS .f32 W b (qN N p) d (qD p)) :
    Calls Try.prog 18 #[.agg #[.int .i64 (qR r o), .int .i64 (qR r o), .slice a (qN N o) c], .agg #[.int .i64 (qR r p), .int .i64 (qR r p), .slice b (qN N p) d], .float .f32 x, .float .f32 y] W (SqB r N (weighO N x y o p) W) := by
  have h144 : N ≤ 144 := by have := sides_le h12 h12; omega
  have hle : ∀ o, qN N o ≤ 1048576 := fun o => by unfold qN; split <;> omega
  have hpos : 0 < N := by rw [hn]; exact Nat.mul_pos h1 h1
  cases o with
  | none => exact (specWeigh_no0 x y _ _ _ _ _ _ _ _ _ _ _ _ W wx wy (hle none) (hle p) h h2 valid_zero).mono fun e w' hh => SqB.no hh
  | some A =>
    have hvA : validB r r N (vals A) = true := by rw [validB_nat h1 h12 h1 h12 hn]; exact hg A rfl
    cases p with
    | none => exact (specWeigh_no1 x y _ _ _ _ _ _ _ _ _ _ _ _ W wx wy (hle (some A)) (hle none) h h2 hvA valid_zero).mono fun e w' hh => SqB.no hh
    | some B =>
      have hvB : validB r r N (vals B) = true := by rw [validB_nat h1 h12 h1 h12 hn]; exact hp B rfl
      obtain ⟨p1, o1, rfl, _⟩ := h.at (show 0 < qN N (some A) from hpos)
      obtain ⟨p2, o2, rfl, _⟩ := h2.at (show 0 < qN N (some B) from hpos)
      exact (specWeigh_yes r r N x y p1 o1 c p2 o2 d A B W h1 h12 h1 h12 hn wx wy hvA hvB (hg A rfl) (hp B rfl) hx hy h h2).mono fun e w' hh => SqB.of hh
end Go.Proofs.Ytbmiolfpgoggaaa
