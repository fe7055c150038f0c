/- Helper: rounds of powers, of the program and of its reference. Conditions: none. -/
import Derived.Test.YtadnnfeeainadaaUnitVec
import Derived.Test.YtadnnfeeainadaaRayKey
set_option linter.unusedVariables false
set_option linter.unusedSimpArgs false
namespace Go.Proofs.Ytadnnfeeainadaa
open Go.RowKit

/-- Numbers as they lie in cells. -/
def dat (V : Nat → Option Nat) (t : Nat) : Nat := (V t).getD 0
theorem dat_of {V : Nat → Option Nat} {t y : Nat} (h : FV .f32 y (V t)) (hf : finite .f32 (V t) = true) : y = dat V t := by
  unfold dat
  cases hv : V t with
  | none => rw [hv] at hf; cases hf
  | some x => rw [hv] at h; exact h.eq
theorem FS.sameP {k : FloatKind} {w : World} {a : Option Addr} {n c : Nat} {Z Y : Nat → Nat} (h : FS k w a n c Z) (e : ∀ j, j < n → Z j = Y j) : FS k w a n c Y :=
  ⟨h.1, h.2.1, fun i hi => by
    obtain ⟨b, off, q1, q2, q3, q4⟩ := h.2.2 i hi
    exact ⟨b, off, q1, q2, by rw [← e i hi]; exact q3, by rw [← e i hi]; exact q4⟩⟩
theorem fs_fv {w : World} {a : Option Addr} {n c t : Nat} {Y : Nat → Nat} (h : FS .f32 w a n c Y) (ht : t < n) : FV .f32 (Y t) (vals Y t) := (h.at ht).elim fun _ q => q.elim fun _ q => q.2.2.2
theorem same_dat {w : World} {a : Option Addr} {n c : Nat} {Y : Nat → Nat} {V : Nat → Option Nat} (h : FS .f32 w a n c Y) (e : ∀ t, t < n → vals Y t = V t) (hf : allFin V n = true) : ∀ t, t < n → Y t = dat V t := fun t ht =>
  dat_of (FV.of_eq (fs_fv h ht) (e t ht)) (allFin_lt hf ht)
/-- A list that is told and lies in memory of its own, or is read. -/
def ListOwn (ok : Bool) (n : Nat) (D : Nat → Nat) (w : World) (e : Ending) (w' : World) : Prop :=
  ∃ g d, e = .returned (.tuple #[.slice g n d, .bool ok]) ∧ Own 26 .f32 w.heap.size w'.heap.size w' g n d D ∧ Below w.heap.size w w'
def ListBel (ok : Bool) (n : Nat) (D : Nat → Nat) (w : World) (e : Ending) (w' : World) : Prop :=
  ∃ g d, e = .returned (.tuple #[.slice g n d, .bool ok]) ∧ FS .f32 w' g n d D ∧ Below w.heap.size w w'
def sN (ok : Bool) (n : Nat) : Nat := if ok then n else 0
def sD (ok : Bool) (V : Nat → Option Nat) : Nat → Nat := if ok then dat V else fun _ => 0
theorem ListOwn.of {ok : Bool} {n : Nat} {V : Nat → Option Nat} {w : World} {e : Ending} {w' : World} (h : NOwnIf ok n V w e w') (hf : ok = true → allFin V n = true) : ListOwn ok (sN ok n) (sD ok V) w e w' := by
  cases ok with
  | true => obtain ⟨g, d, Y, e1, o, v, b⟩ := h; exact ⟨g, d, e1, o.same (same_dat o.fs v (hf rfl)), b⟩
  | false => obtain ⟨g, d, Y, e1, o, v, b⟩ := h; exact ⟨g, d, e1, o.same (fun j hj => absurd hj (Nat.not_lt_zero _)), b⟩
theorem ListBel.of {ok : Bool} {n : Nat} {V : Nat → Option Nat} {w : World} {e : Ending} {w' : World} (h : NBelIf ok n V w e w') (hf : ok = true → allFin V n = true) : ListBel ok (sN ok n) (sD ok V) w e w' := by
  cases ok with
  | true => obtain ⟨g, d, Y, e1, o, v, b⟩ := h; exact ⟨g, d, e1, FS.sameP o (same_dat o v (hf rfl)), b⟩
  | false => obtain ⟨g, d, Y, e1, o, v, b⟩ := h; exact ⟨g, d, e1, FS.sameP o (fun j hj => absurd hj (Nat.not_lt_zero _)), b⟩
theorem unit_all {n : Nat} {V : Nat → Option Nat} (h : unitOk n V = true) : allFin (unitV n V) n = true := by
  unfold unitOk at h
  simp only [Bool.and_eq_true] at h
  exact allFin_allU (unit_fin (vec_parts h.1).2.2 h.2.1 h.2.2)
theorem unit_zero {V : Nat → Option Nat} : unitOk 0 V = false := by unfold unitOk vecB; simp
def tOk (R C : Int) (N n2 : Nat) (Z Y : Nat → Nat) : Bool := tmOk R C N n2 (vals Z) (vals Y) && allFin (tv n2 Z Y) R.toNat
theorem t_zero {R C : Int} {N : Nat} {Z Y : Nat → Nat} : tOk R C N 0 Z Y = false := by unfold tOk tmOk vecB; simp
theorem t_size {R C : Int} {N n2 : Nat} {Z Y : Nat → Nat} (h : tOk R C N n2 Z Y = true) : R.toNat ≤ 12 ∧ allFin (tv n2 Z Y) R.toNat = true := by
  unfold tOk tmOk at h
  simp only [Bool.and_eq_true] at h
  obtain ⟨r, c, rfl, rfl, h1, h2, _⟩ := valid_nat h.1.1
  exact ⟨by omega, h.2⟩
/-- The list behind so many rounds. -/
def pL (R C : Int) (N : Nat) (Z : Nat → Nat) (n : Nat) (Y : Nat → Nat) : Nat → Nat × (Nat → Nat)
  | 0 => (sN (unitOk n (vals Y)) n, sD (unitOk n (vals Y)) (unitV n (vals Y)))
  | j + 1 =>
    let s := pL R C N Z n Y j
    let m := sN (tOk R C N s.1 Z s.2) R.toNat
    let D := sD (tOk R C N s.1 Z s.2) (tv s.1 Z s.2)
    (sN (unitOk m (vals D)) m, sD (unitOk m (vals D)) (unitV m (vals D)))
theorem pL_next {R C : Int} {N : Nat} {Z : Nat → Nat} {n : Nat} {Y : Nat → Nat} {j m : Nat} {D : Nat → Nat} (h : pL R C N Z n Y j = (m, D)) : pL R C N Z n Y (j + 1) =
    (sN (unitOk (sN (tOk R C N m Z D) R.toNat) (vals (sD (tOk R C N m Z D) (tv m Z D)))) (sN (tOk R C N m Z D) R.toNat), sD (unitOk (sN (tOk R C N m Z D) R.toNat) (vals (sD (tOk R C N m Z D) (tv m Z D)))) (unitV (sN (tOk R C N m Z D) R.toNat) (vals (sD (tOk R C N m Z D) (tv m Z D))))) := by
  simp only [pL, h]
theorem sN_le {ok : Bool} {n : Nat} : sN ok n ≤ n := by cases ok <;> simp [sN]
theorem tN_le {R C : Int} {N m : Nat} {Z D : Nat → Nat} : sN (tOk R C N m Z D) R.toNat ≤ 12 := by
  cases h : tOk R C N m Z D with
  | false => simp [sN]
  | true => have := (t_size h).1; simp [sN]; omega
theorem pL_zero {R C : Int} {N : Nat} {Z : Nat → Nat} {n : Nat} {Y : Nat → Nat} {j : Nat} (h : (pL R C N Z n Y j).1 = 0) : ∀ i, (pL R C N Z n Y (j + i)).1 = 0
  | 0 => h
  | i + 1 => by
    have ih := pL_zero h i
    obtain ⟨m, D, e⟩ : ∃ m D, pL R C N Z n Y (j + i) = (m, D) := ⟨_, _, rfl⟩
    rw [e] at ih
    have z : m = 0 := ih
    subst z
    show (pL R C N Z n Y ((j + i) + 1)).1 = 0
    rw [pL_next e, t_zero]
    simp [sN]
def rdB (k : Int) : Bool := inB k 0 64
def pwB (R C : Int) (N : Nat) (Z : Nat → Nat) (n : Nat) (Y : Nat → Nat) (k : Int) : Bool := rdB k && rayOk R C N (pL R C N Z n Y k.toNat).1 Z (pL R C N Z n Y k.toNat).2
theorem ray_zero {R C : Int} {N : Nat} {Z D : Nat → Nat} : rayOk R C N 0 Z D = false := by unfold rayOk rayB tkB vecB; simp
theorem pw_zero {R C : Int} {N : Nat} {Z : Nat → Nat} {n : Nat} {Y : Nat → Nat} {k : Int} {j : Nat} (hj : j ≤ k.toNat) (h : (pL R C N Z n Y j).1 = 0) : pwB R C N Z n Y k = false := by
  have h2 := pL_zero h (k.toNat - j)
  rw [show j + (k.toNat - j) = k.toNat by omega] at h2
  unfold pwB
  rw [h2, ray_zero]
  simp
/-- No list that is not as long as the square has rows becomes so. -/
theorem pw_len {R C : Int} {N : Nat} {Z : Nat → Nat} {n : Nat} {Y : Nat → Nat} {k : Int} (hs : squareB R C N (vals Z) = true) (hne : (n : Int) ≠ R) : pwB R C N Z n Y k = false := by
  obtain ⟨r, rfl, rfl, h1, h12, _⟩ := square_nat hs
  have key : ∀ (m : Nat) (D : Nat → Nat), (m : Int) ≠ (r : Int) → rayOk r r N m Z D = false := by
    intro m D hm
    unfold rayOk rayB tkB
    rw [show (((r : Int).toNat : Nat) : Int) = (r : Int) by simp, decide_eq_false hm]
    simp
  have step : ∀ (m : Nat) (D : Nat → Nat), (m : Int) ≠ (r : Int) → tOk r r N m Z D = false := by
    intro m D hm
    unfold tOk tmOk
    rw [decide_eq_false hm]
    simp
  have h0 : ((pL r r N Z n Y 0).1 : Int) ≠ (r : Int) := by
    show ((sN (unitOk n (vals Y)) n : Nat) : Int) ≠ _
    cases unitOk n (vals Y) with
    | true => exact hne
    | false => show ((0 : Nat) : Int) ≠ _; omega
  unfold pwB
  cases hk : k.toNat with
  | zero => rw [key _ _ h0]; simp
  | succ j =>
    have h1z : (pL r r N Z n Y 1).1 = 0 := by
      obtain ⟨m, D, e⟩ : ∃ m D, pL r r N Z n Y 0 = (m, D) := ⟨_, _, rfl⟩
      rw [e] at h0
      rw [pL_next e, step m D h0]
      simp [sN, unit_zero]
    have h2 := pL_zero h1z j
    rw [show 1 + j = j + 1 by omega] at h2
    rw [h2, ray_zero]
    simp
theorem pw_vec {R C : Int} {N : Nat} {Z : Nat → Nat} {n : Nat} {Y : Nat → Nat} {k : Int} (h : vecB n (vals Y) = false) : pwB R C N Z n Y k = false := by
  refine pw_zero (Nat.zero_le _) ?_
  have e : unitOk n (vals Y) = false := by unfold unitOk; rw [h]; rfl
  show sN (unitOk n (vals Y)) n = 0
  rw [e]; rfl
def PowOwn (ok : Bool) (n : Nat) (V : Nat → Option Nat) (X : Option Nat) (w : World) (e : Ending) (w' : World) : Prop :=
  ∃ g d Y r, e = .returned (.tuple #[.slice g n d, .float .f32 r, .bool ok]) ∧ Own 26 .f32 w.heap.size w'.heap.size w' g n d Y ∧ (∀ i, i < n → vals Y i = V i) ∧ FV .f32 r X ∧ Below w.heap.size w w'
def PowBel (ok : Bool) (n : Nat) (V : Nat → Option Nat) (X : Option Nat) (w : World) (e : Ending) (w' : World) : Prop :=
  ∃ g d Y r, e = .returned (.tuple #[.slice g n d, .float .f32 r, .bool ok]) ∧ FS .f32 w' g n d Y ∧ (∀ i, i < n → vals Y i = V i) ∧ FV .f32 r X ∧ Below w.heap.size w w'
theorem PowOwn.no {V : Nat → Option Nat} {w w' : World} (h : Below w.heap.size w w') : PowOwn false 0 V (some 0) w (.returned (.tuple #[.slice none 0 0, .float .f32 0, .bool false])) w' :=
  ⟨none, 0, fun _ => 0, 0, rfl, .inl ⟨rfl, rfl, rfl⟩, fun i hi => absurd hi (Nat.not_lt_zero _), FV.lit (by kernel_rfl) (by kernel_rfl), h⟩
theorem PowBel.no {V : Nat → Option Nat} {w w' : World} (h : Below w.heap.size w w') : PowBel false 0 V (some 0) w (.returned (.tuple #[.slice none 0 0, .float .f32 0, .bool false])) w' :=
  ⟨none, 0, fun _ => 0, 0, rfl, ⟨Nat.le_refl _, Nat.zero_le _, fun i hi => absurd hi (Nat.not_lt_zero _)⟩, fun i hi => absurd hi (Nat.not_lt_zero _), FV.lit (by kernel_rfl) (by kernel_rfl), h⟩
def PowOwnIf (ok : Bool) (n : Nat) (V : Nat → Option Nat) (X : Option Nat) (w : World) (e : Ending) (w' : World) : Prop :=
  match ok with | true => PowOwn true n V X w e w' | false => PowOwn false 0 (fun _ => none) (some 0) w e w'
def PowBelIf (ok : Bool) (n : Nat) (V : Nat → Option Nat) (X : Option Nat) (w : World) (e : Ending) (w' : World) : Prop :=
  match ok with | true => PowBel true n V X w e w' | false => PowBel false 0 (fun _ => none) (some 0) w e w'
theorem PowOwnIf.yes {ok : Bool} {n : Nat} {V : Nat → Option Nat} {X : Option Nat} {w : World} {e : Ending} {w' : World} (h : ok = true) (p : PowOwn true n V X w e w') : PowOwnIf ok n V X w e w' := by subst h; exact p
theorem PowOwnIf.no {ok : Bool} {n : Nat} {V : Nat → Option Nat} {X : Option Nat} {w : World} {e : Ending} {w' : World} (h : ok = false) (p : PowOwn false 0 (fun _ => none) (some 0) w e w') : PowOwnIf ok n V X w e w' := by subst h; exact p
theorem PowBelIf.yes {ok : Bool} {n : Nat} {V : Nat → Option Nat} {X : Option Nat} {w : World} {e : Ending} {w' : World} (h : ok = true) (p : PowBel true n V X w e w') : PowBelIf ok n V X w e w' := by subst h; exact p
theorem PowBelIf.no {ok : Bool} {n : Nat} {V : Nat → Option Nat} {X : Option Nat} {w : World} {e : Ending} {w' : World} (h : ok = false) (p : PowBel false 0 (fun _ => none) (some 0) w e w') : PowBelIf ok n V X w e w' := by subst h; exact p
theorem unit_cI (a : Option Addr) (n c : Nat) (Z : Nat → Nat) (w : World) (hn : n ≤ 1048576) (h : FS .f32 w a n c Z) : Calls Try.prog 33 #[.slice a n c] w (ListOwn (unitOk n (vals Z)) (sN (unitOk n (vals Z)) n) (sD (unitOk n (vals Z)) (unitV n (vals Z))) w) :=
  (implUnit_any a n c Z w hn h).mono fun e w' hh => ListOwn.of hh unit_all
theorem unit_cS (a : Option Addr) (n c : Nat) (Z : Nat → Nat) (w : World) (hn : n ≤ 1048576) (h : FS .f32 w a n c Z) : Calls Try.prog 29 #[.slice a n c] w (ListBel (unitOk n (vals Z)) (sN (unitOk n (vals Z)) n) (sD (unitOk n (vals Z)) (unitV n (vals Z))) w) :=
  (specUnit_any a n c Z w hn h).mono fun e w' hh => ListBel.of hh unit_all
theorem times_cI (R C : Int) (a b : Option Addr) (N c n2 d : Nat) (Z Y : Nat → Nat) (w : World) (hn : N ≤ 1048576) (hm : n2 ≤ 1048576) (h : FS .f32 w a N c Z) (h2 : FS .f32 w b n2 d Y) :
    Calls Try.prog 34 #[.agg #[.int .i64 R, .int .i64 C, .slice a N c], .slice b n2 d] w (ListOwn (tOk R C N n2 Z Y) (sN (tOk R C N n2 Z Y) R.toNat) (sD (tOk R C N n2 Z Y) (tv n2 Z Y)) w) := by
  cases ho : tmOk R C N n2 (vals Z) (vals Y) with
  | false =>
    have e : tOk R C N n2 Z Y = false := by unfold tOk; rw [ho]; rfl
    rw [e]
    exact (implTimes_no R C a b N c n2 d Z Y w hn hm h h2 ho).mono fun e w' hh => ListOwn.of (ok := false) (n := R.toNat) (V := tv n2 Z Y) hh (fun q => by cases q)
  | true =>
    have e : tOk R C N n2 Z Y = allFin (tv n2 Z Y) R.toNat := by unfold tOk; rw [ho]; rfl
    rw [e]
    unfold tmOk at ho
    simp only [Bool.and_eq_true, decide_eq_true_eq] at ho
    obtain ⟨hv, hv2, he⟩ := ho
    obtain ⟨r, c', rfl, rfl, h1, h12, h3, h4, h5, _⟩ := valid_nat hv
    obtain rfl : n2 = c' := by omega
    obtain ⟨p1, o1, rfl, _⟩ := h.at (show 0 < N by rw [h5]; exact Nat.mul_pos h1 h3)
    obtain ⟨p2, o2, rfl, _⟩ := h2.at (show 0 < n2 by omega)
    rw [Int.toNat_natCast]
    exact (implTimes_yes r n2 N p1 o1 c p2 o2 d Z Y w h1 h12 h3 h4 h5 hv hv2 h h2).mono fun e w' hh => ListOwn.of hh (fun q => q)
theorem times_cS (R C : Int) (a b : Option Addr) (N c n2 d : Nat) (Z Y : Nat → Nat) (w : World) (hn : N ≤ 1048576) (hm : n2 ≤ 1048576) (h : FS .f32 w a N c Z) (h2 : FS .f32 w b n2 d Y) :
    Calls Try.prog 30 #[.agg #[.int .i64 R, .int .i64 C, .slice a N c], .slice b n2 d] w (ListBel (tOk R C N n2 Z Y) (sN (tOk R C N n2 Z Y) R.toNat) (sD (tOk R C N n2 Z Y) (tv n2 Z Y)) w) := by
  cases ho : tmOk R C N n2 (vals Z) (vals Y) with
  | false =>
    have e : tOk R C N n2 Z Y = false := by unfold tOk; rw [ho]; rfl
    rw [e]
    exact (specTimes_no R C a b N c n2 d Z Y w hn hm h h2 ho).mono fun e w' hh => ListBel.of (ok := false) (n := R.toNat) (V := tv n2 Z Y) hh (fun q => by cases q)
  | true =>
    have e : tOk R C N n2 Z Y = allFin (tv n2 Z Y) R.toNat := by unfold tOk; rw [ho]; rfl
    rw [e]
    unfold tmOk at ho
    simp only [Bool.and_eq_true, decide_eq_true_eq] at ho
    obtain ⟨hv, hv2, he⟩ := ho
    obtain ⟨r, c', rfl, rfl, h1, h12, h3, h4, h5, _⟩ := valid_nat hv
    obtain rfl : n2 = c' := by omega
    obtain ⟨p1, o1, rfl, _⟩ := h.at (show 0 < N by rw [h5]; exact Nat.mul_pos h1 h3)
    obtain ⟨p2, o2, rfl, _⟩ := h2.at (show 0 < n2 by omega)
    rw [Int.toNat_natCast]
    exact (specTimes_yes r n2 N p1 o1 c p2 o2 d Z Y w h1 h12 h3 h4 h5 hv hv2 h h2).mono fun e w' hh => ListBel.of hh (fun q => q)
theorem isRounds_any (k : Int) (w : World) : Calls Try.prog 32 #[.int .i64 k] w fun e w' => e = .returned (.bool (rdB k)) ∧ w = w' := by
  unfold rdB inB
  by_cases h1 : (0 : Int) ≤ k
  · by_cases h2 : k ≤ 64
    · have d1 := decide_eq_true h1
      have d2 := decide_eq_true h2
      go_enter Try.func32, Try.ntmps32
      go_wp2
      go_ret
      exact ⟨by simp [h1, h2], rfl⟩
    · have d1 := decide_eq_true h1
      have d2 := decide_eq_false h2
      go_enter Try.func32, Try.ntmps32
      go_wp2
      go_ret
      exact ⟨by simp [h1, h2], rfl⟩
  · have d1 := decide_eq_false h1
    go_enter Try.func32, Try.ntmps32
    go_wp2
    go_ret
    exact ⟨by simp [h1], rfl⟩
set_option maxRecDepth 20000 in
set_option maxHeartbeats 2000000 in
theorem implPow_any (R C : Int) (a : Option Addr) (N c : Nat) (Z : Nat → Nat) (b : Option Addr) (n d : Nat) (Y : Nat → Nat) (k : Int) (w : World) (hN : N ≤ 1048576) (hn : n ≤ 1048576) (h : FS .f32 w a N c Z) (h2 : FS .f32 w b n d Y) :
    Calls Try.prog 11 #[.agg #[.int .i64 R, .int .i64 C, .slice a N c], .slice b n d, .int .i64 k] w (PowOwnIf (pwB R C N Z n Y k) (pL R C N Z n Y k.toNat).1 (vals (pL R C N Z n Y k.toNat).2) (rayV R.toNat Z (pL R C N Z n Y k.toNat).2) w) := by
  cases hk : rdB k with
  | false =>
    have HK : Hid (pwB R C N Z n Y k = false) := Lib.hid (by unfold pwB; rw [hk]; rfl)
    go_enter Try.func11, Try.ntmps11
    go_wp2_with fail
    go_at_call 32
    refine (isRounds_any k _).mono ?_
    rw [hk]
    rintro e w1 ⟨rfl, rfl⟩
    clear hk
    go_wp2_with fail
    refine bodyPost_ret (v := .tuple #[.slice none 0 0, .float .f32 0, .bool false]) (by simp [results, Try.results11, go_sem]) rfl ?_
    exact PowOwnIf.no HK.out (PowOwn.no (by repeat first | (with_reducible exact Below.refl _ _) | (with_reducible refine Below.setCell ?_ (by first | exact Nat.le_refl _ | (simp; done) | (simp; omega) | omega) _) | (with_reducible refine Below.alloc ?_ (by first | exact Nat.le_refl _ | (simp; done) | (simp; omega) | omega) _) | (with_reducible refine below_drewN ?_ _) | (with_reducible refine Below.drew ?_)))
  | true =>
    have HK : Hid (∀ v, pwB R C N Z n Y k = v ↔ rayOk R C N (pL R C N Z n Y k.toNat).1 Z (pL R C N Z n Y k.toNat).2 = v) := Lib.hid (fun v => by unfold pwB; rw [hk]; exact Iff.rfl)
    have h0 : 0 ≤ k ∧ k ≤ 64 := by unfold rdB inB at hk; simpa using hk
    obtain ⟨K, rfl⟩ : ∃ K : Nat, k = (K : Int) := ⟨k.toNat, by omega⟩
    have hK64 : K ≤ 64 := by omega
    rw [Int.toNat_natCast] at HK ⊢
    clear h0
    go_enter Try.func11, Try.ntmps11
    go_wp2_with fail
    go_at_call 32
    refine (isRounds_any _ _).mono ?_
    rw [hk]
    rintro e w1 ⟨rfl, rfl⟩
    clear hk
    go_wp2_with fail
    go_at_call 33
    refine (unit_cI b n d Y _ hn (h2.below (by repeat first | (with_reducible exact Below.refl _ _) | (with_reducible refine Below.setCell ?_ (by first | exact Nat.le_refl _ | (simp; done) | (simp; omega) | omega) _) | (with_reducible refine Below.alloc ?_ (by first | exact Nat.le_refl _ | (simp; done) | (simp; omega) | omega) _) | (with_reducible refine below_drewN ?_ _) | (with_reducible refine Below.drew ?_)) (Nat.le_refl _))).mono ?_
    rintro e w2 ⟨g, dg, rfl, o2, b2⟩
    have B2 : Below w.heap.size w w2 := Below.trans (by repeat first | (with_reducible exact Below.refl _ _) | (with_reducible refine Below.setCell ?_ (by first | exact Nat.le_refl _ | (simp; done) | (simp; omega) | omega) _) | (with_reducible refine Below.alloc ?_ (by first | exact Nat.le_refl _ | (simp; done) | (simp; omega) | omega) _) | (with_reducible refine below_drewN ?_ _) | (with_reducible refine Below.drew ?_)) (b2.mono (by simp))
    have s2 : w.heap.size < w2.heap.size := by have := b2.size; simp at this; omega
    have X2 : Box w2 w.heap.size R C a N c := (Box.new _ _ _ _ _ _ _).below b2 (by simp)
    have O2 : Own 26 .f32 w.heap.size w2.heap.size w2 g (sN (unitOk n (vals Y)) n) dg (sD (unitOk n (vals Y)) (unitV n (vals Y))) := Own.mono o2 (by simp) (Nat.le_refl _) (Nat.le_refl _)
    have hp0 : pL R C N Z n Y 0 = (sN (unitOk n (vals Y)) n, sD (unitOk n (vals Y)) (unitV n (vals Y))) := rfl
    have hm0 : sN (unitOk n (vals Y)) n ≤ 1048576 := Nat.le_trans sN_le hn
    clear b2 o2
    generalize sN (unitOk n (vals Y)) n = m0 at O2 hp0 hm0 ⊢
    generalize sD (unitOk n (vals Y)) (unitV n (vals Y)) = D0 at O2 hp0
    have HP0 := Lib.hid hp0
    clear hp0
    go_wp2
    go_loopw [9, 24] (fun v i wr => ∃ (j m : Nat) (D : Nat → Nat) (q : Option Addr) (dq : Nat), j ≤ K ∧ i = .int .i64 j ∧ v = .slice q m dq ∧ m ≤ 1048576 ∧ pL R C N Z n Y j = (m, D) ∧ Own 26 .f32 w.heap.size wr.heap.size wr q m dq D ∧ Below w2.heap.size w2 wr) (fun _ i _ => K - (intOf i).toNat)
    case atStart => exact ⟨0, m0, D0, g, dg, Nat.zero_le _, rfl, rfl, hm0, HP0.out, O2, Below.refl _ _⟩
    case round =>
      obtain ⟨j, m, D, q, dq, hj, rfl, rfl, hm, hp, ho, hb⟩ := hrel
      clear O2 HP0 hm0
      have HP := Lib.hid hp
      have XR := X2.below hb s2
      have BR := B2.trans (hb.mono B2.size)
      have sr : w.heap.size < wr.heap.size := by have := hb.size; omega
      obtain ⟨x0, x1, x2⟩ := XR
      have HB := Lib.hid hb
      clear hp hb
      by_cases hlt : j < K
      · go_wp2_with fail
        go_at_call 34
        refine (times_cI R C a q N c m dq Z D _ hN hm (h.below BR (Nat.le_refl _)) ho.fs).mono ?_
        rintro e w3 ⟨g3, d3, rfl, o3, b3⟩
        have F3 := o3.fs
        have B3 := HB.out.trans (b3.mono HB.out.size)
        have s3 := b3.size
        have hm3 : sN (tOk R C N m Z D) R.toNat ≤ 1048576 := by have := tN_le (R := R) (C := C) (N := N) (m := m) (Z := Z) (D := D); omega
        have hp3 := pL_next HP.out
        clear o3 b3 x0 x1 x2 ho
        generalize sN (tOk R C N m Z D) R.toNat = m3 at F3 hm3 hp3 ⊢
        generalize sD (tOk R C N m Z D) (tv m Z D) = D3 at F3 hp3
        have HP3 := Lib.hid hp3
        clear hp3
        go_wp2_with fail
        go_at_call 33
        refine (unit_cI g3 m3 d3 D3 _ hm3 F3).mono ?_
        rintro e w4 ⟨g4, d4, rfl, o4, b4⟩
        have B4 := Lib.hid (B3.trans (b4.mono B3.size))
        have O4 := Lib.hid (Own.mono o4 (show w.heap.size ≤ w3.heap.size by omega) (Nat.le_refl _) (Nat.le_refl _))
        have hm4 : sN (unitOk m3 (vals D3)) m3 ≤ 1048576 := Nat.le_trans sN_le hm3
        clear b4 o4 F3 B3
        go_wp2
        go_roundw
        case rel => exact ⟨j + 1, _, _, g4, d4, by omega, by go_num, rfl, hm4, HP3.out, O4.out, B4.out⟩
        case measure => simp [intOf]; omega
      · obtain rfl : j = K := by omega
        have F5 := ho.fs
        have HK2 : Hid (∀ v, pwB R C N Z n Y (j : Int) = v ↔ rayOk R C N m Z D = v) := Lib.hid (by have := HK.out; rw [HP.out] at this; exact this)
        have HO := Lib.hid ho
        clear HK ho
        go_wp2_with fail
        go_at_call 35
        have hray := implRay_any R C a q N c m dq Z D wr hN hm (h.below BR (Nat.le_refl _)) F5
        cases hok : rayOk R C N m Z D with
        | false =>
          rw [hok] at hray
          have HN := Lib.hid ((HK2.out _).2 hok)
          clear hok
          refine hray.mono ?_
          rintro e w6 ⟨r6, rfl, hr6, b6⟩
          have B6 := Lib.hid (BR.trans (b6.mono BR.size))
          clear b6 x0 x1 x2
          go_wp2_with fail
          refine bodyPost_ret (v := .tuple #[.slice none 0 0, .float .f32 0, .bool false]) (by simp [results, Try.results11, go_sem]) rfl ?_
          exact PowOwnIf.no HN.out (PowOwn.no B6.out)
        | true =>
          rw [hok] at hray
          have HN := Lib.hid ((HK2.out _).2 hok)
          clear hok
          refine hray.mono ?_
          rintro e w6 ⟨r6, rfl, hr6, b6⟩
          have B6 := Lib.hid (BR.trans (b6.mono BR.size))
          have s6 := b6.size
          have O6 := Lib.hid (Own.mono (HO.out.kept (below_grew b6) (fun q hq => by cases hq)) (Nat.le_refl _) s6 (Nat.le_refl _))
          clear b6 x0 x1 x2
          go_wp2_with fail
          refine bodyPost_ret (v := .tuple #[.slice q m dq, .float .f32 r6, .bool true]) (by simp [results, Try.results11, go_sem]) rfl ?_
          rw [HP.out]
          exact PowOwnIf.yes HN.out ⟨q, dq, D, r6, rfl, O6.out, fun i hi => rfl, hr6, B6.out⟩
theorem l04Rounds_any (k : Int) (w : World) : Calls Try.prog 28 #[.int .i64 k] w fun e w' => e = .returned (.bool (rdB k)) ∧ w = w' := by
  go_enter Try.func28, Try.ntmps28
  go_wp2_with (go_at_call 61; refine (l00In_any _ _ _ _).mono ?_; rintro e w' ⟨rfl, rfl⟩)
  go_ret
  exact ⟨rfl, rfl⟩
set_option maxRecDepth 20000 in
set_option maxHeartbeats 2000000 in
theorem specPow_no (R C : Int) (a : Option Addr) (N c : Nat) (Z : Nat → Nat) (b : Option Addr) (n d : Nat) (Y : Nat → Nat) (k : Int) (w : World) (hN : N ≤ 1048576) (hn : n ≤ 1048576) (h : FS .f32 w a N c Z) (h2 : FS .f32 w b n d Y)
    (ho : (squareB R C N (vals Z) && (vecB n (vals Y) && (decide ((n : Int) = R) && rdB k))) = false) :
    Calls Try.prog 8 #[.agg #[.int .i64 R, .int .i64 C, .slice a N c], .slice b n d, .int .i64 k] w (PowBel false 0 (fun _ => none) (some 0) w) := by
  have X1 := Box.new w 29 R C a N c
  have hl : (n : Int) ≤ 1048576 := by omega
  cases hs : squareB R C N (vals Z) with
  | false =>
    go_enter Try.func8, Try.ntmps8
    go_wp2_with fail
    go_at_call 26
    refine (specSquare_any _ R C a N c Z _ hN X1 (h.below (by repeat first | (with_reducible exact Below.refl _ _) | (with_reducible refine Below.setCell ?_ (by first | exact Nat.le_refl _ | (simp; done) | (simp; omega) | omega) _) | (with_reducible refine Below.alloc ?_ (by first | exact Nat.le_refl _ | (simp; done) | (simp; omega) | omega) _) | (with_reducible refine below_drewN ?_ _) | (with_reducible refine Below.drew ?_)) (Nat.le_refl _))).mono ?_
    rintro e w1 ⟨rfl, m1, rfl⟩
    rw [hs]
    clear hs X1
    go_wp2_with fail
    refine bodyPost_ret (v := .tuple #[.slice none 0 0, .float .f32 0, .bool false]) (by simp [results, Try.results8, go_sem]) rfl ?_
    exact PowBel.no (by repeat first | (with_reducible exact Below.refl _ _) | (with_reducible refine Below.setCell ?_ (by first | exact Nat.le_refl _ | (simp; done) | (simp; omega) | omega) _) | (with_reducible refine Below.alloc ?_ (by first | exact Nat.le_refl _ | (simp; done) | (simp; omega) | omega) _) | (with_reducible refine below_drewN ?_ _) | (with_reducible refine Below.drew ?_))
  | true =>
    cases hv : vecB n (vals Y) with
    | false =>
      go_enter Try.func8, Try.ntmps8
      go_wp2_with fail
      go_at_call 26
      refine (specSquare_any _ R C a N c Z _ hN X1 (h.below (by repeat first | (with_reducible exact Below.refl _ _) | (with_reducible refine Below.setCell ?_ (by first | exact Nat.le_refl _ | (simp; done) | (simp; omega) | omega) _) | (with_reducible refine Below.alloc ?_ (by first | exact Nat.le_refl _ | (simp; done) | (simp; omega) | omega) _) | (with_reducible refine below_drewN ?_ _) | (with_reducible refine Below.drew ?_)) (Nat.le_refl _))).mono ?_
      rintro e w1 ⟨rfl, m1, rfl⟩
      rw [hs]
      clear hs X1
      go_wp2_with fail
      go_at_call 27
      refine (specVector_any _ n d Y _ hn (h2.below (by repeat first | (with_reducible exact Below.refl _ _) | (with_reducible refine Below.setCell ?_ (by first | exact Nat.le_refl _ | (simp; done) | (simp; omega) | omega) _) | (with_reducible refine Below.alloc ?_ (by first | exact Nat.le_refl _ | (simp; done) | (simp; omega) | omega) _) | (with_reducible refine below_drewN ?_ _) | (with_reducible refine Below.drew ?_)) (Nat.le_refl _))).mono ?_
      rw [hv]
      rintro e w2 ⟨rfl, m2, rfl⟩
      clear hv
      go_wp2_with fail
      refine bodyPost_ret (v := .tuple #[.slice none 0 0, .float .f32 0, .bool false]) (by simp [results, Try.results8, go_sem]) rfl ?_
      exact PowBel.no (by repeat first | (with_reducible exact Below.refl _ _) | (with_reducible refine Below.setCell ?_ (by first | exact Nat.le_refl _ | (simp; done) | (simp; omega) | omega) _) | (with_reducible refine Below.alloc ?_ (by first | exact Nat.le_refl _ | (simp; done) | (simp; omega) | omega) _) | (with_reducible refine below_drewN ?_ _) | (with_reducible refine Below.drew ?_))
    | true =>
      by_cases he : (n : Int) = R
      · have hr : rdB k = false := by rw [hs, hv, decide_eq_true he] at ho; simpa using ho
        have hd : ((n : Int) != R) = false := by simp [he]
        subst he
        go_enter Try.func8, Try.ntmps8
        go_wp2_with fail
        go_at_call 26
        refine (specSquare_any _ _ C a N c Z _ hN X1 (h.below (by repeat first | (with_reducible exact Below.refl _ _) | (with_reducible refine Below.setCell ?_ (by first | exact Nat.le_refl _ | (simp; done) | (simp; omega) | omega) _) | (with_reducible refine Below.alloc ?_ (by first | exact Nat.le_refl _ | (simp; done) | (simp; omega) | omega) _) | (with_reducible refine below_drewN ?_ _) | (with_reducible refine Below.drew ?_)) (Nat.le_refl _))).mono ?_
        rintro e w1 ⟨rfl, m1, rfl⟩
        rw [hs]
        obtain ⟨x0, x1, x2⟩ := X1
        clear hs ho
        go_wp2_with fail
        go_at_call 27
        refine (specVector_any _ n d Y _ hn (h2.below (by repeat first | (with_reducible exact Below.refl _ _) | (with_reducible refine Below.setCell ?_ (by first | exact Nat.le_refl _ | (simp; done) | (simp; omega) | omega) _) | (with_reducible refine Below.alloc ?_ (by first | exact Nat.le_refl _ | (simp; done) | (simp; omega) | omega) _) | (with_reducible refine below_drewN ?_ _) | (with_reducible refine Below.drew ?_)) (Nat.le_refl _))).mono ?_
        rw [hv]
        rintro e w2 ⟨rfl, m2, rfl⟩
        clear hv
        go_wp2_with fail
        go_at_call 28
        refine (l04Rounds_any k _).mono ?_
        rw [hr]
        rintro e w3 ⟨rfl, rfl⟩
        clear hr x0 x1 x2
        go_wp2_with fail
        refine bodyPost_ret (v := .tuple #[.slice none 0 0, .float .f32 0, .bool false]) (by simp [results, Try.results8, go_sem]) rfl ?_
        exact PowBel.no (by repeat first | (with_reducible exact Below.refl _ _) | (with_reducible refine Below.setCell ?_ (by first | exact Nat.le_refl _ | (simp; done) | (simp; omega) | omega) _) | (with_reducible refine Below.alloc ?_ (by first | exact Nat.le_refl _ | (simp; done) | (simp; omega) | omega) _) | (with_reducible refine below_drewN ?_ _) | (with_reducible refine Below.drew ?_))
      · have hd : ((n : Int) != R) = true := by simp [he]
        have hd2 : ((n : Int) == R) = false := by simp [he]
        go_enter Try.func8, Try.ntmps8
        go_wp2_with fail
        go_at_call 26
        refine (specSquare_any _ R C a N c Z _ hN X1 (h.below (by repeat first | (with_reducible exact Below.refl _ _) | (with_reducible refine Below.setCell ?_ (by first | exact Nat.le_refl _ | (simp; done) | (simp; omega) | omega) _) | (with_reducible refine Below.alloc ?_ (by first | exact Nat.le_refl _ | (simp; done) | (simp; omega) | omega) _) | (with_reducible refine below_drewN ?_ _) | (with_reducible refine Below.drew ?_)) (Nat.le_refl _))).mono ?_
        rintro e w1 ⟨rfl, m1, rfl⟩
        rw [hs]
        obtain ⟨x0, x1, x2⟩ := X1
        clear hs ho
        go_wp2_with fail
        go_at_call 27
        refine (specVector_any _ n d Y _ hn (h2.below (by repeat first | (with_reducible exact Below.refl _ _) | (with_reducible refine Below.setCell ?_ (by first | exact Nat.le_refl _ | (simp; done) | (simp; omega) | omega) _) | (with_reducible refine Below.alloc ?_ (by first | exact Nat.le_refl _ | (simp; done) | (simp; omega) | omega) _) | (with_reducible refine below_drewN ?_ _) | (with_reducible refine Below.drew ?_)) (Nat.le_refl _))).mono ?_
        rw [hv]
        rintro e w2 ⟨rfl, m2, rfl⟩
        clear hv
        have he' := Lib.hid he
        clear he
        go_wp2_with fail
        refine bodyPost_ret (v := .tuple #[.slice none 0 0, .float .f32 0, .bool false]) (by simp [results, Try.results8, go_sem]) rfl ?_
        exact PowBel.no (by repeat first | (with_reducible exact Below.refl _ _) | (with_reducible refine Below.setCell ?_ (by first | exact Nat.le_refl _ | (simp; done) | (simp; omega) | omega) _) | (with_reducible refine Below.alloc ?_ (by first | exact Nat.le_refl _ | (simp; done) | (simp; omega) | omega) _) | (with_reducible refine below_drewN ?_ _) | (with_reducible refine Below.drew ?_))
set_option maxRecDepth 20000 in
set_option maxHeartbeats 4000000 in
theorem specPow_yes (r N K n d c : Nat) (a b : Option Addr) (Z Y : Nat → Nat) (w : World) (hN : N ≤ 1048576) (hn : n ≤ 1048576) (h : FS .f32 w a N c Z) (h2 : FS .f32 w b n d Y)
    (hs : squareB r r N (vals Z) = true) (hv : vecB n (vals Y) = true) (he : n = r) (hr : rdB (K : Int) = true) :
    Calls Try.prog 8 #[.agg #[.int .i64 r, .int .i64 r, .slice a N c], .slice b n d, .int .i64 K] w (PowBelIf (pwB r r N Z n Y (K : Int)) (pL r r N Z n Y K).1 (vals (pL r r N Z n Y K).2) (rayV (r : Int).toNat Z (pL r r N Z n Y K).2) w) := by
  have X1 := Box.new w 29 r r a N c
  have HK : Hid (∀ v, pwB r r N Z n Y (K : Int) = v ↔ rayOk r r N (pL r r N Z n Y K).1 Z (pL r r N Z n Y K).2 = v) := Lib.hid (fun v => by unfold pwB; rw [hr, Int.toNat_natCast]; exact Iff.rfl)
  have HZ : Hid (∀ j, j ≤ K → (pL r r N Z n Y j).1 = 0 → pwB r r N Z n Y (K : Int) = false) := Lib.hid (fun j hj hz => pw_zero (by rw [Int.toNat_natCast]; exact hj) hz)
  have hK64 : K ≤ 64 := by have q := hr; unfold rdB inB at q; simp at q; omega
  have hd : ((n : Int) != (r : Int)) = false := by simp [he]
  have hE := Lib.hid he
  have hn256 : n ≤ 256 := (vec_parts hv).2.1
  clear he
  go_enter Try.func8, Try.ntmps8
  go_wp2_with fail
  go_at_call 26
  refine (specSquare_any _ r r a N c Z _ hN X1 (h.below (by repeat first | (with_reducible exact Below.refl _ _) | (with_reducible refine Below.setCell ?_ (by first | exact Nat.le_refl _ | (simp; done) | (simp; omega) | omega) _) | (with_reducible refine Below.alloc ?_ (by first | exact Nat.le_refl _ | (simp; done) | (simp; omega) | omega) _) | (with_reducible refine below_drewN ?_ _) | (with_reducible refine Below.drew ?_)) (Nat.le_refl _))).mono ?_
  rintro e w1 ⟨rfl, m1, rfl⟩
  rw [hs]
  obtain ⟨x0, x1, x2⟩ := X1
  clear hs
  go_wp2_with fail
  go_at_call 27
  refine (specVector_any _ n d Y _ hn (h2.below (by repeat first | (with_reducible exact Below.refl _ _) | (with_reducible refine Below.setCell ?_ (by first | exact Nat.le_refl _ | (simp; done) | (simp; omega) | omega) _) | (with_reducible refine Below.alloc ?_ (by first | exact Nat.le_refl _ | (simp; done) | (simp; omega) | omega) _) | (with_reducible refine below_drewN ?_ _) | (with_reducible refine Below.drew ?_)) (Nat.le_refl _))).mono ?_
  rw [hv]
  rintro e w2 ⟨rfl, m2, rfl⟩
  clear hv
  go_wp2_with fail
  go_at_call 28
  refine (l04Rounds_any _ _).mono ?_
  rw [hr]
  rintro e w3 ⟨rfl, rfl⟩
  clear hr hd
  have X3 : Box ((w.alloc (.cells #[.int .i64 r, .int .i64 r, .slice a N c] 29)).drewN (m1 + m2)) w.heap.size r r a N c := Box.drewN ⟨x0, x1, x2⟩
  clear x0 x1 x2
  go_wp2_with fail
  go_at_call 29
  have HU := unit_cS b n d Y ((w.alloc (.cells #[.int .i64 r, .int .i64 r, .slice a N c] 29)).drewN (m1 + m2)) hn (h2.below (by repeat first | (with_reducible exact Below.refl _ _) | (with_reducible refine Below.setCell ?_ (by first | exact Nat.le_refl _ | (simp; done) | (simp; omega) | omega) _) | (with_reducible refine Below.alloc ?_ (by first | exact Nat.le_refl _ | (simp; done) | (simp; omega) | omega) _) | (with_reducible refine below_drewN ?_ _) | (with_reducible refine Below.drew ?_)) (Nat.le_refl _))
  have hp0 : pL r r N Z n Y 0 = (sN (unitOk n (vals Y)) n, sD (unitOk n (vals Y)) (unitV n (vals Y))) := rfl
  cases hu : unitOk n (vals Y) with
  | false =>
    rw [hu] at HU hp0
    have HN := Lib.hid (HZ.out 0 (Nat.zero_le _) (by rw [hp0]; rfl))
    clear hu hp0
    refine HU.mono ?_
    rintro e w4 ⟨g, dg, rfl, f4, b4⟩
    have B4 : Below w.heap.size w w4 := Below.trans (by repeat first | (with_reducible exact Below.refl _ _) | (with_reducible refine Below.setCell ?_ (by first | exact Nat.le_refl _ | (simp; done) | (simp; omega) | omega) _) | (with_reducible refine Below.alloc ?_ (by first | exact Nat.le_refl _ | (simp; done) | (simp; omega) | omega) _) | (with_reducible refine below_drewN ?_ _) | (with_reducible refine Below.drew ?_)) (b4.mono (by simp [World.drewN]))
    clear b4
    go_wp2_with fail
    refine bodyPost_ret (v := .tuple #[.slice none 0 0, .float .f32 0, .bool false]) (by simp [results, Try.results8, go_sem]) rfl ?_
    exact PowBelIf.no HN.out (PowBel.no B4)
  | true =>
    rw [hu] at HU hp0
    clear hu
    refine HU.mono ?_
    clear HU
    rintro e w4 ⟨g, dg, rfl, f4, b4⟩
    have B4 : Below w.heap.size w w4 := Below.trans (by repeat first | (with_reducible exact Below.refl _ _) | (with_reducible refine Below.setCell ?_ (by first | exact Nat.le_refl _ | (simp; done) | (simp; omega) | omega) _) | (with_reducible refine Below.alloc ?_ (by first | exact Nat.le_refl _ | (simp; done) | (simp; omega) | omega) _) | (with_reducible refine below_drewN ?_ _) | (with_reducible refine Below.drew ?_)) (b4.mono (by simp [World.drewN]))
    have s4 : w.heap.size < w4.heap.size := by have := b4.size; simp [World.drewN] at this; omega
    have X4 : Box w4 w.heap.size r r a N c := X3.below b4 (by simp [World.drewN])
    have hm0 : sN true n ≤ 1048576 := Nat.le_trans sN_le hn
    clear b4 X3
    generalize sN true n = m0 at f4 hp0 hm0 ⊢
    generalize sD true (unitV n (vals Y)) = D0 at f4 hp0
    have HP0 := Lib.hid hp0
    clear hp0
    go_wp2
    go_loopw [9, 11] (fun v i wr => ∃ (j m : Nat) (D : Nat → Nat) (q : Option Addr) (dq : Nat), j ≤ K ∧ i = .int .i64 j ∧ v = .slice q m dq ∧ m ≤ 1048576 ∧ pL r r N Z n Y j = (m, D) ∧ FS .f32 wr q m dq D ∧ Below w4.heap.size w4 wr) (fun _ i _ => K - (intOf i).toNat)
    case atStart => exact ⟨0, m0, D0, g, dg, Nat.zero_le _, rfl, rfl, hm0, HP0.out, f4, Below.refl _ _⟩
    case round =>
      obtain ⟨j, m, D, q, dq, hj, rfl, rfl, hm, hp, ho, hb⟩ := hrel
      clear f4 HP0 hm0
      have XR := X4.below hb s4
      have BR := B4.trans (hb.mono B4.size)
      have sr : w.heap.size < wr.heap.size := by have := hb.size; omega
      obtain ⟨x0, x1, x2⟩ := XR
      have HB := Lib.hid hb
      have HP := Lib.hid hp
      have hp3 := pL_next hp
      clear hp hb
      by_cases hlt : j < K
      · go_wp2_with fail
        go_at_call 30
        have HT := times_cS r r a q N c m dq Z D wr hN hm (h.below BR (Nat.le_refl _)) ho
        cases ht : tOk r r N m Z D with
        | false =>
          rw [ht] at HT hp3
          have HN := Lib.hid (HZ.out (j + 1) hlt (by rw [hp3]; simp [sN]))
          clear hp3 ht
          refine HT.mono ?_
          clear HT
          rintro e w5 ⟨g5, d5, rfl, f5, b5⟩
          have B5 := BR.trans (b5.mono BR.size)
          clear b5 x0 x1 x2
          go_wp2_with fail
          refine bodyPost_ret (v := .tuple #[.slice none 0 0, .float .f32 0, .bool false]) (by simp [results, Try.results8, go_sem]) rfl ?_
          exact PowBelIf.no HN.out (PowBel.no B5)
        | true =>
          rw [ht] at HT hp3
          have hm3 : sN true (r : Int).toNat ≤ 1048576 := by have := (t_size ht).1; simp [sN]; omega
          clear ht
          refine HT.mono ?_
          clear HT
          rintro e w5 ⟨g5, d5, rfl, f5, b5⟩
          have B5 := HB.out.trans (b5.mono HB.out.size)
          have C5 := BR.trans (b5.mono BR.size)
          clear b5 x0 x1 x2 ho
          generalize sN true (r : Int).toNat = m3 at f5 hm3 hp3 ⊢
          generalize sD true (tv m Z D) = D3 at f5 hp3
          go_wp2_with fail
          go_at_call 29
          have HU := unit_cS g5 m3 d5 D3 w5 hm3 f5
          cases hu : unitOk m3 (vals D3) with
          | false =>
            rw [hu] at HU hp3
            have HN := Lib.hid (HZ.out (j + 1) hlt (by rw [hp3]; rfl))
            clear hp3 hu
            refine HU.mono ?_
            clear HU
            rintro e w6 ⟨g6, d6, rfl, f6, b6⟩
            have B6 := C5.trans (b6.mono C5.size)
            clear b6
            go_wp2_with fail
            refine bodyPost_ret (v := .tuple #[.slice none 0 0, .float .f32 0, .bool false]) (by simp [results, Try.results8, go_sem]) rfl ?_
            exact PowBelIf.no HN.out (PowBel.no B6)
          | true =>
            rw [hu] at HU hp3
            clear hu
            refine HU.mono ?_
            clear HU
            rintro e w6 ⟨g6, d6, rfl, f6, b6⟩
            have B6 := Lib.hid (B5.trans (b6.mono B5.size))
            have hm4 : sN true m3 ≤ 1048576 := Nat.le_trans sN_le hm3
            clear b6 f5 B5 C5
            generalize sN true m3 = m4 at f6 hp3 hm4 ⊢
            generalize sD true (unitV m3 (vals D3)) = D4 at f6 hp3
            have HP4 := Lib.hid hp3
            clear hp3
            go_wp2
            go_roundw
            case rel => exact ⟨j + 1, m4, D4, g6, d6, by omega, by go_num, rfl, hm4, HP4.out, f6, B6.out⟩
            case measure => simp [intOf]; omega
      · obtain rfl : j = K := by omega
        have HK2 : Hid (∀ v, pwB r r N Z n Y (j : Int) = v ↔ rayOk r r N m Z D = v) := Lib.hid (by have := HK.out; rw [HP.out] at this; exact this)
        clear HK hp3
        go_wp2_with fail
        go_at_call 31
        have hray := specRay_any r r a q N c m dq Z D wr hN hm (h.below BR (Nat.le_refl _)) ho
        cases hok : rayOk r r N m Z D with
        | false =>
          rw [hok] at hray
          have HN := Lib.hid ((HK2.out _).2 hok)
          clear hok
          refine hray.mono ?_
          rintro e w6 ⟨r6, rfl, hr6, b6⟩
          have B6 := Lib.hid (BR.trans (b6.mono BR.size))
          clear b6 x0 x1 x2
          go_wp2_with fail
          refine bodyPost_ret (v := .tuple #[.slice none 0 0, .float .f32 0, .bool false]) (by simp [results, Try.results8, go_sem]) rfl ?_
          exact PowBelIf.no HN.out (PowBel.no B6.out)
        | true =>
          rw [hok] at hray
          have HN := Lib.hid ((HK2.out _).2 hok)
          clear hok
          refine hray.mono ?_
          rintro e w6 ⟨r6, rfl, hr6, b6⟩
          have B6 := Lib.hid (BR.trans (b6.mono BR.size))
          have F6 := Lib.hid (ho.below b6 (Nat.le_refl _))
          clear b6 x0 x1 x2
          go_wp2_with fail
          refine bodyPost_ret (v := .tuple #[.slice q m dq, .float .f32 r6, .bool true]) (by simp [results, Try.results8, go_sem]) rfl ?_
          rw [HP.out]
          exact PowBelIf.yes HN.out ⟨q, dq, D, r6, rfl, F6.out, fun i hi => rfl, hr6, B6.out⟩
theorem keyPowerRounds (R C : Int) (N : Nat) (Z : Nat → Nat) (n : Nat) (Y : Nat → Nat) (k : Int) (wR : (Lit.int .i64 R).wf = true) (wC : (Lit.int .i64 C).wf = true) (hN : N ≤ 1048576) (hn : n ≤ 1048576) (wk : (Lit.int .i64 k).wf = true) : ∃ (ok : Bool) (nr : Nat) (V : Nat → Option Nat) (X : Option Nat), nr ≤ 144 ∧
    (∀ a c b d W, FS .f32 W a N c Z → FS .f32 W b n d Y → Calls Try.prog 8 #[.agg #[.int .i64 R, .int .i64 C, .slice a N c], .slice b n d, .int .i64 k] W (PowBel ok nr V X W)) ∧
    (∀ a c b d W, FS .f32 W a N c Z → FS .f32 W b n d Y → Calls Try.prog 11 #[.agg #[.int .i64 R, .int .i64 C, .slice a N c], .slice b n d, .int .i64 k] W (PowOwn ok nr V X W)) := by
  have hi := fun a c b d W h h2 => implPow_any R C a N c Z b n d Y k W hN hn h h2
  cases ho : (squareB R C N (vals Z) && (vecB n (vals Y) && (decide ((n : Int) = R) && rdB k))) with
  | false =>
    have hp : pwB R C N Z n Y k = false := by
      cases hs : squareB R C N (vals Z) with
      | false => unfold pwB rayOk; rw [hs]; simp
      | true =>
        cases hv : vecB n (vals Y) with
        | false => exact pw_vec hv
        | true =>
          by_cases he : (n : Int) = R
          · rw [hs, hv, decide_eq_true he] at ho
            unfold pwB
            simp only [Bool.true_and] at ho
            rw [ho]; rfl
          · exact pw_len hs he
    rw [hp] at hi
    exact ⟨false, 0, fun _ => none, some 0, by omega, fun a c b d W h h2 => specPow_no R C a N c Z b n d Y k W hN hn h h2 ho, hi⟩
  | true =>
    simp only [Bool.and_eq_true, decide_eq_true_eq] at ho
    obtain ⟨hs, hv, he, hr⟩ := ho
    obtain ⟨r, rfl, rfl, h1, h12, _⟩ := square_nat hs
    have h0 : 0 ≤ k := by have q := hr; unfold rdB inB at q; simp at q; omega
    obtain ⟨K, rfl⟩ : ∃ K : Nat, k = (K : Int) := ⟨k.toNat, by omega⟩
    rw [Int.toNat_natCast] at hi
    have hsp := fun a c b d W h h2 => specPow_yes r N K n d c a b Z Y W hN hn h h2 hs hv (by omega) hr
    have hle : (pL r r N Z n Y K).1 ≤ 144 := by
      cases K with
      | zero => exact Nat.le_trans (show sN (unitOk n (vals Y)) n ≤ n from sN_le) (by omega)
      | succ K =>
        obtain ⟨m, D, e⟩ : ∃ m D, pL r r N Z n Y K = (m, D) := ⟨_, _, rfl⟩
        rw [pL_next e]
        have := tN_le (R := (r : Int)) (C := (r : Int)) (N := N) (m := m) (Z := Z) (D := D)
        exact Nat.le_trans sN_le (by omega)
    cases hp : pwB r r N Z n Y (K : Int) with
    | false =>
      rw [hp] at hi hsp
      exact ⟨false, 0, fun _ => none, some 0, by omega, hsp, hi⟩
    | true =>
      rw [hp] at hi hsp
      exact ⟨true, _, _, _, hle, hsp, hi⟩
end Go.Proofs.Ytadnnfeeainadaa
