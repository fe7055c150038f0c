/- Helper: what misses least with weights, of the program. Conditions: none. -/
import Derived.Test.YtcibjkadlndejaaLeastImpl
import Derived.Test.YtcibjkadlndejaaMin
import Derived.Test.YtcibjkadlndejaaWk
set_option linter.unusedVariables false
set_option linter.unusedSimpArgs false
namespace Go.Proofs.Ytcibjkadlndejaa
open Go.RowKit

def ltB (X : Option Nat) : Bool := ford .f32 X (some 0) == some .lt
def anyLt (V : Nat → Option Nat) : Nat → Bool
  | 0 => false
  | n + 1 => anyLt V n || ltB (V n)
theorem anyLt_no {V : Nat → Option Nat} {i : Nat} : ∀ {n : Nat}, anyLt V n = false → i < n → ltB (V i) = false
  | 0, _, h => absurd h (Nat.not_lt_zero _)
  | n + 1, h, hi => by
    simp only [anyLt, Bool.or_eq_false_iff] at h
    rcases Nat.lt_or_ge i n with q | q
    · exact anyLt_no h.1 q
    · have e : i = n := by omega
      rw [e]; exact h.2
theorem anyLt_at {V : Nat → Option Nat} {i : Nat} : ∀ {n : Nat}, i < n → ltB (V i) = true → anyLt V n = true
  | 0, h, _ => absurd h (Nat.not_lt_zero _)
  | n + 1, hi, h => by
    show (anyLt V n || ltB (V n)) = true
    rcases Nat.lt_or_ge i n with q | q
    · rw [anyLt_at q h]; rfl
    · have e : i = n := by omega
      rw [← e, h, Bool.or_true]
theorem anyLt_of {V : Nat → Option Nat} : ∀ {n : Nat}, (∀ i, i < n → ltB (V i) = false) → anyLt V n = false
  | 0, _ => rfl
  | n + 1, h => by
    show (anyLt V n || ltB (V n)) = false
    rw [anyLt_of (fun i hi => h i (by omega)), h n (by omega)]; rfl
theorem ltB_num {x m : Nat} {s : Bool} {e : Int} (h : FloatKind.f32.decode x = .number s m e) : ltB (some x) = (s && decide (m ≠ 0)) := by
  show ((FloatKind.f32.decode x).order (FloatKind.f32.decode 0) == some .lt) = _
  rw [h, dec0]
  show (some (compare (Ieee.signed s m (e - min e (-149)).toNat) (Ieee.signed false 0 ((-149) - min e (-149)).toNat)) == some Ordering.lt) = _
  rw [signed_zero]
  generalize (e - min e (-149)).toNat = u
  unfold Ieee.signed
  by_cases hm : m = 0
  · subst hm; cases s <;> simp
  · have h2 : 0 < m <<< u := by rw [Nat.shiftLeft_eq]; exact Nat.mul_pos (by omega) (Nat.two_pow_pos u)
    generalize m <<< u = y at h2
    cases s
    · have : compare ((y : Nat) : Int) 0 = .gt := by rw [Int.compare_eq_gt]; omega
      simp [this]
    · have : compare (-((y : Nat) : Int)) 0 = .lt := by rw [Int.compare_eq_lt]; omega
      simp [this, hm]
theorem neg_signed (s : Bool) (m u : Nat) : (s && decide (m ≠ 0)) = decide (Ieee.signed s m u < 0) := by
  unfold Ieee.signed
  by_cases hm : m = 0
  · subst hm; cases s <;> simp
  · have h2 : 0 < m <<< u := by rw [Nat.shiftLeft_eq]; exact Nat.mul_pos (by omega) (Nat.two_pow_pos u)
    generalize m <<< u = y at h2
    cases s
    · have : ¬ ((y : Nat) : Int) < 0 := by omega
      simp
    · have : -((y : Nat) : Int) < 0 := by omega
      simp [hm, this]
      try omega
theorem ord_neg {a b m k : Nat} {s t : Bool} {e f : Int} (ha : FloatKind.f32.decode a = .number s m e) (hb : FloatKind.f32.decode b = .number t k f) :
    ∃ o, FloatKind.f32.format.order a b = some o ∧ (o = .lt → ltB (some a) = (ltB (some a) || ltB (some b))) ∧ (o = .gt → ltB (some b) = (ltB (some a) || ltB (some b))) ∧ (o = .eq → ltB (some a) = ltB (some b)) := by
  refine ⟨compare (Ieee.signed s m (e - min e f).toNat) (Ieee.signed t k (f - min e f).toNat), ?_, ?_⟩
  · show (FloatKind.f32.decode a).order (FloatKind.f32.decode b) = _
    rw [ha, hb]; rfl
  · rw [ltB_num ha, ltB_num hb, neg_signed s m (e - min e f).toNat, neg_signed t k (f - min e f).toNat]
    generalize Ieee.signed s m (e - min e f).toNat = A
    generalize Ieee.signed t k (f - min e f).toNat = B
    refine ⟨fun h => ?_, fun h => ?_, fun h => ?_⟩
    · rw [Int.compare_eq_lt] at h
      by_cases h0 : B < 0
      · simp [h0, show A < 0 by omega]
      · simp [h0]
    · rw [Int.compare_eq_gt] at h
      by_cases h0 : A < 0
      · simp [h0, show B < 0 by omega]
      · simp [h0]
    · rw [Int.compare_eq_eq] at h
      rw [h]
/-- The least of two finite numbers. -/
theorem min_twoN {a b : Nat} (ha : finite .f32 (cn .f32 a) = true) (hb : finite .f32 (cn .f32 b) = true) (wa : (Lit.float .f32 a).wf = true) (wb : (Lit.float .f32 b).wf = true) :
    ∃ r, (∀ (ts : Array TypeId) (t : TypeId) (w : World), (Builtin.min_ ts t #[.float .f32 a, .float .f32 b]).run Try.prog w = .ok (.float .f32 r) w) ∧ (Lit.float .f32 r).wf = true ∧ finite .f32 (cn .f32 r) = true ∧ ltB (cn .f32 r) = (ltB (cn .f32 a) || ltB (cn .f32 b)) := by
  obtain ⟨e1, s, m, e, h1⟩ := cn_fin ha
  obtain ⟨e2, t, k, f, h2⟩ := cn_fin hb
  obtain ⟨o, ho, q1, q2, q3⟩ := ord_neg h1 h2
  refine ⟨_, fun ts t w => run_minF ts t a b o ho w, ?_⟩
  rw [e1, e2]
  rw [e1] at ha
  rw [e2] at hb
  cases o with
  | lt => exact ⟨wa, by show finite .f32 (cn .f32 a) = true; rw [e1]; exact ha, by show ltB (cn .f32 a) = _; rw [e1]; exact q1 rfl⟩
  | gt => exact ⟨wb, by show finite .f32 (cn .f32 b) = true; rw [e2]; exact hb, by show ltB (cn .f32 b) = _; rw [e2]; exact q2 rfl⟩
  | eq =>
    cases hn : (FloatKind.f32.decode a).neg with
    | true => exact ⟨wa, by show finite .f32 (cn .f32 a) = true; rw [e1]; exact ha, by show ltB (cn .f32 a) = _; rw [e1, ← q3 rfl]; simp⟩
    | false => exact ⟨wb, by show finite .f32 (cn .f32 b) = true; rw [e2]; exact hb, by show ltB (cn .f32 b) = _; rw [e2, q3 rfl]; simp⟩
set_option maxRecDepth 20000 in
theorem min_anyN (a : Option Addr) (n c : Nat) (Z : Nat → Nat) (w : World) (h1 : 1 ≤ n) (hn : n ≤ 1048576) (h : FS .f32 w a n c Z) (hf : allFin (vals Z) n = true) :
    Calls Try.prog 55 #[.slice a n c] w fun e w' => w = w' ∧ ∃ r, e = .returned (.float .f32 r) ∧ (Lit.float .f32 r).wf = true ∧ finite .f32 (cn .f32 r) = true ∧ ltB (cn .f32 r) = anyLt (vals Z) n := by
  obtain ⟨b, off, rfl, hbl, hc0, hfv0⟩ := h.at (show 0 < n by omega)
  have hF := Lib.hid hf
  rw [Nat.add_zero] at hc0
  have W0 := Lib.hid hfv0.2
  have F0 : Hid (finite .f32 (cn .f32 (Z 0)) = true) := Lib.hid (show finite .f32 (vals Z 0) = true from allFin_lt hf (by omega))
  have P0 : Hid (ltB (cn .f32 (Z 0)) = anyLt (vals Z) 1) := Lib.hid (by simp [anyLt, vals])
  have hd : decide ((n : Int) < 1) = false := decide_eq_false (by omega)
  clear hbl hfv0 hf
  go_enter Try.func55, Try.ntmps55
  go_wp2
  go_loop [3, 4] (fun s i => ∃ k r : Nat, 1 ≤ k ∧ k ≤ n ∧ i = .int .i64 k ∧ s = .float .f32 r ∧ Hid ((Lit.float .f32 r).wf = true) ∧ Hid (finite .f32 (cn .f32 r) = true) ∧ Hid (ltB (cn .f32 r) = anyLt (vals Z) k)) (fun _ i => n - (intOf i).toNat)
  case atStart => exact ⟨1, _, Nat.le_refl _, h1, rfl, rfl, W0, F0, P0⟩
  case round =>
    obtain ⟨k, r, hk1, hk, rfl, rfl, hw, hfr, hp⟩ := hrel
    by_cases hlt : k < n
    · obtain ⟨b', off', e, hbl, hck, hfk⟩ := h.at hlt
      simp only [Option.some.injEq, Addr.mk.injEq, and_true] at e
      obtain ⟨rfl, rfl⟩ := e
      obtain ⟨r2, hrun, hw2, hf2, hp2⟩ := min_twoN hfr.out (show finite .f32 (cn .f32 (Z k)) = true from (show finite .f32 (vals Z k) = true from allFin_lt hF.out hlt)) hw.out hfk.2
      have HW2 := Lib.hid hw2
      have HF2 := Lib.hid hf2
      have HP2 : Hid (ltB (cn .f32 r2) = anyLt (vals Z) (k + 1)) := Lib.hid (by rw [hp2, hp.out]; rfl)
      clear hbl hfk hc0 h hw2 hf2 hp2
      go_wp2
      go_round
      case rel => exact ⟨k + 1, r2, by omega, by omega, by go_num, rfl, HW2, HF2, HP2⟩
      case measure => simp [intOf]; omega
    · obtain rfl : k = n := by omega
      go_wp2
      go_ret
      exact ⟨rfl, r, rfl, hw.out, hfr.out, hp.out⟩
def rtN (X : Option Nat) : Option Nat := narrow (fsqrt (widen X))
/-- The matrix and the list, with roots of weights. -/
def wsA (c : Nat) (V W : Nat → Option Nat) (t : Nat) : Option Nat := fop .mul .f32 (V t) (rtN (W (t / c)))
def wsB (Y W : Nat → Option Nat) (i : Nat) : Option Nat := fop .mul .f32 (Y i) (rtN (W i))
def wsIn (R C : Int) (n : Nat) (V : Nat → Option Nat) (n2 : Nat) (Y : Nat → Option Nat) (n3 : Nat) (W : Nat → Option Nat) : Bool := validB R C n V && (fitsB R n2 Y && (fitsB R n3 W && !anyLt W n3))
def wsOk (r c n : Nat) (V Y W : Nat → Option Nat) : Bool := decide (c ≤ r) && (allFin (wsA c V W) n && (allFin (wsB Y W) r && lqOk r c r (datL (wsA c V W)) (vals (datL (wsB Y W)))))
def wsV (r c : Nat) (V Y W : Nat → Option Nat) : Nat → Option Nat := lqV r c (gsC r c (mirP r c (datL (wsA c V W))) c) (vals (datL (wsB Y W)))
/-- A list of which j numbers from p on are multiplied. -/
def mlS (F : Option Nat) (p : Nat) (V : Nat → Option Nat) (j t : Nat) : Option Nat := if p ≤ t ∧ t < p + j then fop .mul .f32 (V t) F else V t
theorem mlS_zero {F : Option Nat} {p t : Nat} {V : Nat → Option Nat} : mlS F p V 0 t = V t := if_neg (by omega)
theorem mlS_next {F : Option Nat} {p j : Nat} {V : Nat → Option Nat} : mlS F p V j (p + j) = V (p + j) := if_neg (by omega)
theorem mlS_put {F : Option Nat} {p j N : Nat} {V : Nat → Option Nat} {D : Nat → Nat} {u : Nat} (h : ∀ t, t < N → vals D t = mlS F p V j t) (hu : FV .f32 u (fop .mul .f32 (V (p + j)) F)) :
    ∀ t, t < N → vals (fun t => if t = p + j then u else D t) t = mlS F p V (j + 1) t := by
  intro t ht
  show cn .f32 (if t = p + j then u else D t) = _
  by_cases e : t = p + j
  · rw [if_pos e, e]
    unfold mlS
    rw [if_pos (by omega)]
    exact hu.1
  · rw [if_neg e]
    have hh := h t ht
    show vals D t = _
    rw [hh]
    unfold mlS
    by_cases e2 : p ≤ t ∧ t < p + j
    · rw [if_pos e2, if_pos (by omega)]
    · rw [if_neg e2, if_neg (by omega)]
/-- Rows of which i are multiplied. -/
theorem ws_row {c i t : Nat} {V W : Nat → Option Nat} {X : Nat → Option Nat} {N : Nat} (hc : 1 ≤ c) (hX : ∀ t, t < N → X t = if t < i * c then wsA c V W t else V t) (ht : t < N) :
    mlS (rtN (W i)) (i * c) X c t = if t < (i + 1) * c then wsA c V W t else V t := by
  unfold mlS
  have e0 : (i + 1) * c = i * c + c := Nat.succ_mul i c
  rw [hX t ht]
  by_cases h1 : i * c ≤ t ∧ t < i * c + c
  · rw [if_pos h1, if_neg (by omega), if_pos (by omega)]
    unfold wsA
    have e : t / c = i := by
      have h2 : t = i * c + (t - i * c) := by omega
      rw [h2]
      exact (place_div (by omega)).1
    rw [e]
  · rw [if_neg h1]
    by_cases h2 : t < i * c
    · rw [if_pos h2, if_pos (by omega)]
    · rw [if_neg h2, if_neg (by omega)]
set_option maxRecDepth 20000 in
set_option maxHeartbeats 2000000 in
theorem implWs_no (R C : Int) (a b b3 : Option Addr) (n d n2 d2 n3 d3 : Nat) (Z Y Wt : Nat → Nat) (w : World) (hn : n ≤ 1048576) (hn2 : n2 ≤ 1048576) (hn3 : n3 ≤ 1048576) (h : FS .f32 w a n d Z) (h2 : FS .f32 w b n2 d2 Y) (h3 : FS .f32 w b3 n3 d3 Wt) (hno : wsIn R C n (vals Z) n2 (vals Y) n3 (vals Wt) = false) :
    Calls Try.prog 23 #[.agg #[.int .i64 R, .int .i64 C, .slice a n d], .slice b n2 d2, .slice b3 n3 d3] w (NumsOwn false 0 (fun _ => none) w) := by
  have HNO := Lib.hid hno
  have c0 : cn .f32 0 = some 0 := by kernel_rfl
  clear hno
  go_enter Try.func23, Try.ntmps23
  go_wp2_with fail
  go_at_call 39
  refine (implValid_any R C a n d Z _ hn (h.below (by repeat first | (with_reducible exact Below.refl _ _) | (with_reducible refine Below.setCell ?_ (by first | exact Nat.le_refl _ | (simp; done) | (simp; omega) | omega) _) | (with_reducible refine Below.alloc ?_ (by first | exact Nat.le_refl _ | (simp; done) | (simp; omega) | omega) _) | (with_reducible refine below_drewN ?_ _) | (with_reducible refine Below.drew ?_)) (Nat.le_refl _))).mono ?_
  rintro e w1 ⟨rfl, b1⟩
  have B1 : Below w.heap.size w w1 := Below.trans (by repeat first | (with_reducible exact Below.refl _ _) | (with_reducible refine Below.setCell ?_ (by first | exact Nat.le_refl _ | (simp; done) | (simp; omega) | omega) _) | (with_reducible refine Below.alloc ?_ (by first | exact Nat.le_refl _ | (simp; done) | (simp; omega) | omega) _) | (with_reducible refine below_drewN ?_ _) | (with_reducible refine Below.drew ?_)) (b1.mono (by simp))
  have XA : Box w1 w.heap.size R C a n d := Box.below (by refine ⟨?_, ?_, ?_⟩ <;> simp [go_sem]) b1 (by simp)
  have l1 : w.heap.size < w1.heap.size := by have := b1.size; simp at this; omega
  clear b1
  cases hv : validB R C n (vals Z) with
  | false =>
    clear hv
    go_wp2_with fail
    go_ret2
    exact NumsNo.own ⟨rfl, (by repeat first | (with_reducible exact B1) | (with_reducible refine Below.setCell ?_ (by first | exact Nat.le_refl _ | (simp; done) | (simp; omega) | omega) _) | (with_reducible refine Below.alloc ?_ (by first | exact Nat.le_refl _ | (simp; done) | (simp; omega) | omega) _) | (with_reducible refine below_drewN ?_ _) | (with_reducible refine Below.drew ?_))⟩
  | true =>
    obtain ⟨x0, x1, x2⟩ := XA
    go_wp2_with fail
    go_at_call 49
    refine (fitsRows_any R C _ b n d n2 d2 Y _ hn2 (h2.below B1 (Nat.le_refl _))).mono ?_
    rintro e w2 ⟨rfl, b2⟩
    have B2 := B1.trans (b2.mono B1.size)
    have XA2 := (show Box w1 w.heap.size R C a n d from ⟨x0, x1, x2⟩).below b2 l1
    have l2 := Nat.lt_of_lt_of_le l1 b2.size
    clear b2 x0 x1 x2 B1
    cases hf2 : fitsB R n2 (vals Y) with
    | false =>
      clear hv hf2
      go_wp2_with fail
      go_ret2
      exact NumsNo.own ⟨rfl, (by repeat first | (with_reducible exact B2) | (with_reducible refine Below.setCell ?_ (by first | exact Nat.le_refl _ | (simp; done) | (simp; omega) | omega) _) | (with_reducible refine Below.alloc ?_ (by first | exact Nat.le_refl _ | (simp; done) | (simp; omega) | omega) _) | (with_reducible refine below_drewN ?_ _) | (with_reducible refine Below.drew ?_))⟩
    | true =>
      obtain ⟨x0, x1, x2⟩ := XA2
      go_wp2_with fail
      go_at_call 49
      refine (fitsRows_any R C _ b3 n d n3 d3 Wt _ hn3 (h3.below B2 (Nat.le_refl _))).mono ?_
      rintro e w3 ⟨rfl, b3'⟩
      have B3 := B2.trans (b3'.mono B2.size)
      clear b3' x0 x1 x2 B2
      cases hf3 : fitsB R n3 (vals Wt) with
      | false =>
        clear hv hf2 hf3
        go_wp2_with fail
        go_ret2
        exact NumsNo.own ⟨rfl, (by repeat first | (with_reducible exact B3) | (with_reducible refine Below.setCell ?_ (by first | exact Nat.le_refl _ | (simp; done) | (simp; omega) | omega) _) | (with_reducible refine Below.alloc ?_ (by first | exact Nat.le_refl _ | (simp; done) | (simp; omega) | omega) _) | (with_reducible refine below_drewN ?_ _) | (with_reducible refine Below.drew ?_))⟩
      | true =>
        have hany : anyLt (vals Wt) n3 = true := by
          have h5 := HNO.out
          unfold wsIn at h5
          rw [hv, hf2, hf3] at h5
          simpa using h5
        have hvw : vecB n3 (vals Wt) = true := by unfold fitsB at hf3; simp only [Bool.and_eq_true] at hf3; exact hf3.1
        have hvv := hvw
        unfold vecB at hvv
        simp only [Bool.and_eq_true, decide_eq_true_eq] at hvv
        have hmin := fun W hW => min_anyN b3 n3 d3 Wt W (by omega) hn3 hW hvv.2.2
        rw [hany] at hmin
        clear hv hf2 hf3 hvv hvw hany
        go_wp2_with fail
        go_at_call 55
        refine (hmin _ (h3.below B3 (Nat.le_refl _))).mono ?_
        rintro e w4 ⟨rfl, rm, rfl, hwf, hfr, hlt⟩
        have hlt2 : (ford .f32 (cn .f32 rm) (some 0) == some .lt) = true := hlt
        clear hmin hlt
        go_wp2_with fail
        go_ret2
        exact NumsNo.own ⟨rfl, (by repeat first | (with_reducible exact B3) | (with_reducible refine Below.setCell ?_ (by first | exact Nat.le_refl _ | (simp; done) | (simp; omega) | omega) _) | (with_reducible refine Below.alloc ?_ (by first | exact Nat.le_refl _ | (simp; done) | (simp; omega) | omega) _) | (with_reducible refine below_drewN ?_ _) | (with_reducible refine Below.drew ?_))⟩
set_option maxRecDepth 20000 in
set_option maxHeartbeats 4000000 in
theorem implWs_yes (r c N p1 o1 d1 p2 o2 d2 p3 o3 d3 : Nat) (Z Y Wt : Nat → Nat) (w : World) (h1 : 1 ≤ r) (h12 : r ≤ 12) (c1 : 1 ≤ c) (c12 : c ≤ 12) (hn : N = r * c) (hin : wsIn r c N (vals Z) r (vals Y) r (vals Wt) = true)
    (h : FS .f32 w (some ⟨p1, o1, none⟩) N d1 Z) (h2 : FS .f32 w (some ⟨p2, o2, none⟩) r d2 Y) (h3 : FS .f32 w (some ⟨p3, o3, none⟩) r d3 Wt) :
    Calls Try.prog 23 #[.agg #[.int .i64 r, .int .i64 c, .slice (some ⟨p1, o1, none⟩) N d1], .slice (some ⟨p2, o2, none⟩) r d2, .slice (some ⟨p3, o3, none⟩) r d3] w (NOwnIf (wsOk r c N (vals Z) (vals Y) (vals Wt)) c (wsV r c (vals Z) (vals Y) (vals Wt)) w) := by
  have h144 : N ≤ 144 := by have := sides_le h12 c12; omega
  have hpos : 0 < N := by rw [hn]; exact Nat.mul_pos h1 c1
  have c0 : cn .f32 0 = some 0 := by kernel_rfl
  have HN := Lib.hid hn
  have hin2 := hin
  unfold wsIn at hin2
  simp only [Bool.and_eq_true, Bool.not_eq_true'] at hin2
  obtain ⟨hv, hf2, hf3, hany⟩ := hin2
  have hfw : allFin (vals Wt) r = true := by have := (fits_nat hf3).2; rwa [vec_of h1 h12] at this
  have hmin := fun W hW => min_anyN (some ⟨p3, o3, none⟩) r d3 Wt W h1 (by omega) hW hfw
  rw [hany] at hmin
  obtain ⟨ok, hok⟩ : ∃ ok, ok = wsOk r c N (vals Z) (vals Y) (vals Wt) := ⟨_, rfl⟩
  rw [← hok]
  have HK := Lib.hid hok
  clear hok hin hn
  go_enter Try.func23, Try.ntmps23
  go_wp2_with fail
  go_at_call 39
  refine (implValid_any r c _ N d1 Z _ (by omega) (h.below (by repeat first | (with_reducible exact Below.refl _ _) | (with_reducible refine Below.setCell ?_ (by first | exact Nat.le_refl _ | (simp; done) | (simp; omega) | omega) _) | (with_reducible refine Below.alloc ?_ (by first | exact Nat.le_refl _ | (simp; done) | (simp; omega) | omega) _) | (with_reducible refine below_drewN ?_ _) | (with_reducible refine Below.drew ?_)) (Nat.le_refl _))).mono ?_
  rw [hv]
  rintro e w1 ⟨rfl, b1⟩
  have B1 : Below w.heap.size w w1 := Below.trans (by repeat first | (with_reducible exact Below.refl _ _) | (with_reducible refine Below.setCell ?_ (by first | exact Nat.le_refl _ | (simp; done) | (simp; omega) | omega) _) | (with_reducible refine Below.alloc ?_ (by first | exact Nat.le_refl _ | (simp; done) | (simp; omega) | omega) _) | (with_reducible refine below_drewN ?_ _) | (with_reducible refine Below.drew ?_)) (b1.mono (by simp))
  have XA : Box w1 w.heap.size r c (some ⟨p1, o1, none⟩) N d1 := Box.below (by refine ⟨?_, ?_, ?_⟩ <;> simp [go_sem]) b1 (by simp)
  have l1 : w.heap.size < w1.heap.size := by have := b1.size; simp at this; omega
  clear b1 hv
  obtain ⟨x0, x1, x2⟩ := XA
  go_wp2_with fail
  go_at_call 49
  refine (fitsRows_any r c _ _ N d1 r d2 Y _ (by omega) (h2.below B1 (Nat.le_refl _))).mono ?_
  rw [hf2]
  rintro e w2 ⟨rfl, b2⟩
  have B2 := B1.trans (b2.mono B1.size)
  have XA2 := (show Box w1 w.heap.size r c (some ⟨p1, o1, none⟩) N d1 from ⟨x0, x1, x2⟩).below b2 l1
  have l2 := Nat.lt_of_lt_of_le l1 b2.size
  clear b2 x0 x1 x2 B1 hf2 l1
  obtain ⟨x0, x1, x2⟩ := XA2
  go_wp2_with fail
  go_at_call 49
  refine (fitsRows_any r c _ _ N d1 r d3 Wt _ (by omega) (h3.below B2 (Nat.le_refl _))).mono ?_
  rw [hf3]
  rintro e w3 ⟨rfl, b3⟩
  have B3 := B2.trans (b3.mono B2.size)
  have XA3 := (show Box w2 w.heap.size r c (some ⟨p1, o1, none⟩) N d1 from ⟨x0, x1, x2⟩).below b3 l2
  have l3 := Nat.lt_of_lt_of_le l2 b3.size
  clear b3 x0 x1 x2 B2 hf3 l2
  obtain ⟨x0, x1, x2⟩ := XA3
  go_wp2_with fail
  go_at_call 55
  refine (hmin _ (h3.below B3 (Nat.le_refl _))).mono ?_
  rintro e w4 ⟨hw4, rm, rfl, hwf, hfr, hlt⟩
  subst hw4
  have hlt2 : (ford .f32 (cn .f32 rm) (some 0) == some .lt) = false := hlt
  clear hmin hlt hany
  go_wp2_with fail
  go_at_call 56
  refine (copyOf_any r c p1 o1 N d1 Z _ hpos (by omega) (h.below B3 (Nat.le_refl _))).mono ?_
  rintro e w5 ⟨g1, q1, rfl, oM, b5⟩
  have B5 := B3.trans (b5.mono B3.size)
  have oM1 := oM.alone hpos
  obtain ⟨_, _, t1, t2, _, _⟩ := oM.cell hpos
  have s5 := b5.size
  clear x0 x1 x2 hlt2 hwf hfr b5 oM
  go_wp2_with fail
  go_at_call 57
  refine (clone_any p2 o2 r d2 Y _ h1 (by omega) (h2.below B5 (Nat.le_refl _))).mono ?_
  rintro e w6 ⟨g2, q2, rfl, oS, b6⟩
  have B6 := B5.trans (b6.mono B5.size)
  have oM2 := oM1.kept (below_grew b6) (fun q hq => by cases hq)
  have oS1 := oS.alone h1
  obtain ⟨_, _, t3, t4, _, _⟩ := oS.cell h1
  have s6 := b6.size
  have hne : g1 ≠ g2 := by omega
  have b7 : Below w6.heap.size w6 (w6.alloc (.cells #[.int .i64 r, .int .i64 c, .slice (some ⟨g1, 0, none⟩) N q1] 26)) := (by repeat first | (with_reducible exact Below.refl _ _) | (with_reducible refine Below.setCell ?_ (by first | exact Nat.le_refl _ | (simp; done) | (simp; omega) | omega) _) | (with_reducible refine Below.alloc ?_ (by first | exact Nat.le_refl _ | (simp; done) | (simp; omega) | omega) _) | (with_reducible refine below_drewN ?_ _) | (with_reducible refine Below.drew ?_))
  have XM7 := Box.new w6 26 r c (some ⟨g1, 0, none⟩) N q1
  have s7 : w6.heap.size < (w6.alloc (.cells #[.int .i64 r, .int .i64 c, .slice (some ⟨g1, 0, none⟩) N q1] 26)).heap.size := by simp
  clear b6 oM1 oS
  go_upto_region 4 with (fail)
  generalize (w6.alloc (.cells #[.int .i64 r, .int .i64 c, .slice (some ⟨g1, 0, none⟩) N q1] 26)) = w7 at b7 XM7 s7 ⊢
  have B7 := B6.trans (b7.mono B6.size)
  have oM7 := oM2.kept (below_grew b7) (fun q hq => by cases hq)
  have oS7 := oS1.kept (below_grew b7) (fun q hq => by cases hq)
  have H3 := h3.below B7 (Nat.le_refl _)
  obtain ⟨mb, hmb⟩ : ∃ mb, mb = w6.heap.size := ⟨_, rfl⟩
  rw [← hmb] at XM7 s7 ⊢
  have ng1 : mb ≠ g1 := by omega
  have ng2 : mb ≠ g2 := by omega
  have lg1 : g1 < w7.heap.size := by omega
  have lg2 : g2 < w7.heap.size := by omega
  have lw1 : w.heap.size ≤ g1 := by omega
  have lw2 : w.heap.size ≤ g2 := by omega
  clear hmb b7 oM2 oS1 t1 t2 t3 t4 s5 s6 B3 B5 B6 h h2
  go_wp2
  go_loopw [41] (fun i wr => ∃ (k : Nat) (X S : Nat → Nat), k ≤ r ∧ i = .int .i64 k ∧ Own 41 .f32 g1 (g1 + 1) wr (some ⟨g1, 0, none⟩) N q1 X ∧ Own 41 .f32 g2 (g2 + 1) wr (some ⟨g2, 0, none⟩) r q2 S ∧ (∀ t, t < N → vals X t = if t < k * c then wsA c (vals Z) (vals Wt) t else vals Z t) ∧ (∀ t, t < r → vals S t = if t < k then wsB (vals Y) (vals Wt) t else vals Y t) ∧ Out2 w7 wr g1 g2) (fun i _ => r - (intOf i).toNat)
  case atStart => exact ⟨0, Z, Y, Nat.zero_le _, rfl, oM7, oS7, fun t _ => by rw [Nat.zero_mul, if_neg (Nat.not_lt_zero _)], fun t _ => by rw [if_neg (Nat.not_lt_zero _)], Out2.refl _ _ _⟩
  case round =>
    obtain ⟨k, X, S, hk, rfl, k1, k2, v1, v2, ho⟩ := hrel
    clear oM7 oS7 H3
    have XMr := ho.box XM7 s7 ng1 ng2
    have hsr := ho.size
    by_cases hlt : k < r
    · have hdk : decide ((k : Int) < (r : Int)) = true := decide_eq_true (by omega)
      have Br := B7.trans (ho.bel (B := w.heap.size) lw1 lw2 B7.size)
      obtain ⟨pb, po, ea, hbl, hcw, hfvw⟩ := (h3.below Br (Nat.le_refl _)).at hlt
      simp only [Option.some.injEq, Addr.mk.injEq, and_true] at ea
      obtain ⟨rfl, rfl⟩ := ea
      have fw : FV .f32 (Wt k) (vals Wt k) := hfvw
      have hcap := k1.fs.1
      have hmx := k1.fs.2.1
      have hmax : q1 ≤ 9223372036854775807 := by unfold maxLen at hmx; omega
      obtain ⟨cs, fs, _, _, _, wfs⟩ := k2.cell hlt
      have fy : FV .f32 (S k) (vals Y k) := ⟨by have := v2 k hlt; rw [if_neg (Nat.lt_irrefl _)] at this; exact this, wfs⟩
      have HVS : Hid (∀ u, FV .f32 u (fop .mul .f32 (vals Y k) (rtN (vals Wt k))) → ∀ t, t < r → vals (fun t => if t = k then u else S t) t = if t < k + 1 then wsB (vals Y) (vals Wt) t else vals Y t) := Lib.hid fun u hu t ht => by
        show cn .f32 (if t = k then u else S t) = _
        by_cases e : t = k
        · rw [if_pos e, if_pos (by omega), e]; exact hu.1
        · rw [if_neg e]
          have hh := v2 t ht
          show vals S t = _
          rw [hh]
          by_cases e2 : t < k
          · rw [if_pos e2, if_pos (by omega)]
          · rw [if_neg e2, if_neg (by omega)]
      obtain ⟨kc, hkc⟩ : ∃ kc, kc = k * c := ⟨_, rfl⟩
      have hkN : kc + c ≤ N := by
        have e1 : (k + 1) * c ≤ r * c := Nat.mul_le_mul_right c hlt
        rw [Nat.succ_mul] at e1
        rw [hkc, HN.out]; exact e1
      have hrow := fun W => by have hh := rowOf_any g1 0 r c N q1 k W h12 c1 c12 HN.out hcap hmax hlt; rwa [Nat.zero_add, ← hkc] at hh
      have HV1 := Lib.hid v1
      have HKC := Lib.hid hkc
      have HO := Lib.hid ho
      have HK1 := Lib.hid k1
      have HK2 := Lib.hid k2
      obtain ⟨y0, y1, y2⟩ := XMr
      generalize hxs : S k = xs at cs fy
      generalize hxw : Wt k = xw at hcw fw
      generalize vals Y k = yv at fy HVS
      obtain ⟨F, hF⟩ : ∃ F, F = rtN (vals Wt k) := ⟨_, rfl⟩
      rw [← hF] at HVS
      have hFF : ∀ x, FV .f32 x (narrow (fsqrt (widen (vals Wt k)))) → FV .f32 x F := fun x hx => FV.of_eq hx hF.symm
      have HF := Lib.hid hF
      clear k1 k2 v1 v2 ho hbl hfvw hxs hxw wfs hkc hF hcap hmx hmax
      go_wp2_with fail
      go_at_call 45
      refine (implRoot_any _ fw _).mono ?_
      rintro e w8' ⟨rh, rfl, hrh0, mh, rfl⟩
      have hrh := hFF _ hrh0
      have HO8 : Hid (Out2 w7 (wr.drewN mh) g1 g2) := Lib.hid ⟨HO.out.os, HO.out.tape, HO.out.output, HO.out.size, HO.out.block⟩
      have K18 : Hid (Own 41 .f32 g1 (g1 + 1) (wr.drewN mh) (some ⟨g1, 0, none⟩) N q1 X) := HK1
      have K28 : Hid (Own 41 .f32 g2 (g2 + 1) (wr.drewN mh) (some ⟨g2, 0, none⟩) r q2 S) := HK2
      have z0 : (wr.drewN mh).cell? ⟨mb, 0, none⟩ = some (.int .i64 r) := y0
      have z1 : (wr.drewN mh).cell? ⟨mb, 1, none⟩ = some (.int .i64 c) := y1
      have z2 : (wr.drewN mh).cell? ⟨mb, 2, none⟩ = some (.slice (some ⟨g1, 0, none⟩) N q1) := y2
      have ds : (wr.drewN mh).cell? ⟨g2, k, none⟩ = some (.float .f32 xs) := cs
      have es : (wr.drewN mh).frozen? ⟨g2, k, none⟩ = false := fs
      clear hFF hrh0 fw HO HK1 HK2 y0 y1 y2 cs fs hcw
      generalize wr.drewN mh = w8 at HO8 K18 K28 z0 z1 z2 ds es ⊢
      go_wp2_with (refine wpList_farith rfl _ _ _ _ _ rfl rfl _ _ _ rfl rfl fy hrh ?_; intro r6 m6 hr6)
      obtain ⟨O4, G4⟩ := (show Own 41 .f32 g2 (g2 + 1) (w8.drewN m6) (some ⟨g2, 0, none⟩) r q2 S from K28.out).stored hlt hr6.2
      have HO9 : Hid (Out2 w7 ((w8.drewN m6).setCell ⟨g2, k, none⟩ (.float .f32 r6)) g1 g2) := Lib.hid (Out2.right (show Out2 w7 (w8.drewN m6) g1 g2 from ⟨HO8.out.os, HO8.out.tape, HO8.out.output, HO8.out.size, HO8.out.block⟩) G4)
      have K19 := Lib.hid ((show Own 41 .f32 g1 (g1 + 1) (w8.drewN m6) (some ⟨g1, 0, none⟩) N q1 X from K18.out).kept G4 (fun q hq => by cases hq; omega))
      have K29 := Lib.hid O4
      have HS9 := Lib.hid (HVS.out r6 hr6)
      clear O4 G4 HVS HO8 K18 K28 fy
      try go_wp2_with fail
      generalize ((w8.drewN m6).setCell ⟨g2, k, none⟩ (.float .f32 r6)) = w9 at HO9 K19 K29 ⊢
      clear z0 z1 z2 ds es
      go_at_call 42
      refine (hrow _).mono ?_
      rintro e w10 ⟨rfl, b10⟩
      have HO10 := Lib.hid (HO9.out.more b10)
      have K110 := K19.out.kept (below_grew b10) (fun q hq => by cases hq)
      have K210 := Lib.hid (K29.out.kept (below_grew b10) (fun q hq => by cases hq))
      clear hrow b10 HO9 K19 K29
      go_wp2
      go_loopw [60] (fun i wr => ∃ (j : Nat) (X2 : Nat → Nat), j ≤ c ∧ i = .int .i64 j ∧ Own 41 .f32 g1 (g1 + 1) wr (some ⟨g1, 0, none⟩) N q1 X2 ∧ (∀ t, t < N → vals X2 t = mlS F kc (vals X) j t) ∧ w10.grownBy wr (some g1)) (fun i _ => c - (intOf i).toNat)
      case atStart => exact ⟨0, X, Nat.zero_le _, rfl, K110, fun t _ => mlS_zero.symm, World.grownBy.refl _ _⟩
      case round =>
        obtain ⟨j, X2, hj, rfl, k3, v3, g3⟩ := hrel
        clear K110
        by_cases hlj : j < c
        · have hdj : decide ((j : Int) < (c : Int)) = true := decide_eq_true (by omega)
          have hpj : kc + j < N := by omega
          obtain ⟨hce, hfr, _, _, _, wfx⟩ := k3.cell hpj
          have fx : FV .f32 (X2 (kc + j)) (vals X (kc + j)) := ⟨by have := v3 (kc + j) hpj; rw [mlS_next] at this; exact this, wfx⟩
          have HP : Hid (∀ u, FV .f32 u (fop .mul .f32 (vals X (kc + j)) F) → ∀ t, t < N → vals (fun t => if t = kc + j then u else X2 t) t = mlS F kc (vals X) (j + 1) t) := Lib.hid fun u hu => mlS_put v3 hu
          have HK3 := Lib.hid k3
          have HG3 := Lib.hid g3
          generalize X2 (kc + j) = x1 at hce fx
          generalize vals X (kc + j) = V1 at fx HP
          clear k3 v3 g3 wfx
          go_wp2_with (refine wpList_farith rfl _ _ _ _ _ rfl rfl _ _ _ rfl rfl fx hrh ?_; intro r7 m7 hr7)
          obtain ⟨O4, G4⟩ := (show Own 41 .f32 g1 (g1 + 1) (wr.drewN m7) (some ⟨g1, 0, none⟩) N q1 X2 from HK3.out).stored hpj hr7.2
          have G5 : Hid (w10.grownBy ((wr.drewN m7).setCell ⟨g1, kc + j, none⟩ (.float .f32 r7)) (some g1)) := Lib.hid (grownBy_trans HG3.out ⟨G4.os, G4.tape, G4.output, G4.size, G4.block⟩)
          have O5 := Lib.hid O4
          have V5 := Lib.hid (HP.out _ hr7)
          clear O4 G4 HP
          try go_wp2
          go_roundw
          case rel => exact ⟨j + 1, _, by omega, by go_num, O5.out, V5.out, G5.out⟩
          case measure => simp [intOf]; omega
        · obtain rfl : j = c := by omega
          have hdj : decide ((j : Int) < (j : Int)) = false := decide_eq_false (by omega)
          have K1N := Lib.hid k3
          have K2N := Lib.hid (K210.out.kept g3 (fun q hq => by cases hq; omega))
          have HON := Lib.hid (HO10.out.left g3)
          have HVN : Hid (∀ t, t < N → vals X2 t = if t < (k + 1) * j then wsA j (vals Z) (vals Wt) t else vals Z t) := Lib.hid fun t ht => by
            rw [v3 t ht, HF.out, HKC.out]
            exact ws_row c1 HV1.out ht
          clear k3 v3 g3
          go_wp2
          go_roundw
          case rel => exact ⟨k + 1, X2, _, by omega, by go_num, K1N.out, K2N.out, HVN.out, HS9.out, HON.out⟩
          case measure => simp [intOf]; omega
    · obtain rfl : k = r := by omega
      have hdk : decide ((k : Int) < (k : Int)) = false := decide_eq_false (by omega)
      have BW := Lib.hid (B7.trans (ho.bel (B := w.heap.size) lw1 lw2 B7.size))
      have hvX : ∀ t, t < N → vals X t = wsA c (vals Z) (vals Wt) t := fun t ht => by rw [v1 t ht, if_pos (by rw [← HN.out]; exact ht)]
      have hvS : ∀ t, t < k → vals S t = wsB (vals Y) (vals Wt) t := fun t ht => by rw [v2 t ht, if_pos ht]
      have fX := k1.fs
      have fS := k2.fs
      have hsh : ∀ e w', (NOwnIf ok c (wsV k c (vals Z) (vals Y) (vals Wt)) wr e w') → ∃ g' n' d', e = .returned (.tuple #[.slice g' n' d', .bool ok]) := fun e w' hh => hh.shape
      have hcall : Calls Try.prog 18 #[.agg #[.int .i64 k, .int .i64 c, .slice (some ⟨g1, 0, none⟩) N q1], .slice (some ⟨g2, 0, none⟩) k q2] wr (NOwnIf ok c (wsV k c (vals Z) (vals Y) (vals Wt)) wr) := by
        have hvb : validB k c N (vals X) = allFin (wsA c (vals Z) (vals Wt)) N := (validB_nat h1 h12 c1 c12 HN.out).trans (allFin_congr hvX)
        cases ha : (decide (c ≤ k) && allFin (wsA c (vals Z) (vals Wt)) N) with
        | false =>
          have hno : ok = false := by
            rw [HK.out]; unfold wsOk
            cases hd1 : decide (c ≤ k) with
            | false => rfl
            | true => rw [hd1] at ha; rw [show allFin (wsA c (vals Z) (vals Wt)) N = false from by simpa using ha]; rfl
          rw [hno]
          exact implLs_no k c _ _ N q1 k q2 X S wr (by omega) fX (by
            unfold mirB
            rw [hvb]
            have e : decide ((c : Int) ≤ (k : Int)) = decide (c ≤ k) := by by_cases q : c ≤ k <;> simp [q]
            rw [e, Bool.and_comm]; exact ha)
        | true =>
          simp only [Bool.and_eq_true, decide_eq_true_eq] at ha
          obtain ⟨hck, hfa⟩ := ha
          have fX' := fX.sameL (same_datL fX hvX hfa)
          have hvD : validB k c N (vals (datL (wsA c (vals Z) (vals Wt)))) = true := by
            rw [validB_nat h1 h12 c1 c12 HN.out, allFin_congr (vals_datL fX hvX hfa)]; exact hfa
          cases hfs : allFin (wsB (vals Y) (vals Wt)) k with
          | true =>
            have fS' := fS.sameL (same_datL fS hvS hfs)
            have hh := implLs_yes k c N _ g1 0 q1 k q2 (some ⟨g2, 0, none⟩) (datL (wsA c (vals Z) (vals Wt))) (datL (wsB (vals Y) (vals Wt))) wr h1 h12 c1 c12 hck HN.out rfl (by omega) hvD fX' fS'
            have hq : lqOk k c k (datL (wsA c (vals Z) (vals Wt))) (vals (datL (wsB (vals Y) (vals Wt)))) = ok := by
              rw [HK.out]; unfold wsOk
              rw [hfa, hfs, decide_eq_true hck]; rfl
            rw [hq] at hh
            exact hh
          | false =>
            have hh := implLs_yes k c N _ g1 0 q1 k q2 (some ⟨g2, 0, none⟩) (datL (wsA c (vals Z) (vals Wt))) S wr h1 h12 c1 c12 hck HN.out rfl (by omega) hvD fX' fS
            have hno : ok = false := by rw [HK.out]; unfold wsOk; rw [hfs]; simp
            have hq : lqOk k c k (datL (wsA c (vals Z) (vals Wt))) (vals S) = false := by
              unfold lqOk fitsB
              rw [vec_of h1 h12, allFin_congr hvS, hfs]
              simp
            rw [hq] at hh
            rw [hno]
            exact hh
      obtain ⟨y0, y1, y2⟩ := XMr
      clear k1 k2 v1 v2 ho hvX hvS fX fS
      go_wp2_with fail
      go_at_call 18
      refine hcall.mono ?_
      intro e w9 hh
      obtain ⟨g', n', d', rfl⟩ := hsh _ _ hh
      have HH := Lib.hid (hh.lift BW.out)
      clear hh hcall hsh
      go_wp2_with fail
      go_ret2
      exact HH.out
end Go.Proofs.Ytcibjkadlndejaa
