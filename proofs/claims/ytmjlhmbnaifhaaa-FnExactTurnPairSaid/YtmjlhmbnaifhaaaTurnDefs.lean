/- Helper: two rows of a square turned in place, and its columns. Conditions: none. -/
import Derived.Test.YtmjlhmbnaifhaaaAddDefs
import Derived.Test.YtmjlhmbnaifhaaaTurnFacts
import Derived.Test.YtmjlhmbnaifhaaaFlipWalks
set_option linter.unusedVariables false
set_option linter.unusedSimpArgs false
namespace Go.Proofs.Ytmjlhmbnaifhaaa
open Go.RowKit

/-- One list of which the pairs from o1 and o2 on are turned, j of them. -/
def tnS (c s : Option Nat) (o1 o2 : Nat) (X : Nat → Option Nat) (j t : Nat) : Option Nat :=
  if o1 ≤ t ∧ t < o1 + j then tnP c s (X t) (X (t - o1 + o2)) else if o2 ≤ t ∧ t < o2 + j then tnM c s (X (t - o2 + o1)) (X t) else X t
theorem tnS_zero {c s : Option Nat} {o1 o2 : Nat} {X : Nat → Option Nat} {t : Nat} : tnS c s o1 o2 X 0 t = X t := by
  unfold tnS
  rw [if_neg (by omega), if_neg (by omega)]
theorem tnS_left {c s : Option Nat} {o1 o2 j m : Nat} {X : Nat → Option Nat} (hd : o1 + m ≤ o2 ∨ o2 + m ≤ o1) (hj : j < m) : tnS c s o1 o2 X j (o1 + j) = X (o1 + j) := by
  unfold tnS
  rw [if_neg (by omega), if_neg (by omega)]
theorem tnS_right {c s : Option Nat} {o1 o2 j m : Nat} {X : Nat → Option Nat} (hd : o1 + m ≤ o2 ∨ o2 + m ≤ o1) (hj : j < m) : tnS c s o1 o2 X j (o2 + j) = X (o2 + j) := by
  unfold tnS
  rw [if_neg (by omega), if_neg (by omega)]
theorem tnS_put {c s : Option Nat} {o1 o2 j m N : Nat} {X : Nat → Option Nat} {D : Nat → Nat} {u v : Nat} (hd : o1 + m ≤ o2 ∨ o2 + m ≤ o1) (hj : j < m) (h : ∀ t, t < N → vals D t = tnS c s o1 o2 X j t)
    (hu : FV .f32 u (tnP c s (X (o1 + j)) (X (o2 + j)))) (hv : FV .f32 v (tnM c s (X (o1 + j)) (X (o2 + j)))) :
    ∀ t, t < N → vals (fun t => if t = o2 + j then v else if t = o1 + j then u else D t) t = tnS c s o1 o2 X (j + 1) t := by
  intro t ht
  show cn .f32 (if t = o2 + j then v else if t = o1 + j then u else D t) = _
  unfold tnS
  by_cases e : t = o2 + j
  · subst e
    rw [if_pos rfl, if_neg (by omega), if_pos (by omega), show o2 + j - o2 + o1 = o1 + j by omega]
    exact hv.1
  · rw [if_neg e]
    by_cases e2 : t = o1 + j
    · subst e2
      rw [if_pos rfl, if_pos (by omega), show o1 + j - o1 + o2 = o2 + j by omega]
      exact hu.1
    · rw [if_neg e2]
      have hh := h t ht
      show vals D t = _
      rw [hh]
      unfold tnS
      by_cases e3 : o1 ≤ t ∧ t < o1 + j
      · rw [if_pos e3, if_pos (by omega)]
      · rw [if_neg e3, if_neg (show ¬ (o1 ≤ t ∧ t < o1 + (j + 1)) by omega)]
        by_cases e4 : o2 ≤ t ∧ t < o2 + j
        · rw [if_pos e4, if_pos (by omega)]
        · rw [if_neg e4, if_neg (by omega)]
theorem tnS_congr {c s : Option Nat} {o1 o2 j m N : Nat} {X Y : Nat → Option Nat} (h1 : o1 + m ≤ N) (h2 : o2 + m ≤ N) (hj : j ≤ m) (h : ∀ t, t < N → X t = Y t) : ∀ t, t < N → tnS c s o1 o2 X j t = tnS c s o1 o2 Y j t := by
  intro t ht
  unfold tnS
  rw [h t ht]
  by_cases e : o1 ≤ t ∧ t < o1 + j
  · rw [if_pos e, if_pos e, h _ (by omega)]
  · rw [if_neg e, if_neg e]
    by_cases e2 : o2 ≤ t ∧ t < o2 + j
    · rw [if_pos e2, if_pos e2, h _ (by omega)]
    · rw [if_neg e2, if_neg e2]
/-- A square of which the columns x and y are turned in the first j rows. -/
def ctS (c s : Option Nat) (r x y : Nat) (V : Nat → Option Nat) (j t : Nat) : Option Nat :=
  if t % r = x ∧ t / r < j then tnP c s (V t) (V (t / r * r + y)) else if t % r = y ∧ t / r < j then tnM c s (V (t / r * r + x)) (V t) else V t
/-- A square of which rows and columns x and y are turned. -/
def tpV (c s : Option Nat) (r x y : Nat) (V : Nat → Option Nat) (t : Nat) : Option Nat :=
  if t = x * r + y ∨ t = y * r + x then some 0 else ctS c s r x y (tnS c s (x * r) (y * r) V r) r t
theorem ctS_zero {c s : Option Nat} {r x y t : Nat} {V : Nat → Option Nat} : ctS c s r x y V 0 t = V t := by
  unfold ctS
  rw [if_neg (fun h => Nat.not_lt_zero _ h.2), if_neg (fun h => Nat.not_lt_zero _ h.2)]
theorem ctS_next {c s : Option Nat} {r x y j q : Nat} {V : Nat → Option Nat} (hq : q < r) : ctS c s r x y V j (j * r + q) = V (j * r + q) := by
  obtain ⟨h1, h2⟩ := place_div (j := j) hq
  unfold ctS
  rw [h1, if_neg (fun h => Nat.lt_irrefl _ h.2), if_neg (fun h => Nat.lt_irrefl _ h.2)]
theorem ctS_put {c s : Option Nat} {r x y j N : Nat} {V : Nat → Option Nat} {D : Nat → Nat} {u v : Nat} (hxy : x < y) (hy : y < r) (h : ∀ t, t < N → vals D t = ctS c s r x y V j t)
    (hu : FV .f32 u (tnP c s (V (j * r + x)) (V (j * r + y)))) (hv : FV .f32 v (tnM c s (V (j * r + x)) (V (j * r + y)))) :
    ∀ t, t < N → vals (fun t => if t = j * r + y then v else if t = j * r + x then u else D t) t = ctS c s r x y V (j + 1) t := by
  intro t ht
  obtain ⟨a1, a2⟩ := place_div (j := j) (show x < r by omega)
  obtain ⟨b1, b2⟩ := place_div (j := j) hy
  show cn .f32 (if t = j * r + y then v else if t = j * r + x then u else D t) = _
  by_cases e : t = j * r + y
  · subst e
    unfold ctS
    rw [if_pos rfl, b1, b2, if_neg (by omega), if_pos ⟨rfl, Nat.lt_succ_self _⟩]
    exact hv.1
  · rw [if_neg e]
    by_cases e2 : t = j * r + x
    · subst e2
      unfold ctS
      rw [if_pos rfl, a1, a2, if_pos ⟨rfl, Nat.lt_succ_self _⟩]
      exact hu.1
    · rw [if_neg e2]
      have hh := h t ht
      show vals D t = _
      rw [hh]
      have hp := place_eq (c := r) (t := t)
      have n1 : ¬ (t % r = x ∧ t / r = j) := fun q => e2 (by rw [← hp, q.1, q.2])
      have n2 : ¬ (t % r = y ∧ t / r = j) := fun q => e (by rw [← hp, q.1, q.2])
      unfold ctS
      by_cases e3 : t % r = x ∧ t / r < j
      · rw [if_pos e3, if_pos ⟨e3.1, by omega⟩]
      · rw [if_neg e3, if_neg (show ¬ (t % r = x ∧ t / r < j + 1) by omega)]
        by_cases e4 : t % r = y ∧ t / r < j
        · rw [if_pos e4, if_pos ⟨e4.1, by omega⟩]
        · rw [if_neg e4, if_neg (show ¬ (t % r = y ∧ t / r < j + 1) by omega)]
theorem ctS_congr {c s : Option Nat} {r x y j N : Nat} {V W : Nat → Option Nat} (hN : N = r * r) (hx : x < r) (hy : y < r) (h : ∀ t, t < N → V t = W t) : ∀ t, t < N → ctS c s r x y V j t = ctS c s r x y W j t := by
  intro t ht
  have h1 : t / r < r := Nat.div_lt_of_lt_mul (by rw [← hN]; exact ht)
  unfold ctS
  rw [h t ht, h (t / r * r + y) (by rw [hN]; exact place_lt h1 hy), h (t / r * r + x) (by rw [hN]; exact place_lt h1 hx)]
/-- The columns turned are the rows of the flipped square turned, and flipped. -/
theorem flip_cols {c s : Option Nat} {r x y N : Nat} {V : Nat → Option Nat} (hN : N = r * r) (hx : x < r) (hy : y < r) {t : Nat} (ht : t < N) :
    tnS c s (x * r) (y * r) (fun t => V (t % r * r + t / r)) r (t % r * r + t / r) = ctS c s r x y V r t := by
  have h1 : t / r < r := Nat.div_lt_of_lt_mul (by rw [← hN]; exact ht)
  have h0 : 0 < r := by omega
  have h2 : t % r < r := Nat.mod_lt _ h0
  have hp := place_eq (c := r) (t := t)
  obtain ⟨i, hi⟩ : ∃ i, i = t / r := ⟨_, rfl⟩
  obtain ⟨j, hj⟩ : ∃ j, j = t % r := ⟨_, rfl⟩
  rw [← hi] at h1
  rw [← hj] at h2
  rw [← hi, ← hj] at hp
  obtain ⟨a1, a2⟩ := place_div (j := j) h1
  have hr1 : ∀ z, z < r → (z * r ≤ j * r + i ∧ j * r + i < z * r + r ↔ j = z) := fun z hz => by
    constructor
    · intro hh
      have g1 : (j * r + i) / r = z := Nat.div_eq_of_lt_le hh.1 (by rw [Nat.succ_mul]; exact hh.2)
      omega
    · rintro rfl; omega
  have hF : ∀ z, (fun t => V (t % r * r + t / r)) (z * r + i) = V (i * r + z) := fun z => by
    obtain ⟨b1, b2⟩ := place_div (j := z) h1
    show V ((z * r + i) % r * r + (z * r + i) / r) = _
    rw [b1, b2]
  generalize (fun t => V (t % r * r + t / r)) = F at hF ⊢
  have hFt : F (j * r + i) = V t := (hF j).trans (by rw [hp])
  unfold tnS ctS
  rw [← hi, ← hj]
  by_cases e : j = x
  · rw [if_pos ((hr1 x hx).2 e), if_pos (show j = x ∧ i < r from ⟨e, h1⟩)]
    have e3 : j * r + i - x * r + y * r = y * r + i := by rw [e]; omega
    rw [e3, hFt, hF]
  · rw [if_neg (show ¬ (x * r ≤ j * r + i ∧ j * r + i < x * r + r) from fun q => e ((hr1 x hx).1 q)), if_neg (show ¬ (j = x ∧ i < r) from fun q => e q.1)]
    by_cases e2 : j = y
    · rw [if_pos ((hr1 y hy).2 e2), if_pos (show j = y ∧ i < r from ⟨e2, h1⟩)]
      have e3 : j * r + i - y * r + x * r = x * r + i := by rw [e2]; omega
      rw [e3, hFt, hF]
    · rw [if_neg (show ¬ (y * r ≤ j * r + i ∧ j * r + i < y * r + r) from fun q => e2 ((hr1 y hy).1 q)), if_neg (show ¬ (j = y ∧ i < r) from fun q => e2 q.1), hFt]

theorem tp_end {c s : Option Nat} {r x y N : Nat} {U F2 F3 : Nat → Nat} {V : Nat → Option Nat} (hN : N = r * r) (hxy : x < y) (hy : y < r) (hU : ∀ t, t < N → vals U t = tnS c s (x * r) (y * r) V r t)
    (h2 : ∀ t, t < N → vals F2 t = tnS c s (x * r) (y * r) (vals (flipZ r r U)) r t) (h3 : ∀ t, t < N → vals F3 t = if t = y * r + x ∨ t = x * r + y then some 0 else vals F2 t) : ∀ t, t < N → vals (flipZ r r F3) t = tpV c s r x y V t := by
  intro t ht
  have hx : x < r := by omega
  have h0 : 0 < r := by omega
  have h1 : t / r < r := Nat.div_lt_of_lt_mul (by rw [← hN]; exact ht)
  have hm : t % r < r := Nat.mod_lt _ h0
  have hlt : t % r * r + t / r < N := by rw [hN]; exact place_lt hm h1
  have hp := place_eq (c := r) (t := t)
  show vals F3 (t % r * r + t / r) = _
  rw [h3 _ hlt]
  have key : ∀ a b, a < r → b < r → (t % r * r + t / r = b * r + a ↔ t = a * r + b) := fun a b ha hb => by
    constructor
    · intro e
      obtain ⟨p1, p2⟩ := place_div (j := t % r) h1
      obtain ⟨q1, q2⟩ := place_div (j := b) ha
      rw [e, q1] at p1
      rw [e, q2] at p2
      rw [← hp, ← p1, ← p2]
    · intro e
      obtain ⟨p1, p2⟩ := place_div (j := a) hb
      have e1 : t / r = a := by rw [e]; exact p1
      have e2 : t % r = b := by rw [e]; exact p2
      rw [e1, e2]
  unfold tpV
  by_cases e : t = x * r + y ∨ t = y * r + x
  · rw [if_pos e, if_pos (e.imp (fun q => (key x y hx hy).2 q) (fun q => (key y x hy hx).2 q))]
  · rw [if_neg e, if_neg (fun q => e (q.imp (fun q => (key x y hx hy).1 q) (fun q => (key y x hy hx).1 q))), h2 _ hlt]
    refine (flip_cols (V := vals U) hN hx hy ht).trans (ctS_congr hN hx hy hU t ht)

set_option maxRecDepth 20000 in
set_option maxHeartbeats 2000000 in
theorem turn_same (g o1 c1 o2 c2 N d B U m cc ss : Nat) {C S : Option Nat} (fc : FV .f32 cc C) (fs : FV .f32 ss S) (X : Nat → Nat) (w : World) (hm : m ≤ 144) (h1 : o1 + m ≤ N) (h2 : o2 + m ≤ N) (hc1 : m ≤ c1) (hc2 : m ≤ c2) (hn1 : c1 ≤ 9223372036854775807) (hn2 : c2 ≤ 9223372036854775807) (hd : o1 + m ≤ o2 ∨ o2 + m ≤ o1) (hne : o1 ≠ o2)
    (a1 : Own 33 .f32 B U w (some ⟨g, 0, none⟩) N d X) :
    Calls Try.prog 53 #[.slice (some ⟨g, o1, none⟩) m c1, .slice (some ⟨g, o2, none⟩) m c2, .float .f32 cc, .float .f32 ss] w fun e w' => e = .returned (.tuple #[]) ∧ ∃ X2, Own 33 .f32 B U w' (some ⟨g, 0, none⟩) N d X2 ∧ (∀ t, t < N → vals X2 t = tnS C S o1 o2 (vals X) m t) ∧ w.grownBy w' (some g) := by
  have hne' : o2 ≠ o1 := fun e => hne e.symm
  have HD := Lib.hid hd
  clear hd
  go_enter Try.func53, Try.ntmps53
  go_wp2
  go_loopw [13] (fun i wr => ∃ (q : Nat) (X2 : Nat → Nat), q ≤ m ∧ i = .int .i64 q ∧ Own 33 .f32 B U wr (some ⟨g, 0, none⟩) N d X2 ∧ (∀ t, t < N → vals X2 t = tnS C S o1 o2 (vals X) q t) ∧ w.grownBy wr (some g)) (fun i _ => m - (intOf i).toNat)
  case atStart => exact ⟨0, X, Nat.zero_le _, rfl, a1, fun t _ => tnS_zero.symm, World.grownBy.refl _ _⟩
  case round =>
    obtain ⟨q, X2, hq, rfl, k1, v1, ho⟩ := hrel
    clear a1
    by_cases hlt : q < m
    · obtain ⟨ce1, fr1, _, _, _, wf1⟩ := k1.cell (t := o1 + q) (by omega)
      obtain ⟨ce2, fr2, _, _, _, wf2⟩ := k1.cell (t := o2 + q) (by omega)
      have fx : FV .f32 (X2 (o1 + q)) (vals X (o1 + q)) := ⟨(v1 _ (by omega)).trans (tnS_left HD.out hlt), wf1⟩
      have fy : FV .f32 (X2 (o2 + q)) (vals X (o2 + q)) := ⟨(v1 _ (by omega)).trans (tnS_right HD.out hlt), wf2⟩
      have K1 := Lib.hid k1
      have V1 := Lib.hid v1
      have HO := Lib.hid ho
      obtain ⟨x, hx⟩ : ∃ x, x = X2 (o1 + q) := ⟨_, rfl⟩
      obtain ⟨y, hy⟩ : ∃ y, y = X2 (o2 + q) := ⟨_, rfl⟩
      rw [← hx] at ce1 fx
      rw [← hy] at ce2 fy
      clear k1 v1 ho hx hy wf1 wf2
      go_wp2_with (first
        | (refine wpList_farith rfl _ _ _ _ _ rfl rfl _ _ _ rfl rfl fc fx ?_; intro r1 m1 hr1)
        | (refine wpList_farith rfl _ _ _ _ _ rfl rfl _ _ _ rfl rfl fs fy ?_; intro r2 m2 hr2)
        | (refine wpList_farith rfl _ _ _ _ _ rfl rfl _ _ _ rfl rfl hr1 hr2 ?_; intro r3 m3 hr3)
        | (refine wpList_farith rfl _ _ _ _ _ rfl rfl _ _ _ rfl rfl fc fy ?_; intro r4 m4 hr4)
        | (refine wpList_farith rfl _ _ _ _ _ rfl rfl _ _ _ rfl rfl fs fx ?_; intro r5 m5 hr5)
        | (refine wpList_farith rfl _ _ _ _ _ rfl rfl _ _ _ rfl rfl hr4 hr5 ?_; intro r6 m6 hr6))
      obtain ⟨P1, G1⟩ := (show Own 33 .f32 B U (wr.drewN (m1 + m2 + m3)) (some ⟨g, 0, none⟩) N d X2 from K1.out).stored (t := o1 + q) (v := r3) (by omega) hr3.2
      have O1 : w.grownBy ((wr.drewN (m1 + m2 + m3)).setCell ⟨g, o1 + q, none⟩ (.float .f32 r3)) (some g) := grownBy_trans HO.out ⟨G1.os, G1.tape, G1.output, G1.size, G1.block⟩
      generalize (wr.drewN (m1 + m2 + m3)).setCell ⟨g, o1 + q, none⟩ (.float .f32 r3) = wA at P1 O1 ⊢
      obtain ⟨P3, G3⟩ := (show Own 33 .f32 B U (wA.drewN (m4 + m5 + m6)) (some ⟨g, 0, none⟩) N d _ from P1).stored (t := o2 + q) (v := r6) (by omega) hr6.2
      have O3 : w.grownBy ((wA.drewN (m4 + m5 + m6)).setCell ⟨g, o2 + q, none⟩ (.float .f32 r6)) (some g) := grownBy_trans O1 ⟨G3.os, G3.tape, G3.output, G3.size, G3.block⟩
      have W1 := tnS_put HD.out hlt V1.out (show FV .f32 r3 (tnP C S (vals X (o1 + q)) (vals X (o2 + q))) from hr3) (show FV .f32 r6 (tnM C S (vals X (o1 + q)) (vals X (o2 + q))) from hr6)
      go_roundw
      case rel => exact ⟨q + 1, _, by omega, by go_num, P3, W1, O3⟩
      case measure => simp [intOf] <;> omega
    · obtain rfl : q = m := by omega
      have K1 := Lib.hid k1
      have V1 := Lib.hid v1
      have HO := Lib.hid ho
      clear k1 v1 ho
      go_wp2
      go_end0
      exact ⟨rfl, X2, K1.out, V1.out, HO.out⟩
theorem turnBy_any (cc ss : Nat) (w : World) :
    Calls Try.prog 60 #[.float .f32 cc, .float .f32 ss] w fun e w' => e = .returned (.func (.func 84) #[] #[.pointer (some ⟨w.heap.size, 0, none⟩), .pointer (some ⟨w.heap.size + 1, 0, none⟩)]) ∧
      w'.cell? ⟨w.heap.size, 0, none⟩ = some (.float .f32 cc) ∧ w'.cell? ⟨w.heap.size + 1, 0, none⟩ = some (.float .f32 ss) ∧ w'.heap.size = w.heap.size + 1 + 1 ∧ Below w.heap.size w w' := by
  have hmf : ∀ (fn : Fn) (first cap : Array Value) (w : World), (Instr.makeFunc fn first cap).run Try.prog w = .ok (.func fn first cap) w := fun _ _ _ _ => rfl
  go_enter Try.func60, Try.ntmps60
  go_wp2
  go_ret
  exact ⟨rfl, by simp [go_sem], by simp [go_sem], by simp, (by repeat first | (with_reducible exact Below.refl _ _) | (with_reducible refine Below.setCell ?_ (by first | exact Nat.le_refl _ | (simp; done) | (simp; omega) | omega) _) | (with_reducible refine Below.alloc ?_ (by first | exact Nat.le_refl _ | (simp; done) | (simp; omega) | omega) _) | (with_reducible refine below_drewN ?_ _) | (with_reducible refine Below.drew ?_))⟩
set_option maxRecDepth 20000 in
theorem turnBy1_any (Bc Bs g o1 c1 o2 c2 N d B U m cc ss : Nat) {C S : Option Nat} (fc : FV .f32 cc C) (fs : FV .f32 ss S) (X : Nat → Nat) (w : World) (hBc : w.cell? ⟨Bc, 0, none⟩ = some (.float .f32 cc)) (hBs : w.cell? ⟨Bs, 0, none⟩ = some (.float .f32 ss)) (hm : m ≤ 144) (h1 : o1 + m ≤ N) (h2 : o2 + m ≤ N) (hc1 : m ≤ c1) (hc2 : m ≤ c2) (hn1 : c1 ≤ 9223372036854775807) (hn2 : c2 ≤ 9223372036854775807) (hd : o1 + m ≤ o2 ∨ o2 + m ≤ o1) (hne : o1 ≠ o2)
    (a1 : Own 33 .f32 B U w (some ⟨g, 0, none⟩) N d X) :
    Calls Try.prog 84 #[.slice (some ⟨g, o1, none⟩) m c1, .slice (some ⟨g, o2, none⟩) m c2, .pointer (some ⟨Bc, 0, none⟩), .pointer (some ⟨Bs, 0, none⟩)] w fun e w' => e = .returned (.tuple #[]) ∧ ∃ X2, Own 33 .f32 B U w' (some ⟨g, 0, none⟩) N d X2 ∧ (∀ t, t < N → vals X2 t = tnS C (fneg .f32 S) o1 o2 (vals X) m t) ∧ w.grownBy w' (some g) := by
  have hd' := Lib.hid hd
  clear hd
  go_enter Try.func84, Try.ntmps84
  go_wp2_with fail
  go_at_call 53
  refine (turn_same g o1 c1 o2 c2 N d B U m cc _ fc (FV.neg fs) X _ hm h1 h2 hc1 hc2 hn1 hn2 hd'.out hne a1).mono ?_
  rintro e w1 ⟨rfl, X2, k1, v1, g1⟩
  go_wp2_with fail
  go_end0
  exact ⟨rfl, X2, k1, v1, g1⟩
end Go.Proofs.Ytmjlhmbnaifhaaa
