/- Helper: what misses least: sums of products with upright columns, and what the upper square makes of them. Conditions: none. -/
import Derived.Test.YtcibjkadlndejaaMirDefs
import Derived.Test.YtcibjkadlndejaaUpSpec
set_option linter.unusedVariables false
set_option linter.unusedSimpArgs false
namespace Go.Proofs.Ytcibjkadlndejaa
open Go.RowKit

/-- Numbers as they lie in cells. -/
def datL (V : Nat → Option Nat) (t : Nat) : Nat := (V t).getD 0
theorem datL_of {V : Nat → Option Nat} {t y : Nat} (h : FV .f32 y (V t)) (hf : finite .f32 (V t) = true) : y = datL V t := by
  unfold datL
  cases hv : V t with
  | none => rw [hv] at hf; cases hf
  | some x => rw [hv] at h; exact h.eq
theorem fsL_fv {w : World} {a : Option Addr} {n c t : Nat} {Y : Nat → Nat} (h : FS .f32 w a n c Y) (ht : t < n) : FV .f32 (Y t) (vals Y t) := (h.at ht).elim fun _ q => q.elim fun _ q => q.2.2.2
theorem same_datL {w : World} {a : Option Addr} {n c : Nat} {Y : Nat → Nat} {V : Nat → Option Nat} (h : FS .f32 w a n c Y) (e : ∀ t, t < n → vals Y t = V t) (hf : allFin V n = true) : ∀ t, t < n → Y t = datL V t := fun t ht =>
  datL_of (FV.of_eq (fsL_fv h ht) (e t ht)) (allFin_lt hf ht)
theorem FS.sameL {k : FloatKind} {w : World} {a : Option Addr} {n c : Nat} {Z Y : Nat → Nat} (h : FS k w a n c Z) (e : ∀ j, j < n → Z j = Y j) : FS k w a n c Y :=
  ⟨h.1, h.2.1, fun i hi => by
    obtain ⟨b, off, q1, q2, q3, q4⟩ := h.2.2 i hi
    exact ⟨b, off, q1, q2, by rw [← e i hi]; exact q3, by rw [← e i hi]; exact q4⟩⟩
theorem vals_datL {w : World} {a : Option Addr} {n c : Nat} {Y : Nat → Nat} {V : Nat → Option Nat} (h : FS .f32 w a n c Y) (e : ∀ t, t < n → vals Y t = V t) (hf : allFin V n = true) : ∀ t, t < n → vals (datL V) t = V t := fun t ht => by
  show cn .f32 (datL V t) = V t
  rw [← same_datL h e hf t ht]
  exact e t ht
theorem allFin_flipM {r c N : Nat} {V G : Nat → Option Nat} (hr : 1 ≤ r) (hc : 1 ≤ c) (hN : N = r * c) (h : ∀ i q, i < r → q < c → V (i * c + q) = G (q * r + i)) : allFin V N = allFin G (c * r) := by
  have fin_all : ∀ {V : Nat → Option Nat} {n : Nat}, (∀ i, i < n → finite .f32 (V i) = true) → allFin V n = true := by
    intro V n
    induction n with
    | zero => intro _; rfl
    | succ n ih => intro hh; exact allFin_succ (ih fun i hi => hh i (by omega)) (hh n (by omega))
  rw [Bool.eq_iff_iff]
  constructor
  · intro hv
    refine fin_all fun t ht => ?_
    have h5 : t / r < c := Nat.div_lt_of_lt_mul (by rw [Nat.mul_comm]; exact ht)
    have h6 : t % r < r := Nat.mod_lt _ hr
    have h7 := h (t % r) (t / r) h6 h5
    rw [place_eq] at h7
    rw [← h7]
    exact allFin_lt hv (by rw [hN]; exact place_lt h6 h5)
  · intro hv
    refine fin_all fun t ht => ?_
    have h5 : t / c < r := Nat.div_lt_of_lt_mul (by rw [Nat.mul_comm, ← hN]; exact ht)
    have h6 : t % c < c := Nat.mod_lt _ hc
    have h7 := h (t / c) (t % c) h5 h6
    rw [place_eq] at h7
    rw [h7]
    exact allFin_lt hv (place_lt h6 h5)
theorem flip_read {r c N : Nat} {V G : Nat → Option Nat} (hc : 1 ≤ c) (hN : N = r * c) (h : ∀ i q, i < r → q < c → V (i * c + q) = G (q * r + i)) : ∀ t, t < N → V t = G (t % c * r + t / c) := fun t ht => by
  have h5 : t / c < r := Nat.div_lt_of_lt_mul (by rw [Nat.mul_comm, ← hN]; exact ht)
  have h6 : t % c < c := Nat.mod_lt _ hc
  have h7 := h (t / c) (t % c) h5 h6
  rwa [place_eq] at h7
theorem ne_lenL {n2 : Nat} {R : Int} (h : ¬ (n2 : Int) = R) : ((n2 : Int) != R) = true := by
  simp [bne, beq_eq_false_iff_ne.2 h]
/-- The sums of products with the columns. -/
def lqS (r : Nat) (P : GS) (Y : Nat → Option Nat) (i : Nat) : Option Nat := dotG (fun k => P.1 (i * r + k)) Y r
def lqV (r c : Nat) (P : GS) (Y : Nat → Option Nat) : Nat → Option Nat := upY (sq c (datL P.2)) true c (vals (datL (lqS r P Y))) c
def lqU (r c : Nat) (P : GS) (Y : Nat → Option Nat) : Bool := allFin (lqS r P Y) c && (!anyZ (fun i => sq c (datL P.2) i i) c && allFin (lqV r c P Y) c)
def lqOk (r c n2 : Nat) (Z : Nat → Nat) (Y : Nat → Option Nat) : Bool := mirOk r c (mirP r c Z) && (fitsB r n2 Y && lqU r c (gsC r c (mirP r c Z) c) Y)
theorem NOwnIf.shape {ok : Bool} {n : Nat} {V : Nat → Option Nat} {w : World} {e : Ending} {w' : World} (h : NOwnIf ok n V w e w') : ∃ g n' d, e = .returned (.tuple #[.slice g n' d, .bool ok]) := by
  cases ok with
  | true => obtain ⟨g, d, Y, rfl, _⟩ := h; exact ⟨g, n, d, rfl⟩
  | false => obtain ⟨g, d, Y, rfl, _⟩ := h; exact ⟨g, 0, d, rfl⟩
theorem NBelIf.shape {ok : Bool} {n : Nat} {V : Nat → Option Nat} {w : World} {e : Ending} {w' : World} (h : NBelIf ok n V w e w') : ∃ g n' d, e = .returned (.tuple #[.slice g n' d, .bool ok]) := by
  cases ok with
  | true => obtain ⟨g, d, Y, rfl, _⟩ := h; exact ⟨g, n, d, rfl⟩
  | false => obtain ⟨g, d, Y, rfl, _⟩ := h; exact ⟨g, 0, d, rfl⟩
theorem NOwnIf.lift {ok : Bool} {n : Nat} {V : Nat → Option Nat} {w w1 : World} {e : Ending} {w' : World} (h : NOwnIf ok n V w1 e w') (b : Below w.heap.size w w1) : NOwnIf ok n V w e w' := by
  cases ok with
  | true => obtain ⟨g, d, Y, e1, o, v, b2⟩ := h; exact ⟨g, d, Y, e1, Own.mono o b.size (Nat.le_refl _) (Nat.le_refl _), v, b.trans (b2.mono b.size)⟩
  | false => obtain ⟨g, d, Y, e1, o, v, b2⟩ := h; exact ⟨g, d, Y, e1, Own.mono o b.size (Nat.le_refl _) (Nat.le_refl _), v, b.trans (b2.mono b.size)⟩
theorem NBelIf.lift {ok : Bool} {n : Nat} {V : Nat → Option Nat} {w w1 : World} {e : Ending} {w' : World} (h : NBelIf ok n V w1 e w') (b : Below w.heap.size w w1) : NBelIf ok n V w e w' := by
  cases ok with
  | true => obtain ⟨g, d, Y, e1, o, v, b2⟩ := h; exact ⟨g, d, Y, e1, o, v, b.trans (b2.mono b.size)⟩
  | false => obtain ⟨g, d, Y, e1, o, v, b2⟩ := h; exact ⟨g, d, Y, e1, o, v, b.trans (b2.mono b.size)⟩
theorem NOwnIf.cast {ok ok' : Bool} {n : Nat} {V : Nat → Option Nat} {w : World} {e : Ending} {w' : World} (h : NOwnIf ok n V w e w') (q : ok = ok') : NOwnIf ok' n V w e w' := by subst q; exact h
theorem NBelIf.cast {ok ok' : Bool} {n : Nat} {V : Nat → Option Nat} {w : World} {e : Ending} {w' : World} (h : NBelIf ok n V w e w') (q : ok = ok') : NBelIf ok' n V w e w' := by subst q; exact h
theorem NOwnIf.none_of {ok : Bool} {n : Nat} {V V' : Nat → Option Nat} {w : World} {e : Ending} {w' : World} (h : NOwnIf ok n V w e w') (q : ok = false) : NOwnIf ok n V' w e w' := by subst q; exact h
theorem NBelIf.none_of {ok : Bool} {n : Nat} {V V' : Nat → Option Nat} {w : World} {e : Ending} {w' : World} (h : NBelIf ok n V w e w') (q : ok = false) : NBelIf ok n V' w e w' := by subst q; exact h
end Go.Proofs.Ytcibjkadlndejaa
