/- Helper: numbers less products, triangles that are solved: what is told of them. Conditions: none. -/
import Derived.Test.YtcibjkadlndejaaNums
import Derived.Test.YtcibjkadlndejaaSquare
set_option linter.unusedVariables false
set_option linter.unusedSimpArgs false
namespace Go.Proofs.Ytcibjkadlndejaa
open Go.RowKit

/-- A number less the products, one after another. -/
def lessG (s : Option Nat) (A B : Nat → Option Nat) : Nat → Option Nat
  | 0 => s
  | i + 1 => fop .sub .f32 (lessG s A B i) (fop .mul .f32 (A i) (B i))
theorem lessG_succ (s : Option Nat) (A B : Nat → Option Nat) (i : Nat) : fop .sub .f32 (lessG s A B i) (fop .mul .f32 (A i) (B i)) = lessG s A B (i + 1) := rfl
theorem lessG_congr {s s' : Option Nat} {A B A' B' : Nat → Option Nat} (hs : s = s') : ∀ {n : Nat}, (∀ j, j < n → A j = A' j ∧ B j = B' j) → lessG s A B n = lessG s' A' B' n
  | 0, _ => hs
  | n + 1, h => by simp only [lessG]; rw [lessG_congr hs fun j hj => h j (by omega), (h n (by omega)).1, (h n (by omega)).2]

/-- Whether a number is a zero. -/
def isZero (X : Option Nat) : Bool := ford .f32 X (some 0) == some .eq
def anyZ (V : Nat → Option Nat) : Nat → Bool
  | 0 => false
  | i + 1 => anyZ V i || isZero (V i)
theorem anyZ_no {V : Nat → Option Nat} : ∀ {n : Nat}, (∀ i, i < n → isZero (V i) = false) → anyZ V n = false
  | 0, _ => rfl
  | n + 1, h => by simp only [anyZ]; rw [anyZ_no fun i hi => h i (by omega), h n (by omega)]; rfl
theorem anyZ_yes {V : Nat → Option Nat} : ∀ {n i : Nat}, i < n → isZero (V i) = true → anyZ V n = true
  | n + 1, i, hi, h => by
    simp only [anyZ]
    by_cases e : i = n
    · subst e; rw [h]; exact Bool.or_true _
    · rw [anyZ_yes (n := n) (i := i) (by omega) h]; rfl
theorem anyZ_off {V : Nat → Option Nat} {n i : Nat} (h : anyZ V n = false) (hi : i < n) : isZero (V i) = false := by
  cases e : isZero (V i) with
  | false => rfl
  | true => rw [anyZ_yes hi e] at h; exact h
theorem anyZ_congr {V W : Nat → Option Nat} : ∀ {n : Nat}, (∀ i, i < n → V i = W i) → anyZ V n = anyZ W n
  | 0, _ => rfl
  | n + 1, h => by simp only [anyZ]; rw [anyZ_congr fun i hi => h i (by omega), h n (by omega)]

/-- A number that is divided, or not. -/
def divIf (dv : Bool) (s a : Option Nat) : Option Nat := match dv with | true => fop .quo .f32 s a | false => s
/-- From the first row on. -/
def lowS (A : Nat → Nat → Option Nat) (dv : Bool) (Y : Nat → Option Nat) (i : Nat) : Option Nat := divIf dv (lessG (Y i) (A i) Y i) (A i i)
def lowY (A : Nat → Nat → Option Nat) (dv : Bool) (Y : Nat → Option Nat) : Nat → Nat → Option Nat
  | 0 => Y
  | i + 1 => fun t => if t = i then lowS A dv (lowY A dv Y i) i else lowY A dv Y i t
/-- From the last row on. -/
def upS (A : Nat → Nat → Option Nat) (dv : Bool) (n : Nat) (Y : Nat → Option Nat) (i : Nat) : Option Nat := divIf dv (lessG (Y i) (fun k => A i (i + 1 + k)) (fun k => Y (i + 1 + k)) (n - (i + 1))) (A i i)
def upY (A : Nat → Nat → Option Nat) (dv : Bool) (n : Nat) (Y : Nat → Option Nat) : Nat → Nat → Option Nat
  | 0 => Y
  | j + 1 => fun t => if t = n - (j + 1) then upS A dv n (upY A dv n Y j) (n - (j + 1)) else upY A dv n Y j t
theorem lowY_old {A : Nat → Nat → Option Nat} {dv : Bool} {Y : Nat → Option Nat} : ∀ {i t : Nat}, i ≤ t → lowY A dv Y i t = Y t
  | 0, _, _ => rfl
  | i + 1, t, h => by
    show (if t = i then _ else lowY A dv Y i t) = Y t
    rw [if_neg (by omega), lowY_old (by omega)]
theorem upY_old {A : Nat → Nat → Option Nat} {dv : Bool} {n : Nat} {Y : Nat → Option Nat} : ∀ {j t : Nat}, j ≤ n → t < n - j → upY A dv n Y j t = Y t
  | 0, _, _, _ => rfl
  | j + 1, t, hj, h => by
    show (if t = n - (j + 1) then _ else upY A dv n Y j t) = Y t
    rw [if_neg (by omega), upY_old (by omega) (by omega)]
theorem lowY_congr {A A' : Nat → Nat → Option Nat} {dv : Bool} {Y Y' : Nat → Option Nat} {n : Nat} (hA : ∀ i k, i < n → k < n → A i k = A' i k) (hY : ∀ i, i < n → Y i = Y' i) : ∀ {i t : Nat}, i ≤ n → t < n → lowY A dv Y i t = lowY A' dv Y' i t
  | 0, t, _, ht => hY t ht
  | i + 1, t, hi, ht => by
    show (if t = i then _ else lowY A dv Y i t) = (if t = i then _ else lowY A' dv Y' i t)
    by_cases e : t = i
    · rw [if_pos e, if_pos e]
      unfold lowS
      rw [hA i i (by omega) (by omega), lessG_congr (lowY_congr hA hY (i := i) (by omega) (by omega)) fun j hj => ⟨hA i j (by omega) (by omega), lowY_congr hA hY (i := i) (by omega) (by omega)⟩]
    · rw [if_neg e, if_neg e]; exact lowY_congr hA hY (by omega) ht
theorem upY_congr {A A' : Nat → Nat → Option Nat} {dv : Bool} {Y Y' : Nat → Option Nat} {n : Nat} (hA : ∀ i k, i < n → k < n → A i k = A' i k) (hY : ∀ i, i < n → Y i = Y' i) : ∀ {j t : Nat}, j ≤ n → t < n → upY A dv n Y j t = upY A' dv n Y' j t
  | 0, t, _, ht => hY t ht
  | j + 1, t, hj, ht => by
    show (if t = n - (j + 1) then _ else upY A dv n Y j t) = (if t = n - (j + 1) then _ else upY A' dv n Y' j t)
    by_cases e : t = n - (j + 1)
    · rw [if_pos e, if_pos e]
      unfold upS
      rw [hA _ _ (by omega) (by omega), lessG_congr (upY_congr hA hY (j := j) (by omega) (by omega)) fun k hk => ⟨hA _ _ (by omega) (by omega), upY_congr hA hY (j := j) (by omega) (by omega)⟩]
    · rw [if_neg e, if_neg e]; exact upY_congr hA hY (by omega) ht

/-- A slice stays where its own block does. -/
theorem FS.grown {k : FloatKind} {w w' : World} {row : Option Nat} {b off n c : Nat} {Z : Nat → Nat} (h : FS k w (some ⟨b, off, none⟩) n c Z) (hg : w.grownBy w' row) (hr : ∀ g, row = some g → b ≠ g) : FS k w' (some ⟨b, off, none⟩) n c Z :=
  ⟨h.1, h.2.1, fun i hi => by
    obtain ⟨b', off', e, hl, hc, hw⟩ := h.2.2 i hi
    simp only [Option.some.injEq, Addr.mk.injEq, and_true] at e
    obtain ⟨rfl, rfl⟩ := e
    exact ⟨b, off, rfl, Nat.lt_of_lt_of_le hl hg.size, (World.cell?_of_block (a := ⟨b, off + i, none⟩) (hg.block b hl (fun e => hr b e.symm rfl))).trans hc, hw⟩⟩
theorem FS.take {k : FloatKind} {w : World} {a : Option Addr} {n c i c' : Nat} {Z : Nat → Nat} (h : FS k w a n c Z) (hi : i ≤ n) (hc : i ≤ c') (hm : c' ≤ maxLen) : FS k w a i c' Z :=
  ⟨hc, hm, fun t ht => h.2.2 t (by omega)⟩
theorem FS.drop {k : FloatKind} {w : World} {b off n c i m c' : Nat} {Z : Nat → Nat} (h : FS k w (some ⟨b, off, none⟩) n c Z) (hi : i + m ≤ n) (hc : m ≤ c') (hm : c' ≤ maxLen) : FS k w (some ⟨b, off + i, none⟩) m c' (fun t => Z (i + t)) :=
  ⟨hc, hm, fun t ht => by
    obtain ⟨b', off', e, hl, hc, hw⟩ := h.2.2 (i + t) (by omega)
    simp only [Option.some.injEq, Addr.mk.injEq, and_true] at e
    obtain ⟨rfl, rfl⟩ := e
    exact ⟨b, off + i, rfl, hl, by rw [Nat.add_assoc]; exact hc, hw⟩⟩
theorem FS.zero {k : FloatKind} {w : World} {a : Option Addr} {c : Nat} {Z : Nat → Nat} (hm : c ≤ maxLen) : FS k w a 0 c Z := ⟨Nat.zero_le _, hm, fun i hi => by omega⟩

/-- A row that append has made. -/
theorem own_of_row {w : World} {B n : Nat} {v : Value} {xs : List Value} {Z : Nat → Nat} (h : w.ownsRow B 41 1 v n xs) (h0 : 0 < n) (hx : ∀ j, j < n → xs[j]? = some (.float .f32 (Z j))) (hw : ∀ j, j < n → (Lit.float .f32 (Z j)).wf = true) :
    ∃ g c, v = .slice (some ⟨g, 0, none⟩) n c ∧ Own 41 .f32 B w.heap.size w (some ⟨g, 0, none⟩) n c Z ∧ B ≤ g ∧ g < w.heap.size := by
  have h' := h
  rcases h.2 with ⟨e, e0⟩ | ⟨g, cap, cur, e, hbg, hh, hjc, hcm, hcs, htake⟩
  · omega
  · subst e
    have hlt := (Array.getElem?_eq_some_iff.1 hh).1
    exact ⟨g, cap, rfl, .inr ⟨g, xs, rfl, hjc, hcm, hbg, hlt, Nat.le_refl _, h', hx, hw⟩, hbg, hlt⟩
/-- What a slice reads as, as a list. -/
def cellsOf32 (Z : Nat → Nat) (n : Nat) : List Value := (List.range n).map fun i => .float .f32 (Z i)
theorem cells32_at {Z : Nat → Nat} {n j : Nat} (hj : j < n) : (cellsOf32 Z n)[j]? = some (.float .f32 (Z j)) := by
  unfold cellsOf32
  rw [List.getElem?_map, List.getElem?_range hj]; rfl
theorem cells32_len {Z : Nat → Nat} {n : Nat} : (cellsOf32 Z n).length = n := by unfold cellsOf32; simp
theorem cells32_one {Z : Nat → Nat} {n : Nat} : ∀ u ∈ cellsOf32 Z n, u.oneCell' = true := by
  unfold cellsOf32
  intro u hu
  obtain ⟨i, _, rfl⟩ := List.mem_map.1 hu
  rfl
theorem cells32_cell {w : World} {b off n c : Nat} {Z : Nat → Nat} (h : FS .f32 w (some ⟨b, off, none⟩) n c Z) : ∀ j u, (cellsOf32 Z n)[j]? = some u → w.cell? ⟨b, off + j, none⟩ = some u := by
  intro j u hj
  have hlt : j < n := by
    have := (List.getElem?_eq_some_iff.1 hj).1
    rw [cells32_len] at this; exact this
  rw [cells32_at hlt] at hj
  obtain ⟨b', off', e, hl, hc, hw⟩ := h.2.2 j hlt
  simp only [Option.some.injEq, Addr.mk.injEq, and_true] at e
  obtain ⟨rfl, rfl⟩ := e
  rw [hc]; exact hj
end Go.Proofs.Ytcibjkadlndejaa
