/- Helper: tables of rows of integers: rows of one's own that are made, grown and read; rows joined to one list. Conditions: none. -/
import Derived.Test.YtinekdfpgkmbnabIntList
import Derived.Test.YtinekdfpgkmbnabWorkI
import Derived.Lib.AppendZerosOnto
import Derived.Deep.AppendLies
set_option linter.unusedVariables false
set_option linter.unusedSimpArgs false
namespace Go.Proofs.Ytinekdfpgkmbnab
open Go.RowKit

theorem ownsRow_belowT {w w' : World} {base : Nat} {e : TypeId} {size : Nat} {v : Value} {n : Nat} {xs : List Value} (h : w.ownsRow base e size v n xs) (hb : Below w.heap.size w w') : w'.ownsRow base e size v n xs :=
  h.kept (below_grew hb) (by cases hv : v.ownBlock <;> simp)
def upd {α : Type} (f : Nat → α) (k : Nat) (x : α) (i : Nat) : α := if i = k then x else f i
theorem upd_same {α : Type} (f : Nat → α) (k : Nat) (x : α) : upd f k x k = x := by unfold upd; rw [if_pos rfl]
theorem upd_other {α : Type} (f : Nat → α) {k i : Nat} (x : α) (h : i ≠ k) : upd f k x i = f i := by unfold upd; rw [if_neg h]

/-- Rows of one's own in a table of one's own. -/
structure Tab (W0 : World) (G n : Nat) (len : Nat → Nat) (Y : Nat → Nat → Int) (V : Nat → Value) (wr : World) : Prop where
  cell : ∀ i, i < n → wr.cell? ⟨G, i, none⟩ = some (V i)
  own : ∀ i, i < n → wr.ownsRow W0.heap.size 2 1 (V i) (len i) (cellsOfI (Y i) (len i))
  wfs : ∀ i, i < n → ∀ j, j < len i → (Lit.int .i64 (Y i j)).wf = true
  apart : ∀ i, i < n → (V i).ownBlock ≠ some G
  two : ∀ i k, i < n → k < n → i ≠ k → ∀ q, (V i).ownBlock = some q → (V k).ownBlock ≠ some q
  froz : ∀ i, wr.frozen? ⟨G, i, none⟩ = false
  bel : Below W0.heap.size W0 wr
  lo : W0.heap.size ≤ G
  top : G < wr.heap.size
theorem Tab.below {W0 wr w' : World} {G n : Nat} {len : Nat → Nat} {Y : Nat → Nat → Int} {V : Nat → Value} (h : Tab W0 G n len Y V wr) (hb : Below wr.heap.size wr w') : Tab W0 G n len Y V w' :=
  ⟨fun i hi => (hb.cell (p := ⟨G, i, none⟩) h.top).trans (h.cell i hi), fun i hi => ownsRow_belowT (h.own i hi) hb, h.wfs, h.apart, h.two, fun i => (hb.frozen (p := ⟨G, i, none⟩) h.top).trans (h.froz i), h.bel.trans (hb.mono h.bel.size), h.lo, Nat.lt_of_lt_of_le h.top hb.size⟩
/-- A row is another one, which grew out of it or is new. -/
theorem Tab.step {W0 wr wx w' : World} {G n k l' : Nat} {len : Nat → Nat} {Y : Nat → Nat → Int} {V : Nat → Value} {row : Option Nat} {v' : Value} {Y' : Nat → Int} (h : Tab W0 G n len Y V wr) (hb : Below wr.heap.size wr wx) (hg : wx.grownBy w' row) (hk : k < n)
    (hrow : ∀ q, row = some q → (V k).ownBlock = some q) (ho : w'.ownsRow W0.heap.size 2 1 v' l' (cellsOfI Y' l')) (hw : ∀ j, j < l' → (Lit.int .i64 (Y' j)).wf = true) (hat : ∀ q, v'.ownBlock = some q → (V k).ownBlock = some q ∨ wr.heap.size ≤ q) :
    Tab W0 G n (upd len k l') (upd Y k Y') (upd V k v') (w'.setCell ⟨G, k, none⟩ v') := by
  have hx := h.below hb
  have hs := hb.size
  have ht := h.top
  have hl := h.lo
  have hrG : row ≠ some G := fun e => h.apart k hk (hrow G e)
  have hG' : w'.heap[G]? = wx.heap[G]? := hg.block G hx.top (fun e => hrG e.symm)
  have hcell : ∀ i, i < n → w'.cell? ⟨G, i, none⟩ = some (V i) := fun i hi => (World.cell?_of_block (a := ⟨G, i, none⟩) hG').trans (hx.cell i hi)
  have hbw : Below W0.heap.size W0 w' := hx.bel.grown hg hx.bel.size (fun q hq => ((hx.own k hk).lt q (hrow q hq)).1)
  have hvG : v'.ownBlock ≠ some G := fun e => by
    rcases hat G e with h1 | h1
    · exact h.apart k hk h1
    · omega
  have hsz : wx.heap.size ≤ w'.heap.size := hg.size
  have hset : ∀ {v : Value} {m : Nat} {xs : List Value}, w'.ownsRow W0.heap.size 2 1 v m xs → v.ownBlock ≠ some G → (w'.setCell ⟨G, k, none⟩ v').ownsRow W0.heap.size 2 1 v m xs := fun ho hne =>
    ho.kept (row := some G) ⟨rfl, rfl, rfl, by simp, fun q _ hq => Below.heap_setCell _ _ _ _ (fun e => hq (by simp [e]))⟩ (.inr hne)
  refine ⟨fun i hi => ?_, fun i hi => ?_, fun i hi j hj => ?_, fun i hi => ?_, fun i j hi hj hij q hq => ?_, fun i => ?_, hbw.setCell (by show W0.heap.size ≤ G; omega) _, hl, ?_⟩
  · by_cases e : i = k
    · subst e; rw [upd_same]; exact World.cell?_setCell_same _ _ _ (hcell i hi)
    · rw [upd_other _ _ e, World.cell?_setCell_other _ _ _ _ (by simp [e])]; exact hcell i hi
  · by_cases e : i = k
    · subst e; rw [upd_same, upd_same, upd_same]; exact hset ho hvG
    · rw [upd_other _ _ e, upd_other _ _ e, upd_other _ _ e]
      refine hset ((hx.own i hi).kept hg ?_) (h.apart i hi)
      cases hv : (V i).ownBlock with
      | none => exact .inl rfl
      | some q => exact .inr (fun e2 => h.two i k hi hk e q hv (hrow q e2.symm))
  · by_cases e : i = k
    · subst e; rw [upd_same] at hj ⊢; exact hw j hj
    · rw [upd_other _ _ e] at hj ⊢; exact h.wfs i hi j hj
  · by_cases e : i = k
    · subst e; rw [upd_same]; exact hvG
    · rw [upd_other _ _ e]; exact h.apart i hi
  · by_cases e : i = k
    · subst e
      rw [upd_same] at hq
      rw [upd_other _ _ (Ne.symm hij)]
      rcases hat q hq with h1 | h1
      · exact h.two i j hi hj hij q h1
      · intro e2; have := ((h.own j hj).lt q e2).2; omega
    · rw [upd_other _ _ e] at hq
      by_cases e3 : j = k
      · subst e3
        rw [upd_same]
        intro e2
        rcases hat q e2 with h1 | h1
        · exact h.two i j hi hj hij q hq h1
        · have := ((h.own i hi).lt q hq).2; omega
      · rw [upd_other _ _ e3]; exact h.two i j hi hj hij q hq
  · rw [World.frozen?_setCell]
    exact (World.frozen?_of_block (a := ⟨G, i, none⟩) hG').trans (hx.froz i)
  · simp [World.setCell]; omega

/-- A slice of n rows of L numbers each, to be read. -/
def RS (w : World) (a : Option Addr) (n c L : Nat) (Y : Nat → Nat → Int) : Prop :=
  n ≤ c ∧ c ≤ maxLen ∧ ∀ i, i < n → ∃ b off ra rc, a = some ⟨b, off, none⟩ ∧ b < w.heap.size ∧ w.cell? ⟨b, off + i, none⟩ = some (.slice ra L rc) ∧ IS .i64 w ra L rc (Y i)
theorem RS.below {w w' : World} {a : Option Addr} {n c L : Nat} {Y : Nat → Nat → Int} (h : RS w a n c L Y) (hb : Below w.heap.size w w') : RS w' a n c L Y :=
  ⟨h.1, h.2.1, fun i hi => by
    obtain ⟨b, off, ra, rc, e, hl, hc, hI⟩ := h.2.2 i hi
    exact ⟨b, off, ra, rc, e, Nat.lt_of_lt_of_le hl hb.size, (hb.cell (p := ⟨b, off + i, none⟩) hl).trans hc, hI.below hb (Nat.le_refl _)⟩⟩
theorem RS.belowN {w w' : World} {B : Nat} {a : Option Addr} {n c L : Nat} {Y : Nat → Nat → Int} (h : RS w a n c L Y) (hb : Below B w w') (hB : w.heap.size ≤ B) : RS w' a n c L Y :=
  h.below (hb.mono hB)
theorem RS.drewN {w : World} {m : Nat} {a : Option Addr} {n c L : Nat} {Y : Nat → Nat → Int} (h : RS w a n c L Y) : RS (w.drewN m) a n c L Y := h
theorem Tab.rs {W0 wr : World} {G n L : Nat} {len : Nat → Nat} {Y : Nat → Nat → Int} {V : Nat → Value} (h : Tab W0 G n len Y V wr) (hn : n ≤ 1048576) (hL : ∀ i, i < n → len i = L) : RS wr (some ⟨G, 0, none⟩) n n L Y := by
  refine ⟨Nat.le_refl _, by unfold maxLen; omega, fun i hi => ?_⟩
  obtain ⟨a, c, e, f⟩ := IS.ofRow (Z := Y i) (h.own i hi) (fun j hj => cellsI_at hj) (h.wfs i hi)
  rw [hL i hi] at e f
  exact ⟨G, 0, a, c, rfl, h.top, by rw [Nat.zero_add, h.cell i hi, e], f⟩
def RowsNew (w : World) (n L : Nat) (Y : Nat → Nat → Int) (e : Ending) (w' : World) : Prop :=
  ∃ a c, e = .returned (.slice a n c) ∧ RS w' a n c L Y ∧ Below w.heap.size w w'
end Go.Proofs.Ytinekdfpgkmbnab
