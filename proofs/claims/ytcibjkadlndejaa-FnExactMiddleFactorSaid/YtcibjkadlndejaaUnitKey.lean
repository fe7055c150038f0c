/- Helper: units, of the program and of its reference. Conditions: none. -/
import Derived.Test.YtcibjkadlndejaaWork
set_option linter.unusedVariables false
set_option linter.unusedSimpArgs false
namespace Go.Proofs.Ytcibjkadlndejaa
open Go.RowKit

/-- The numbers of a unit whose first j rows are told. -/
def unitZ (c j t : Nat) : Nat := if t / c = t % c ∧ t / c < j then 1065353216 else 0
theorem unit_step {c j : Nat} (hj : j < c) (t : Nat) : (if t = j * c + j then 1065353216 else unitZ c j t) = unitZ c (j + 1) t := by
  unfold unitZ
  by_cases e : t = j * c + j
  · subst e
    obtain ⟨h1, h2⟩ := place_div hj
    rw [if_pos rfl, h1, h2, if_pos ⟨rfl, by omega⟩]
  · rw [if_neg e]
    by_cases h : t / c = t % c ∧ t / c < j + 1
    · rw [if_pos h]
      have hp := place_eq (c := c) (t := t)
      by_cases h2 : t / c < j
      · rw [if_pos ⟨h.1, h2⟩]
      · have e2 : t / c = j := by omega
        rw [← h.1, e2] at hp
        exact absurd hp.symm e
    · rw [if_neg h, if_neg (fun k => h ⟨k.1, by omega⟩)]
def unitV (c : Nat) (t : Nat) : Option Nat := vals (unitZ c c) t



/-- A unit. -/
def NewUnit (w : World) (c n : Nat) (e : Ending) (w' : World) : Prop :=
  ∃ g, e = .returned (.agg #[.int .i64 c, .int .i64 c, .slice (some ⟨g, 0, none⟩) n n]) ∧ Own 41 .f32 w.heap.size w'.heap.size w' (some ⟨g, 0, none⟩) n n (unitZ c c) ∧ Below w.heap.size w w'
set_option maxHeartbeats 1000000 in
theorem l02Unit_any (c n : Nat) (w : World) (h1 : 1 ≤ c) (h2 : c ≤ 12) (hn : n = c * c) :
    Calls Try.prog 70 #[.int .i64 c] w (NewUnit w c n) := by
  have hN := Lib.hid hn
  have hn144 : n ≤ 144 := by have := sides_le h2 h2; omega
  clear hn
  go_enter Try.func70, Try.ntmps70
  go_wp2_with fail
  go_at_call 81
  refine (l02Zero_any c c n _ h2 h2 hN.out).mono ?_
  rintro e w1 ⟨g, rfl, o1, b1⟩
  have wk := Work.start (R := (c : Int)) (C := (c : Int)) 26 26 (Own.mono (B' := w.heap.size + 1) o1 (by simp) (Nat.le_refl _) (Nat.le_refl _)) b1
  clear o1 b1
  go_wp2
  go_loopw [4] (fun i wr => ∃ j : Nat, j ≤ c ∧ i = .int .i64 j ∧ Work w (w.heap.size + 1) w1.heap.size g w1.heap.size w.heap.size c c n (unitZ c j) wr) (fun i _ => c - (intOf i).toNat)
  case atStart => exact ⟨0, Nat.zero_le _, rfl, wk.same (fun j _ => by unfold unitZ; rw [if_neg (by omega)])⟩
  case round =>
    obtain ⟨j, hj, rfl, hk⟩ := hrel
    clear wk
    have hpos : 0 < n := by rw [hN.out]; exact Nat.mul_pos h1 h1
    obtain ⟨g1, g2, g3, g4⟩ := hk.facts hpos
    by_cases hlt : j < c
    · have hpl := place_lt hlt hlt
      rw [← hN.out] at hpl
      obtain ⟨y0, y1, y2⟩ := hk.box
      have hst := hk.stored (t := j * c + j) (v := 1065353216) hpl (by decide)
      obtain ⟨hce, hfr, _⟩ := hk.own.cell hpl
      have hst' := Lib.hid (hst.same (fun t _ => unit_step hlt t))
      have he : ((j : Int) * (c : Int) + (j : Int)) = ((j * c + j : Nat) : Int) := by rw [Int.natCast_add, Int.natCast_mul]
      have ht : ((j : Int) * (c : Int) + (j : Int)).toNat = j * c + j := by rw [he]; exact Int.toNat_natCast _
      have hl1 : (j : Int) * (c : Int) + (j : Int) < (n : Int) := by rw [he]; omega
      have h0 : (0 : Int) ≤ (j : Int) * (c : Int) := by rw [← Int.natCast_mul]; omega
      clear hst hk he
      go_wp2_with fail
      go_roundw
      case rel => exact ⟨j + 1, by omega, by go_num, hst'.out⟩
      case measure => simp [intOf]; omega
    · obtain rfl : j = c := by omega
      obtain ⟨y0, y1, y2⟩ := hk.box
      obtain ⟨z0, z1, z2⟩ := hk.res
      have o2 := hk.own
      have B2 := hk.bel
      have hlo := hk.lo
      have hmid := hk.mid
      have hice := hk.ice
      clear hk
      go_wp2_with fail
      refine bodyPost_ret (v := .agg #[.int .i64 j, .int .i64 j, .slice (some ⟨g, 0, none⟩) n n]) (by simp [results, Try.results70, go_sem, y0, y1, y2, z0, z1, z2]) rfl ?_
      exact ⟨_, rfl, (by refine Own.to o2 (hk := fun g hg1 hg2 => by (try simp at hg1 hg2); repeat (first | rw [Below.heap_setCell _ _ _ _ (by simp; omega)] | rw [Below.heap_alloc _ _ _ (by simp [World.setCell]; omega)])) ?_ ?_ ?_ ?_ <;> (first | exact Nat.le_refl _ | omega | (simp [World.setCell]; done) | (simp [World.setCell]; omega))), (by repeat first | (with_reducible exact B2) | (with_reducible refine Below.setCell ?_ (by first | exact Nat.le_refl _ | (simp; done) | (simp; omega) | omega) _) | (with_reducible refine Below.alloc ?_ (by first | exact Nat.le_refl _ | (simp; done) | (simp; omega) | omega) _) | (with_reducible refine below_drewN ?_ _) | (with_reducible refine Below.drew ?_))⟩
end Go.Proofs.Ytcibjkadlndejaa
