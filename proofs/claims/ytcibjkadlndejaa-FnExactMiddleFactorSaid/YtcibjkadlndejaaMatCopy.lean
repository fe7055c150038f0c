/- Helper: walks of the laws' own functions on matrices: copies, comparisons, marks. Conditions: none. -/
import Derived.Test.YtcibjkadlndejaaMatLaw
import Derived.Handy
set_option linter.unusedVariables false
set_option linter.unusedSimpArgs false
namespace Go.Proofs.Ytcibjkadlndejaa
open Go.RowKit

/-- A new matrix whose numbers read as Z, in w'. -/
def NewMat (w : World) (R C : Int) (n : Nat) (Z : Nat → Nat) (e : Ending) (w' : World) : Prop :=
  ∃ a c, e = .returned (.agg #[.int .i64 R, .int .i64 C, .slice a n c]) ∧ Own 41 .f32 w.heap.size w'.heap.size w' a n c Z ∧ Below w.heap.size w w'

theorem toMatrix_any (R C : Int) (a : Option Addr) (n c : Nat) (Z : Nat → Nat) (w : World) (hn : n ≤ 1048576) (h : FS .f32 w a n c Z) :
    Calls Try.prog 11 #[.agg #[.int .i64 R, .int .i64 C, .slice a n c]] w (NewMat w R C n Z) := by
  go_enter Try.func11, Try.ntmps11
  go_wp2_with fail
  go_at_call 17
  refine (toFloat32S_own a n c Z _ hn (h.below (by repeat first | (with_reducible exact Below.refl _ _) | (with_reducible refine Below.setCell ?_ (by first | exact Nat.le_refl _ | (simp; done) | (simp; omega) | omega) _) | (with_reducible refine Below.alloc ?_ (by first | exact Nat.le_refl _ | (simp; done) | (simp; omega) | omega) _) | (with_reducible refine below_drewN ?_ _) | (with_reducible refine Below.drew ?_)) (Nat.le_refl _))).mono ?_
  rintro e w1 ⟨p, q, rfl, o1, b1⟩
  obtain ⟨hc, hf⟩ := bcell b1
  go_wp2_with fail
  have hz : w.heap.size + 1 + 1 + 1 ≤ w1.heap.size := by have := b1.size; simp at this; omega
  refine bodyPost_ret (v := .agg #[.int .i64 R, .int .i64 C, .slice p n q]) (by simp [results, Try.results11, go_sem, hc]) rfl ?_
  have b2 : Below w.heap.size w w1 := (Below.trans (by repeat first | (with_reducible exact Below.refl _ _) | (with_reducible refine Below.setCell ?_ (by first | exact Nat.le_refl _ | (simp; done) | (simp; omega) | omega) _) | (with_reducible refine Below.alloc ?_ (by first | exact Nat.le_refl _ | (simp; done) | (simp; omega) | omega) _) | (with_reducible refine below_drewN ?_ _) | (with_reducible refine Below.drew ?_)) (b1.mono (by simp; omega)))
  refine ⟨_, _, rfl, ?_, ?_⟩
  · exact (by refine Own.to o1 (hk := fun g hg1 hg2 => by (try simp at hg1 hg2); repeat (first | rw [Below.heap_setCell _ _ _ _ (by simp; omega)] | rw [Below.heap_alloc _ _ _ (by simp [World.setCell]; omega)])) ?_ ?_ ?_ ?_ <;> (first | exact Nat.le_refl _ | omega | (simp [World.setCell]; done) | (simp [World.setCell]; omega)))
  · exact (by repeat first | (with_reducible exact b2) | (with_reducible refine Below.setCell ?_ (by first | exact Nat.le_refl _ | (simp; done) | (simp; omega) | omega) _) | (with_reducible refine Below.alloc ?_ (by first | exact Nat.le_refl _ | (simp; done) | (simp; omega) | omega) _) | (with_reducible refine below_drewN ?_ _) | (with_reducible refine Below.drew ?_))

set_option maxRecDepth 100000 in
theorem eqMatrix_any (R C : Int) (a b : Option Addr) (n c d : Nat) (Z Y : Nat → Nat) (w : World) (hn : n ≤ 1048576) (ha : FS .f32 w a n c Z) (hb : FS .f32 w b n d Y) (hzy : ∀ i, i < n → cn .f32 (Z i) = cn .f32 (Y i)) :
    Calls Try.prog 13 #[.agg #[.int .i64 R, .int .i64 C, .slice a n c], .agg #[.int .i64 R, .int .i64 C, .slice b n d]] w fun e w' => e = .returned (.bool true) ∧ Below w.heap.size w w' := by
  go_enter Try.func13, Try.ntmps13
  go_wp2_with fail
  go_at_call 19
  refine (eqFloat32S_any _ _ n _ _ Z Y _ hn (ha.below (by repeat first | (with_reducible exact Below.refl _ _) | (with_reducible refine Below.setCell ?_ (by first | exact Nat.le_refl _ | (simp; done) | (simp; omega) | omega) _) | (with_reducible refine Below.alloc ?_ (by first | exact Nat.le_refl _ | (simp; done) | (simp; omega) | omega) _) | (with_reducible refine below_drewN ?_ _) | (with_reducible refine Below.drew ?_)) (Nat.le_refl _)) (hb.below (by repeat first | (with_reducible exact Below.refl _ _) | (with_reducible refine Below.setCell ?_ (by first | exact Nat.le_refl _ | (simp; done) | (simp; omega) | omega) _) | (with_reducible refine Below.alloc ?_ (by first | exact Nat.le_refl _ | (simp; done) | (simp; omega) | omega) _) | (with_reducible refine below_drewN ?_ _) | (with_reducible refine Below.drew ?_)) (Nat.le_refl _)) hzy).mono ?_
  rintro e w' ⟨rfl, m, rfl⟩
  go_wp2_with fail
  go_ret
  exact ⟨rfl, (by repeat first | (with_reducible exact Below.refl _ _) | (with_reducible refine Below.setCell ?_ (by first | exact Nat.le_refl _ | (simp; done) | (simp; omega) | omega) _) | (with_reducible refine Below.alloc ?_ (by first | exact Nat.le_refl _ | (simp; done) | (simp; omega) | omega) _) | (with_reducible refine below_drewN ?_ _) | (with_reducible refine Below.drew ?_))⟩

/-- Of a matrix a mark leaves what it leaves of its row. -/
theorem markMatrix_any (R C : Int) (B U : Nat) (a : Option Addr) (n c k : Nat) (Z : Nat → Nat) (w : World) (hn : n ≤ 1048576) (hk : k ≤ 1048576) (h : Own 41 .f32 B U w a n c Z) :
    Calls Try.prog 14 #[.agg #[.int .i64 R, .int .i64 C, .slice a n c], .int .i64 k] w (Marked B U w a n c k) := by
  go_enter Try.func14, Try.ntmps14
  go_wp2_with fail
  go_at_call 20
  refine (markFloat32S_any B U _ _ _ k Z _ hn hk (h.kept (World.grownBy_alloc w _ none) (fun g h => by cases h))).mono ?_
  rintro e w1 ⟨rfl, o1, row, g1, hr⟩
  have o2 := Lib.hid o1
  have g2 : Hid (w.grownBy w1 row) := Lib.hid (grownBy_trans (World.grownBy_alloc w _ row) g1)
  have hr2 := Lib.hid hr
  clear o1 g1 hr
  go_wp2_with fail
  go_ret
  exact ⟨rfl, o2.out, row, g2.out, hr2.out⟩
theorem heldMatrix_any (R C : Int) (a : Option Addr) (n c k : Nat) (Z : Nat → Nat) (w : World) (hn : n ≤ 1048576) (hk : k ≤ 1048576) (h : FS .f32 w a n c Z) (hz : ∀ j, j < n → Z j = floatOfInt .f32 ((k + j : Nat) : Int)) :
    Calls Try.prog 15 #[.agg #[.int .i64 R, .int .i64 C, .slice a n c], .int .i64 k] w fun e w' => e = .returned (.int .i64 ((k + n : Nat) : Int)) ∧ Below w.heap.size w w' := by
  go_enter Try.func15, Try.ntmps15
  go_wp2_with fail
  go_at_call 21
  refine (heldFloat32S_any _ _ _ k Z _ hn hk (h.below (by repeat first | (with_reducible exact Below.refl _ _) | (with_reducible refine Below.setCell ?_ (by first | exact Nat.le_refl _ | (simp; done) | (simp; omega) | omega) _) | (with_reducible refine Below.alloc ?_ (by first | exact Nat.le_refl _ | (simp; done) | (simp; omega) | omega) _) | (with_reducible refine below_drewN ?_ _) | (with_reducible refine Below.drew ?_)) (Nat.le_refl _)) hz).mono ?_
  rintro e w' ⟨rfl, rfl⟩
  clear hz
  have hd : decide (((k + n : Nat) : Int) < 0) = false := decide_eq_false (by omega)
  go_wp2_with fail
  go_ret
  exact ⟨rfl, (by repeat first | (with_reducible exact Below.refl _ _) | (with_reducible refine Below.setCell ?_ (by first | exact Nat.le_refl _ | (simp; done) | (simp; omega) | omega) _) | (with_reducible refine Below.alloc ?_ (by first | exact Nat.le_refl _ | (simp; done) | (simp; omega) | omega) _) | (with_reducible refine below_drewN ?_ _) | (with_reducible refine Below.drew ?_))⟩
end Go.Proofs.Ytcibjkadlndejaa
