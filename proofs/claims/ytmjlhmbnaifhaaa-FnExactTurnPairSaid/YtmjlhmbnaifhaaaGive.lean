/- Helper: a matrix is given where its numbers are finite, of the program and of its reference. Conditions: none. -/
import Derived.Test.YtmjlhmbnaifhaaaBuild
set_option linter.unusedVariables false
set_option linter.unusedSimpArgs false
namespace Go.Proofs.Ytmjlhmbnaifhaaa
open Go.RowKit

def GiveNo (w : World) (e : Ending) (w' : World) : Prop := e = .returned (.tuple #[.agg #[.int .i64 0, .int .i64 0, .slice none 0 0], .bool false]) ∧ Below w.heap.size w w'
def GiveYes (R C : Int) (a : Option Addr) (n c : Nat) (w : World) (e : Ending) (w' : World) : Prop := e = .returned (.tuple #[.agg #[.int .i64 R, .int .i64 C, .slice a n c], .bool true]) ∧ Below w.heap.size w w'
theorem implGive_no (R C : Int) (a : Option Addr) (n c : Nat) (Z : Nat → Nat) (w : World) (hn : n ≤ 1048576) (h : FS .f32 w a n c Z) (hv : validB R C n (vals Z) = false) :
    Calls Try.prog 39 #[.agg #[.int .i64 R, .int .i64 C, .slice a n c]] w (GiveNo w) := by
  go_enter Try.func39, Try.ntmps39
  go_wp2_with fail
  go_at_call 68
  refine (implValid_any R C a n c Z _ hn (h.below (by repeat first | (with_reducible exact Below.refl _ _) | (with_reducible refine Below.setCell ?_ (by first | exact Nat.le_refl _ | (simp; done) | (simp; omega) | omega) _) | (with_reducible refine Below.alloc ?_ (by first | exact Nat.le_refl _ | (simp; done) | (simp; omega) | omega) _) | (with_reducible refine below_drewN ?_ _) | (with_reducible refine Below.drew ?_)) (Nat.le_refl _))).mono ?_
  rintro e w1 ⟨rfl, b1⟩
  have B1 : Below w.heap.size w w1 := Below.trans (by repeat first | (with_reducible exact Below.refl _ _) | (with_reducible refine Below.setCell ?_ (by first | exact Nat.le_refl _ | (simp; done) | (simp; omega) | omega) _) | (with_reducible refine Below.alloc ?_ (by first | exact Nat.le_refl _ | (simp; done) | (simp; omega) | omega) _) | (with_reducible refine below_drewN ?_ _) | (with_reducible refine Below.drew ?_)) (b1.mono (by simp <;> omega))
  obtain ⟨hc, hf⟩ := bcell b1
  have s1 : w.heap.size + 1 + 1 ≤ w1.heap.size := by have := b1.size; simp at this; omega
  go_wp2_with fail
  refine bodyPost_ret (v := .tuple #[.agg #[.int .i64 0, .int .i64 0, .slice none 0 0], .bool false]) (by simp [results, Try.results39, go_sem, hc]) rfl ?_
  exact ⟨rfl, (by repeat first | (with_reducible exact B1) | (with_reducible refine Below.setCell ?_ (by first | exact Nat.le_refl _ | (simp; done) | (simp; omega) | omega) _) | (with_reducible refine Below.alloc ?_ (by first | exact Nat.le_refl _ | (simp; done) | (simp; omega) | omega) _) | (with_reducible refine below_drewN ?_ _) | (with_reducible refine Below.drew ?_))⟩
theorem implGive_yes (R C : Int) (a : Option Addr) (n c : Nat) (Z : Nat → Nat) (w : World) (hn : n ≤ 1048576) (h : FS .f32 w a n c Z) (hv : validB R C n (vals Z) = true) :
    Calls Try.prog 39 #[.agg #[.int .i64 R, .int .i64 C, .slice a n c]] w (GiveYes R C a n c w) := by
  go_enter Try.func39, Try.ntmps39
  go_wp2_with fail
  go_at_call 68
  refine (implValid_any R C a n c Z _ hn (h.below (by repeat first | (with_reducible exact Below.refl _ _) | (with_reducible refine Below.setCell ?_ (by first | exact Nat.le_refl _ | (simp; done) | (simp; omega) | omega) _) | (with_reducible refine Below.alloc ?_ (by first | exact Nat.le_refl _ | (simp; done) | (simp; omega) | omega) _) | (with_reducible refine below_drewN ?_ _) | (with_reducible refine Below.drew ?_)) (Nat.le_refl _))).mono ?_
  rintro e w1 ⟨rfl, b1⟩
  have B1 : Below w.heap.size w w1 := Below.trans (by repeat first | (with_reducible exact Below.refl _ _) | (with_reducible refine Below.setCell ?_ (by first | exact Nat.le_refl _ | (simp; done) | (simp; omega) | omega) _) | (with_reducible refine Below.alloc ?_ (by first | exact Nat.le_refl _ | (simp; done) | (simp; omega) | omega) _) | (with_reducible refine below_drewN ?_ _) | (with_reducible refine Below.drew ?_)) (b1.mono (by simp <;> omega))
  have s1 : w.heap.size + 1 + 1 ≤ w1.heap.size := by have := b1.size; simp at this; omega
  have X1 : Box w1 w.heap.size R C a n c := by
    obtain ⟨hc, hf⟩ := bcell b1
    refine ⟨?_, ?_, ?_⟩ <;> (rw [hc _ _ (by simp <;> omega)]; simp [go_sem])
  have Z1 : Box w1 (w.heap.size + 1) 0 0 none 0 0 := by
    obtain ⟨hc, hf⟩ := bcell b1
    refine ⟨?_, ?_, ?_⟩ <;> (rw [hc _ _ (by simp <;> omega)]; simp [go_sem])
  have I1 : ∀ i, w1.frozen? ⟨w.heap.size + 1, i, none⟩ = false := fun i => by rw [(bcell b1).2 _ _ (by simp <;> omega)]; simp [go_sem]
  clear b1
  obtain ⟨x0, x1, x2⟩ := X1
  obtain ⟨z0, z1, z2⟩ := Z1
  go_wp2_with fail
  refine bodyPost_ret (v := .tuple #[.agg #[.int .i64 R, .int .i64 C, .slice a n c], .bool true]) (by simp [results, Try.results39, go_sem, z0, z1, z2]) rfl ?_
  exact ⟨rfl, (by repeat first | (with_reducible exact B1) | (with_reducible refine Below.setCell ?_ (by first | exact Nat.le_refl _ | (simp; done) | (simp; omega) | omega) _) | (with_reducible refine Below.alloc ?_ (by first | exact Nat.le_refl _ | (simp; done) | (simp; omega) | omega) _) | (with_reducible refine below_drewN ?_ _) | (with_reducible refine Below.drew ?_))⟩
theorem specGive_no (R C : Int) (a : Option Addr) (n c : Nat) (Z : Nat → Nat) (w : World) (hn : n ≤ 1048576) (h : FS .f32 w a n c Z) (hv : validB R C n (vals Z) = false) :
    Calls Try.prog 48 #[.agg #[.int .i64 R, .int .i64 C, .slice a n c]] w (GiveNo w) := by
  go_enter Try.func48, Try.ntmps48
  go_wp2_with fail
  go_at_call 61
  refine (specIs_any _ R C a n c Z _ hn (by refine ⟨?_, ?_, ?_⟩ <;> simp [go_sem]) (h.below (by repeat first | (with_reducible exact Below.refl _ _) | (with_reducible refine Below.setCell ?_ (by first | exact Nat.le_refl _ | (simp; done) | (simp; omega) | omega) _) | (with_reducible refine Below.alloc ?_ (by first | exact Nat.le_refl _ | (simp; done) | (simp; omega) | omega) _) | (with_reducible refine below_drewN ?_ _) | (with_reducible refine Below.drew ?_)) (Nat.le_refl _))).mono ?_
  rintro e w1 ⟨rfl, m1, rfl⟩
  go_wp2_with fail
  refine bodyPost_ret (v := .tuple #[.agg #[.int .i64 0, .int .i64 0, .slice none 0 0], .bool false]) (by simp [results, Try.results48, go_sem]) rfl ?_
  exact ⟨rfl, (by repeat first | (with_reducible exact Below.refl _ _) | (with_reducible refine Below.setCell ?_ (by first | exact Nat.le_refl _ | (simp; done) | (simp; omega) | omega) _) | (with_reducible refine Below.alloc ?_ (by first | exact Nat.le_refl _ | (simp; done) | (simp; omega) | omega) _) | (with_reducible refine below_drewN ?_ _) | (with_reducible refine Below.drew ?_))⟩
theorem specGive_yes (R C : Int) (a : Option Addr) (n c : Nat) (Z : Nat → Nat) (w : World) (hn : n ≤ 1048576) (h : FS .f32 w a n c Z) (hv : validB R C n (vals Z) = true) :
    Calls Try.prog 48 #[.agg #[.int .i64 R, .int .i64 C, .slice a n c]] w (GiveYes R C a n c w) := by
  go_enter Try.func48, Try.ntmps48
  go_wp2_with fail
  go_at_call 61
  refine (specIs_any _ R C a n c Z _ hn (by refine ⟨?_, ?_, ?_⟩ <;> simp [go_sem]) (h.below (by repeat first | (with_reducible exact Below.refl _ _) | (with_reducible refine Below.setCell ?_ (by first | exact Nat.le_refl _ | (simp; done) | (simp; omega) | omega) _) | (with_reducible refine Below.alloc ?_ (by first | exact Nat.le_refl _ | (simp; done) | (simp; omega) | omega) _) | (with_reducible refine below_drewN ?_ _) | (with_reducible refine Below.drew ?_)) (Nat.le_refl _))).mono ?_
  rintro e w1 ⟨rfl, m1, rfl⟩
  go_wp2_with fail
  refine bodyPost_ret (v := .tuple #[.agg #[.int .i64 R, .int .i64 C, .slice a n c], .bool true]) (by simp [results, Try.results48, go_sem]) rfl ?_
  exact ⟨rfl, (by repeat first | (with_reducible exact Below.refl _ _) | (with_reducible refine Below.setCell ?_ (by first | exact Nat.le_refl _ | (simp; done) | (simp; omega) | omega) _) | (with_reducible refine Below.alloc ?_ (by first | exact Nat.le_refl _ | (simp; done) | (simp; omega) | omega) _) | (with_reducible refine below_drewN ?_ _) | (with_reducible refine Below.drew ?_))⟩

theorem validB_nat {r c n : Nat} {V : Nat → Option Nat} (h1 : 1 ≤ r) (h2 : r ≤ 12) (h3 : 1 ≤ c) (h4 : c ≤ 12) (hn : n = r * c) : validB r c n V = allFin V n := by
  unfold validB
  rw [sideB_yes (by omega) (by omega), sideB_yes (by omega) (by omega), decide_eq_true (by rw [hn, Int.natCast_mul])]
  rfl
/-- What is told of a matrix that is given where its numbers are finite. -/
def OwnIf (ok : Bool) (R C : Int) (n : Nat) (V : Nat → Option Nat) (w : World) (e : Ending) (w' : World) : Prop :=
  match ok with | true => MatOwn true R C n V w e w' | false => MatOwn false 0 0 0 (fun _ => none) w e w'
def BelIf (ok : Bool) (R C : Int) (n : Nat) (V : Nat → Option Nat) (w : World) (e : Ending) (w' : World) : Prop :=
  match ok with | true => MatBel true R C n V w e w' | false => MatBel false 0 0 0 (fun _ => none) w e w'
theorem OwnIf.yes {ok : Bool} {R C : Int} {n : Nat} {V : Nat → Option Nat} {w : World} {e : Ending} {w' : World} (h : ok = true) (p : MatOwn true R C n V w e w') : OwnIf ok R C n V w e w' := by subst h; exact p
theorem OwnIf.no {ok : Bool} {R C : Int} {n : Nat} {V : Nat → Option Nat} {w : World} {e : Ending} {w' : World} (h : ok = false) (p : MatOwn false 0 0 0 (fun _ => none) w e w') : OwnIf ok R C n V w e w' := by subst h; exact p
theorem BelIf.yes {ok : Bool} {R C : Int} {n : Nat} {V : Nat → Option Nat} {w : World} {e : Ending} {w' : World} (h : ok = true) (p : MatBel true R C n V w e w') : BelIf ok R C n V w e w' := by subst h; exact p
theorem BelIf.no {ok : Bool} {R C : Int} {n : Nat} {V : Nat → Option Nat} {w : World} {e : Ending} {w' : World} (h : ok = false) (p : MatBel false 0 0 0 (fun _ => none) w e w') : BelIf ok R C n V w e w' := by subst h; exact p

/-- Two finite numbers have a product. -/
theorem cn_fin {x : Nat} (hx : finite .f32 (cn .f32 x) = true) : cn .f32 x = some x ∧ ∃ s m e, FloatKind.f32.decode x = .number s m e := by
  unfold cn at hx ⊢
  split at hx
  · cases hx
  · rename_i hn
    rw [if_neg hn]
    refine ⟨rfl, ?_⟩
    unfold finite at hx
    simp only at hx
    split at hx
    · rename_i s m e h; exact ⟨s, m, e, h⟩
    · cases hx
theorem mul_fin {x y : Nat} (hx : finite .f32 (cn .f32 x) = true) (hy : finite .f32 (cn .f32 y) = true) : ∃ r, FloatKind.f32.format.mul x y = some r ∧ FV .f32 r (fop .mul .f32 (cn .f32 x) (cn .f32 y)) := by
  obtain ⟨e1, s, m, e, h1⟩ := cn_fin hx
  obtain ⟨e2, t, n, f, h2⟩ := cn_fin hy
  have h3 : fop .mul .f32 (some x) (some y) = ((FloatKind.f32.decode x).product (FloatKind.f32.decode y)).map FloatKind.f32.encode := rfl
  rw [h1, h2] at h3
  have h4 : fop .mul .f32 (some x) (some y) = some (FloatKind.f32.encode (.number (s ^^ t) (m * n) (e + f))) := h3
  refine ⟨_, h4, ?_⟩
  rw [e1, e2, h4]
  exact ⟨cn_number _ _ _ _, floatBits_wf (op := .mul) (k := .f32) (x := x) (y := y) h4⟩
end Go.Proofs.Ytmjlhmbnaifhaaa
