/- Helper: the middle of a square, what is in a list, copies of lists, results that are lists, of the program. Conditions: none. -/
import Derived.Test.YtmjlhmbnaifhaacTri
import Derived.Lib.SliceRun
set_option linter.unusedVariables false
set_option linter.unusedSimpArgs false
namespace Go.Proofs.Ytmjlhmbnaifhaac
open Go.RowKit

theorem signed_min (a b : Int) : min a b = min b a := by omega
theorem datum_swap (a b : Ieee.Datum) : b.order a = (a.order b).map Ordering.swap := by
  cases a with
  | nan s t => cases b <;> rfl
  | infinity s => cases b with
    | nan => rfl
    | infinity t => cases s <;> cases t <;> rfl
    | number => cases s <;> rfl
  | number s m i => cases b with
    | nan => rfl
    | infinity t => cases t <;> rfl
    | number t n j =>
      show some (compare (Ieee.signed t n (j - min j i).toNat) (Ieee.signed s m (i - min j i).toNat)) = some (compare (Ieee.signed s m (i - min i j).toNat) (Ieee.signed t n (j - min i j).toNat)).swap
      rw [signed_min j i]
      generalize Ieee.signed t n (j - min i j).toNat = p
      generalize Ieee.signed s m (i - min i j).toNat = q
      exact congrArg some Std.OrientedCmp.eq_swap
theorem zero_swap (X : Option Nat) : (ford .f32 (some 0) X == some .eq) = isZero X := by
  cases X with
  | none => rfl
  | some x =>
    show (FloatKind.f32.format.order 0 x == some .eq) = (FloatKind.f32.format.order x 0 == some .eq)
    have h := datum_swap (FloatKind.f32.format.read x) (FloatKind.f32.format.read 0)
    show ((FloatKind.f32.format.read 0).order (FloatKind.f32.format.read x) == some .eq) = ((FloatKind.f32.format.read x).order (FloatKind.f32.format.read 0) == some .eq)
    rw [h]
    cases (FloatKind.f32.format.read x).order (FloatKind.f32.format.read 0) with
    | none => rfl
    | some o => cases o <;> rfl

set_option maxRecDepth 20000 in
set_option maxHeartbeats 1000000 in
/-- A copy of a list, in memory of its own. -/
theorem clone_any (b off n c : Nat) (Z : Nat → Nat) (w : World) (h0 : 0 < n) (hn : n ≤ 1048576) (h : FS .f32 w (some ⟨b, off, none⟩) n c Z) :
    Calls Try.prog 130 #[.slice (some ⟨b, off, none⟩) n c] w fun e w' => ∃ g d, e = .returned (.slice (some ⟨g, 0, none⟩) n d) ∧ Own 38 .f32 w.heap.size w'.heap.size w' (some ⟨g, 0, none⟩) n d Z ∧ Below w.heap.size w w' := by
  obtain ⟨i0, hi, hz0, hz1, hz2⟩ := info_parts info32
  have hcell := Lib.hid (cells32_cell h)
  have hwf : Hid (∀ j, j < n → (Lit.float .f32 (Z j)).wf = true) := Lib.hid fun j hj => (h.at hj).elim fun _ q => q.elim fun _ q => q.2.2.2.2
  have q22 : ∀ (w : World) (a : Option Addr) (n c n' c' : Nat), (binOp .eql 22 (.slice a n c) (.slice none n' c')).run Try.prog w = .ok (.bool a.isNone) w := fun w a n c n' c' => Lib.run_eql_slice_nil w _ _ a n c n' c' Try.underlying22
  clear h
  go_enter Try.func130, Try.ntmps130
  go_wp2_with (at_builtin; refine wpList_append_own _ rfl _ _ 22 rfl w.heap.size 38 i0 (.float .f32 0) 1 4 Try.underlying22 hi hz0 hz1 hz2 rfl (by decide) _ _ _ rfl (World.ownsRow_made w #[] 0 (Nat.le_refl _) (Nat.zero_le _) (by simp)) ⟨b, off, none⟩ n c (cellsOf32 Z n) rfl ?qc1 ?qc2 ?qc3 ?qc4 ?qc5 ?qc6 ?_)
  case qc1 => rw [cells32_len]; omega
  case qc2 =>
    intro j u hj
    rw [Addr.add_lit]
    exact Lib.cell?_alloc_some _ (hcell.out j u hj)
  case qc3 => exact cells32_one
  case qc4 => rw [Nat.zero_add]; unfold maxLen; omega
  case qc5 => rw [Nat.zero_add]; omega
  case qc6 => simp
  intro v' w1 hown hgrow hnil
  have hown2 : w1.ownsRow w.heap.size 38 1 v' n (cellsOf32 Z n) := by simpa using hown
  obtain ⟨g, d, rfl, o1, _, _⟩ := own_of_row (Z := Z) hown2 h0 (fun j hj => cells32_at hj) hwf.out
  have o2 := Lib.hid o1
  have b2 : Hid (Below w.heap.size w w1) := Lib.hid (((Below.refl _ w).alloc (Nat.le_refl _) _).grown hgrow (by simp) (by intro k hk; simp [Value.ownBlock] at hk; omega))
  clear hown hgrow hnil hown2 o1
  go_wp2
  go_ret
  exact ⟨g, d, rfl, o2.out, b2.out⟩

theorem vectorResult_yes (a : Option Addr) (n c : Nat) (Z : Nat → Nat) (w : World) (hn : n ≤ 1048576) (h : FS .f32 w a n c Z) (hv : vecB n (vals Z) = true) :
    Calls Try.prog 133 #[.slice a n c] w fun e w' => e = .returned (.tuple #[.slice a n c, .bool true]) ∧ ∃ m, w' = w.drewN m := by
  go_enter Try.func133, Try.ntmps133
  go_wp2_with fail
  go_at_call 152
  refine (implVector_any a n c Z _ hn h).mono ?_
  rintro e w1 ⟨rfl, q, rfl⟩
  go_wp2_with fail
  go_ret2
  exact ⟨rfl, _, rfl⟩
theorem vectorResult_no (a : Option Addr) (n c : Nat) (Z : Nat → Nat) (w : World) (hn : n ≤ 1048576) (h : FS .f32 w a n c Z) (hv : vecB n (vals Z) = false) :
    Calls Try.prog 133 #[.slice a n c] w fun e w' => e = .returned (.tuple #[.slice none 0 0, .bool false]) ∧ ∃ m, w' = w.drewN m := by
  go_enter Try.func133, Try.ntmps133
  go_wp2_with fail
  go_at_call 152
  refine (implVector_any a n c Z _ hn h).mono ?_
  rintro e w1 ⟨rfl, q, rfl⟩
  go_wp2_with fail
  go_ret2
  exact ⟨rfl, _, rfl⟩
/-- A list that fits the rows. -/
def fitsB (R : Int) (n : Nat) (V : Nat → Option Nat) : Bool := vecB n V && decide ((n : Int) = R)
end Go.Proofs.Ytmjlhmbnaifhaac
