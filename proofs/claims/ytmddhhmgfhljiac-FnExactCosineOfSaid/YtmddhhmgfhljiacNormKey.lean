/- Helper: the greatest sums of rows and columns, of the program and of its reference. Conditions: none. -/
import Derived.Test.YtmddhhmgfhljiacMatWalks
import Derived.Test.YtmddhhmgfhljiacVecSums
import Derived.Test.YtmddhhmgfhljiacRootWalks
import Derived.Test.YtmddhhmgfhljiacSizeFacts
set_option linter.unusedVariables false
set_option linter.unusedSimpArgs false
namespace Go.Proofs.Ytmddhhmgfhljiac
open Go.RowKit

set_option maxRecDepth 20000 in
theorem implAbs_any (x : Nat) {X : Option Nat} (fx : FV .f32 x X) (hx : finite .f32 X = true) (w : World) :
    Calls Try.prog 59 #[.float .f32 x] w fun e w' => ∃ r, e = .returned (.float .f32 r) ∧ FV .f32 r (fsize X) ∧ ∃ n, w' = w.drewN n := by
  have hf := fits_size hx
  have hE := Lib.hid (abs_size hx)
  go_enter Try.func59, Try.ntmps59
  go_wp2_with (first | (refine wpList_widen rfl _ _ _ rfl _ rfl (by kernel_rfl) Try.underlying42 (by assumption) ?_; intro r m hr) | (go_at_call 72; refine (abs_any _ (by assumption) _).mono ?_; rintro e w' ⟨r, rfl, hr, rfl⟩) | (refine wpList_narrow rfl _ _ _ rfl _ rfl (by kernel_rfl) Try.underlying36 (by assumption) (by assumption) ?_; intro r m hr))
  go_ret
  exact ⟨_, rfl, FV.of_eq (by assumption) hE.out, _, rfl⟩
set_option maxRecDepth 20000 in
theorem specSize_any (x : Nat) {X : Option Nat} (fx : FV .f32 x X) (hx : finite .f32 X = true) (w : World) :
    Calls Try.prog 56 #[.float .f32 x] w fun e w' => ∃ r, e = .returned (.float .f32 r) ∧ FV .f32 r (fsize X) ∧ ∃ n, w' = w.drewN n := by
  have hE := Lib.hid (neg_size hx (fun y hy => by
    subst hy
    obtain rfl := fx.eq
    have := fx.2
    simpa [Lit.wf] using this))
  obtain ⟨o, ho⟩ := ford_some hx
  have h1 := fx.1
  have c0 : cn .f32 0 = some 0 := cn_of (by decide +kernel)
  cases o
  all_goals
    have hL : Hid (leZero X = _) := Lib.hid (by unfold leZero; rw [ho])
    clear hx
    go_enter Try.func56, Try.ntmps56
    go_wp2_with (first | (refine wpList_farith rfl _ _ _ _ _ rfl rfl _ _ _ rfl rfl (by first | assumption | (with_reducible exact FV.ofInt _ _) | (with_reducible exact FV.neg (by assumption)) | exact FV.lit (by kernel_rfl) (by kernel_rfl)) (by first | assumption | (with_reducible exact FV.ofInt _ _) | (with_reducible exact FV.neg (by assumption)) | exact FV.lit (by kernel_rfl) (by kernel_rfl)) ?_; intro r m hr))
    go_ret
    refine ⟨_, rfl, ?_, by first | exact ⟨_, rfl⟩ | exact ⟨0, rfl⟩⟩
    have hE' := hE.out
    rw [hL.out] at hE'
    first | exact FV.of_eq (by assumption) hE'

theorem run_maxF {P : Program} (ts : Array TypeId) (t : TypeId) (a b : Nat) (o : Ordering) (ho : FloatKind.f32.format.order a b = some o) (hn : (FloatKind.f32.decode a).neg = false) (w : World) :
    (Builtin.max_ ts t #[.float .f32 a, .float .f32 b]).run P w = .ok (.float .f32 (match o with | .lt => b | .gt => a | .eq => a)) w := by
  cases o <;> simp [Builtin.max_, Builtin.max2, ho, hn]
theorem sizeAt {Z : Nat → Nat} {n i : Nat} (h : allFin (vals Z) n = true) (hi : i < n) (hw : (Lit.float .f32 (Z i)).wf = true) : FV .f32 (Z i) (vals Z i) ∧ finite .f32 (vals Z i) = true := ⟨FV.mk' hw, allFin_lt h hi⟩



theorem NumBel.of {ok : Bool} {X : Option Nat} {w W w' : World} {e : Ending} (h : NumPost ok X W e w') (hb : Below w.heap.size w W) : NumBel ok (pick ok X) w e w' := by
  obtain ⟨r, he, hr, m, hw⟩ := h
  exact ⟨r, he, hr, by rw [hw]; exact below_drewN hb m⟩
def normOk (R C : Int) (n : Nat) (Z : Nat → Nat) : Bool := validB R C n (vals Z) && finite .f32 (gr (vals Z) C.toNat R.toNat)
def normV (R C : Int) (n : Nat) (Z : Nat → Nat) : Option Nat := pick (normOk R C n Z) (gr (vals Z) C.toNat R.toNat)
end Go.Proofs.Ytmddhhmgfhljiac
