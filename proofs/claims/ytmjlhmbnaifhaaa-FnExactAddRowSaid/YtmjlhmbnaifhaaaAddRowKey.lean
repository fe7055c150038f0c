/- Helper: a square to which a row is added, told by program and reference alike. Conditions: none. -/
import Derived.Test.YtmjlhmbnaifhaaaAddImpl
import Derived.Test.YtmjlhmbnaifhaaaAddSpec
set_option linter.unusedVariables false
set_option linter.unusedSimpArgs false
namespace Go.Proofs.Ytmjlhmbnaifhaaa
open Go.RowKit

theorem keyAddRow (R C : Int) (n : Nat) (Z : Nat → Nat) (n2 : Nat) (Y : Nat → Nat) (hn : n ≤ 1048576) (hm : n2 ≤ 1048576) : ∃ (ok : Bool) (R' C' : Int) (n' : Nat) (V : Nat → Option Nat), n' ≤ 144 ∧
    (∀ a c b d W, FS .f32 W a n c Z → FS .f32 W b n2 d Y → Calls Try.prog 19 #[.agg #[.int .i64 R, .int .i64 C, .slice a n c], .slice b n2 d] W (MatBel ok R' C' n' V W)) ∧
    (∀ a c b d W, FS .f32 W a n c Z → FS .f32 W b n2 d Y → Calls Try.prog 21 #[.agg #[.int .i64 R, .int .i64 C, .slice a n c], .slice b n2 d] W (MatOwn ok R' C' n' V W)) := by
  cases hs : (squareB R C n (vals Z) && fitsB R n2 (vals Y)) with
  | false => exact ⟨false, 0, 0, 0, fun _ => none, by omega, fun a c b d W k1 k2 => specAdd_no R C a b n c n2 d Z Y W hn hm k1 k2 hs, fun a c b d W k1 k2 => implAdd_no R C a b n c n2 d Z Y W hn hm k1 k2 hs⟩
  | true =>
    rw [Bool.and_eq_true] at hs
    obtain ⟨hsq, hft⟩ := hs
    obtain ⟨r, rfl, rfl, h1, h12, hN, hf⟩ := square_nat hsq
    obtain rfl : n2 = r := fits_add hft
    have hv : vecB n2 (vals Y) = true := by
      have hh := hft
      unfold fitsB at hh
      rw [Bool.and_eq_true] at hh
      exact hh.1
    have hpos : 0 < n := by rw [hN]; exact Nat.mul_pos h1 h1
    have k1 : ∀ a c b d W, FS .f32 W a n c Z → FS .f32 W b n2 d Y → Calls Try.prog 19 #[.agg #[.int .i64 (n2 : Int), .int .i64 (n2 : Int), .slice a n c], .slice b n2 d] W (BelIf (allFin (adT n2 (vals (clearZ n2 isBe Z n2 0), vals Y) n2).1 n) n2 n2 n (adT n2 (vals (clearZ n2 isBe Z n2 0), vals Y) n2).1 W) := fun a c b d W k1 k2 => by
      obtain ⟨p1, o1, rfl, _⟩ := k1.at hpos
      obtain ⟨p2, o2, rfl, _⟩ := k2.at (show 0 < n2 by omega)
      exact specAdd_yes n2 n p1 o1 c p2 o2 d Z Y W h1 h12 hN hsq hv k1 k2
    have k2 : ∀ a c b d W, FS .f32 W a n c Z → FS .f32 W b n2 d Y → Calls Try.prog 21 #[.agg #[.int .i64 (n2 : Int), .int .i64 (n2 : Int), .slice a n c], .slice b n2 d] W (OwnIf (allFin (adT n2 (vals (clearZ n2 isBe Z n2 0), vals Y) n2).1 n) n2 n2 n (adT n2 (vals (clearZ n2 isBe Z n2 0), vals Y) n2).1 W) := fun a c b d W k1 k2 => by
      obtain ⟨p1, o1, rfl, _⟩ := k1.at hpos
      obtain ⟨p2, o2, rfl, _⟩ := k2.at (show 0 < n2 by omega)
      exact implAdd_yes n2 n p1 o1 c p2 o2 d Z Y W h1 h12 hN hsq hft k1 k2
    cases hg : allFin (adT n2 (vals (clearZ n2 isBe Z n2 0), vals Y) n2).1 n with
    | false =>
      rw [hg] at k1 k2
      exact ⟨false, 0, 0, 0, fun _ => none, by omega, k1, k2⟩
    | true =>
      rw [hg] at k1 k2
      exact ⟨true, n2, n2, n, (adT n2 (vals (clearZ n2 isBe Z n2 0), vals Y) n2).1, by have := sides_le h12 h12; omega, k1, k2⟩
end Go.Proofs.Ytmjlhmbnaifhaaa
