/- Helper: what a factor's square, changed by a product of two lists, makes a list of: what program and reference both tell. Conditions: none. -/
import Derived.Test.YtmddhhmgfhljiaaUpdatedSpec
set_option linter.unusedVariables false
set_option linter.unusedSimpArgs false
namespace Go.Proofs.Ytmddhhmgfhljiaa
open Go.RowKit

/-- What a solution is, told or not. -/
def solN (ok : Bool) (r : Nat) : Nat := bif ok then r else 0
def solW (ok : Bool) (V : Nat → Option Nat) : Nat → Option Nat := bif ok then V else fun _ => none
theorem solBoth (R C : Int) (n : Nat) (Z : Nat → Nat) (m : Nat) (O : Nat → Int) (n2 : Nat) (Y : Nat → Nat) (hn : n ≤ 1048576) (hm : m ≤ 1048576) (hn2 : n2 ≤ 1048576) : ∃ (ok : Bool) (nr : Nat) (V : Nat → Option Nat), (ok = true → R = (nr : Int) ∧ 1 ≤ nr ∧ nr ≤ 12) ∧
    (∀ a c b d b2 d2 W, FS .f32 W a n c Z → IS .i64 W b m d O → FS .f32 W b2 n2 d2 Y → Calls Try.prog 49 #[.agg #[.int .i64 R, .int .i64 C, .slice a n c, .slice b m d], .slice b2 n2 d2] W (NumsBel ok nr V W)) ∧
    (∀ a c b d b2 d2 W, FS .f32 W a n c Z → IS .i64 W b m d O → FS .f32 W b2 n2 d2 Y → Calls Try.prog 51 #[.agg #[.int .i64 R, .int .i64 C, .slice a n c, .slice b m d], .slice b2 n2 d2] W (NumsOwn ok nr V W)) := by
  cases ho : (factorB R C n (vals Z) m O && fitsB R n2 (vals Y)) with
  | false => exact ⟨false, 0, fun _ => none, fun e => (by cases e), fun a c b d b2 d2 W h h2 h3 => specFSolve_no R C a n c Z b m d O b2 n2 d2 Y W hn hm hn2 h h2 h3 ho, fun a c b d b2 d2 W h h2 h3 => implSolve_no R C a n c Z b m d O b2 n2 d2 Y W hn hm hn2 h h2 h3 ho⟩
  | true =>
    simp only [Bool.and_eq_true] at ho
    obtain ⟨hf, hft⟩ := ho
    obtain ⟨r, rfl, rfl, rfl, h1, h12, hN, _⟩ := factor_nat hf
    obtain ⟨rfl, _⟩ := fits_natF hft
    have hpos : 0 < n := by rw [hN]; exact Nat.mul_pos h1 h1
    have hs : ∀ a c b d b2 d2 W, FS .f32 W a n c Z → IS .i64 W b n2 d O → FS .f32 W b2 n2 d2 Y → Calls Try.prog 49 #[.agg #[.int .i64 (n2 : Int), .int .i64 (n2 : Int), .slice a n c, .slice b n2 d], .slice b2 n2 d2] W (NBelIf (allFin (solV n2 (sq n2 Z) O (vals Y)) n2) n2 (solV n2 (sq n2 Z) O (vals Y)) W) := by
      intro a c b d b2 d2 W h h2 h3
      obtain ⟨ba, oa, rfl, _, _, _⟩ := h.at hpos
      obtain ⟨bb, ob, rfl, _, _, _⟩ := h2.at (show 0 < n2 by omega)
      obtain ⟨bc, oc, rfl, _, _, _⟩ := h3.at (show 0 < n2 by omega)
      exact specFSolve_yes n2 n ba oa c bb ob d bc oc d2 Z O Y W hf hft h h2 h3
    have hi : ∀ a c b d b2 d2 W, FS .f32 W a n c Z → IS .i64 W b n2 d O → FS .f32 W b2 n2 d2 Y → Calls Try.prog 51 #[.agg #[.int .i64 (n2 : Int), .int .i64 (n2 : Int), .slice a n c, .slice b n2 d], .slice b2 n2 d2] W (NOwnIf (allFin (solV n2 (sq n2 Z) O (vals Y)) n2) n2 (solV n2 (sq n2 Z) O (vals Y)) W) := by
      intro a c b d b2 d2 W h h2 h3
      obtain ⟨ba, oa, rfl, _, _, _⟩ := h.at hpos
      obtain ⟨bb, ob, rfl, _, _, _⟩ := h2.at (show 0 < n2 by omega)
      obtain ⟨bc, oc, rfl, _, _, _⟩ := h3.at (show 0 < n2 by omega)
      exact implSolve_yes n2 n ba oa c bb ob d bc oc d2 Z O Y W hf hft h h2 h3
    cases hk : allFin (solV n2 (sq n2 Z) O (vals Y)) n2 with
    | true =>
      rw [hk] at hs hi
      exact ⟨true, n2, solV n2 (sq n2 Z) O (vals Y), fun _ => ⟨rfl, h1, h12⟩, hs, hi⟩
    | false =>
      rw [hk] at hs hi
      exact ⟨false, 0, fun _ => none, fun e => (by cases e), hs, hi⟩
theorem keyUpdatedSolve (R C : Int) (n : Nat) (Z : Nat → Nat) (m : Nat) (O : Nat → Int) (lu : Nat) (Yu : Nat → Nat) (lv : Nat) (Yv : Nat → Nat) (lb : Nat) (Yb : Nat → Nat) (wR : (Lit.int .i64 R).wf = true) (wC : (Lit.int .i64 C).wf = true) (hn : n ≤ 1048576) (hm : m ≤ 1048576) (hlu : lu ≤ 1048576) (hlv : lv ≤ 1048576) (hlb : lb ≤ 1048576) : ∃ (ok : Bool) (nr : Nat) (V : Nat → Option Nat), nr ≤ 144 ∧
    (∀ a c b d au cu av cv ab cb W, FS .f32 W a n c Z → IS .i64 W b m d O → FS .f32 W au lu cu Yu → FS .f32 W av lv cv Yv → FS .f32 W ab lb cb Yb → Calls Try.prog 19 #[.agg #[.int .i64 R, .int .i64 C, .slice a n c, .slice b m d], .slice au lu cu, .slice av lv cv, .slice ab lb cb] W (NumsBel ok nr V W)) ∧
    (∀ a c b d au cu av cv ab cb W, FS .f32 W a n c Z → IS .i64 W b m d O → FS .f32 W au lu cu Yu → FS .f32 W av lv cv Yv → FS .f32 W ab lb cb Yb → Calls Try.prog 20 #[.agg #[.int .i64 R, .int .i64 C, .slice a n c, .slice b m d], .slice au lu cu, .slice av lv cv, .slice ab lb cb] W (NumsOwn ok nr V W)) := by
  obtain ⟨okb, nb, Vb, hb, sb, ib⟩ := solBoth R C n Z m O lb Yb hn hm hlb
  obtain ⟨oku, nu, Vu, hu, su, iu⟩ := solBoth R C n Z m O lu Yu hn hm hlu
  have hnb : okb = true → oku = true → nb = nu ∧ 1 ≤ nb ∧ nb ≤ 12 := by
    intro e1 e2
    obtain ⟨q1, q2, q3⟩ := hb e1
    obtain ⟨q4, _, _⟩ := hu e2
    exact ⟨by omega, q2, q3⟩
  have hs : ∀ a c b d au cu av cv ab cb W, FS .f32 W a n c Z → IS .i64 W b m d O → FS .f32 W au lu cu Yu → FS .f32 W av lv cv Yv → FS .f32 W ab lb cb Yb → Calls Try.prog 19 #[.agg #[.int .i64 R, .int .i64 C, .slice a n c, .slice b m d], .slice au lu cu, .slice av lv cv, .slice ab lb cb] W (NBelIf (updOk okb oku nb lv (vals Yv) Vb Vu) nb (updV (vals Yv) Vb Vu lv) W) :=
    fun a c b d au cu av cv ab cb W h1 h2 h3 h4 h5 => specUpd_any R C a n c b m d au av ab lu cu lv cv lb cb Yv okb oku nb nu Vb Vu W hlv hnb h4
      (fun W' hW => (sb a c b d ab cb W' (h1.below hW (Nat.le_refl _)) (h2.below hW (Nat.le_refl _)) (h5.below hW (Nat.le_refl _)))) (fun W' hW => (su a c b d au cu W' (h1.below hW (Nat.le_refl _)) (h2.below hW (Nat.le_refl _)) (h3.below hW (Nat.le_refl _))))
  have hi : ∀ a c b d au cu av cv ab cb W, FS .f32 W a n c Z → IS .i64 W b m d O → FS .f32 W au lu cu Yu → FS .f32 W av lv cv Yv → FS .f32 W ab lb cb Yb → Calls Try.prog 20 #[.agg #[.int .i64 R, .int .i64 C, .slice a n c, .slice b m d], .slice au lu cu, .slice av lv cv, .slice ab lb cb] W (NOwnIf (updOk okb oku nb lv (vals Yv) Vb Vu) nb (updV (vals Yv) Vb Vu lv) W) :=
    fun a c b d au cu av cv ab cb W h1 h2 h3 h4 h5 => implUpd_any R C a n c b m d au av ab lu cu lv cv lb cb Yv okb oku nb nu Vb Vu W hlv hnb h4
      (fun W' hW => (ib a c b d ab cb W' (h1.below hW (Nat.le_refl _)) (h2.below hW (Nat.le_refl _)) (h5.below hW (Nat.le_refl _)))) (fun W' hW => (iu a c b d au cu W' (h1.below hW (Nat.le_refl _)) (h2.below hW (Nat.le_refl _)) (h3.below hW (Nat.le_refl _))))
  cases ho : updOk okb oku nb lv (vals Yv) Vb Vu with
  | false =>
    rw [ho] at hs hi
    exact ⟨false, 0, fun _ => none, by omega, hs, hi⟩
  | true =>
    rw [ho] at hs hi
    have hh : okb = true := by unfold updOk at ho; simp only [Bool.and_eq_true] at ho; exact ho.1
    exact ⟨true, nb, updV (vals Yv) Vb Vu lv, by have := (hb hh).2.2; omega, hs, hi⟩
end Go.Proofs.Ytmddhhmgfhljiaa
