/- Helper: the product of each number of a matrix with another matrix, of the program and of its reference. Conditions: none. -/
import Derived.Test.YtmddhhmgfhljiaaKronSpec
set_option linter.unusedVariables false
set_option linter.unusedSimpArgs false
namespace Go.Proofs.Ytmddhhmgfhljiaa
open Go.RowKit

theorem keyKroneckerMatrix (R C : Int) (n : Nat) (Z : Nat → Nat) (R2 C2 : Int) (n2 : Nat) (Y : Nat → Nat) (hn : n ≤ 1048576) (hm : n2 ≤ 1048576) : ∃ (ok : Bool) (R3 C3 : Int) (n3 : Nat) (V : Nat → Option Nat), n3 ≤ 144 ∧
    (∀ a c b d W, FS .f32 W a n c Z → FS .f32 W b n2 d Y → Calls Try.prog 33 #[.agg #[.int .i64 R, .int .i64 C, .slice a n c], .agg #[.int .i64 R2, .int .i64 C2, .slice b n2 d]] W (MatBel ok R3 C3 n3 V W)) ∧
    (∀ a c b d W, FS .f32 W a n c Z → FS .f32 W b n2 d Y → Calls Try.prog 34 #[.agg #[.int .i64 R, .int .i64 C, .slice a n c], .agg #[.int .i64 R2, .int .i64 C2, .slice b n2 d]] W (MatOwn ok R3 C3 n3 V W)) := by
  cases hb : (validB R C n (vals Z) && validB R2 C2 n2 (vals Y)) with
  | false => exact ⟨false, 0, 0, 0, fun _ => none, by omega, fun a c b d W h h2 => specKron_bad R C a n c Z R2 C2 b n2 d Y W hn hm h h2 hb, fun a c b d W h h2 => implKron_bad R C a n c Z R2 C2 b n2 d Y W hn hm h h2 hb⟩
  | true =>
    simp only [Bool.and_eq_true] at hb
    obtain ⟨hv, hv2⟩ := hb
    obtain ⟨r, c', rfl, rfl, h1, h12, h3, h4, h5, hfa⟩ := valid_nat hv
    obtain ⟨r2, c2, rfl, rfl, k1, k12, k3, k4, k5, hfb⟩ := valid_nat hv2
    cases hs : (sideB ((r * r2 : Nat) : Int) && sideB ((c' * c2 : Nat) : Int)) with
    | false => exact ⟨false, 0, 0, 0, fun _ => none, by omega, fun a c b d W h h2 => specKron_no r c' r2 c2 (r * r2) (c' * c2) n n2 a b c d Z Y W h12 h4 k12 k4 rfl rfl hn hm hv hv2 hs h h2, fun a c b d W h h2 => implKron_no r c' r2 c2 (r * r2) (c' * c2) n n2 a b c d Z Y W h12 h4 k12 k4 rfl rfl hn hm hv hv2 hs h h2⟩
    | true =>
      simp only [Bool.and_eq_true] at hs
      obtain ⟨s1, s2⟩ := sideB_le hs.1
      obtain ⟨s3, s4⟩ := sideB_le hs.2
      have hp1 : 0 < n := by rw [h5]; exact Nat.mul_pos h1 h3
      have hp2 : 0 < n2 := by rw [k5]; exact Nat.mul_pos k1 k3
      have q1 : 1 ≤ r * r2 := by omega
      have q2 : r * r2 ≤ 12 := by omega
      have q3 : 1 ≤ c' * c2 := by omega
      have q4 : c' * c2 ≤ 12 := by omega
      have hsp : ∀ a c b d W, FS .f32 W a n c Z → FS .f32 W b n2 d Y → Calls Try.prog 33 #[.agg #[.int .i64 (r : Int), .int .i64 (c' : Int), .slice a n c], .agg #[.int .i64 (r2 : Int), .int .i64 (c2 : Int), .slice b n2 d]] W (BelIf (allFin (kronV c' r2 c2 (c' * c2) Z Y) (r * r2 * (c' * c2))) (r * r2 : Nat) (c' * c2 : Nat) (r * r2 * (c' * c2)) (kronV c' r2 c2 (c' * c2) Z Y) W) := by
        intro a c b d W h h2
        obtain ⟨ba, oa, rfl, _, _, _⟩ := h.at hp1
        obtain ⟨bb, ob, rfl, _, _, _⟩ := h2.at hp2
        exact specKron_yes r c' r2 c2 (r * r2) (c' * c2) n n2 (r * r2 * (c' * c2)) ba oa c bb ob d Z Y W h1 h12 h3 h4 k1 k12 k3 k4 rfl rfl q1 q2 q3 q4 h5 k5 rfl hv hv2 hfa hfb h h2
      have him : ∀ a c b d W, FS .f32 W a n c Z → FS .f32 W b n2 d Y → Calls Try.prog 34 #[.agg #[.int .i64 (r : Int), .int .i64 (c' : Int), .slice a n c], .agg #[.int .i64 (r2 : Int), .int .i64 (c2 : Int), .slice b n2 d]] W (OwnIf (allFin (kronV c' r2 c2 (c' * c2) Z Y) (r * r2 * (c' * c2))) (r * r2 : Nat) (c' * c2 : Nat) (r * r2 * (c' * c2)) (kronV c' r2 c2 (c' * c2) Z Y) W) := by
        intro a c b d W h h2
        obtain ⟨ba, oa, rfl, _, _, _⟩ := h.at hp1
        obtain ⟨bb, ob, rfl, _, _, _⟩ := h2.at hp2
        exact implKron_yes r c' r2 c2 (r * r2) (c' * c2) n n2 (r * r2 * (c' * c2)) ba oa c bb ob d Z Y W h1 h12 h3 h4 k1 k12 k3 k4 rfl rfl q1 q2 q3 q4 h5 k5 rfl hv hv2 hfa hfb h h2
      cases ha : allFin (kronV c' r2 c2 (c' * c2) Z Y) (r * r2 * (c' * c2)) with
      | false =>
        rw [ha] at hsp him
        exact ⟨false, 0, 0, 0, fun _ => none, by omega, hsp, him⟩
      | true =>
        rw [ha] at hsp him
        exact ⟨true, _, _, _, _, sides_le q2 q4, hsp, him⟩
end Go.Proofs.Ytmddhhmgfhljiaa
