/- Helper: walks of the tests whether a matrix is valid, of the program and of its reference. Conditions: none. -/
import Derived.Test.YtcibjkadlndejaaFinWalks
import Derived.Test.YtcibjkadlndejaaMatCopy
set_option linter.unusedVariables false
set_option linter.unusedSimpArgs false
namespace Go.Proofs.Ytcibjkadlndejaa
open Go.RowKit

theorem quiet_left {P : Program} {f : FuncId} {args : Array Value} {w : World} {n : Nat} {v : Value}
    (h : Calls P f args (w.drewN n) fun e w' => e = .returned v ∧ w.drewN n = w') : Calls P f args (w.drewN n) fun e w'' => e = .returned v ∧ ∃ m, w'' = w.drewN m :=
  h.mono fun _ _ ⟨he, hm⟩ => ⟨he, n, hm.symm⟩

/-- What a side is. -/
def sideB (x : Int) : Bool := decide (1 ≤ x) && decide (x ≤ 12)
theorem sideB_yes {x : Int} (h1 : 1 ≤ x) (h2 : x ≤ 12) : sideB x = true := by unfold sideB; rw [decide_eq_true h1, decide_eq_true h2]; rfl
theorem sideB_le {x : Int} (h : sideB x = true) : 1 ≤ x ∧ x ≤ 12 := by unfold sideB at h; simpa using h
theorem sideB_no1 {x : Int} (h1 : ¬ 1 ≤ x) : sideB x = false := by unfold sideB; rw [decide_eq_false h1]; rfl
theorem sideB_no2 {x : Int} (h1 : ¬ x ≤ 12) : sideB x = false := by unfold sideB; rw [decide_eq_false h1]; simp

theorem isSide_any (x : Int) (w : World) : Calls Try.prog 82 #[.int .i64 x] w fun e w' => e = .returned (.bool (sideB x)) ∧ w = w' := by
  by_cases h1 : 1 ≤ x
  · by_cases h2 : x ≤ 12
    · rw [sideB_yes h1 h2]
      go_enter Try.func82, Try.ntmps82
      go_wp2
      go_ret
      exact ⟨rfl, rfl⟩
    · rw [sideB_no2 h2]
      have hd : decide (x ≤ 12) = false := decide_eq_false h2
      go_enter Try.func82, Try.ntmps82
      go_wp2
      go_ret
      exact ⟨rfl, rfl⟩
  · rw [sideB_no1 h1]
    have hd : decide (1 ≤ x) = false := decide_eq_false h1
    go_enter Try.func82, Try.ntmps82
    go_wp2
    go_ret
    exact ⟨rfl, rfl⟩
def inB (x a b : Int) : Bool := decide (a ≤ x) && decide (x ≤ b)
theorem l00In_any (x a b : Int) (w : World) : Calls Try.prog 95 #[.int .i64 x, .int .i64 a, .int .i64 b] w fun e w' => e = .returned (.bool (inB x a b)) ∧ w = w' := by
  by_cases h1 : a ≤ x
  · by_cases h2 : x ≤ b
    · have e : inB x a b = true := by unfold inB; rw [decide_eq_true h1, decide_eq_true h2]; rfl
      rw [e]
      clear e
      have hd1 : decide (a ≤ x) = true := decide_eq_true h1
      have hd2 : decide (x ≤ b) = true := decide_eq_true h2
      go_enter Try.func95, Try.ntmps95
      go_wp2
      go_ret
      exact ⟨rfl, rfl⟩
    · have e : inB x a b = false := by unfold inB; rw [decide_eq_false h2]; simp
      rw [e]
      clear e
      have hd1 : decide (a ≤ x) = true := decide_eq_true h1
      have hd2 : decide (x ≤ b) = false := decide_eq_false h2
      go_enter Try.func95, Try.ntmps95
      go_wp2
      go_ret
      exact ⟨rfl, rfl⟩
  · have e : inB x a b = false := by unfold inB; rw [decide_eq_false h1]; rfl
    rw [e]
    clear e
    have hd1 : decide (a ≤ x) = false := decide_eq_false h1
    go_enter Try.func95, Try.ntmps95
    go_wp2
    go_ret
    exact ⟨rfl, rfl⟩
theorem inB_side (x : Int) : inB x 1 12 = sideB x := rfl
theorem specSides_any (x y : Int) (w : World) : Calls Try.prog 80 #[.int .i64 x, .int .i64 y] w fun e w' => e = .returned (.bool (sideB x && sideB y)) ∧ w = w' := by
  cases h1 : sideB x <;> cases h2 : sideB y
  all_goals
    go_enter Try.func80, Try.ntmps80
    go_wp2_with (go_at_call 95; refine (l00In_any _ _ _ _).mono ?_; rintro e w' ⟨rfl, rfl⟩; simp only [inB_side])
    go_ret
    exact ⟨rfl, rfl⟩

/-- What a valid matrix is. -/
def validB (R C : Int) (n : Nat) (V : Nat → Option Nat) : Bool := (sideB R && sideB C) && (decide ((n : Int) = R * C) && allFin V n)
theorem mul_sides {R C : Int} (h1 : 1 ≤ R ∧ R ≤ 12) (h2 : 1 ≤ C ∧ C ≤ 12) : 1 ≤ R * C ∧ R * C ≤ 144 := by
  obtain ⟨a, b⟩ := h1
  obtain ⟨c, d⟩ := h2
  have e1 : 1 * 1 ≤ R * C := Int.mul_le_mul a c (by omega) (by omega)
  have e2 : R * C ≤ 12 * 12 := Int.mul_le_mul b d (by omega) (by omega)
  omega
/-- A valid matrix in natural numbers. -/
theorem valid_nat {R C : Int} {n : Nat} {V : Nat → Option Nat} (h : validB R C n V = true) : ∃ r c : Nat, R = r ∧ C = c ∧ 1 ≤ r ∧ r ≤ 12 ∧ 1 ≤ c ∧ c ≤ 12 ∧ n = r * c ∧ allFin V n = true := by
  unfold validB at h
  simp only [Bool.and_eq_true, decide_eq_true_eq] at h
  obtain ⟨⟨h1, h2⟩, h3, h4⟩ := h
  obtain ⟨a, b⟩ := sideB_le h1
  obtain ⟨c, d⟩ := sideB_le h2
  refine ⟨R.toNat, C.toNat, by omega, by omega, by omega, by omega, by omega, by omega, ?_, h4⟩
  have e1 : (R.toNat : Int) = R := by omega
  have e2 : (C.toNat : Int) = C := by omega
  have : ((R.toNat * C.toNat : Nat) : Int) = R * C := by rw [Int.natCast_mul, e1, e2]
  omega

theorem implValid_any (R C : Int) (a : Option Addr) (n c : Nat) (Z : Nat → Nat) (w : World) (hn : n ≤ 1048576) (h : FS .f32 w a n c Z) :
    Calls Try.prog 39 #[.agg #[.int .i64 R, .int .i64 C, .slice a n c]] w fun e w' => e = .returned (.bool (validB R C n (vals Z))) ∧ Below w.heap.size w w' := by
  cases h1 : sideB R with
  | false =>
    have HB : Hid (validB R C n (vals Z) = false) := Lib.hid (by unfold validB; rw [h1]; rfl)
    go_enter Try.func39, Try.ntmps39
    go_wp2_with (go_at_call 82; refine (isSide_any _ _).mono ?_; rintro e w' ⟨rfl, rfl⟩)
    go_ret
    exact ⟨by rw [HB.out]; rfl, (by repeat first | (with_reducible exact Below.refl _ _) | (with_reducible refine Below.setCell ?_ (by first | exact Nat.le_refl _ | (simp; done) | (simp; omega) | omega) _) | (with_reducible refine Below.alloc ?_ (by first | exact Nat.le_refl _ | (simp; done) | (simp; omega) | omega) _) | (with_reducible refine below_drewN ?_ _) | (with_reducible refine Below.drew ?_))⟩
  | true =>
    cases h2 : sideB C with
    | false =>
      have HB : Hid (validB R C n (vals Z) = false) := Lib.hid (by unfold validB; rw [h1, h2]; rfl)
      go_enter Try.func39, Try.ntmps39
      go_wp2_with (go_at_call 82; refine (isSide_any _ _).mono ?_; rintro e w' ⟨rfl, rfl⟩)
      go_ret
      exact ⟨by rw [HB.out]; rfl, (by repeat first | (with_reducible exact Below.refl _ _) | (with_reducible refine Below.setCell ?_ (by first | exact Nat.le_refl _ | (simp; done) | (simp; omega) | omega) _) | (with_reducible refine Below.alloc ?_ (by first | exact Nat.le_refl _ | (simp; done) | (simp; omega) | omega) _) | (with_reducible refine below_drewN ?_ _) | (with_reducible refine Below.drew ?_))⟩
    | true =>
      obtain ⟨m1, m2⟩ := mul_sides (sideB_le h1) (sideB_le h2)
      by_cases h3 : (n : Int) = R * C
      · have HB : Hid (validB R C n (vals Z) = allFin (vals Z) n) := Lib.hid (by unfold validB; rw [h1, h2, decide_eq_true h3]; rfl)
        have hd : ((n : Int) == R * C) = true := beq_iff_eq.2 h3
        have h3' := Lib.hid h3
        clear h3
        go_enter Try.func39, Try.ntmps39
        go_wp2_with (first | (go_at_call 82; refine (isSide_any _ _).mono ?_; rintro e w' ⟨rfl, rfl⟩) | (go_at_call 83; refine (implFin_any _ _ _ Z _ hn (h.below (by repeat first | (with_reducible exact Below.refl _ _) | (with_reducible refine Below.setCell ?_ (by first | exact Nat.le_refl _ | (simp; done) | (simp; omega) | omega) _) | (with_reducible refine Below.alloc ?_ (by first | exact Nat.le_refl _ | (simp; done) | (simp; omega) | omega) _) | (with_reducible refine below_drewN ?_ _) | (with_reducible refine Below.drew ?_)) (Nat.le_refl _))).mono ?_; rintro e w' ⟨rfl, q, rfl⟩))
        go_ret
        exact ⟨by rw [HB.out]; rfl, (by repeat first | (with_reducible exact Below.refl _ _) | (with_reducible refine Below.setCell ?_ (by first | exact Nat.le_refl _ | (simp; done) | (simp; omega) | omega) _) | (with_reducible refine Below.alloc ?_ (by first | exact Nat.le_refl _ | (simp; done) | (simp; omega) | omega) _) | (with_reducible refine below_drewN ?_ _) | (with_reducible refine Below.drew ?_))⟩
      · have HB : Hid (validB R C n (vals Z) = false) := Lib.hid (by unfold validB; rw [decide_eq_false h3]; simp)
        have hd : ((n : Int) == R * C) = false := beq_eq_false_iff_ne.2 h3
        have h3' := Lib.hid h3
        clear h3
        go_enter Try.func39, Try.ntmps39
        go_wp2_with (first | (go_at_call 82; refine (isSide_any _ _).mono ?_; rintro e w' ⟨rfl, rfl⟩))
        go_ret
        exact ⟨by rw [HB.out]; rfl, (by repeat first | (with_reducible exact Below.refl _ _) | (with_reducible refine Below.setCell ?_ (by first | exact Nat.le_refl _ | (simp; done) | (simp; omega) | omega) _) | (with_reducible refine Below.alloc ?_ (by first | exact Nat.le_refl _ | (simp; done) | (simp; omega) | omega) _) | (with_reducible refine below_drewN ?_ _) | (with_reducible refine Below.drew ?_))⟩

/-- A matrix lies in a block of its own. -/
def Box (w : World) (b : Nat) (R C : Int) (a : Option Addr) (n c : Nat) : Prop :=
  w.cell? ⟨b, 0, none⟩ = some (.int .i64 R) ∧ w.cell? ⟨b, 1, none⟩ = some (.int .i64 C) ∧ w.cell? ⟨b, 2, none⟩ = some (.slice a n c)

set_option maxHeartbeats 1000000 in
theorem specIs_any (b : Nat) (R C : Int) (a : Option Addr) (n c : Nat) (Z : Nat → Nat) (w : World) (hn : n ≤ 1048576) (hb : Box w b R C a n c) (h : FS .f32 w a n c Z) :
    Calls Try.prog 37 #[.pointer (some ⟨b, 0, none⟩)] w fun e w' => e = .returned (.bool (validB R C n (vals Z))) ∧ ∃ m, w' = w.drewN m := by
  obtain ⟨hb0, hb1, hb2⟩ := hb
  have hs := specSides_any R C
  have hfin : ∀ W, FS .f32 W a n c Z → Calls Try.prog 54 #[.slice a n c] W fun e w' => e = .returned (.bool (allFin (vals Z) n)) ∧ ∃ m, w' = W.drewN m := fun W hW => specFin_any a n c Z W hn hW
  cases h1 : (sideB R && sideB C) with
  | false =>
    rw [h1] at hs
    have HB : Hid (validB R C n (vals Z) = false) := Lib.hid (by unfold validB; rw [h1]; rfl)
    clear h1 hfin
    go_enter Try.func37, Try.ntmps37
    go_wp2
    go_quiet ((go_at_call 80; exact quiet_left (hs _)))
    go_wp2
    go_ret
    exact ⟨by rw [HB.out]; rfl, _, rfl⟩
  | true =>
    rw [h1] at hs
    have h12 := h1
    simp only [Bool.and_eq_true] at h12
    obtain ⟨m1, m2⟩ := mul_sides (sideB_le h12.1) (sideB_le h12.2)
    by_cases h3 : (n : Int) = R * C
    · have HB : Hid (validB R C n (vals Z) = allFin (vals Z) n) := Lib.hid (by unfold validB; rw [h1, decide_eq_true h3]; rfl)
      have hd : ((n : Int) == R * C) = true := beq_iff_eq.2 h3
      have h3' := Lib.hid h3
      clear h3 h12 h1
      cases hv : allFin (vals Z) n
      all_goals
       rw [hv] at HB hfin
       clear hv
       go_enter Try.func37, Try.ntmps37
       go_wp2
       go_quiet (first | (go_at_call 80; exact quiet_left (hs _)) | (go_at_call 54; exact Calls.quiet_of (hfin _ (FS.drewN h))))
       go_wp2
       go_ret
       exact ⟨by rw [HB.out]; rfl, _, rfl⟩
    · have HB : Hid (validB R C n (vals Z) = false) := Lib.hid (by unfold validB; rw [decide_eq_false h3]; simp)
      have hd : ((n : Int) == R * C) = false := beq_eq_false_iff_ne.2 h3
      have h3' := Lib.hid h3
      clear h3 h12 h1 hfin
      go_enter Try.func37, Try.ntmps37
      go_wp2
      go_quiet ((go_at_call 80; exact quiet_left (hs _)))
      go_wp2
      go_ret
      exact ⟨by rw [HB.out]; rfl, _, rfl⟩
end Go.Proofs.Ytcibjkadlndejaa
