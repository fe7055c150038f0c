/- Helper: how many numbers of a list are greater than a limit, of the program and of its reference. Conditions: none. -/
import Derived.Test.YtcldaafmbmmhiabVecSums
set_option linter.unusedVariables false
namespace Go.Proofs.Ytcldaafmbmmhiab
open Go.RowKit

/-- How many of the first numbers are greater. -/
def rankP (V : Nat → Option Nat) (X : Option Nat) : Nat → Nat
  | 0 => 0
  | j + 1 => if (ford .f32 (V j) X == some .gt) = true then rankP V X j + 1 else rankP V X j
theorem rank_le {V : Nat → Option Nat} {X : Option Nat} : ∀ j, rankP V X j ≤ j
  | 0 => Nat.le_refl _
  | j + 1 => by
    have := rank_le (V := V) (X := X) j
    simp only [rankP]
    split <;> omega
def rankOk (n : Nat) (V : Nat → Option Nat) (X : Option Nat) : Bool := (decide (1 ≤ n) && (decide (n ≤ 12) && allFin V n)) && finite .f32 X
/-- A whole number, and whether it is told. -/
def IntBel (ok : Bool) (X : Int) (w : World) (e : Ending) (w' : World) : Prop := e = .returned (.tuple #[.int .i64 X, .bool ok]) ∧ Below w.heap.size w w'

set_option maxHeartbeats 1000000 in
theorem implRank_yes (b off n c x : Nat) (Z : Nat → Nat) (X : Option Nat) (w : World) (hx : FV .f32 x X) (h : FS .f32 w (some ⟨b, off, none⟩) n c Z) (h1 : 1 ≤ n) (h2 : n ≤ 12) (ha : allFin (vals Z) n = true) (hf : finite .f32 X = true) :
    Calls Try.prog 17 #[.slice (some ⟨b, off, none⟩) n c, .float .f32 x] w (IntBel true (rankP (vals Z) X n) w) := by
  have hv : vecB n (vals Z) = true := by unfold vecB; rw [decide_eq_true h1, decide_eq_true (show n ≤ 256 by omega), ha]; rfl
  have hd : decide ((12 : Int) < n) = false := decide_eq_false (by omega)
  have hxc := hx.1
  go_enter Try.func17, Try.ntmps17
  go_wp2_with (first | (go_at_call 53; refine (implVector_any _ n c Z _ (by omega) h).mono ?_; rintro e w' ⟨rfl, q, rfl⟩) | (go_at_call 54; refine (implIsFinite_any _ hx _).mono ?_; rintro e w' ⟨rfl, q2, rfl⟩))
  clear hv ha
  go_loopw [6, 24] (fun s i wr => ∃ j m : Nat, j ≤ n ∧ i = .int .i64 j ∧ s = .int .i64 (rankP (vals Z) X j : Nat) ∧ wr = w.drewN m) (fun _ i _ => n - (intOf i).toNat)
  case atStart => exact ⟨0, _, Nat.zero_le _, rfl, rfl, rfl⟩
  case round =>
    obtain ⟨j, m0, hj, rfl, rfl, rfl⟩ := hrel
    by_cases hlt : j < n
    · obtain ⟨b', off', e, hbl, hc, hfv⟩ := h.at hlt
      simp only [Option.some.injEq, Addr.mk.injEq, and_true] at e
      obtain ⟨rfl, rfl⟩ := e
      have hle := rank_le (V := vals Z) (X := X) j
      have hyc : cn .f32 (Z j) = vals Z j := rfl
      clear hbl h
      cases hg : (ford .f32 (vals Z j) X == some .gt) with
      | true =>
        have hS : Hid (rankP (vals Z) X j + 1 = rankP (vals Z) X (j + 1)) := Lib.hid (by simp only [rankP]; rw [if_pos hg])
        generalize rankP (vals Z) X j = s0 at hle hS ⊢
        go_wp2
        go_roundw
        case rel => exact ⟨j + 1, _, by omega, by go_num, by rw [← hS.out]; go_num, rfl⟩
        case measure => simp [intOf]; omega
      | false =>
        have hS : Hid (rankP (vals Z) X j = rankP (vals Z) X (j + 1)) := Lib.hid (by simp only [rankP]; rw [if_neg (by rw [hg]; decide)])
        generalize rankP (vals Z) X j = s0 at hle hS ⊢
        go_wp2
        go_roundw
        case rel => exact ⟨j + 1, _, by omega, by go_num, by rw [← hS.out], rfl⟩
        case measure => simp [intOf]; omega
    · obtain rfl : j = n := by omega
      go_wp2
      go_ret2
      exact ⟨rfl, (by repeat first | (with_reducible exact Below.refl _ _) | (with_reducible refine Below.setCell ?_ (by first | exact Nat.le_refl _ | (simp; done) | (simp; omega) | omega) _) | (with_reducible refine Below.alloc ?_ (by first | exact Nat.le_refl _ | (simp; done) | (simp; omega) | omega) _) | (with_reducible refine below_drewN ?_ _) | (with_reducible refine Below.drew ?_))⟩
theorem implRank_no (a : Option Addr) (n c x : Nat) (Z : Nat → Nat) (X : Option Nat) (w : World) (hn : n ≤ 1048576) (hx : FV .f32 x X) (h : FS .f32 w a n c Z) (ho : rankOk n (vals Z) X = false) :
    Calls Try.prog 17 #[.slice a n c, .float .f32 x] w (IntBel false 0 w) := by
  cases hv : vecB n (vals Z) with
  | false =>
    go_enter Try.func17, Try.ntmps17
    go_wp2_with (first | (go_at_call 53; refine (implVector_any _ n c Z _ hn h).mono ?_; rintro e w' ⟨rfl, q, rfl⟩))
    go_ret2
    exact ⟨rfl, (by repeat first | (with_reducible exact Below.refl _ _) | (with_reducible refine Below.setCell ?_ (by first | exact Nat.le_refl _ | (simp; done) | (simp; omega) | omega) _) | (with_reducible refine Below.alloc ?_ (by first | exact Nat.le_refl _ | (simp; done) | (simp; omega) | omega) _) | (with_reducible refine below_drewN ?_ _) | (with_reducible refine Below.drew ?_))⟩
  | true =>
    by_cases h2 : n ≤ 12
    · have hd : decide ((12 : Int) < n) = false := decide_eq_false (by omega)
      have hf : finite .f32 X = false := by
        have hv' := hv
        unfold vecB at hv'
        unfold rankOk at ho
        simp only [Bool.and_eq_true, decide_eq_true_eq] at hv'
        rw [decide_eq_true hv'.1, decide_eq_true h2, hv'.2.2] at ho
        simpa using ho
      clear ho
      go_enter Try.func17, Try.ntmps17
      go_wp2_with (first | (go_at_call 53; refine (implVector_any _ n c Z _ hn h).mono ?_; rintro e w' ⟨rfl, q, rfl⟩) | (go_at_call 54; refine (implIsFinite_any _ hx _).mono ?_; rintro e w' ⟨rfl, q2, rfl⟩))
      go_ret2
      exact ⟨rfl, (by repeat first | (with_reducible exact Below.refl _ _) | (with_reducible refine Below.setCell ?_ (by first | exact Nat.le_refl _ | (simp; done) | (simp; omega) | omega) _) | (with_reducible refine Below.alloc ?_ (by first | exact Nat.le_refl _ | (simp; done) | (simp; omega) | omega) _) | (with_reducible refine below_drewN ?_ _) | (with_reducible refine Below.drew ?_))⟩
    · have hd : decide ((12 : Int) < n) = true := decide_eq_true (by omega)
      clear ho
      go_enter Try.func17, Try.ntmps17
      go_wp2_with (first | (go_at_call 53; refine (implVector_any _ n c Z _ hn h).mono ?_; rintro e w' ⟨rfl, q, rfl⟩))
      go_ret2
      exact ⟨rfl, (by repeat first | (with_reducible exact Below.refl _ _) | (with_reducible refine Below.setCell ?_ (by first | exact Nat.le_refl _ | (simp; done) | (simp; omega) | omega) _) | (with_reducible refine Below.alloc ?_ (by first | exact Nat.le_refl _ | (simp; done) | (simp; omega) | omega) _) | (with_reducible refine below_drewN ?_ _) | (with_reducible refine Below.drew ?_))⟩
set_option maxHeartbeats 1000000 in
theorem specRank_yes (b off n c x : Nat) (Z : Nat → Nat) (X : Option Nat) (w : World) (hx : FV .f32 x X) (h : FS .f32 w (some ⟨b, off, none⟩) n c Z) (h1 : 1 ≤ n) (h2 : n ≤ 12) (ha : allFin (vals Z) n = true) (hf : finite .f32 X = true) :
    Calls Try.prog 15 #[.slice (some ⟨b, off, none⟩) n c, .float .f32 x] w (IntBel true (rankP (vals Z) X n) w) := by
  have hd : decide ((12 : Int) < n) = false := decide_eq_false (by omega)
  have hd1 : decide ((n : Int) < 1) = false := decide_eq_false (by omega)
  have hxc := hx.1
  go_enter Try.func15, Try.ntmps15
  go_wp2_with (first | (go_at_call 51; refine (specFin_any _ n c Z _ (by omega) h).mono ?_; rintro e w' ⟨rfl, q, rfl⟩) | (go_at_call 52; refine (specFinite_any _ hx _).mono ?_; rintro e w' ⟨rfl, q2, rfl⟩))
  clear ha
  go_loopw [6, 7] (fun s i wr => ∃ j m : Nat, j ≤ n ∧ i = .int .i64 j ∧ s = .int .i64 (rankP (vals Z) X j : Nat) ∧ wr = w.drewN m) (fun _ i _ => n - (intOf i).toNat)
  case atStart => exact ⟨0, _, Nat.zero_le _, rfl, rfl, rfl⟩
  case round =>
    obtain ⟨j, m0, hj, rfl, rfl, rfl⟩ := hrel
    by_cases hlt : j < n
    · obtain ⟨b', off', e, hbl, hc, hfv⟩ := h.at hlt
      simp only [Option.some.injEq, Addr.mk.injEq, and_true] at e
      obtain ⟨rfl, rfl⟩ := e
      have hle := rank_le (V := vals Z) (X := X) j
      have hyc : cn .f32 (Z j) = vals Z j := rfl
      clear hbl h
      cases hg : (ford .f32 (vals Z j) X == some .gt) with
      | true =>
        have hS : Hid (rankP (vals Z) X j + 1 = rankP (vals Z) X (j + 1)) := Lib.hid (by simp only [rankP]; rw [if_pos hg])
        generalize rankP (vals Z) X j = s0 at hle hS ⊢
        go_wp2
        go_roundw
        case rel => exact ⟨j + 1, _, by omega, by go_num, by rw [← hS.out]; go_num, rfl⟩
        case measure => simp [intOf]; omega
      | false =>
        have hS : Hid (rankP (vals Z) X j = rankP (vals Z) X (j + 1)) := Lib.hid (by simp only [rankP]; rw [if_neg (by rw [hg]; decide)])
        generalize rankP (vals Z) X j = s0 at hle hS ⊢
        go_wp2
        go_roundw
        case rel => exact ⟨j + 1, _, by omega, by go_num, by rw [← hS.out], rfl⟩
        case measure => simp [intOf]; omega
    · obtain rfl : j = n := by omega
      go_wp2
      go_ret2
      exact ⟨rfl, (by repeat first | (with_reducible exact Below.refl _ _) | (with_reducible refine Below.setCell ?_ (by first | exact Nat.le_refl _ | (simp; done) | (simp; omega) | omega) _) | (with_reducible refine Below.alloc ?_ (by first | exact Nat.le_refl _ | (simp; done) | (simp; omega) | omega) _) | (with_reducible refine below_drewN ?_ _) | (with_reducible refine Below.drew ?_))⟩
theorem specRank_no (a : Option Addr) (n c x : Nat) (Z : Nat → Nat) (X : Option Nat) (w : World) (hn : n ≤ 1048576) (hx : FV .f32 x X) (h : FS .f32 w a n c Z) (ho : rankOk n (vals Z) X = false) :
    Calls Try.prog 15 #[.slice a n c, .float .f32 x] w (IntBel false 0 w) := by
  by_cases h1 : 1 ≤ n
  · have hd1 : decide ((n : Int) < 1) = false := decide_eq_false (by omega)
    by_cases h2 : n ≤ 12
    · have hd : decide ((12 : Int) < n) = false := decide_eq_false (by omega)
      cases hv : allFin (vals Z) n with
      | false =>
        clear ho
        go_enter Try.func15, Try.ntmps15
        go_wp2_with (first | (go_at_call 51; refine (specFin_any _ n c Z _ hn h).mono ?_; rintro e w' ⟨rfl, q, rfl⟩))
        go_ret2
        exact ⟨rfl, (by repeat first | (with_reducible exact Below.refl _ _) | (with_reducible refine Below.setCell ?_ (by first | exact Nat.le_refl _ | (simp; done) | (simp; omega) | omega) _) | (with_reducible refine Below.alloc ?_ (by first | exact Nat.le_refl _ | (simp; done) | (simp; omega) | omega) _) | (with_reducible refine below_drewN ?_ _) | (with_reducible refine Below.drew ?_))⟩
      | true =>
        have hf : finite .f32 X = false := by
          unfold rankOk at ho
          rw [decide_eq_true h1, decide_eq_true h2, hv] at ho
          simpa using ho
        clear ho
        go_enter Try.func15, Try.ntmps15
        go_wp2_with (first | (go_at_call 51; refine (specFin_any _ n c Z _ hn h).mono ?_; rintro e w' ⟨rfl, q, rfl⟩) | (go_at_call 52; refine (specFinite_any _ hx _).mono ?_; rintro e w' ⟨rfl, q2, rfl⟩))
        go_ret2
        exact ⟨rfl, (by repeat first | (with_reducible exact Below.refl _ _) | (with_reducible refine Below.setCell ?_ (by first | exact Nat.le_refl _ | (simp; done) | (simp; omega) | omega) _) | (with_reducible refine Below.alloc ?_ (by first | exact Nat.le_refl _ | (simp; done) | (simp; omega) | omega) _) | (with_reducible refine below_drewN ?_ _) | (with_reducible refine Below.drew ?_))⟩
    · have hd : decide ((12 : Int) < n) = true := decide_eq_true (by omega)
      clear ho
      go_enter Try.func15, Try.ntmps15
      go_wp2
      go_ret2
      exact ⟨rfl, (by repeat first | (with_reducible exact Below.refl _ _) | (with_reducible refine Below.setCell ?_ (by first | exact Nat.le_refl _ | (simp; done) | (simp; omega) | omega) _) | (with_reducible refine Below.alloc ?_ (by first | exact Nat.le_refl _ | (simp; done) | (simp; omega) | omega) _) | (with_reducible refine below_drewN ?_ _) | (with_reducible refine Below.drew ?_))⟩
  · have hd1 : decide ((n : Int) < 1) = true := decide_eq_true (by omega)
    clear ho
    go_enter Try.func15, Try.ntmps15
    go_wp2
    go_ret2
    exact ⟨rfl, (by repeat first | (with_reducible exact Below.refl _ _) | (with_reducible refine Below.setCell ?_ (by first | exact Nat.le_refl _ | (simp; done) | (simp; omega) | omega) _) | (with_reducible refine Below.alloc ?_ (by first | exact Nat.le_refl _ | (simp; done) | (simp; omega) | omega) _) | (with_reducible refine below_drewN ?_ _) | (with_reducible refine Below.drew ?_))⟩
theorem keyRankOfValues (n : Nat) (Z : Nat → Nat) (x : Nat) (hn : n ≤ 1048576) (wx : (Lit.float .f32 x).wf = true) : ∃ (ok : Bool) (X : Int),
    (∀ a c W, FS .f32 W a n c Z → Calls Try.prog 15 #[.slice a n c, .float .f32 x] W (IntBel ok X W)) ∧
    (∀ a c W, FS .f32 W a n c Z → Calls Try.prog 17 #[.slice a n c, .float .f32 x] W (IntBel ok X W)) := by
  have hx : FV .f32 x (cn .f32 x) := FV.mk' wx
  cases ho : rankOk n (vals Z) (cn .f32 x) with
  | false => exact ⟨false, 0, fun a c W h => specRank_no a n c x Z _ W hn hx h ho, fun a c W h => implRank_no a n c x Z _ W hn hx h ho⟩
  | true =>
    have ho' := ho
    unfold rankOk at ho'
    simp only [Bool.and_eq_true, decide_eq_true_eq] at ho'
    obtain ⟨⟨h1, h2, h3⟩, h4⟩ := ho'
    refine ⟨true, (rankP (vals Z) (cn .f32 x) n : Nat), fun a c W h => ?_, fun a c W h => ?_⟩
    · obtain ⟨b, off, rfl, _, _, _⟩ := h.at (show 0 < n by omega)
      exact specRank_yes b off n c x Z _ W hx h h1 h2 h3 h4
    · obtain ⟨b, off, rfl, _, _, _⟩ := h.at (show 0 < n by omega)
      exact implRank_yes b off n c x Z _ W hx h h1 h2 h3 h4
end Go.Proofs.Ytcldaafmbmmhiab
