/- Helper: signs of orders, and the orders that lead back, of the program and of its reference. Conditions: none. -/
import Derived.Test.YtpmilaemmdcfaacOrderKey
set_option linter.unusedVariables false
set_option linter.unusedSimpArgs false
namespace Go.Proofs.Ytpmilaemmdcfaac
open Go.RowKit

/-- The sign behind m numbers that follow the number i. -/
def inn (Z : Nat → Int) (i : Nat) : Nat → Int → Int
  | 0, s => s
  | m + 1, s => if Z (i + 1 + m) < Z i then -(inn Z i m s) else inn Z i m s
def sg (Z : Nat → Int) (n : Nat) : Nat → Int
  | 0 => 1
  | i + 1 => inn Z i (n - (i + 1)) (sg Z n i)
theorem inn_le {Z : Nat → Int} {i : Nat} {s : Int} (h : -1 ≤ s ∧ s ≤ 1) : ∀ m, -1 ≤ inn Z i m s ∧ inn Z i m s ≤ 1
  | 0 => h
  | m + 1 => by
    have := inn_le h (Z := Z) (i := i) m
    simp only [inn]
    split <;> omega
theorem sg_le {Z : Nat → Int} {n : Nat} : ∀ i, -1 ≤ sg Z n i ∧ sg Z n i ≤ 1
  | 0 => by simp [sg]
  | i + 1 => inn_le (sg_le i) _
/-- A whole number, and whether it is told. -/
def IntBel (ok : Bool) (X : Int) (w : World) (e : Ending) (w' : World) : Prop := e = .returned (.tuple #[.int .i64 X, .bool ok]) ∧ Below w.heap.size w w'

set_option maxHeartbeats 1000000 in
theorem implSign_no (a : Option Addr) (n c : Nat) (Z : Nat → Int) (w : World) (hn : n ≤ 1048576) (h : IS .i64 w a n c Z) (ho : ordB Z n = false) :
    Calls Try.prog 57 #[.slice a n c] w (IntBel false 0 w) := by
  go_enter Try.func57, Try.ntmps57
  go_wp2_with fail
  go_at_call 39
  refine (implOrder_any a n c Z _ hn h).mono ?_
  rintro e w1 ⟨rfl, b1⟩
  go_wp2_with fail
  go_ret2
  exact ⟨rfl, b1⟩
set_option maxHeartbeats 2000000 in
theorem implSign_yes (b off n c : Nat) (Z : Nat → Int) (w : World) (hn : n ≤ 12) (h : IS .i64 w (some ⟨b, off, none⟩) n c Z) (ho : ordB Z n = true) :
    Calls Try.prog 57 #[.slice (some ⟨b, off, none⟩) n c] w (IntBel true (sg Z n n) w) := by
  have hcap := h.1
  have hmax : c ≤ 9223372036854775807 := by have := h.2.1; unfold maxLen at this; omega
  go_enter Try.func57, Try.ntmps57
  go_wp2_with fail
  go_at_call 39
  refine (implOrder_any _ n c Z _ (by omega) h).mono ?_
  rintro e w1 ⟨rfl, b1⟩
  have h1 := h.below b1 (Nat.le_refl _)
  have B1 := Lib.hid b1
  clear h b1
  go_wp2
  clear ho
  go_loop [4, 14] (fun s i => ∃ j : Nat, j ≤ n ∧ i = .int .i64 j ∧ s = .int .i64 (sg Z n j)) (fun _ i => n - (intOf i).toNat)
  case atStart => exact ⟨0, Nat.zero_le _, rfl, rfl⟩
  case round =>
    obtain ⟨j, hj, rfl, rfl⟩ := hrel
    by_cases hlt : j < n
    · obtain ⟨b', off', e, hbl, hc, hw⟩ := IS.at h1 hlt
      simp only [Option.some.injEq, Addr.mk.injEq, and_true] at e
      obtain ⟨rfl, rfl⟩ := e
      have hsg := sg_le (Z := Z) (n := n) j
      have hS : Hid (inn Z j (n - (j + 1)) (sg Z n j) = sg Z n (j + 1)) := Lib.hid rfl
      have hrow : ∀ m, m < n - (j + 1) → w1.cell? ⟨b, off + (j + 1) + m, none⟩ = some (.int .i64 (Z (j + 1 + m))) := by
        intro m hm
        obtain ⟨b2, off2, e2, _, hc2, _⟩ := IS.at h1 (show j + 1 + m < n by omega)
        simp only [Option.some.injEq, Addr.mk.injEq, and_true] at e2
        obtain ⟨rfl, rfl⟩ := e2
        rw [Nat.add_assoc]; exact hc2
      have hrow' := Lib.hid hrow
      clear hrow hbl hw
      generalize sg Z n j = s0 at hsg hS
      generalize hx : Z j = x at hc
      have hx' := Lib.hid hx
      clear hx
      have hcd : (c = j + 1) = True ∧ n ≤ j + 1 ∨ (c = j + 1) = False ∧ j + 1 < c := by
        by_cases hce : c = j + 1
        · exact .inl ⟨eq_true hce, by omega⟩
        · exact .inr ⟨eq_false hce, by omega⟩
      rcases hcd with ⟨hcT, hz⟩ | ⟨hcT, hz⟩
      all_goals
        go_wp2
        go_loop [4, 24] (fun s i => ∃ m : Nat, m ≤ n - (j + 1) ∧ s = .int .i64 (inn Z j m s0) ∧ i = .int .i64 m) (fun _ i => n - (intOf i).toNat)
        case atStart => exact ⟨0, Nat.zero_le _, rfl, rfl⟩
        case round =>
          obtain ⟨m, hm, rfl, rfl⟩ := hrel
          have hin := inn_le (Z := Z) (i := j) hsg m
          by_cases hlt2 : m < n - (j + 1)
          · have hcm := hrow'.out m hlt2
            by_cases hgt : Z (j + 1 + m) < Z j
            · have hi1 : Hid (-(inn Z j m s0) = inn Z j (m + 1) s0) := Lib.hid (by simp only [inn]; rw [if_pos hgt])
              rw [hx'.out] at hgt
              generalize Z (j + 1 + m) = y at hcm hgt
              generalize inn Z j m s0 = s1 at hin hi1
              have hd : decide (y < x) = true := decide_eq_true hgt
              first
                | (exfalso; omega)
                | (go_wp2
                   go_round
                   case rel => exact ⟨m + 1, by omega, by rw [hi1.out], by go_num⟩
                   case measure => simp [intOf]; omega)
            · have hi1 : Hid (inn Z j m s0 = inn Z j (m + 1) s0) := Lib.hid (by simp only [inn]; rw [if_neg hgt])
              rw [hx'.out] at hgt
              generalize Z (j + 1 + m) = y at hcm hgt
              generalize inn Z j m s0 = s1 at hin hi1
              have hd : decide (y < x) = false := decide_eq_false hgt
              first
                | (exfalso; omega)
                | (go_wp2
                   go_round
                   case rel => exact ⟨m + 1, by omega, by rw [hi1.out], by go_num⟩
                   case measure => simp [intOf]; omega)
          · obtain rfl : m = n - (j + 1) := by omega
            go_wp2
            go_round
            case rel => exact ⟨j + 1, by omega, by go_num, by rw [hS.out]⟩
            case measure => simp [intOf]; omega
    · obtain rfl : j = n := by omega
      go_wp2
      go_ret2
      exact ⟨rfl, B1.out⟩

set_option maxHeartbeats 1000000 in
theorem specSign_no (a : Option Addr) (n c : Nat) (Z : Nat → Int) (w : World) (hn : n ≤ 1048576) (h : IS .i64 w a n c Z) (ho : ordB Z n = false) :
    Calls Try.prog 55 #[.slice a n c] w (IntBel false 0 w) := by
  go_enter Try.func55, Try.ntmps55
  go_wp2_with fail
  go_at_call 68
  refine (specOrder_any a n c Z _ hn h).mono ?_
  rintro e w1 ⟨rfl, b1⟩
  go_wp2_with fail
  go_ret2
  exact ⟨rfl, b1⟩
set_option maxHeartbeats 2000000 in
theorem specSign_yes (b off n c : Nat) (Z : Nat → Int) (w : World) (hn : n ≤ 12) (h : IS .i64 w (some ⟨b, off, none⟩) n c Z) (ho : ordB Z n = true) :
    Calls Try.prog 55 #[.slice (some ⟨b, off, none⟩) n c] w (IntBel true (sg Z n n) w) := by
  go_enter Try.func55, Try.ntmps55
  go_wp2_with fail
  go_at_call 68
  refine (specOrder_any _ n c Z _ (by omega) h).mono ?_
  rintro e w1 ⟨rfl, b1⟩
  have h1 := h.below b1 (Nat.le_refl _)
  have B1 := Lib.hid b1
  clear h b1
  go_wp2
  clear ho
  go_loopw [4, 5] (fun s i wr => ∃ j q : Nat, j ≤ n ∧ i = .int .i64 j ∧ s = .int .i64 (sg Z n j) ∧ wr = w1.drewN q) (fun _ i _ => n - (intOf i).toNat)
  case atStart => exact ⟨0, 0, Nat.zero_le _, rfl, rfl, rfl⟩
  case round =>
    obtain ⟨j, q, hj, rfl, rfl, rfl⟩ := hrel
    by_cases hlt : j < n
    · obtain ⟨b', off', e, hbl, hc, hw⟩ := IS.at h1 hlt
      simp only [Option.some.injEq, Addr.mk.injEq, and_true] at e
      obtain ⟨rfl, rfl⟩ := e
      have hsg := sg_le (Z := Z) (n := n) j
      have hS : Hid (inn Z j (n - (j + 1)) (sg Z n j) = sg Z n (j + 1)) := Lib.hid rfl
      have hrow : ∀ m, m < n - (j + 1) → w1.cell? ⟨b, off + (j + 1 + m), none⟩ = some (.int .i64 (Z (j + 1 + m))) := by
        intro m hm
        obtain ⟨b2, off2, e2, _, hc2, _⟩ := IS.at h1 (show j + 1 + m < n by omega)
        simp only [Option.some.injEq, Addr.mk.injEq, and_true] at e2
        obtain ⟨rfl, rfl⟩ := e2
        exact hc2
      have hrow' := Lib.hid hrow
      clear hrow hbl hw
      generalize sg Z n j = s0 at hsg hS
      generalize hx : Z j = x at hc
      have hx' := Lib.hid hx
      clear hx
      have hlt' := Lib.hid hlt
      go_wp2
      go_loopw [4, 6] (fun s i wr => ∃ m q : Nat, m ≤ n - (j + 1) ∧ s = .int .i64 (inn Z j m s0) ∧ i = .int .i64 ((j + 1 + m : Nat) : Int) ∧ wr = w1.drewN q) (fun _ i _ => n - (intOf i).toNat)
      case atStart => exact ⟨0, _, Nat.zero_le _, rfl, by go_num, rfl⟩
      case round =>
        obtain ⟨m, q2, hm, rfl, rfl, rfl⟩ := hrel
        have hin := inn_le (Z := Z) (i := j) hsg m
        by_cases hlt2 : m < n - (j + 1)
        · have hcm := hrow'.out m hlt2
          have hk : j + 1 + m < n := by omega
          have hd2 : decide (((j + 1 + m : Nat) : Int) < n) = true := decide_eq_true (by omega)
          by_cases hgt : Z (j + 1 + m) < Z j
          · have hi1 : Hid (-(inn Z j m s0) = inn Z j (m + 1) s0) := Lib.hid (by simp only [inn]; rw [if_pos hgt])
            rw [hx'.out] at hgt
            generalize Z (j + 1 + m) = y at hcm hgt
            generalize inn Z j m s0 = s1 at hin hi1
            have hd : decide (y < x) = true := decide_eq_true hgt
            generalize hkk : j + 1 + m = k at hcm hk hd2 ⊢
            have hkk' := Lib.hid hkk
            clear hkk
            go_wp2
            go_quiet (fail)
            go_wp2
            go_roundw
            case rel => exact ⟨m + 1, _, by omega, by rw [hi1.out], by rw [← hkk'.out]; go_num, rfl⟩
            case measure => simp [intOf]; omega
          · have hi1 : Hid (inn Z j m s0 = inn Z j (m + 1) s0) := Lib.hid (by simp only [inn]; rw [if_neg hgt])
            rw [hx'.out] at hgt
            generalize Z (j + 1 + m) = y at hcm hgt
            generalize inn Z j m s0 = s1 at hin hi1
            have hd : decide (y < x) = false := decide_eq_false hgt
            generalize hkk : j + 1 + m = k at hcm hk hd2 ⊢
            have hkk' := Lib.hid hkk
            clear hkk
            go_wp2
            go_quiet (fail)
            go_wp2
            go_roundw
            case rel => exact ⟨m + 1, _, by omega, by rw [hi1.out], by rw [← hkk'.out]; go_num, rfl⟩
            case measure => simp [intOf]; omega
        · obtain rfl : m = n - (j + 1) := by omega
          have hlt'' := hlt'.out
          have hkn : j + 1 + (n - (j + 1)) = n := by omega
          rw [hkn]
          have hd2 : decide ((n : Int) < n) = false := decide_eq_false (by omega)
          clear hkn
          go_wp2
          go_roundw
          case rel => exact ⟨j + 1, _, by omega, by go_num, by rw [hS.out], rfl⟩
          case measure => simp [intOf]; omega
    · obtain rfl : j = n := by omega
      go_wp2
      go_ret2
      exact ⟨rfl, below_drewN B1.out _⟩
theorem keyOrderSign (n : Nat) (Z : Nat → Int) (hn : n ≤ 1048576) : ∃ (ok : Bool) (X : Int),
    (∀ a c W, IS .i64 W a n c Z → Calls Try.prog 55 #[.slice a n c] W (IntBel ok X W)) ∧
    (∀ a c W, IS .i64 W a n c Z → Calls Try.prog 57 #[.slice a n c] W (IntBel ok X W)) := by
  cases ho : ordB Z n with
  | false => exact ⟨false, 0, fun a c W h => specSign_no a n c Z W hn h ho, fun a c W h => implSign_no a n c Z W hn h ho⟩
  | true =>
    have ho' := ho
    unfold ordB at ho'
    simp only [Bool.and_eq_true, decide_eq_true_eq] at ho'
    refine ⟨true, sg Z n n, fun a c W h => ?_, fun a c W h => ?_⟩
    all_goals obtain ⟨b, off, rfl, _⟩ := IS.at h (show 0 < n by omega)
    · exact specSign_yes b off n c Z W ho'.2.1 h ho
    · exact implSign_yes b off n c Z W ho'.2.1 h ho
end Go.Proofs.Ytpmilaemmdcfaac
