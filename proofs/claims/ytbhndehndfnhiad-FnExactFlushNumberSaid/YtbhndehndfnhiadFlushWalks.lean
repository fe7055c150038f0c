/- Helper: walks of FlushNumber, of the program and of its reference. Conditions: none. -/
import Derived.Test.YtbhndehndfnhiadSubWalks
import Derived.Lib.Hide
set_option linter.unusedVariables false
namespace Go.Proofs.Ytbhndehndfnhiad
open Go.RowKit

/-- A zero with the sign of x. -/
def signZero (x : Nat) : Nat := x / 2147483648 % 2 * 2147483648
def flushP (X : Option Nat) : Option Nat := if maskP X then X.map signZero else X

theorem and_sign32 (x : Nat) (h : x < 4294967296) : bits .and .i64 (x : Int) 2147483648 = (signZero x : Int) := by
  have e := nat_midmask 32 31 x (by decide)
  have e2 : (2 ^ 32 - 2 ^ 31 : Nat) = 2147483648 := by decide
  have e3 : (2 ^ 32 : Nat) = 4294967296 := by decide
  have e4 : (2 ^ 31 : Nat) = 2147483648 := by decide
  rw [e2, e3, e4] at e
  have e5 : x &&& 2147483648 = signZero x := by rw [e]; unfold signZero; omega
  have hle : x &&& 2147483648 ≤ 2147483648 := Nat.and_le_right
  have hx : (BitVec.ofInt 64 (x : Int)).toNat = x := by simp; omega
  have hm : (BitVec.ofInt 64 (2147483648 : Int)).toNat = 2147483648 := by decide
  show IntKind.i64.wrap ((BitVec.ofInt 64 (x : Int) &&& BitVec.ofInt 64 (2147483648 : Int)).toNat : Int) = _
  rw [BitVec.toNat_and, hx, hm, ← e5]
  exact IntWalk.i64_in _ (by omega)

theorem signZero_le (x : Nat) : signZero x ≤ 2147483648 := by unfold signZero; omega
theorem signZero_or (x : Nat) : signZero x = 0 ∨ signZero x = 2147483648 := by unfold signZero; omega
theorem FV.signZero (x : Nat) : FV .f32 (signZero x) (some (signZero x)) := by
  rcases signZero_or x with h | h <;> rw [h] <;> exact FV.lit (by decide +kernel) (by decide +kernel)

theorem specFlush_any (a : Nat) {X : Option Nat} (fa : FV .f32 a X) (w : World) :
    Calls Try.prog 30 #[.float .f32 a] w fun e w' => ∃ r, e = .returned (.float .f32 r) ∧ FV .f32 r (flushP X) ∧ w = w' := by
  have hm := mask_is X fa.lt32
  have hb : ∀ W, Calls Try.prog 53 #[.float .f32 a] W fun e w' => e = .returned (.int .i64 (bitsP X)) ∧ W = w' := fun W => by
    have := specBits_any a fa.2 W
    rw [fa.1] at this
    exact this
  cases hz : maskP X with
  | false =>
    have hf : flushP X = X := by unfold flushP; rw [hz]; rfl
    rw [hz] at hm
    have HF := Lib.hid hf
    clear hf
    go_enter Try.func30, Try.ntmps30
    go_wp2_with (go_at_call 53; refine (hb _).mono ?_; rintro e w' ⟨rfl, rfl⟩)
    go_ret
    exact ⟨_, rfl, by rw [HF.out]; exact fa, rfl⟩
  | true =>
    cases X with
    | none => cases hz
    | some x =>
      have hf : flushP (some x) = some (signZero x) := by unfold flushP; rw [hz]; rfl
      rw [hz] at hm
      have HF := Lib.hid hf
      clear hf
      have hx := fa.lt32 x rfl
      have hand : bits .and .i64 (bitsP (some x)) 2147483648 = (signZero x : Int) := and_sign32 x hx
      have hle := signZero_le x
      have hv := FV.signZero x
      have hle' : ((signZero x : Nat) : Int) ≤ 2147483648 := by omega
      have hfr : ∀ W, Calls Try.prog 54 #[.int .i64 (signZero x)] W fun e w' => e = .returned (.float .f32 (signZero x)) ∧ W = w' := by
        intro W
        clear hm hand hb HF hv fa hz
        generalize signZero x = z at *
        go_enter Try.func54, Try.ntmps54
        go_wp2
        go_ret
        exact ⟨by simp, rfl⟩
      go_enter Try.func30, Try.ntmps30
      go_wp2_with (first | (go_at_call 53; refine (hb _).mono ?_; rintro e w' ⟨rfl, rfl⟩) | (go_at_call 54; refine (hfr _).mono ?_; rintro e w' ⟨rfl, rfl⟩))
      go_ret
      exact ⟨_, rfl, by rw [HF.out]; exact hv, rfl⟩

def signZero64 (r : Nat) : Nat := r / 9223372036854775808 % 2 * 9223372036854775808

theorem signZero64_or (x : Nat) : signZero64 x = 0 ∨ signZero64 x = 9223372036854775808 := by unfold signZero64; omega
theorem FV.signZero64 (x : Nat) : FV .f64 (signZero64 x) (some (signZero64 x)) := by
  rcases signZero64_or x with h | h <;> rw [h] <;> exact FV.lit (by decide +kernel) (by decide +kernel)

theorem copysign_any (r : Nat) (hr : r < 18446744073709551616) (w : World) :
    Calls Try.prog 32 #[.float .f64 0, .float .f64 r] w fun e w' => e = .returned (.float .f64 (signZero64 r)) ∧ w = w' := by
  have e0 : bits .andNot .u64 ((0 : Nat) : Int) 9223372036854775808 = 0 := by decide +kernel
  have e0' : bits .andNot .u64 0 9223372036854775808 = 0 := by decide +kernel
  have e1 : bits .and .u64 (r : Int) 9223372036854775808 = ((signZero64 r : Nat) : Int) := by
    have e := u64_and_nat r 9223372036854775808 hr (by decide)
    rw [nat_hi64_63, Nat.mod_eq_of_lt hr] at e
    have e5 : r / 9223372036854775808 * 9223372036854775808 = signZero64 r := by unfold signZero64; omega
    rw [e5] at e
    exact e
  have e2 : bits .or .u64 0 ((signZero64 r : Nat) : Int) = ((signZero64 r : Nat) : Int) := by
    have hs : signZero64 r < 18446744073709551616 := by unfold signZero64; omega
    have e := u64_or_nat 0 (signZero64 r) (by decide) hs
    rw [Nat.zero_or] at e
    exact e
  clear hr
  go_enter Try.func32, Try.ntmps32
  go_wp2
  go_ret
  exact ⟨by simp, rfl⟩

theorem widen_sign (x : Nat) (hx : (Ieee.single.read x).isNaN = false) (hl : x < 4294967296) : ∃ r, widen (some x) = some r ∧ narrow (some (signZero64 r)) = some (signZero x) := by
  refine ⟨_, rfl, ?_⟩
  show narrow (some (signZero64 (Ieee.double.write (Ieee.single.read x)))) = _
  have hw : ∃ rung, rung < 9223372036854775808 ∧ Ieee.double.write (Ieee.single.read x) = Ieee.double.word (x / 2147483648 % 2 == 1) rung := by
    obtain ⟨e1, e2, e3, e4⟩ := double_consts
    have hn : ∀ m e, ∃ rung, rung < 9223372036854775808 ∧ Ieee.double.write (.number (x / 2147483648 % 2 == 1) m e) = Ieee.double.word (x / 2147483648 % 2 == 1) rung := by
      intro m e
      simp only [Ieee.Format.write, Ieee.Format.nearest]
      split
      · exact ⟨0, by decide, rfl⟩
      · refine ⟨_, ?_, rfl⟩
        refine Nat.lt_of_le_of_lt (Nat.min_le_right _ _) ?_
        rw [e3]; decide
    rw [read_single_q] at hx ⊢
    split
    · exact hn _ _
    · split
      · exact hn _ _
      · split
        · exact ⟨9218868437227405312, by decide, by simp [Ieee.Format.write, e3]⟩
        · rename_i h1 h2 h3
          rw [if_neg h1, if_neg h2, if_neg h3] at hx
          cases hx
  obtain ⟨rung, hr, he⟩ := hw
  rw [he]
  have e1 := double_consts.1
  have hs2 : x / 2147483648 = 0 ∨ x / 2147483648 = 1 := by omega
  rcases hs2 with h | h
  · have hb : (x / 2147483648 % 2 == 1) = false := by rw [h]; rfl
    have hz : signZero x = 0 := by unfold signZero; rw [h]
    rw [hb, hz]
    have : signZero64 (Ieee.double.word false rung) = 0 := by unfold signZero64 Ieee.Format.word; rw [if_neg (by decide)]; omega
    rw [this]
    decide +kernel
  · have hb : (x / 2147483648 % 2 == 1) = true := by rw [h]; rfl
    have hz : signZero x = 2147483648 := by unfold signZero; rw [h]
    rw [hb, hz]
    have : signZero64 (Ieee.double.word true rung) = 9223372036854775808 := by unfold signZero64 Ieee.Format.word; rw [if_pos rfl, e1]; omega
    rw [this]
    decide +kernel

theorem fits_zero (r : Nat) : fits (some (signZero64 r)) := by
  intro y hy
  obtain rfl : _ = y := by simpa using hy
  right
  rcases signZero64_or r with h | h <;> rw [h] <;> decide +kernel

theorem zero_same {X : Option Nat} (h : clean .f32 X) (hl : ∀ x, X = some x → x < 4294967296) (hz : ford .f32 X (some 0) = some .eq) : X.map signZero = X := by
  cases X with
  | none => rfl
  | some x =>
    have hx : (Ieee.single.read x).isNaN = false := h x rfl
    have hx2 := hl x rfl
    have h0 : Ieee.single.read 0 = .number false 0 (-149) := by decide +kernel
    have hz' : (Ieee.single.read x).order (Ieee.single.read 0) = some .eq := hz
    rw [h0] at hz'
    have hq : x % 2147483648 = 0 := by
      rw [read_single_q] at hx hz'
      by_cases h1 : x % 2147483648 < 8388608
      · rw [if_pos h1] at hz'
        simp only [Ieee.Datum.order, Option.some.injEq, Int.compare_eq_eq, Ieee.signed, Int.min_self, Int.sub_self, Int.toNat_zero, Nat.shiftLeft_zero] at hz'
        split at hz' <;> simp at hz' <;> omega
      · rw [if_neg h1] at hz' hx
        by_cases h2 : x % 2147483648 < 2139095040
        · rw [if_pos h2] at hz'
          simp only [Ieee.Datum.order, Option.some.injEq, Int.compare_eq_eq] at hz'
          exfalso
          have hA := congrArg Int.natAbs hz'
          rw [natAbs_signed, natAbs_signed, Nat.shiftLeft_eq, Nat.shiftLeft_eq, Nat.zero_mul] at hA
          have := Nat.two_pow_pos ((-149 : Int) + (x % 2147483648 / 8388608 - 1 : Nat) - min (-149 + ((x % 2147483648 / 8388608 - 1 : Nat) : Int)) (-149)).toNat
          rcases Nat.mul_eq_zero.1 hA with h | h
          · omega
          · omega
        · rw [if_neg h2] at hz' hx
          by_cases h3 : x % 2147483648 = 2139095040
          · rw [if_pos h3] at hz'
            simp only [Ieee.Datum.order] at hz'
            split at hz' <;> cases hz'
          · rw [if_neg h3] at hx; cases hx
    show some (signZero x) = some x
    congr 1
    unfold signZero
    omega

theorem implFlush_any (a : Nat) {X : Option Nat} (fa : FV .f32 a X) (w : World) :
    Calls Try.prog 12 #[.float .f32 a] w fun e w' => ∃ r, e = .returned (.float .f32 r) ∧ FV .f32 r (flushP X) ∧ ∃ n, w' = w.drewN n := by
  have hsub := fun W => implSub_any a fa W
  cases hz : subP X with
  | false =>
    rw [hz] at hsub
    have hf : flushP X = X := by
      unfold flushP
      cases hm : maskP X with
      | false => rfl
      | true =>
        have : (ford .f32 X (some 0) != some .eq) = false := by
          unfold subP at hz
          rw [hm, Bool.and_true] at hz
          exact hz
        exact zero_same fa.clean fa.lt32 (by simpa using this)
    have HF := Lib.hid hf
    clear hf hz
    go_enter Try.func12, Try.ntmps12
    go_wp2_with (go_at_call 31; refine (hsub _).mono ?_; rintro e w' ⟨rfl, n, rfl⟩)
    go_ret
    exact ⟨_, rfl, by rw [HF.out]; exact fa, _, rfl⟩
  | true =>
    rw [hz] at hsub
    have hm : maskP X = true := by
      unfold subP at hz
      exact (Bool.and_eq_true _ _ ▸ hz).2
    cases X with
    | none => cases hm
    | some x =>
      obtain ⟨q, hq, hn⟩ := widen_sign x (fa.clean x rfl) (fa.lt32 x rfl)
      have hf : flushP (some x) = narrow (some (signZero64 q)) := by unfold flushP; rw [hm, hn]; rfl
      have HF := Lib.hid hf
      have HQ := Lib.hid hq
      have hfit := fits_zero q
      have hfv := FV.signZero64 q
      clear hf hz hm hn hq
      go_enter Try.func12, Try.ntmps12
      go_wp2_with (first | (go_at_call 31; refine (hsub _).mono ?_; rintro e w' ⟨rfl, n, rfl⟩) | (refine wpList_widen rfl _ _ _ rfl _ rfl (by kernel_rfl) Try.underlying25 fa ?_; intro r m hr; rw [HQ.out] at hr; obtain rfl := hr.eq; have hr2 : r < 18446744073709551616 := (by have := hr.2; simpa [Lit.wf] using this)) | (go_at_call 32; refine (copysign_any _ (by assumption) _).mono ?_; rintro e w' ⟨rfl, rfl⟩) | (refine wpList_narrow rfl _ _ _ rfl _ rfl (by kernel_rfl) Try.underlying22 hfv hfit ?_; intro r2 m2 hr3))
      go_ret
      exact ⟨_, rfl, by rw [HF.out]; assumption, _, rfl⟩
theorem law_FnExactFlushNumber (a : Nat) (ha : (Lit.float .f32 a).wf = true) (w : World) :
    Calls Try.prog 3 #[.float .f32 a] w fun e w' => e = .returned (.bool true) ∧ Below w.heap.size w w' := by
  have fa := FV.mk' ha
  generalize cn .f32 a = X at fa
  have hs : ∀ w, Calls Try.prog 11 #[.float .f32 a] w fun e w' => ∃ r, e = .returned (.float .f32 r) ∧ FV .f32 r (flushP X) ∧ w = w' := by
    intro w
    go_enter Try.func11, Try.ntmps11
    go_wp2_with (go_at_call 30; refine (specFlush_any _ fa _).mono ?_; rintro e w' ⟨r, rfl, hr, rfl⟩)
    go_ret
    exact ⟨_, rfl, by assumption, rfl⟩
  have hi := fun w => implFlush_any _ fa w
  generalize flushP X = Z at *
  clear fa
  go_enter Try.func3, Try.ntmps3
  go_wp2_with (first | (go_at_call 11; refine (hs _).mono ?_; rintro e w' ⟨r, rfl, hr, rfl⟩) | (go_at_call 12; refine (hi _).mono ?_; rintro e w' ⟨r, rfl, hr, n, rfl⟩) | (refine wpList_widen rfl _ _ _ rfl _ rfl (by kernel_rfl) Try.underlying25 (by assumption) ?_; intro r m hr) | (go_at_call 13; refine (sameFloat_any _ _ (by assumption) (by assumption) _).mono ?_; rintro e w' ⟨rfl, n, rfl⟩))
  go_ret
  exact ⟨rfl, below_drewN (Below.refl _ _) _⟩
end Go.Proofs.Ytbhndehndfnhiad
