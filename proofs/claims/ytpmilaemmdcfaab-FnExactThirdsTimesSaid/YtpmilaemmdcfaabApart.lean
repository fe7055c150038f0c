/- Helper: whether numbers of a list are equal: what is in a list, numbers apart, lists that are told, of the program and of its reference. Conditions: none. -/
import Derived.Test.YtpmilaemmdcfaabNodes
import Derived.Test.YtpmilaemmdcfaabMid
set_option linter.unusedVariables false
set_option linter.unusedSimpArgs false
namespace Go.Proofs.Ytpmilaemmdcfaab
open Go.RowKit

/-- Two numbers that are equal. -/
def equN (X Y : Option Nat) : Bool := ford .f32 X Y == some .eq
theorem equN_comm (X Y : Option Nat) : equN X Y = equN Y X := by
  have hs : ford .f32 Y X = (ford .f32 X Y).map Ordering.swap := by
    cases X with
    | none => cases Y <;> rfl
    | some x =>
      cases Y with
      | none => rfl
      | some y => exact datum_swap (FloatKind.f32.format.read x) (FloatKind.f32.format.read y)
  unfold equN
  rw [hs]
  cases ford .f32 X Y with
  | none => rfl
  | some o => cases o <;> rfl
/-- One of the first numbers is equal to X. -/
def hasE (X : Option Nat) (V : Nat → Option Nat) : Nat → Bool
  | 0 => false
  | j + 1 => hasE X V j || equN X (V j)
theorem hasE_no {X : Option Nat} {V : Nat → Option Nat} : ∀ {n : Nat}, hasE X V n = false ↔ ∀ t, t < n → equN X (V t) = false
  | 0 => by simp [hasE]
  | n + 1 => by
    simp only [hasE, Bool.or_eq_false_iff, hasE_no (n := n)]
    constructor
    · rintro ⟨h1, h2⟩ t ht
      by_cases e : t = n
      · subst e; exact h2
      · exact h1 t (by omega)
    · intro h
      exact ⟨fun t ht => h t (by omega), h n (by omega)⟩
theorem hasE_yes {X : Option Nat} {V : Nat → Option Nat} {n t : Nat} (ht : t < n) (h : equN X (V t) = true) : hasE X V n = true := by
  cases e : hasE X V n with
  | true => rfl
  | false => rw [hasE_no.1 e t ht] at h; cases h
/-- No two of the first numbers are equal. -/
def apB (V : Nat → Option Nat) : Nat → Bool
  | 0 => true
  | i + 1 => apB V i && !hasE (V i) V i
theorem apB_yes {V : Nat → Option Nat} : ∀ {n : Nat}, apB V n = true ↔ ∀ i k, i < k → k < n → equN (V k) (V i) = false
  | 0 => by simp [apB]
  | n + 1 => by
    simp only [apB, Bool.and_eq_true, Bool.not_eq_true', apB_yes (n := n), hasE_no]
    constructor
    · rintro ⟨h1, h2⟩ i k hik hk
      by_cases e : k = n
      · subst e; exact h2 i hik
      · exact h1 i k hik (by omega)
    · intro h
      exact ⟨fun i k h1 h2 => h i k h1 (by omega), fun t ht => h t n ht (by omega)⟩
theorem apB_lt {V : Nat → Option Nat} {n j : Nat} (h : apB V n = true) (hj : j ≤ n) : apB V j = true :=
  apB_yes.2 fun i k h1 h2 => apB_yes.1 h i k h1 (by omega)
theorem apB_rest {V : Nat → Option Nat} {n : Nat} (h : ∀ i, i < n → hasE (V i) (fun t => V (i + 1 + t)) (n - (i + 1)) = false) : apB V n = true := by
  refine apB_yes.2 fun i k hik hk => ?_
  have hh := hasE_no.1 (h i (by omega)) (k - (i + 1)) (by omega)
  have e : i + 1 + (k - (i + 1)) = k := by omega
  simp only [e] at hh
  rw [equN_comm]; exact hh
theorem apB_off {V : Nat → Option Nat} {n i : Nat} (hi : i < n) (h : hasE (V i) (fun t => V (i + 1 + t)) (n - (i + 1)) = true) : apB V n = false := by
  cases e : apB V n with
  | false => rfl
  | true =>
    have : hasE (V i) (fun t => V (i + 1 + t)) (n - (i + 1)) = false := by
      refine hasE_no.2 fun t ht => ?_
      rw [equN_comm]
      exact apB_yes.1 e i (i + 1 + t) (by omega) (by omega)
    rw [this] at h; cases h
theorem apB_off2 {V : Nat → Option Nat} {n i k : Nat} (hik : i < k) (hk : k < n) (h : equN (V k) (V i) = true) : apB V n = false := by
  cases e : apB V n with
  | false => rfl
  | true => rw [apB_yes.1 e i k hik hk] at h; cases h
theorem apB_step {V : Nat → Option Nat} {i : Nat} (h : apB V i = true) (h2 : hasE (V i) V i = false) : apB V (i + 1) = true := by simp [apB, h, h2]

theorem vec_len {n : Nat} {V : Nat → Option Nat} (h1 : 1 ≤ n) (h2 : n ≤ 256) : vecB n V = allFin V n := by
  unfold vecB
  rw [decide_eq_true h1, decide_eq_true h2]
  rfl
theorem l02List_yes (a : Option Addr) (n c : Nat) (X : Nat → Nat) (w : World) (hn : n ≤ 1048576) (f : FS .f32 w a n c X) (hf : allFin (vals X) n = true) : Calls Try.prog 37 #[.slice a n c] w fun e w' => e = .returned (.tuple #[.slice a n c, .bool true]) ∧ ∃ m, w' = w.drewN m := by
  go_enter Try.func37, Try.ntmps37
  go_wp2_with fail
  go_at_call 59
  refine (specFin_any a n c X _ hn f).mono ?_
  rintro e w4 ⟨rfl, m4, rfl⟩
  go_wp2_with fail
  go_ret2
  exact ⟨rfl, _, rfl⟩
theorem l02List_no (a : Option Addr) (n c : Nat) (X : Nat → Nat) (w : World) (hn : n ≤ 1048576) (f : FS .f32 w a n c X) (hf : allFin (vals X) n = false) : Calls Try.prog 37 #[.slice a n c] w fun e w' => e = .returned (.tuple #[.slice none 0 0, .bool false]) ∧ ∃ m, w' = w.drewN m := by
  go_enter Try.func37, Try.ntmps37
  go_wp2_with fail
  go_at_call 59
  refine (specFin_any a n c X _ hn f).mono ?_
  rintro e w4 ⟨rfl, m4, rfl⟩
  go_wp2_with fail
  go_ret2
  exact ⟨rfl, _, rfl⟩
theorem NumsBel.no {w w' : World} {V : Nat → Option Nat} (h : Below w.heap.size w w') : NumsBel false 0 V w (.returned (.tuple #[.slice none 0 0, .bool false])) w' :=
  ⟨none, 0, fun _ => 0, rfl, ⟨Nat.le_refl _, Nat.zero_le _, fun i hi => absurd hi (Nat.not_lt_zero _)⟩, fun i hi => absurd hi (Nat.not_lt_zero _), h⟩
theorem NumsOwn.no {w w' : World} {V : Nat → Option Nat} (h : Below w.heap.size w w') : NumsOwn false 0 V w (.returned (.tuple #[.slice none 0 0, .bool false])) w' :=
  ⟨none, 0, fun _ => 0, rfl, .inl ⟨rfl, rfl, rfl⟩, fun i hi => absurd hi (Nat.not_lt_zero _), h⟩
end Go.Proofs.Ytpmilaemmdcfaab
