/- Helper: whether numbers of a list are equal: what is in a list, numbers apart, lists that are told, of the program and of its reference. Conditions: none. -/
import Derived.Test.YtpmilaemmdcfaaaNodes
import Derived.Test.YtpmilaemmdcfaaaMid
set_option linter.unusedVariables false
set_option linter.unusedSimpArgs false
namespace Go.Proofs.Ytpmilaemmdcfaaa
open Go.RowKit

/-- Two numbers that are equal. -/
def equN (X Y : Option Nat) : Bool := ford .f32 X Y == some .eq
theorem equN_comm (X Y : Option Nat) : equN X Y = equN Y X := by
  have hs : ford .f32 Y X = (ford .f32 X Y).map Ordering.swap := by
    cases X with
    | none => cases Y <;> rfl
    | some x =>
      cases Y with
      | none => rfl
      | some y => exact datum_swap (FloatKind.f32.format.read x) (FloatKind.f32.format.read y)
  unfold equN
  rw [hs]
  cases ford .f32 X Y with
  | none => rfl
  | some o => cases o <;> rfl
/-- One of the first numbers is equal to X. -/
def hasE (X : Option Nat) (V : Nat → Option Nat) : Nat → Bool
  | 0 => false
  | j + 1 => hasE X V j || equN X (V j)
theorem hasE_no {X : Option Nat} {V : Nat → Option Nat} : ∀ {n : Nat}, hasE X V n = false ↔ ∀ t, t < n → equN X (V t) = false
  | 0 => by simp [hasE]
  | n + 1 => by
    simp only [hasE, Bool.or_eq_false_iff, hasE_no (n := n)]
    constructor
    · rintro ⟨h1, h2⟩ t ht
      by_cases e : t = n
      · subst e; exact h2
      · exact h1 t (by omega)
    · intro h
      exact ⟨fun t ht => h t (by omega), h n (by omega)⟩
theorem hasE_yes {X : Option Nat} {V : Nat → Option Nat} {n t : Nat} (ht : t < n) (h : equN X (V t) = true) : hasE X V n = true := by
  cases e : hasE X V n with
  | true => rfl
  | false => rw [hasE_no.1 e t ht] at h; cases h
/-- No two of the first numbers are equal. -/
def apB (V : Nat → Option Nat) : Nat → Bool
  | 0 => true
  | i + 1 => apB V i && !hasE (V i) V i
theorem apB_yes {V : Nat → Option Nat} : ∀ {n : Nat}, apB V n = true ↔ ∀ i k, i < k → k < n → equN (V k) (V i) = false
  | 0 => by simp [apB]
  | n + 1 => by
    simp only [apB, Bool.and_eq_true, Bool.not_eq_true', apB_yes (n := n), hasE_no]
    constructor
    · rintro ⟨h1, h2⟩ i k hik hk
      by_cases e : k = n
      · subst e; exact h2 i hik
      · exact h1 i k hik (by omega)
    · intro h
      exact ⟨fun i k h1 h2 => h i k h1 (by omega), fun t ht => h t n ht (by omega)⟩
theorem apB_lt {V : Nat → Option Nat} {n j : Nat} (h : apB V n = true) (hj : j ≤ n) : apB V j = true :=
  apB_yes.2 fun i k h1 h2 => apB_yes.1 h i k h1 (by omega)
theorem apB_rest {V : Nat → Option Nat} {n : Nat} (h : ∀ i, i < n → hasE (V i) (fun t => V (i + 1 + t)) (n - (i + 1)) = false) : apB V n = true := by
  refine apB_yes.2 fun i k hik hk => ?_
  have hh := hasE_no.1 (h i (by omega)) (k - (i + 1)) (by omega)
  have e : i + 1 + (k - (i + 1)) = k := by omega
  simp only [e] at hh
  rw [equN_comm]; exact hh
theorem apB_off {V : Nat → Option Nat} {n i : Nat} (hi : i < n) (h : hasE (V i) (fun t => V (i + 1 + t)) (n - (i + 1)) = true) : apB V n = false := by
  cases e : apB V n with
  | false => rfl
  | true =>
    have : hasE (V i) (fun t => V (i + 1 + t)) (n - (i + 1)) = false := by
      refine hasE_no.2 fun t ht => ?_
      rw [equN_comm]
      exact apB_yes.1 e i (i + 1 + t) (by omega) (by omega)
    rw [this] at h; cases h
theorem apB_off2 {V : Nat → Option Nat} {n i k : Nat} (hik : i < k) (hk : k < n) (h : equN (V k) (V i) = true) : apB V n = false := by
  cases e : apB V n with
  | false => rfl
  | true => rw [apB_yes.1 e i k hik hk] at h; cases h
theorem apB_step {V : Nat → Option Nat} {i : Nat} (h : apB V i = true) (h2 : hasE (V i) V i = false) : apB V (i + 1) = true := by simp [apB, h, h2]

theorem indexE_any (x : Nat) (wx : (Lit.float .f32 x).wf = true) (a : Option Addr) (n c : Nat) (Z : Nat → Nat) (w : World) (hn : n ≤ 1048576) (h : FS .f32 w a n c Z) :
    Calls Try.prog 67 #[.slice a n c, .float .f32 x] w fun e w' => w = w' ∧ ((hasE (cn .f32 x) (vals Z) n = false ∧ e = .returned (.int .i64 (-1))) ∨ (hasE (cn .f32 x) (vals Z) n = true ∧ ∃ k : Nat, e = .returned (.int .i64 k))) := by
  go_enter Try.func67, Try.ntmps67
  go_wp2
  go_loop [5, 8] (fun _ i => ∃ k : Nat, k ≤ n ∧ i = .int .i64 k ∧ ∀ j, j < k → equN (cn .f32 x) (vals Z j) = false) (fun _ i => n - (intOf i).toNat)
  case atStart => exact ⟨0, Nat.zero_le _, rfl, fun j hj => absurd hj (Nat.not_lt_zero _)⟩
  case round =>
    obtain ⟨k, hk, rfl, hne⟩ := hrel
    by_cases hlt : k < n
    · obtain ⟨b, off, rfl, hbl, hc, hfv⟩ := h.at hlt
      have hne' := Lib.hid hne
      clear hbl hfv h hne
      cases hz : equN (cn .f32 x) (vals Z k) with
      | true =>
        have hs : (ford .f32 (cn .f32 x) (cn .f32 (Z k)) == some .eq) = true := hz
        have hz' := Lib.hid hz
        clear hz
        go_wp2
        go_ret
        exact ⟨rfl, .inr ⟨hasE_yes hlt hz'.out, _, rfl⟩⟩
      | false =>
        have hs : (ford .f32 (cn .f32 x) (cn .f32 (Z k)) == some .eq) = false := hz
        have hz' := Lib.hid hz
        clear hz
        go_wp2
        go_round
        case rel =>
          refine ⟨k + 1, by omega, by go_num, fun j hj => ?_⟩
          by_cases e : j = k
          · subst e; exact hz'.out
          · exact hne'.out j (by omega)
        case measure => simp [intOf]; omega
    · obtain rfl : k = n := by omega
      have hne' := Lib.hid hne
      clear hne
      go_wp2
      go_ret
      exact ⟨rfl, .inl ⟨hasE_no.2 hne'.out, rfl⟩⟩
theorem containsE_any (x : Nat) (wx : (Lit.float .f32 x).wf = true) (a : Option Addr) (n c : Nat) (Z : Nat → Nat) (w : World) (hn : n ≤ 1048576) (h : FS .f32 w a n c Z) :
    Calls Try.prog 54 #[.slice a n c, .float .f32 x] w fun e w' => w = w' ∧ e = .returned (.bool (hasE (cn .f32 x) (vals Z) n)) := by
  have hi := indexE_any x wx a n c Z w hn h
  cases hz : hasE (cn .f32 x) (vals Z) n with
  | true =>
    have hi' : Calls Try.prog 67 #[.slice a n c, .float .f32 x] w fun e w' => w = w' ∧ ∃ k : Nat, e = .returned (.int .i64 k) := hi.mono fun e w' hh => by
      rcases hh with ⟨h1, ⟨h2, _⟩ | ⟨_, h3⟩⟩
      · rw [hz] at h2; cases h2
      · exact ⟨h1, h3⟩
    clear hi hz
    go_enter Try.func54, Try.ntmps54
    go_wp2_with (go_at_call 67; refine hi'.mono ?_; rintro e w' ⟨rfl, k, rfl⟩; have hk : decide ((0 : Int) ≤ (k : Int)) = true := decide_eq_true (by omega))
    go_ret
    exact ⟨rfl, rfl⟩
  | false =>
    have hi' : Calls Try.prog 67 #[.slice a n c, .float .f32 x] w fun e w' => w = w' ∧ e = .returned (.int .i64 (-1)) := hi.mono fun e w' hh => by
      rcases hh with ⟨h1, ⟨_, h2⟩ | ⟨h2, _⟩⟩
      · exact ⟨h1, h2⟩
      · rw [hz] at h2; cases h2
    clear hi hz
    go_enter Try.func54, Try.ntmps54
    go_wp2_with (go_at_call 67; refine hi'.mono ?_; rintro e w' ⟨rfl, rfl⟩)
    go_ret
    exact ⟨rfl, rfl⟩
set_option maxRecDepth 20000 in
theorem apart_any (b off n c : Nat) (Z : Nat → Nat) (w : World) (h0 : 0 < n) (hn : n ≤ 1048576) (h : FS .f32 w (some ⟨b, off, none⟩) n c Z) :
    Calls Try.prog 36 #[.slice (some ⟨b, off, none⟩) n c] w fun e w' => w = w' ∧ e = .returned (.bool (apB (vals Z) n)) := by
  have hcap := h.1
  have hmx := h.2.1
  have hmax : c ≤ 9223372036854775807 := by unfold maxLen at hmx; omega
  go_enter Try.func36, Try.ntmps36
  go_wp2
  go_loop [7] (fun i => ∃ k : Nat, k ≤ n ∧ i = .int .i64 k ∧ ∀ j, j < k → hasE (vals Z j) (fun t => vals Z (j + 1 + t)) (n - (j + 1)) = false) (fun i => n - (intOf i).toNat)
  case atStart => exact ⟨0, Nat.zero_le _, rfl, fun j hj => absurd hj (Nat.not_lt_zero _)⟩
  case round =>
    obtain ⟨k, hk, rfl, hne⟩ := hrel
    have hne' := Lib.hid hne
    clear hne
    by_cases hlt : k < n
    · obtain ⟨b', off', e, hbl, hc, hfv⟩ := h.at hlt
      simp only [Option.some.injEq, Addr.mk.injEq, and_true] at e
      obtain ⟨rfl, rfl⟩ := e
      have f1 : FS .f32 w (some ⟨b, off + (k + 1), none⟩) (n - (k + 1)) (c - (k + 1)) (fun t => Z (k + 1 + t)) := h.drop (i := k + 1) (m := n - (k + 1)) (c' := c - (k + 1)) (by omega) (by omega) (by omega)
      have F1 := Lib.hid f1
      have hfun : vals (fun t => Z (k + 1 + t)) = fun t => vals Z (k + 1 + t) := funext fun t => rfl
      have HF := Lib.hid hfun
      have h00 : ∀ A C, C ≤ maxLen → Calls Try.prog 54 #[.slice A 0 C, .float .f32 (Z k)] w fun e w' => w = w' ∧ e = .returned (.bool false) := fun A C hC => (containsE_any (Z k) hfv.2 A 0 C Z w (by omega) (FS.zero hC)).mono fun e w' hh => hh
      have H00 := Lib.hid h00
      clear f1 hfun h hbl h00
      rcases (show k + 1 < n ∨ (k + 1 = n ∧ n < c) ∨ (k + 1 = n ∧ n = c) by omega) with hz | ⟨hz, hz2⟩ | ⟨hz, rfl⟩
      · cases he : hasE (vals Z k) (fun t => vals Z (k + 1 + t)) (n - (k + 1)) with
        | true =>
          have he' := Lib.hid he
          clear he
          have hCa : Calls Try.prog 54 #[.slice (some ⟨b, off + (k + 1), none⟩) (n - (k + 1)) (c - (k + 1)), .float .f32 (Z k)] w fun e w' => w = w' ∧ e = .returned (.bool true) := (containsE_any (Z k) hfv.2 _ _ _ _ w (by omega) F1.out).mono fun e w' hh => ⟨hh.1, by rw [hh.2, HF.out]; exact congrArg (fun q => Ending.returned (Value.bool q)) he'.out⟩
          go_wp2_with (go_at_call 54; refine hCa.mono ?_; rintro e w' ⟨rfl, rfl⟩)
          go_ret
          exact ⟨rfl, by rw [apB_off hlt he'.out]; rfl⟩
        | false =>
          have he' := Lib.hid he
          clear he
          have hCa : Calls Try.prog 54 #[.slice (some ⟨b, off + (k + 1), none⟩) (n - (k + 1)) (c - (k + 1)), .float .f32 (Z k)] w fun e w' => w = w' ∧ e = .returned (.bool false) := (containsE_any (Z k) hfv.2 _ _ _ _ w (by omega) F1.out).mono fun e w' hh => ⟨hh.1, by rw [hh.2, HF.out]; exact congrArg (fun q => Ending.returned (Value.bool q)) he'.out⟩
          go_wp2_with (go_at_call 54; refine hCa.mono ?_; rintro e w' ⟨rfl, rfl⟩)
          go_round
          case rel =>
            refine ⟨k + 1, by omega, by go_num, fun j hj => ?_⟩
            by_cases e : j = k
            · subst e; exact he'.out
            · exact hne'.out j (by omega)
          case measure => simp [intOf]; omega
      all_goals
        go_wp2_with (go_at_call 54; refine (H00.out _ _ (by omega)).mono ?_; rintro e w' ⟨rfl, rfl⟩)
        have hz' : Hid (k + 1 = n) := Lib.hid hz
        clear hz
        go_round
        case rel =>
          refine ⟨k + 1, by have := hz'.out; omega, by go_num, fun j hj => ?_⟩
          by_cases e : j = k
          · subst e
            rw [show n - (j + 1) = 0 by have := hz'.out; omega]; rfl
          · exact hne'.out j (by omega)
        case measure => simp [intOf]; omega
    · obtain rfl : k = n := by omega
      go_wp2
      go_ret
      exact ⟨rfl, by rw [apB_rest hne'.out]; rfl⟩
theorem vec_len {n : Nat} {V : Nat → Option Nat} (h1 : 1 ≤ n) (h2 : n ≤ 256) : vecB n V = allFin V n := by
  unfold vecB
  rw [decide_eq_true h1, decide_eq_true h2]
  rfl
theorem l02List_yes (a : Option Addr) (n c : Nat) (X : Nat → Nat) (w : World) (hn : n ≤ 1048576) (f : FS .f32 w a n c X) (hf : allFin (vals X) n = true) : Calls Try.prog 35 #[.slice a n c] w fun e w' => e = .returned (.tuple #[.slice a n c, .bool true]) ∧ ∃ m, w' = w.drewN m := by
  go_enter Try.func35, Try.ntmps35
  go_wp2_with fail
  go_at_call 29
  refine (specFin_any a n c X _ hn f).mono ?_
  rintro e w4 ⟨rfl, m4, rfl⟩
  go_wp2_with fail
  go_ret2
  exact ⟨rfl, _, rfl⟩
theorem l02List_no (a : Option Addr) (n c : Nat) (X : Nat → Nat) (w : World) (hn : n ≤ 1048576) (f : FS .f32 w a n c X) (hf : allFin (vals X) n = false) : Calls Try.prog 35 #[.slice a n c] w fun e w' => e = .returned (.tuple #[.slice none 0 0, .bool false]) ∧ ∃ m, w' = w.drewN m := by
  go_enter Try.func35, Try.ntmps35
  go_wp2_with fail
  go_at_call 29
  refine (specFin_any a n c X _ hn f).mono ?_
  rintro e w4 ⟨rfl, m4, rfl⟩
  go_wp2_with fail
  go_ret2
  exact ⟨rfl, _, rfl⟩
theorem NumsBel.no {w w' : World} {V : Nat → Option Nat} (h : Below w.heap.size w w') : NumsBel false 0 V w (.returned (.tuple #[.slice none 0 0, .bool false])) w' :=
  ⟨none, 0, fun _ => 0, rfl, ⟨Nat.le_refl _, Nat.zero_le _, fun i hi => absurd hi (Nat.not_lt_zero _)⟩, fun i hi => absurd hi (Nat.not_lt_zero _), h⟩
theorem NumsOwn.no {w w' : World} {V : Nat → Option Nat} (h : Below w.heap.size w w') : NumsOwn false 0 V w (.returned (.tuple #[.slice none 0 0, .bool false])) w' :=
  ⟨none, 0, fun _ => 0, rfl, .inl ⟨rfl, rfl, rfl⟩, fun i hi => absurd hi (Nat.not_lt_zero _), h⟩
end Go.Proofs.Ytpmilaemmdcfaaa
