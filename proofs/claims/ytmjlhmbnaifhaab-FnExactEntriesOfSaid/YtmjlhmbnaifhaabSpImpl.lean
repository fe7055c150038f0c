/- Helper: what sparse squares are valid, of the program: starts in order, columns in order. Conditions: none. -/
import Derived.Test.YtmjlhmbnaifhaabIntRows
import Derived.Test.YtmjlhmbnaifhaabFinWalks
import Derived.Test.YtmjlhmbnaifhaabMatValid
import Derived.Test.YtmjlhmbnaifhaabBoxes
import Derived.Test.YtmjlhmbnaifhaabKeys
set_option linter.unusedVariables false
set_option linter.unusedSimpArgs false
namespace Go.Proofs.Ytmjlhmbnaifhaab
open Go.RowKit

/-- Numbers that do not fall. -/
def sortB (O : Nat → Int) : Nat → Bool
  | 0 => true
  | j + 1 => sortB O j && decide (O j ≤ O (j + 1))
theorem sortB_all {O : Nat → Int} : ∀ {m : Nat}, (∀ t, t < m → O t ≤ O (t + 1)) → sortB O m = true
  | 0, _ => rfl
  | m + 1, h => by simp only [sortB, sortB_all (m := m) fun t ht => h t (by omega), decide_eq_true (h m (by omega)), Bool.and_self]
theorem sortB_lt {O : Nat → Int} : ∀ {m t : Nat}, sortB O m = true → t < m → O t ≤ O (t + 1)
  | 0, _, _, h => by omega
  | m + 1, t, h, ht => by
    simp only [sortB, Bool.and_eq_true, decide_eq_true_eq] at h
    by_cases e : t = m
    · subst e; exact h.2
    · exact sortB_lt h.1 (by omega)
theorem sortB_no {O : Nat → Int} {m t : Nat} (ht : t < m) (h : ¬ O t ≤ O (t + 1)) : sortB O m = false := by
  cases e : sortB O m with
  | false => rfl
  | true => exact absurd (sortB_lt e ht) h
theorem sortB_le {O : Nat → Int} {m i : Nat} (h : sortB O m = true) : ∀ {d : Nat}, i + d ≤ m → O i ≤ O (i + d)
  | 0, _ => Int.le_refl _
  | d + 1, hd => Int.le_trans (sortB_le h (i := i) (d := d) (by omega)) (sortB_lt h (show i + d < m by omega))
/-- Columns of a square that rise. -/
def lastK (K : Nat → Int) : Nat → Int
  | 0 => -1
  | t + 1 => K t
def colB (K : Nat → Int) (S : Int) : Nat → Bool
  | 0 => true
  | t + 1 => colB K S t && (decide (lastK K t < K t) && decide (K t < S))
theorem colB_lt {K : Nat → Int} {S : Int} : ∀ {m t : Nat}, colB K S m = true → t < m → lastK K t < K t ∧ K t < S
  | 0, _, _, h => by omega
  | m + 1, t, h, ht => by
    simp only [colB, Bool.and_eq_true, decide_eq_true_eq] at h
    by_cases e : t = m
    · subst e; exact h.2
    · exact colB_lt h.1 (by omega)
theorem colB_no {K : Nat → Int} {S : Int} {m t : Nat} (ht : t < m) (h : ¬ (lastK K t < K t ∧ K t < S)) : colB K S m = false := by
  cases e : colB K S m with
  | false => rfl
  | true => exact absurd (colB_lt e ht) h
theorem nan64_any (x : Int) (w : World) : Calls Try.prog 80 #[.int .i64 x] w fun e w' => e = .returned (.bool false) ∧ w = w' := by
  go_enter Try.func80, Try.ntmps80
  go_wp2
  go_ret
  exact ⟨by simp, rfl⟩
theorem less64_any (x y : Int) (w : World) : Calls Try.prog 75 #[.int .i64 x, .int .i64 y] w fun e w' => e = .returned (.bool (decide (x < y))) ∧ w = w' := by
  go_enter Try.func75, Try.ntmps75
  go_wp2_with (go_at_call 80; refine (nan64_any _ _).mono ?_; rintro e w' ⟨rfl, rfl⟩)
  go_ret
  exact ⟨rfl, rfl⟩
theorem sorted64_any (b off n c : Nat) (O : Nat → Int) (w : World) (h1 : 1 ≤ n) (hn : n ≤ 1048576) (h : IS .i64 w (some ⟨b, off, none⟩) n c O) :
    Calls Try.prog 66 #[.slice (some ⟨b, off, none⟩) n c] w fun e w' => e = .returned (.bool (sortB O (n - 1))) ∧ ∃ m, w' = w.drewN m := by
  have hs : IntKind.i64.wrap ((n : Int) - 1) = ((n - 1 : Nat) : Int) := by
    have e : (n : Int) - 1 = ((n - 1 : Nat) : Int) := by omega
    rw [e]; exact IntWalk.i64_in _ (by omega)
  go_enter Try.func66, Try.ntmps66
  go_wp2
  clear hs
  go_loopw [3] (fun i wr => ∃ q m : Nat, q ≤ n - 1 ∧ i = .int .i64 (q : Int) ∧ (∀ t, q ≤ t → t < n - 1 → O t ≤ O (t + 1)) ∧ wr = w.drewN m) (fun i _ => (intOf i).toNat)
  case atStart => exact ⟨n - 1, 0, Nat.le_refl _, by first | rfl | (congr 1; omega), fun t h1 h2 => absurd h1 (by omega), rfl⟩
  case round =>
    obtain ⟨q, m0, hq, rfl, hO, hwr⟩ := hrel
    have HO := Lib.hid hO
    have h : IS .i64 wr (some ⟨b, off, none⟩) n c O := by rw [hwr]; exact IS.below h (below_drewN (Below.refl _ _) _) (Nat.le_refl _)
    have HW := Lib.hid hwr
    clear hO hwr
    cases q with
    | zero =>
      have hfin : Hid (sortB O (n - 1) = true) := Lib.hid (sortB_all fun t ht => HO.out t (Nat.zero_le _) ht)
      go_wp2
      go_ret
      exact ⟨by rw [hfin.out]; first | done | rfl, m0, HW.out⟩
    | succ q =>
      obtain ⟨b', off', e, hl1, hc1, hw1⟩ := h.at (show q + 1 < n by omega)
      simp only [Option.some.injEq, Addr.mk.injEq, and_true] at e
      obtain ⟨rfl, rfl⟩ := e
      obtain ⟨b', off', e, hl2, hc2, hw2⟩ := h.at (show q < n by omega)
      simp only [Option.some.injEq, Addr.mk.injEq, and_true] at e
      obtain ⟨rfl, rfl⟩ := e
      have hd : decide ((0 : Int) < ((q + 1 : Nat) : Int)) = true := decide_eq_true (by omega)
      have hsub : IntKind.i64.wrap (((q + 1 : Nat) : Int) - 1) = (q : Int) := by
        have e : ((q + 1 : Nat) : Int) - 1 = (q : Int) := by omega
        rw [e]; exact IntWalk.i64_in _ (by omega)
      have hlq : q + 1 < n := by omega
      have hlq2 : q < n := by omega
      obtain ⟨Q1, hQ1⟩ : ∃ Q1, Q1 = q + 1 := ⟨_, rfl⟩
      have HQ1 := Lib.hid hQ1
      have hpos : 0 < Q1 := by omega
      have hdn : decide (0 < Q1) = true := decide_eq_true hpos
      rw [← hQ1] at hd hsub hlq hc1 ⊢
      have hL := fun W => less64_any (O Q1) (O q) W
      by_cases hlt : O Q1 < O q
      · have hfin : Hid (sortB O (n - 1) = false) := Lib.hid (sortB_no (t := q) (by omega) (by rw [← hQ1]; omega))
        have hdl : decide (O Q1 < O q) = true := decide_eq_true hlt
        rw [hdl] at hL
        clear hw1 hw2 hl1 hl2 hQ1 hlt
        generalize O Q1 = x1 at *
        generalize O q = x2 at *
        have hL2 : ∀ k, Calls Try.prog 75 #[.int .i64 x1, .int .i64 x2] (wr.drewN k) (fun e w' => e = .returned (.bool true) ∧ ∃ q, w' = (wr.drewN k).drewN q) := fun k => (hL _).mono fun e w' hh => ⟨hh.1, 0, hh.2.symm⟩
        clear hL
        go_wp2
        go_quiet (first | (go_at_call 75; with_reducible exact Calls.quiet_of (hL2 _)))
        go_wp2
        go_ret
        exact ⟨by rw [hfin.out]; first | done | rfl, _, by rw [HW.out]; exact World.drewN_drewN _ _ _⟩
      · have hfin : Hid (∀ t, q ≤ t → t < n - 1 → O t ≤ O (t + 1)) := Lib.hid (fun t h1 h2 => by
          by_cases e : t = q
          · subst e; rw [← hQ1]; omega
          · exact HO.out t (by omega) h2)
        have hdl : decide (O Q1 < O q) = false := decide_eq_false hlt
        rw [hdl] at hL
        clear hw1 hw2 hl1 hl2 hQ1 hlt HO
        generalize O Q1 = x1 at hc1 hL hdl
        generalize O q = x2 at hc2 hL hdl
        have hL2 : ∀ k, Calls Try.prog 75 #[.int .i64 x1, .int .i64 x2] (wr.drewN k) (fun e w' => e = .returned (.bool false) ∧ ∃ q, w' = (wr.drewN k).drewN q) := fun k => (hL _).mono fun e w' hh => ⟨hh.1, 0, hh.2.symm⟩
        clear hL
        go_wp2
        go_quiet (first | (go_at_call 75; with_reducible exact Calls.quiet_of (hL2 _)))
        go_wp2
        go_roundw
        case rel => exact ⟨q, _, by omega, rfl, hfin.out, by rw [HW.out]; exact World.drewN_drewN _ _ _⟩
        case measure => have := HQ1.out; simp [intOf]; omega
theorem areColumns_any (b : Option Addr) (n c : Nat) (K : Nat → Int) (S : Int) (w : World) (hn : n ≤ 1048576) (h : IS .i64 w b n c K) :
    Calls Try.prog 67 #[.slice b n c, .int .i64 S] w fun e w' => e = .returned (.bool (colB K S n)) ∧ w = w' := by
  go_enter Try.func67, Try.ntmps67
  go_wp2
  go_loopw [5, 10] (fun l i wr => ∃ j : Nat, j ≤ n ∧ i = .int .i64 (j : Int) ∧ l = .int .i64 (lastK K j) ∧ colB K S j = true ∧ wr = w) (fun _ i _ => n - (intOf i).toNat)
  case atStart => exact ⟨0, Nat.zero_le _, rfl, rfl, rfl, rfl⟩
  case round =>
    obtain ⟨j, hj, rfl, rfl, hc, rfl⟩ := hrel
    have HC := Lib.hid hc
    clear hc
    by_cases hlt : j < n
    · obtain ⟨b', off', rfl, hl1, hc1, hw1⟩ := h.at hlt
      obtain ⟨x, hx⟩ : ∃ x, x = K j := ⟨_, rfl⟩
      obtain ⟨y, hy⟩ : ∃ y, y = lastK K j := ⟨_, rfl⟩
      have HX := Lib.hid hx
      have HY := Lib.hid hy
      rw [← hx] at hc1
      rw [← hy]
      clear hx hy hw1 hl1
      by_cases h1 : y < x
      · by_cases h2 : x < S
        · have hn1 : Hid (colB K S (j + 1) = true) := Lib.hid (by simp only [colB, HC.out, Bool.true_and, ← HX.out, ← HY.out, decide_eq_true h1, decide_eq_true h2, Bool.and_self])
          have hd1 : decide (x ≤ y) = false := decide_eq_false (by omega)
          have hd2 : decide (S ≤ x) = false := decide_eq_false (by omega)
          clear h1 h2
          go_wp2
          go_roundw
          case rel => exact ⟨j + 1, by omega, by go_num, by rw [HX.out]; first | done | rfl, hn1.out, by first | rfl | trivial⟩
          case measure => simp [intOf]; omega
        · have hn1 : Hid (colB K S n = false) := Lib.hid (colB_no hlt (by rw [← HX.out]; omega))
          have hd1 : decide (x ≤ y) = false := decide_eq_false (by omega)
          have hd2 : decide (S ≤ x) = true := decide_eq_true (by omega)
          clear h1 h2
          go_wp2
          go_ret
          exact ⟨by rw [hn1.out]; first | done | rfl, by first | rfl | trivial⟩
      · have hn1 : Hid (colB K S n = false) := Lib.hid (colB_no hlt (by rw [← HX.out, ← HY.out]; omega))
        have hd1 : decide (x ≤ y) = true := decide_eq_true (by omega)
        clear h1
        go_wp2
        go_ret
        exact ⟨by rw [hn1.out]; first | done | rfl, by first | rfl | trivial⟩
    · obtain rfl : j = n := by omega
      go_wp2
      go_ret
      exact ⟨by rw [HC.out]; first | done | rfl, by first | rfl | trivial⟩
end Go.Proofs.Ytmjlhmbnaifhaab
