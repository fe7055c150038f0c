/- Helper: orders: each number once, of the program and of its reference. Conditions: none. -/
import Derived.Test.YtmddhhmgfhljiaaIntLaw
import Derived.Test.YtmddhhmgfhljiaaKeys
set_option linter.unusedVariables false
set_option linter.unusedSimpArgs false
namespace Go.Proofs.Ytmddhhmgfhljiaa
open Go.RowKit

/-- Which numbers have come. -/
def seenB (Z : Nat → Int) : Nat → Int → Bool
  | 0, _ => false
  | i + 1, x => seenB Z i x || (Z i == x)
def okAt (Z : Nat → Int) (n i : Nat) : Bool := decide (0 ≤ Z i) && (decide (Z i < n) && !seenB Z i (Z i))
def okTo (Z : Nat → Int) (n : Nat) : Nat → Bool
  | 0 => true
  | i + 1 => okTo Z n i && okAt Z n i
def ordB (Z : Nat → Int) (n : Nat) : Bool := decide (1 ≤ n) && (decide (n ≤ 12) && okTo Z n n)
theorem okTo_bad {Z : Nat → Int} {n i : Nat} (hb : okAt Z n i = false) : ∀ {m : Nat}, i < m → okTo Z n m = false
  | 0, h => by omega
  | m + 1, h => by
    by_cases e : i = m
    · subst e; simp [okTo, hb]
    · simp [okTo, okTo_bad hb (show i < m by omega)]
theorem okTo_lt {Z : Nat → Int} {n i : Nat} : ∀ {m : Nat}, okTo Z n m = true → i < m → 0 ≤ Z i ∧ Z i < n
  | 0, _, h => by omega
  | m + 1, ho, h => by
    simp only [okTo, Bool.and_eq_true] at ho
    by_cases e : i = m
    · subst e
      have := ho.2
      unfold okAt at this
      simp at this
      exact ⟨this.1, this.2.1⟩
    · exact okTo_lt ho.1 (by omega)

structure Marks (Z : Nat → Int) (W0 : World) (B m j : Nat) (wr : World) : Prop where
  cell : ∀ k, k < m → wr.cell? ⟨B, k, none⟩ = some (.bool (seenB Z j k))
  froz : ∀ k, wr.frozen? ⟨B, k, none⟩ = false
  bel : Below W0.heap.size W0 wr
  low : W0.heap.size ≤ B
theorem Marks.step {Z : Nat → Int} {W0 wr : World} {B m j k : Nat} (h : Marks Z W0 B m j wr) (hk : k < m) (e : Z j = k) : Marks Z W0 B m (j + 1) (wr.setCell ⟨B, k, none⟩ (.bool true)) := by
  refine ⟨fun q hq => ?_, fun q => ?_, h.bel.setCell (by show W0.heap.size ≤ B; exact h.low) _, h.low⟩
  · by_cases e2 : q = k
    · subst e2
      rw [World.cell?_setCell_same _ _ _ (h.cell q hq)]
      simp [seenB, e]
    · rw [World.cell?_setCell_other _ _ _ _ (by simp [e2]), h.cell q hq]
      have : ((Z j) == (q : Int)) = false := by rw [e]; exact beq_eq_false_iff_ne.2 (by omega)
      simp [seenB, this]
  · rw [World.frozen?_setCell]; exact h.froz q
theorem Marks.drewN {Z : Nat → Int} {W0 wr : World} {B m j q : Nat} (h : Marks Z W0 B m j wr) : Marks Z W0 B m j (wr.drewN q) := ⟨h.cell, h.froz, below_drewN h.bel q, h.low⟩

theorem infoBe : (Try.prog.info? 4).map (fun i => (i.zero, i.size, i.bytes)) = some (some (.bool false), 1, 1) := by kernel_rfl
set_option maxRecDepth 20000 in
set_option maxHeartbeats 1000000 in
/-- Each number of the list is one of its indices, and none comes twice. -/
theorem implEach_any (a : Option Addr) (n c : Nat) (Z : Nat → Int) (w : World) (hn : n ≤ 1048576) (h : IS .i64 w a n c Z) :
    Calls Try.prog 105 #[.slice a n c] w (BoolBel (okTo Z n n) w) := by
  obtain ⟨i0, hi, hz0, hz1, hz2⟩ := info_parts infoBe
  go_enter Try.func105, Try.ntmps105
  go_wp2_with (at_make; refine wpList_make_full _ rfl _ _ 106 rfl w.heap.size 4 i0 (.bool false) 1 Try.underlying106 hi hz0 hz1 _ _ _ _ n rfl rfl rfl rfl ?b2 ?b3 (Nat.le_refl _) ?_)
  case b2 => rw [hz2]; omega
  case b3 => unfold maxLen; omega
  intro w0 hown0 hgrow0
  have hM : Marks Z w w.heap.size n 0 w0 := by
    refine ⟨fun k hk => ?_, fun k => hown0.frozenAt k, grew_below hgrow0, Nat.le_refl _⟩
    rw [hown0.cellAt k (by omega), toList_madeCells_one, List.getElem?_replicate, if_pos hk]
    rfl
  clear hown0 hgrow0
  go_wp2
  go_loopw [11] (fun i wr => ∃ j : Nat, j ≤ n ∧ i = .int .i64 j ∧ okTo Z n j = true ∧ Marks Z w w.heap.size n j wr) (fun i _ => n - (intOf i).toNat)
  case atStart => exact ⟨0, Nat.zero_le _, rfl, rfl, hM⟩
  case round =>
    obtain ⟨j, hj, rfl, ho, hk⟩ := hrel
    clear hM
    have HO := Lib.hid ho
    clear ho
    by_cases hlt : j < n
    · obtain ⟨b, off, rfl, hbl, hc, hw⟩ := IS.at h hlt
      have hc' : wr.cell? ⟨b, off + j, none⟩ = some (.int .i64 (Z j)) := (hk.bel.cell (p := ⟨b, off + j, none⟩) hbl).trans hc
      have hbel := Lib.hid hk.bel
      clear hc hbl hw h
      by_cases x0 : 0 ≤ Z j
      case neg =>
        have HN := Lib.hid (okTo_bad (Z := Z) (n := n) (show okAt Z n j = false by unfold okAt; rw [decide_eq_false x0]; rfl) hlt)
        have e1 : decide (Z j < 0) = true := decide_eq_true (by omega)
        clear hk
        go_wp2
        go_ret
        exact ⟨by rw [HN.out]; rfl, hbel.out⟩
      have e1 : decide (Z j < 0) = false := decide_eq_false (by omega)
      by_cases x1 : Z j < n
      case neg =>
        have HN := Lib.hid (okTo_bad (Z := Z) (n := n) (show okAt Z n j = false by unfold okAt; rw [decide_eq_false x1]; simp) hlt)
        have e2 : decide ((n : Int) ≤ Z j) = true := decide_eq_true (by omega)
        clear hk
        go_wp2
        go_ret
        exact ⟨by rw [HN.out]; rfl, hbel.out⟩
      have e2 : decide ((n : Int) ≤ Z j) = false := decide_eq_false (by omega)
      obtain ⟨k, ek⟩ : ∃ k : Nat, Z j = k := ⟨(Z j).toNat, by omega⟩
      have hkn : k < n := by omega
      have hkc := hk.cell k hkn
      have hkf := hk.froz k
      have hks := Lib.hid (hk.step (k := k) hkn ek)
      have HZ := Lib.hid ek
      rw [ek] at e1 e2 hc' x1
      cases hse : seenB Z j k with
      | true =>
        rw [hse] at hkc
        have HN := Lib.hid (okTo_bad (Z := Z) (n := n) (show okAt Z n j = false by unfold okAt; rw [HZ.out, hse]; simp) hlt)
        clear hse hk ek x0
        go_wp2
        go_ret
        exact ⟨by rw [HN.out]; rfl, hbel.out⟩
      | false =>
        rw [hse] at hkc
        have HY : Hid (okTo Z n (j + 1) = true) := Lib.hid (by simp only [okTo, HO.out]; unfold okAt; rw [HZ.out, hse]; simp; omega)
        clear hse hk ek x0
        go_wp2
        go_roundw
        case rel => exact ⟨j + 1, by omega, by go_num, HY.out, hks.out⟩
        case measure => simp [intOf]; omega
    · obtain rfl : j = n := by omega
      have hbel := Lib.hid hk.bel
      clear hk
      go_wp2
      go_ret
      exact ⟨by rw [HO.out]; rfl, hbel.out⟩
theorem ordB_side (Z : Nat → Int) (n : Nat) : ordB Z n = (sideB (n : Int) && okTo Z n n) := by
  unfold ordB
  by_cases h1 : 1 ≤ n
  · by_cases h2 : n ≤ 12
    · rw [sideB_yes (by omega) (by omega), decide_eq_true h1, decide_eq_true h2]; simp
    · rw [sideB_no2 (by omega), decide_eq_false h2]; simp
  · rw [sideB_no1 (by omega), decide_eq_false h1]; simp
theorem implOrder_any (a : Option Addr) (n c : Nat) (Z : Nat → Int) (w : World) (hn : n ≤ 1048576) (h : IS .i64 w a n c Z) :
    Calls Try.prog 81 #[.slice a n c] w (BoolBel (ordB Z n) w) := by
  rw [ordB_side]
  cases h1 : sideB (n : Int) with
  | false =>
    go_enter Try.func81, Try.ntmps81
    go_wp2_with (go_at_call 77; refine (isSide_any _ _).mono ?_; rintro e w' ⟨rfl, rfl⟩)
    go_ret
    exact ⟨rfl, (by repeat first | (with_reducible exact Below.refl _ _) | (with_reducible refine Below.setCell ?_ (by first | exact Nat.le_refl _ | (simp; done) | (simp; omega) | omega) _) | (with_reducible refine Below.alloc ?_ (by first | exact Nat.le_refl _ | (simp; done) | (simp; omega) | omega) _) | (with_reducible refine below_drewN ?_ _) | (with_reducible refine Below.drew ?_))⟩
  | true =>
    go_enter Try.func81, Try.ntmps81
    go_wp2_with (go_at_call 77; refine (isSide_any _ _).mono ?_; rintro e w' ⟨rfl, rfl⟩)
    go_at_call 105
    refine (implEach_any a n c Z _ hn h).mono ?_
    rintro e w1 ⟨rfl, b1⟩
    go_wp2_with fail
    go_ret
    exact ⟨rfl, b1⟩

theorem infoB : (Try.prog.info? 4).map (fun i => (i.zero, i.size, i.bytes)) = some (some (.bool false), 1, 1) := by kernel_rfl
theorem l00InB (x a b : Int) (w : World) : Calls Try.prog 104 #[.int .i64 x, .int .i64 a, .int .i64 b] w fun e w' => e = .returned (.bool (inB x a b)) ∧ w = w' := l00In_any x a b w
set_option maxRecDepth 20000 in
set_option maxHeartbeats 1000000 in
theorem specOrder_any (a : Option Addr) (n c : Nat) (Z : Nat → Int) (w : World) (hn : n ≤ 1048576) (h : IS .i64 w a n c Z) :
    Calls Try.prog 91 #[.slice a n c] w (BoolBel (ordB Z n) w) := by
  by_cases h1 : 1 ≤ n
  case neg =>
    have HB : Hid (ordB Z n = false) := Lib.hid (by unfold ordB; rw [decide_eq_false h1]; rfl)
    have d1 : decide ((n : Int) < 1) = true := decide_eq_true (by omega)
    go_enter Try.func91, Try.ntmps91
    go_wp2
    go_ret
    exact ⟨by rw [HB.out]; rfl, (by repeat first | (with_reducible exact Below.refl _ _) | (with_reducible refine Below.setCell ?_ (by first | exact Nat.le_refl _ | (simp; done) | (simp; omega) | omega) _) | (with_reducible refine Below.alloc ?_ (by first | exact Nat.le_refl _ | (simp; done) | (simp; omega) | omega) _) | (with_reducible refine below_drewN ?_ _) | (with_reducible refine Below.drew ?_))⟩
  by_cases h2 : n ≤ 12
  case neg =>
    have HB : Hid (ordB Z n = false) := Lib.hid (by unfold ordB; rw [decide_eq_false h2]; simp)
    have d1 : decide ((n : Int) < 1) = false := decide_eq_false (by omega)
    have d2 : decide ((12 : Int) < n) = true := decide_eq_true (by omega)
    go_enter Try.func91, Try.ntmps91
    go_wp2
    go_ret
    exact ⟨by rw [HB.out]; rfl, (by repeat first | (with_reducible exact Below.refl _ _) | (with_reducible refine Below.setCell ?_ (by first | exact Nat.le_refl _ | (simp; done) | (simp; omega) | omega) _) | (with_reducible refine Below.alloc ?_ (by first | exact Nat.le_refl _ | (simp; done) | (simp; omega) | omega) _) | (with_reducible refine below_drewN ?_ _) | (with_reducible refine Below.drew ?_))⟩
  have HB : Hid (ordB Z n = okTo Z n n) := Lib.hid (by unfold ordB; rw [decide_eq_true h1, decide_eq_true h2]; rfl)
  have d1 : decide ((n : Int) < 1) = false := decide_eq_false (by omega)
  have d2 : decide ((12 : Int) < n) = false := decide_eq_false (by omega)
  obtain ⟨i0, hi, hz0, hz1, hz2⟩ := info_parts infoB
  go_enter Try.func91, Try.ntmps91
  go_wp2_with (at_make; refine wpList_make_full _ rfl _ _ 106 rfl w.heap.size 4 i0 (.bool false) 1 Try.underlying106 hi hz0 hz1 _ _ _ _ n rfl rfl rfl rfl ?b2 ?b3 (Nat.le_refl _) ?_)
  case b2 => rw [hz2]; omega
  case b3 => unfold maxLen; omega
  intro w0 hown0 hgrow0
  have hM : Marks Z w w.heap.size n 0 w0 := by
    refine ⟨fun k hk => ?_, fun k => hown0.frozenAt k, grew_below hgrow0, Nat.le_refl _⟩
    rw [hown0.cellAt k (by omega), toList_madeCells_one, List.getElem?_replicate, if_pos hk]
    rfl
  clear hown0 hgrow0
  clear d1 d2
  go_wp2
  go_loopw [4] (fun i wr => ∃ j : Nat, j ≤ n ∧ i = .int .i64 j ∧ okTo Z n j = true ∧ Marks Z w w.heap.size n j wr) (fun i _ => n - (intOf i).toNat)
  case atStart => exact ⟨0, Nat.zero_le _, rfl, rfl, hM⟩
  case round =>
    obtain ⟨j, hj, rfl, ho, hk⟩ := hrel
    clear hM
    have HO := Lib.hid ho
    clear ho
    by_cases hlt : j < n
    · obtain ⟨b, off, rfl, hbl, hc, hw⟩ := IS.at h hlt
      have hc' : wr.cell? ⟨b, off + j, none⟩ = some (.int .i64 (Z j)) := (hk.bel.cell (p := ⟨b, off + j, none⟩) hbl).trans hc
      have hbel := Lib.hid hk.bel
      have hin : ∀ W, Calls Try.prog 104 #[.int .i64 (Z j), .int .i64 0, .int .i64 ((n : Int) - 1)] W fun e w' => e = .returned (.bool (inB (Z j) 0 ((n : Int) - 1))) ∧ W = w' := fun W => l00InB _ _ _ W
      clear hc hbl hw h
      by_cases x0 : 0 ≤ Z j ∧ Z j < n
      case neg =>
        have HN := Lib.hid (okTo_bad (Z := Z) (n := n) (show okAt Z n j = false by
          unfold okAt
          by_cases y0 : 0 ≤ Z j
          · rw [decide_eq_false (fun y1 => x0 ⟨y0, y1⟩)]; simp
          · rw [decide_eq_false y0]; rfl) hlt)
        have e1 : inB (Z j) 0 ((n : Int) - 1) = false := by
          unfold inB
          by_cases y0 : 0 ≤ Z j
          · rw [decide_eq_false (show ¬ Z j ≤ (n : Int) - 1 by omega)]; simp
          · rw [decide_eq_false y0]; rfl
        rw [e1] at hin
        clear hk e1 x0
        generalize Z j = x at hc' hin
        go_wp2_with (go_at_call 104; refine (hin _).mono ?_; rintro e w' ⟨rfl, rfl⟩)
        go_ret
        exact ⟨by rw [HB.out, HN.out]; rfl, hbel.out⟩
      have e1 : inB (Z j) 0 ((n : Int) - 1) = true := by unfold inB; rw [decide_eq_true x0.1, decide_eq_true (show Z j ≤ (n : Int) - 1 by omega)]; rfl
      rw [e1] at hin
      clear e1
      obtain ⟨k, ek⟩ : ∃ k : Nat, Z j = k := ⟨(Z j).toNat, by omega⟩
      have hkn : k < n := by omega
      have hkc := hk.cell k hkn
      have hkf := hk.froz k
      have hks := Lib.hid (hk.step (k := k) hkn ek)
      have HZ := Lib.hid ek
      rw [ek] at hc' hin
      cases hse : seenB Z j k with
      | true =>
        rw [hse] at hkc
        have HN := Lib.hid (okTo_bad (Z := Z) (n := n) (show okAt Z n j = false by unfold okAt; rw [HZ.out, hse]; simp) hlt)
        clear hse hk ek x0
        go_wp2_with (go_at_call 104; refine (hin _).mono ?_; rintro e w' ⟨rfl, rfl⟩)
        go_ret
        exact ⟨by rw [HB.out, HN.out]; rfl, hbel.out⟩
      | false =>
        rw [hse] at hkc
        have HY : Hid (okTo Z n (j + 1) = true) := Lib.hid (by simp only [okTo, HO.out]; unfold okAt; rw [HZ.out, hse]; simp; omega)
        clear hse hk ek x0
        go_wp2_with (go_at_call 104; refine (hin _).mono ?_; rintro e w' ⟨rfl, rfl⟩)
        go_roundw
        case rel => exact ⟨j + 1, by omega, by go_num, HY.out, hks.out⟩
        case measure => simp [intOf]; omega
    · obtain rfl : j = n := by omega
      have hbel := Lib.hid hk.bel
      clear hk
      go_wp2
      go_ret
      exact ⟨by rw [HB.out, HO.out]; rfl, hbel.out⟩

end Go.Proofs.Ytmddhhmgfhljiaa
