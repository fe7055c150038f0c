/- Helper: walks of sums and products of lists of 32-bit numbers, of the program, its reference and the laws. Conditions: none. -/
import Derived.Test.YtnjkabckbnbboabRowWalks
import Derived.WalkSmall
set_option linter.unusedVariables false
namespace Go.Proofs.Ytnjkabckbnbboab
open Go.RowKit

theorem sumP_succ (k : FloatKind) (Z : Nat → Nat) (j : Nat) : fop .add k (sumP k Z j) (cn k (Z j)) = sumP k Z (j + 1) := rfl
theorem dotP_succ (k : FloatKind) (Z Y : Nat → Nat) (j : Nat) : fop .add k (dotP k Z Y j) (fop .mul k (cn k (Z j)) (cn k (Y j))) = dotP k Z Y (j + 1) := rfl

theorem specFew_any (a : Option Addr) (n c : Nat) (w : World) (hn : n ≤ 1048576) : Calls Try.prog 15 #[.slice a n c] w fun e w' => e = .returned (.bool (decide (n ≤ 256))) ∧ w = w' := by
  by_cases h : n ≤ 256
  · have hd : decide ((n : Int) ≤ 256) = true := decide_eq_true (by omega)
    rw [decide_eq_true h]
    go_enter Try.func15, Try.ntmps15
    go_wp2
    go_ret
    exact ⟨rfl, rfl⟩
  · have hd : decide ((n : Int) ≤ 256) = false := decide_eq_false (by omega)
    rw [decide_eq_false h]
    go_enter Try.func15, Try.ntmps15
    go_wp2
    go_ret
    exact ⟨rfl, rfl⟩

theorem specSum_any (a : Option Addr) (n c : Nat) (Z : Nat → Nat) (w : World) (hn : n ≤ 256) (h : FS .f32 w a n c Z) :
    Calls Try.prog 16 #[.slice a n c] w fun e w' => ∃ r, e = .returned (.float .f32 r) ∧ FV .f32 r (sumP .f32 Z n) ∧ ∃ m, w' = w.drewN m := by
  go_enter Try.func16, Try.ntmps16
  go_wp2
  go_loopw [3, 4] (fun s i wr => ∃ j m r : Nat, j ≤ n ∧ i = .int .i64 j ∧ s = .float .f32 r ∧ FV .f32 r (sumP .f32 Z j) ∧ wr = w.drewN m) (fun _ i _ => n - (intOf i).toNat)
  case atStart => exact ⟨0, 0, 0, Nat.zero_le _, rfl, rfl, FV.lit (by kernel_rfl) (by kernel_rfl), rfl⟩
  case round =>
    obtain ⟨j, m0, r0, hj, rfl, rfl, hr0, rfl⟩ := hrel
    by_cases hlt : j < n
    · obtain ⟨b, off, rfl, hbl, hc, hfv⟩ := h.at hlt
      clear hbl h
      go_wp2_with (first | (refine wpList_farith rfl _ _ _ _ _ rfl rfl _ _ _ rfl rfl (by first | assumption | (with_reducible exact FV.ofInt _ _) | exact FV.lit (by kernel_rfl) (by kernel_rfl)) (by first | assumption | (with_reducible exact FV.ofInt _ _) | exact FV.lit (by kernel_rfl) (by kernel_rfl)) ?_; intro r m hr))
      go_roundw
      case rel => exact ⟨j + 1, _, _, by omega, by go_num, rfl, FV.of_eq hr (sumP_succ _ _ _), rfl⟩
      case measure => simp [intOf]; omega
    · obtain rfl : j = n := by omega
      go_wp2
      go_ret
      exact ⟨_, rfl, hr0, _, rfl⟩

theorem implSum_any (a : Option Addr) (n c : Nat) (Z : Nat → Nat) (w : World) (hn : n ≤ 256) (h : FS .f32 w a n c Z) :
    Calls Try.prog 8 #[.slice a n c] w fun e w' => ∃ r, e = .returned (.tuple #[.float .f32 r, .bool true]) ∧ FV .f32 r (sumP .f32 Z n) ∧ ∃ m, w' = w.drewN m := by
  have hd : decide ((256 : Int) < n) = false := decide_eq_false (by omega)
  go_enter Try.func8, Try.ntmps8
  go_wp2
  go_loopw [4, 12] (fun s i wr => ∃ j m r : Nat, j ≤ n ∧ i = .int .i64 j ∧ s = .float .f32 r ∧ FV .f32 r (sumP .f32 Z j) ∧ wr = w.drewN m) (fun _ i _ => n - (intOf i).toNat)
  case atStart => exact ⟨0, 0, 0, Nat.zero_le _, rfl, rfl, FV.lit (by kernel_rfl) (by kernel_rfl), rfl⟩
  case round =>
    obtain ⟨j, m0, r0, hj, rfl, rfl, hr0, rfl⟩ := hrel
    by_cases hlt : j < n
    · obtain ⟨b, off, rfl, hbl, hc, hfv⟩ := h.at hlt
      clear hbl h
      go_wp2_with (first | (refine wpList_farith rfl _ _ _ _ _ rfl rfl _ _ _ rfl rfl (by first | assumption | (with_reducible exact FV.ofInt _ _) | exact FV.lit (by kernel_rfl) (by kernel_rfl)) (by first | assumption | (with_reducible exact FV.ofInt _ _) | exact FV.lit (by kernel_rfl) (by kernel_rfl)) ?_; intro r m hr))
      go_roundw
      case rel => exact ⟨j + 1, _, _, by omega, by go_num, rfl, FV.of_eq hr (sumP_succ _ _ _), rfl⟩
      case measure => simp [intOf]; omega
    · obtain rfl : j = n := by omega
      go_wp2
      go_ret2
      exact ⟨_, rfl, hr0, _, rfl⟩

theorem implSum_no (a : Option Addr) (n c : Nat) (w : World) (hn : 256 < n) (hm : n ≤ 1048576) :
    Calls Try.prog 8 #[.slice a n c] w fun e w' => e = .returned (.tuple #[.float .f32 0, .bool false]) ∧ w = w' := by
  have hd : decide ((256 : Int) < n) = true := decide_eq_true (by omega)
  go_enter Try.func8, Try.ntmps8
  go_wp2
  go_ret2
  exact ⟨rfl, rfl⟩

theorem specSumN_any (a : Option Addr) (n c : Nat) (Z : Nat → Nat) (w : World) (hn : n ≤ 256) (h : FS .f32 w a n c Z) :
    Calls Try.prog 6 #[.slice a n c] w fun e w' => ∃ r, e = .returned (.tuple #[.float .f32 r, .bool true]) ∧ FV .f32 r (sumP .f32 Z n) ∧ ∃ m, w' = w.drewN m := by
  have hd : decide (n ≤ 256) = true := decide_eq_true (by omega)
  go_enter Try.func6, Try.ntmps6
  go_wp2_with (first | (go_at_call 15; refine (specFew_any _ _ _ _ (by omega)).mono ?_; rintro e w' ⟨rfl, rfl⟩) | (go_at_call 16; refine (specSum_any _ _ _ Z _ hn h).mono ?_; rintro e w' ⟨r, rfl, hr, m, rfl⟩))
  go_ret2
  exact ⟨_, rfl, hr, _, rfl⟩

theorem specSumN_no (a : Option Addr) (n c : Nat) (w : World) (hn : 256 < n) (hm : n ≤ 1048576) :
    Calls Try.prog 6 #[.slice a n c] w fun e w' => e = .returned (.tuple #[.float .f32 0, .bool false]) ∧ w = w' := by
  have hd : decide (n ≤ 256) = false := decide_eq_false (by omega)
  go_enter Try.func6, Try.ntmps6
  go_wp2_with (go_at_call 15; refine (specFew_any _ _ _ _ (by omega)).mono ?_; rintro e w' ⟨rfl, rfl⟩)
  go_ret2
  exact ⟨rfl, rfl⟩

set_option maxHeartbeats 1000000 in
theorem law_FnExactSumNumbers (w : World) (a : Option Addr) (n c : Nat) (Z : Nat → Nat) (h : FS .f32 w a n c Z) :
    Calls Try.prog 3 #[.slice a n c] w fun e w' => e = .returned (.bool true) ∧ Below w.heap.size w w' := by
  have hm : n ≤ 9223372036854775807 := by have h1 := h.1; have h2 := h.2.1; unfold maxLen at h2; omega
  by_cases hbig : 1048576 < n
  · have hd : decide ((1048576 : Int) < n) = true := decide_eq_true (by omega)
    go_enter Try.func3, Try.ntmps3
    go_wp2
    go_ret
    exact ⟨rfl, Below.refl _ _⟩
  have hn : n ≤ 1048576 := by omega
  have hd : decide ((1048576 : Int) < n) = false := decide_eq_false (by omega)
  have key : ∃ (ok : Bool) (X : Option Nat), (∀ a' c' W, FS .f32 W a' n c' Z → Calls Try.prog 6 #[.slice a' n c'] W fun e w' => ∃ r, e = .returned (.tuple #[.float .f32 r, .bool ok]) ∧ FV .f32 r X ∧ ∃ m, w' = W.drewN m) ∧
      (∀ a' c' W, FS .f32 W a' n c' Z → Calls Try.prog 8 #[.slice a' n c'] W fun e w' => ∃ r, e = .returned (.tuple #[.float .f32 r, .bool ok]) ∧ FV .f32 r X ∧ ∃ m, w' = W.drewN m) := by
    by_cases hs : n ≤ 256
    · exact ⟨true, sumP .f32 Z n, fun a' c' W hf => specSumN_any a' n c' Z W hs hf, fun a' c' W hf => implSum_any a' n c' Z W hs hf⟩
    · exact ⟨false, some 0, fun a' c' W hf => (specSumN_no a' n c' W (by omega) hn).mono fun e w' ⟨he, hw⟩ => ⟨0, he, FV.lit (by kernel_rfl) (by kernel_rfl), 0, hw.symm⟩,
        fun a' c' W hf => (implSum_no a' n c' W (by omega) hn).mono fun e w' ⟨he, hw⟩ => ⟨0, he, FV.lit (by kernel_rfl) (by kernel_rfl), 0, hw.symm⟩⟩
  obtain ⟨ok, X, ks, ki⟩ := key
  go_enter Try.func3, Try.ntmps3
  go_wp2_with fail
  go_at_call 7
  refine (toFloat32S_any a n c Z w hn h).mono ?_
  rintro e w1 ⟨rfl, f1, b1, s1⟩
  go_wp2_with fail
  go_at_call 6
  refine (ks _ _ w1 f1).mono ?_
  rintro e w' ⟨r1, rfl, hr1, m1, rfl⟩
  go_wp2_with fail
  go_at_call 7
  refine (toFloat32S_any a n c Z _ hn (FS.drewN (m := m1) (h.below b1 (Nat.le_refl _)))).mono ?_
  rintro e w2 ⟨rfl, f2, b2, s2⟩
  have b2' : Below w.heap.size w w2 := (below_drewN b1 m1).trans (b2.mono (b1.size))
  go_wp2_with fail
  go_at_call 8
  refine (ki _ _ w2 f2).mono ?_
  rintro e w' ⟨r2, rfl, hr2, m2, rfl⟩
  go_wp2_with (first | (refine wpList_widen rfl _ _ _ rfl _ rfl (by kernel_rfl) Try.underlying28 (by assumption) ?_; intro r m hr) | (go_at_call 9; refine (sameFloat_any _ _ (by assumption) (by assumption) _).mono ?_; rintro e w' ⟨rfl, q1, rfl⟩))
  go_at_call 7
  refine (toFloat32S_any a n c Z _ hn (FS.drewN (h.below b2' (Nat.le_refl _)))).mono ?_
  rintro e w3 ⟨rfl, f3, b3, s3⟩
  have b3' : Below w2.heap.size w2 w3 := (below_drewN (Below.refl _ _) _).trans b3
  go_wp2_with fail
  go_at_call 10
  refine (eqFloat32S_any _ _ n _ _ Z Z _ hn (f2.below b3' (Nat.le_refl _)) f3 (fun i hi => rfl)).mono ?_
  rintro e w' ⟨rfl, m3, rfl⟩
  go_wp2_with fail
  go_ret
  exact ⟨rfl, below_drewN (b2'.trans (b3'.mono b2'.size)) _⟩

theorem specDot_any (a b : Option Addr) (n c d : Nat) (Z Y : Nat → Nat) (w : World) (hn : n ≤ 256) (h : FS .f32 w a n c Z) (h2 : FS .f32 w b n d Y) :
    Calls Try.prog 17 #[.slice a n c, .slice b n d] w fun e w' => ∃ r, e = .returned (.float .f32 r) ∧ FV .f32 r (dotP .f32 Z Y n) ∧ ∃ m, w' = w.drewN m := by
  go_enter Try.func17, Try.ntmps17
  go_wp2
  go_loopw [5, 6] (fun s i wr => ∃ j m r : Nat, j ≤ n ∧ i = .int .i64 j ∧ s = .float .f32 r ∧ FV .f32 r (dotP .f32 Z Y j) ∧ wr = w.drewN m) (fun _ i _ => n - (intOf i).toNat)
  case atStart => exact ⟨0, 0, 0, Nat.zero_le _, rfl, rfl, FV.lit (by kernel_rfl) (by kernel_rfl), rfl⟩
  case round =>
    obtain ⟨j, m0, r0, hj, rfl, rfl, hr0, rfl⟩ := hrel
    by_cases hlt : j < n
    · obtain ⟨b1, off1, rfl, hbl1, hc1, hfv1⟩ := h.at hlt
      obtain ⟨b2, off2, rfl, hbl2, hc2, hfv2⟩ := h2.at hlt
      clear hbl1 hbl2 h h2
      have hdec : decide ((j : Int) < n) = true := decide_eq_true (by omega)
      go_wp2
      refine wp_region_loose (by kernel_rfl) (by kernel_rfl) ?_
      repeat (refine wpLoose_want rfl (fun K hK => ?_); first | (refine loose_farith _ _ _ _ _ rfl rfl _ _ _ rfl rfl (by assumption) (by assumption) ?_; intro r hr; refine hK _ ?_; clear hK K; simp only [Act.put, List.setIfInBounds_toArray, List.set_cons_succ, List.set_cons_zero]) | (refine loose_of_quiet rfl ?_; go_big_quiet_op; refine hK _ ?_; clear hK K))
      refine wpLoose_nil ?_
      rintro _ ⟨nq, rfl⟩
      go_wp2
      go_roundw
      case rel => exact ⟨j + 1, _, _, by omega, by go_num, rfl, FV.of_eq (by assumption) (dotP_succ _ _ _ _), rfl⟩
      case measure => simp [intOf]; omega
    · obtain rfl : j = n := by omega
      go_wp2
      go_ret
      exact ⟨_, rfl, hr0, _, rfl⟩

theorem implDot_any (a b : Option Addr) (n c d : Nat) (Z Y : Nat → Nat) (w : World) (hn : n ≤ 256) (h : FS .f32 w a n c Z) (h2 : FS .f32 w b n d Y) :
    Calls Try.prog 12 #[.slice a n c, .slice b n d] w fun e w' => ∃ r, e = .returned (.tuple #[.float .f32 r, .bool true]) ∧ FV .f32 r (dotP .f32 Z Y n) ∧ ∃ m, w' = w.drewN m := by
  have hd : decide ((256 : Int) < n) = false := decide_eq_false (by omega)
  go_enter Try.func12, Try.ntmps12
  go_wp2
  go_loopw [6, 21] (fun s i wr => ∃ j m r : Nat, j ≤ n ∧ i = .int .i64 j ∧ s = .float .f32 r ∧ FV .f32 r (dotP .f32 Z Y j) ∧ wr = w.drewN m) (fun _ i _ => n - (intOf i).toNat)
  case atStart => exact ⟨0, 0, 0, Nat.zero_le _, rfl, rfl, FV.lit (by kernel_rfl) (by kernel_rfl), rfl⟩
  case round =>
    obtain ⟨j, m0, r0, hj, rfl, rfl, hr0, rfl⟩ := hrel
    by_cases hlt : j < n
    · obtain ⟨b1, off1, rfl, hbl1, hc1, hfv1⟩ := h.at hlt
      obtain ⟨b2, off2, rfl, hbl2, hc2, hfv2⟩ := h2.at hlt
      clear hbl1 hbl2 h h2
      go_wp2_with (first | (refine wpList_farith rfl _ _ _ _ _ rfl rfl _ _ _ rfl rfl (by first | assumption | (with_reducible exact FV.ofInt _ _) | exact FV.lit (by kernel_rfl) (by kernel_rfl)) (by first | assumption | (with_reducible exact FV.ofInt _ _) | exact FV.lit (by kernel_rfl) (by kernel_rfl)) ?_; intro r m hr))
      go_roundw
      case rel => exact ⟨j + 1, _, _, by omega, by go_num, rfl, FV.of_eq (by assumption) (dotP_succ _ _ _ _), rfl⟩
      case measure => simp [intOf]; omega
    · obtain rfl : j = n := by omega
      go_wp2
      go_ret2
      exact ⟨_, rfl, hr0, _, rfl⟩

theorem implDot_no (a b : Option Addr) (n n2 c d : Nat) (w : World) (hn : n ≠ n2 ∨ 256 < n) (hm : n ≤ 1048576) (hm2 : n2 ≤ 1048576) :
    Calls Try.prog 12 #[.slice a n c, .slice b n2 d] w fun e w' => e = .returned (.tuple #[.float .f32 0, .bool false]) ∧ w = w' := by
  by_cases he : n = n2
  · subst he
    have hd : decide ((256 : Int) < n) = true := decide_eq_true (by omega)
    clear hn
    go_enter Try.func12, Try.ntmps12
    go_wp2
    go_ret2
    exact ⟨rfl, rfl⟩
  · have hd : ((n : Int) == n2) = false := beq_eq_false_iff_ne.2 (by omega)
    have hd2 : ((n : Int) != n2) = true := bne_iff_ne.2 (by omega)
    have hx1 := Lib.hid he
    clear hn he
    go_enter Try.func12, Try.ntmps12
    go_wp2
    go_ret2
    exact ⟨rfl, rfl⟩

theorem specDotN_any (a b : Option Addr) (n c d : Nat) (Z Y : Nat → Nat) (w : World) (hn : n ≤ 256) (h : FS .f32 w a n c Z) (h2 : FS .f32 w b n d Y) :
    Calls Try.prog 11 #[.slice a n c, .slice b n d] w fun e w' => ∃ r, e = .returned (.tuple #[.float .f32 r, .bool true]) ∧ FV .f32 r (dotP .f32 Z Y n) ∧ ∃ m, w' = w.drewN m := by
  have hd : decide (n ≤ 256) = true := decide_eq_true (by omega)
  go_enter Try.func11, Try.ntmps11
  go_wp2_with (first | (go_at_call 15; refine (specFew_any _ _ _ _ (by omega)).mono ?_; rintro e w' ⟨rfl, rfl⟩) | (go_at_call 17; refine (specDot_any _ _ _ _ _ Z Y _ hn h h2).mono ?_; rintro e w' ⟨r, rfl, hr, m, rfl⟩))
  go_ret2
  exact ⟨_, rfl, hr, _, rfl⟩

theorem specDotN_no (a b : Option Addr) (n n2 c d : Nat) (w : World) (hn : n ≠ n2 ∨ 256 < n) (hm : n ≤ 1048576) (hm2 : n2 ≤ 1048576) :
    Calls Try.prog 11 #[.slice a n c, .slice b n2 d] w fun e w' => e = .returned (.tuple #[.float .f32 0, .bool false]) ∧ w = w' := by
  by_cases hs : n ≤ 256
  · have hd : decide (n ≤ 256) = true := decide_eq_true (by omega)
    have hd1 : ((n : Int) == n2) = false := beq_eq_false_iff_ne.2 (by omega)
    have hd2 : ((n : Int) != n2) = true := bne_iff_ne.2 (by omega)
    have hx1 := Lib.hid hn
    clear hn
    go_enter Try.func11, Try.ntmps11
    go_wp2_with (go_at_call 15; refine (specFew_any _ _ _ _ (by omega)).mono ?_; rintro e w' ⟨rfl, rfl⟩)
    go_ret2
    exact ⟨rfl, rfl⟩
  · have hd : decide (n ≤ 256) = false := decide_eq_false (by omega)
    have hx1 := Lib.hid hn
    clear hn
    go_enter Try.func11, Try.ntmps11
    go_wp2_with (go_at_call 15; refine (specFew_any _ _ _ _ (by omega)).mono ?_; rintro e w' ⟨rfl, rfl⟩)
    go_ret2
    exact ⟨rfl, rfl⟩

set_option maxHeartbeats 1000000 in
theorem law_FnExactDotNumbers (w : World) (a : Option Addr) (n c : Nat) (Z : Nat → Nat) (h : FS .f32 w a n c Z) (a2 : Option Addr) (n2 c2 : Nat) (Y : Nat → Nat) (h2 : FS .f32 w a2 n2 c2 Y) :
    Calls Try.prog 4 #[.slice a n c, .slice a2 n2 c2] w fun e w' => e = .returned (.bool true) ∧ Below w.heap.size w w' := by
  have hm : n ≤ 9223372036854775807 := by have h1 := h.1; have h2 := h.2.1; unfold maxLen at h2; omega
  have hm2 : n2 ≤ 9223372036854775807 := by have h1 := h2.1; have h2 := h2.2.1; unfold maxLen at h2; omega
  by_cases hbig : 1048576 < n
  · have hd : decide ((1048576 : Int) < n) = true := decide_eq_true (by omega)
    go_enter Try.func4, Try.ntmps4
    go_wp2
    go_ret
    exact ⟨rfl, Below.refl _ _⟩
  have hn : n ≤ 1048576 := by omega
  have hd : decide ((1048576 : Int) < n) = false := decide_eq_false (by omega)
  by_cases hbig2 : 1048576 < n2
  · have hd : decide ((1048576 : Int) < n2) = true := decide_eq_true (by omega)
    go_enter Try.func4, Try.ntmps4
    go_wp2
    go_ret
    exact ⟨rfl, Below.refl _ _⟩
  have hn2 : n2 ≤ 1048576 := by omega
  have hd2 : decide ((1048576 : Int) < n2) = false := decide_eq_false (by omega)
  have key : ∃ (ok : Bool) (X : Option Nat), (∀ a' c' a2' c2' W, FS .f32 W a' n c' Z → FS .f32 W a2' n2 c2' Y → Calls Try.prog 11 #[.slice a' n c', .slice a2' n2 c2'] W fun e w' => ∃ r, e = .returned (.tuple #[.float .f32 r, .bool ok]) ∧ FV .f32 r X ∧ ∃ m, w' = W.drewN m) ∧
      (∀ a' c' a2' c2' W, FS .f32 W a' n c' Z → FS .f32 W a2' n2 c2' Y → Calls Try.prog 12 #[.slice a' n c', .slice a2' n2 c2'] W fun e w' => ∃ r, e = .returned (.tuple #[.float .f32 r, .bool ok]) ∧ FV .f32 r X ∧ ∃ m, w' = W.drewN m) := by
    by_cases hs : n = n2 ∧ n ≤ 256
    · obtain ⟨rfl, hs⟩ := hs
      exact ⟨true, dotP .f32 Z Y n, fun a' c' a2' c2' W hf hf2 => specDotN_any a' a2' n c' c2' Z Y W hs hf hf2, fun a' c' a2' c2' W hf hf2 => implDot_any a' a2' n c' c2' Z Y W hs hf hf2⟩
    · exact ⟨false, some 0, fun a' c' a2' c2' W hf hf2 => (specDotN_no a' a2' n n2 c' c2' W (by omega) hn hn2).mono fun e w' ⟨he, hw⟩ => ⟨0, he, FV.lit (by kernel_rfl) (by kernel_rfl), 0, hw.symm⟩,
        fun a' c' a2' c2' W hf hf2 => (implDot_no a' a2' n n2 c' c2' W (by omega) hn hn2).mono fun e w' ⟨he, hw⟩ => ⟨0, he, FV.lit (by kernel_rfl) (by kernel_rfl), 0, hw.symm⟩⟩
  obtain ⟨ok, X, ks, ki⟩ := key
  go_enter Try.func4, Try.ntmps4
  go_wp2_with fail
  go_at_call 7
  refine (toFloat32S_any a n c Z w hn h).mono ?_
  rintro e w1 ⟨rfl, f1, b1, s1⟩
  go_wp2_with fail
  go_at_call 7
  refine (toFloat32S_any a2 n2 c2 Y w1 hn2 (h2.below b1 (Nat.le_refl _))).mono ?_
  rintro e w2 ⟨rfl, f2, b2, s2⟩
  go_wp2_with fail
  go_at_call 11
  refine (ks _ _ _ _ w2 (f1.below b2 (Nat.le_refl _)) f2).mono ?_
  rintro e w' ⟨r1, rfl, hr1, m1, rfl⟩
  have b2' : Below w.heap.size w (w2.drewN m1) := below_drewN (b1.trans (b2.mono b1.size)) m1
  clear f1 f2
  go_wp2_with fail
  go_at_call 7
  refine (toFloat32S_any a n c Z _ hn (h.below b2' (Nat.le_refl _))).mono ?_
  rintro e w3 ⟨rfl, f3, b3, s3⟩
  have b3' : Below w.heap.size w w3 := b2'.trans (b3.mono b2'.size)
  go_wp2_with fail
  go_at_call 7
  refine (toFloat32S_any a2 n2 c2 Y _ hn2 (h2.below b3' (Nat.le_refl _))).mono ?_
  rintro e w4 ⟨rfl, f4, b4, s4⟩
  have f3' := f3.below b4 (Nat.le_refl _)
  go_wp2_with fail
  go_at_call 12
  refine (ki _ _ _ _ w4 f3' f4).mono ?_
  rintro e w' ⟨r2, rfl, hr2, m2, rfl⟩
  have b4' : Below w.heap.size w w4 := b3'.trans (b4.mono b3'.size)
  go_wp2_with (first | (refine wpList_widen rfl _ _ _ rfl _ rfl (by kernel_rfl) Try.underlying28 (by assumption) ?_; intro r m hr) | (go_at_call 9; refine (sameFloat_any _ _ (by assumption) (by assumption) _).mono ?_; rintro e w' ⟨rfl, q1, rfl⟩))
  go_at_call 7
  refine (toFloat32S_any a n c Z _ hn (FS.drewN (h.below b4' (Nat.le_refl _)))).mono ?_
  rintro e w5 ⟨rfl, f5, b5, s5⟩
  have b5' : Below w4.heap.size w4 w5 := (below_drewN (Below.refl _ _) _).trans b5
  go_wp2_with fail
  go_at_call 10
  refine (eqFloat32S_any _ _ n _ _ Z Z _ hn (f3'.below b5' (Nat.le_refl _)) f5 (fun i hi => rfl)).mono ?_
  rintro e w' ⟨rfl, m3, rfl⟩
  have b6 : Below w.heap.size w (w5.drewN m3) := below_drewN (b4'.trans (b5'.mono b4'.size)) _
  go_wp2_with fail
  go_at_call 7
  refine (toFloat32S_any a2 n2 c2 Y _ hn2 (h2.below b6 (Nat.le_refl _))).mono ?_
  rintro e w6 ⟨rfl, f6, b7, s6⟩
  have b7' : Below w4.heap.size w4 w6 := (below_drewN b5' _).trans (b7.mono (below_drewN b5' m3).size)
  go_wp2_with fail
  go_at_call 10
  refine (eqFloat32S_any _ _ n2 _ _ Y Y _ hn2 (f4.below b7' (Nat.le_refl _)) f6 (fun i hi => rfl)).mono ?_
  rintro e w' ⟨rfl, m4, rfl⟩
  go_wp2_with fail
  go_ret
  exact ⟨rfl, below_drewN (b4'.trans (b7'.mono b4'.size)) _⟩
end Go.Proofs.Ytnjkabckbnbboab
