/- Helper: a part of a matrix, of the program. Conditions: none. -/
import Derived.Test.YtedfbnkdhnadeaaCopy
import Derived.Test.YtedfbnkdhnadeaaKindSteps
import Derived.Test.YtedfbnkdhnadeaaGive
set_option linter.unusedVariables false
namespace Go.Proofs.Ytedfbnkdhnadeaa
open Go.RowKit

/-- Whether a part of p from s on lies in W. -/
def liB (W p s : Int) : Bool := decide (1 ≤ p) && (decide (p ≤ W) && (decide (0 ≤ s) && decide (s ≤ W - p)))
theorem liB_eq {R C p q x y : Int} (hR : R ≤ 12) (hC : C ≤ 12) : (liB R p x && liB C q y) = ((sideB p && sideB q) && (inB x 0 (R - p) && inB y 0 (C - q))) := by
  rw [Bool.eq_iff_iff]
  unfold liB sideB inB
  simp only [Bool.and_eq_true, decide_eq_true_eq]
  omega
/-- A part, so far; and at last. -/
def partP (c q j x y : Nat) (Z : Nat → Nat) (t : Nat) : Nat := if t / q < j then Z ((x + t / q) * c + (y + t % q)) else 0
def partZ (c q x y : Nat) (Z : Nat → Nat) (t : Nat) : Nat := Z ((x + t / q) * c + (y + t % q))
theorem partP_next {c q j x y : Nat} {Z : Nat → Nat} (hq : 0 < q) (t : Nat) : pasted (j * q) q (fun k => Z ((x + j) * c + (y + k))) (partP c q j x y Z) t = partP c q (j + 1) x y Z t := by
  unfold pasted partP
  have hp := place_eq (c := q) (t := t)
  have hm := Nat.mod_lt t hq
  by_cases h : j * q ≤ t ∧ t < j * q + q
  · have e : t / q = j := by
      have h1 : j ≤ t / q := (Nat.le_div_iff_mul_le hq).2 h.1
      have h2 : t / q < j + 1 := Nat.div_lt_of_lt_mul (by rw [Nat.mul_comm, Nat.add_mul, Nat.one_mul]; exact h.2)
      omega
    have e2 : t - j * q = t % q := by rw [e] at hp; omega
    rw [if_pos h, if_pos (by omega), e, e2]
  · rw [if_neg h]
    by_cases h2 : t / q < j
    · rw [if_pos h2, if_pos (by omega)]
    · rw [if_neg h2, if_neg]
      intro h3
      have e : t / q = j := by omega
      rw [e] at hp
      exact h ⟨by omega, by omega⟩

theorem liesInSide_any (W p s : Int) (w : World) (h0 : 0 ≤ W) (hW : W ≤ 12) : Calls Try.prog 125 #[.int .i64 W, .int .i64 p, .int .i64 s] w fun e w' => e = .returned (.bool (liB W p s)) ∧ w = w' := by
  unfold liB
  by_cases h1 : 1 ≤ p
  case neg =>
    have d1 := decide_eq_false h1
    rw [d1]
    clear h1
    go_enter Try.func125, Try.ntmps125
    go_wp2
    go_ret
    exact ⟨rfl, rfl⟩
  by_cases h2 : p ≤ W
  case neg =>
    have d1 := decide_eq_true h1
    have d2 := decide_eq_false h2
    rw [d1, d2]
    clear h1 h2
    go_enter Try.func125, Try.ntmps125
    go_wp2
    go_ret
    exact ⟨rfl, rfl⟩
  have hw : IntKind.i64.wrap (W - p) = W - p := IntWalk.i64_in _ (by omega)
  by_cases h3 : 0 ≤ s
  case neg =>
    have d1 := decide_eq_true h1
    have d2 := decide_eq_true h2
    have d3 := decide_eq_false h3
    rw [d1, d2, d3]
    clear h1 h2 h3
    go_enter Try.func125, Try.ntmps125
    go_wp2
    go_ret
    exact ⟨rfl, rfl⟩
  by_cases h4 : s ≤ W - p
  · have d1 := decide_eq_true h1
    have d2 := decide_eq_true h2
    have d3 := decide_eq_true h3
    have d4 := decide_eq_true h4
    rw [d1, d2, d3, d4]
    go_enter Try.func125, Try.ntmps125
    go_wp2
    go_ret
    exact ⟨rfl, rfl⟩
  · have d1 := decide_eq_true h1
    have d2 := decide_eq_true h2
    have d3 := decide_eq_true h3
    have d4 := decide_eq_false h4
    rw [d1, d2, d3, d4]
    go_enter Try.func125, Try.ntmps125
    go_wp2
    go_ret
    exact ⟨rfl, rfl⟩
theorem liesIn_any (W1 W2 p1 p2 s1 s2 : Int) (w : World) (h1 : 0 ≤ W1) (h2 : W1 ≤ 12) (h3 : 0 ≤ W2) (h4 : W2 ≤ 12) :
    Calls Try.prog 113 #[.agg #[.int .i64 W1, .int .i64 W2], .agg #[.int .i64 p1, .int .i64 p2], .int .i64 s1, .int .i64 s2] w fun e w' => e = .returned (.bool (liB W1 p1 s1 && liB W2 p2 s2)) ∧ Below w.heap.size w w' := by
  cases hl : liB W1 p1 s1 <;> cases hl2 : liB W2 p2 s2
  all_goals
    go_enter Try.func113, Try.ntmps113
    go_wp2_with (go_at_call 125; (first | (with_reducible refine (liesInSide_any W1 p1 s1 _ h1 h2).mono ?_) | (with_reducible refine (liesInSide_any W2 p2 s2 _ h3 h4).mono ?_)); rintro e w' ⟨rfl, rfl⟩)
    go_ret
    exact ⟨rfl, (by repeat first | (with_reducible exact Below.refl _ _) | (with_reducible refine Below.setCell ?_ (by first | exact Nat.le_refl _ | (simp; done) | (simp; omega) | omega) _) | (with_reducible refine Below.alloc ?_ (by first | exact Nat.le_refl _ | (simp; done) | (simp; omega) | omega) _) | (with_reducible refine below_drewN ?_ _) | (with_reducible refine Below.drew ?_))⟩
theorem sidesOf_any (R C : Int) (a : Option Addr) (n c : Nat) (w : World) : Calls Try.prog 114 #[.agg #[.int .i64 R, .int .i64 C, .slice a n c]] w fun e w' => e = .returned (.agg #[.int .i64 R, .int .i64 C]) ∧ Below w.heap.size w w' := by
  go_enter Try.func114, Try.ntmps114
  go_wp2
  refine bodyPost_ret (v := .agg #[.int .i64 R, .int .i64 C]) (by simp [results, Try.results114, go_sem]) rfl ?_
  exact ⟨rfl, (by repeat first | (with_reducible exact Below.refl _ _) | (with_reducible refine Below.setCell ?_ (by first | exact Nat.le_refl _ | (simp; done) | (simp; omega) | omega) _) | (with_reducible refine Below.alloc ?_ (by first | exact Nat.le_refl _ | (simp; done) | (simp; omega) | omega) _) | (with_reducible refine below_drewN ?_ _) | (with_reducible refine Below.drew ?_))⟩
set_option maxRecDepth 20000 in
set_option maxHeartbeats 2000000 in
theorem implPart_yes (r c n b off cap x y p q m : Nat) (Z : Nat → Nat) (w : World) (hr1 : 1 ≤ r) (hr : r ≤ 12) (hc1 : 1 ≤ c) (hc : c ≤ 12) (hn : n = r * c) (hp1 : 1 ≤ p) (hq1 : 1 ≤ q) (hx : x + p ≤ r) (hy : y + q ≤ c) (hm : m = p * q) (hv : validB r c n (vals Z) = true)
    (hli : (liB r p x && liB c q y) = true) (h : FS .f32 w (some ⟨b, off, none⟩) n cap Z) :
    Calls Try.prog 52 #[.agg #[.int .i64 r, .int .i64 c, .slice (some ⟨b, off, none⟩) n cap], .int .i64 x, .int .i64 y, .int .i64 p, .int .i64 q] w (MatOwn true p q m (fun t => vals (partZ c q x y Z) t) w) := by
  have hM := Lib.hid hm
  have hm144 : m ≤ 144 := by have := sides_le (show p ≤ 12 by omega) (show q ≤ 12 by omega); omega
  have hn144 : n ≤ 144 := by have := sides_le hr hc; omega
  have hN := Lib.hid hn
  have hcap := h.1
  have hmax : cap ≤ 9223372036854775807 := by have := h.2.1; unfold maxLen at this; omega
  clear hn hm
  go_enter Try.func52, Try.ntmps52
  go_wp2_with fail
  go_at_call 88
  refine (implValid_any r c _ n cap Z _ (by omega) (h.below (by repeat first | (with_reducible exact Below.refl _ _) | (with_reducible refine Below.setCell ?_ (by first | exact Nat.le_refl _ | (simp; done) | (simp; omega) | omega) _) | (with_reducible refine Below.alloc ?_ (by first | exact Nat.le_refl _ | (simp; done) | (simp; omega) | omega) _) | (with_reducible refine below_drewN ?_ _) | (with_reducible refine Below.drew ?_)) (Nat.le_refl _))).mono ?_
  rintro e w1 ⟨rfl, b1⟩
  have B1 : Below w.heap.size w w1 := Below.trans (by repeat first | (with_reducible exact Below.refl _ _) | (with_reducible refine Below.setCell ?_ (by first | exact Nat.le_refl _ | (simp; done) | (simp; omega) | omega) _) | (with_reducible refine Below.alloc ?_ (by first | exact Nat.le_refl _ | (simp; done) | (simp; omega) | omega) _) | (with_reducible refine below_drewN ?_ _) | (with_reducible refine Below.drew ?_)) (b1.mono (by simp <;> omega))
  have s1 : w.heap.size + 1 + 1 ≤ w1.heap.size := by have := b1.size; simp at this; omega
  have X1 : Box w1 w.heap.size r c (some ⟨b, off, none⟩) n cap := by
    obtain ⟨hc, hf⟩ := bcell b1
    refine ⟨?_, ?_, ?_⟩ <;> (rw [hc _ _ (by simp <;> omega)]; simp [go_sem])
  have Z1 : Box w1 (w.heap.size + 1) 0 0 none 0 0 := by
    obtain ⟨hc, hf⟩ := bcell b1
    refine ⟨?_, ?_, ?_⟩ <;> (rw [hc _ _ (by simp <;> omega)]; simp [go_sem])
  have I1 : ∀ i, w1.frozen? ⟨w.heap.size + 1, i, none⟩ = false := fun i => by rw [(bcell b1).2 _ _ (by simp <;> omega)]; simp [go_sem]
  clear b1
  obtain ⟨y0, y1, y2⟩ := X1
  go_wp2_with fail
  go_at_call 114
  refine (sidesOf_any r c _ n cap _).mono ?_
  rintro e w1' ⟨rfl, b1'⟩
  have B1' := B1.trans (b1'.mono B1.size)
  have s1' := b1'.size
  have X1' := (show Box w1 w.heap.size r c (some ⟨b, off, none⟩) n cap from ⟨y0, y1, y2⟩).below b1' (by omega)
  have Z1' := Z1.below b1' (by omega)
  have I1' : ∀ i, w1'.frozen? ⟨w.heap.size + 1, i, none⟩ = false := fun i => (b1'.frozen (p := ⟨w.heap.size + 1, i, none⟩) (by show w.heap.size + 1 < w1.heap.size; omega)).trans (I1 i)
  obtain ⟨x0, x1, x2⟩ := X1'
  clear b1' y0 y1 y2 Z1 I1
  go_wp2_with fail
  go_at_call 113
  refine (liesIn_any r c p q x y _ (by omega) (by omega) (by omega) (by omega)).mono ?_
  rintro e w2 ⟨rfl, b2⟩
  rw [hli]
  have X1 := (show Box w1' w.heap.size r c (some ⟨b, off, none⟩) n cap from ⟨x0, x1, x2⟩)
  have Z1 := Z1'
  have I1 := I1'
  have B1 := B1'
  clear x0 x1 x2 Z1' I1' B1'
  have B2 := B1.trans (b2.mono B1.size)
  have s2 := b2.size
  have X2 := X1.below b2 (by omega)
  have Z2 := Z1.below b2 (by omega)
  have I2 : ∀ i, w2.frozen? ⟨w.heap.size + 1, i, none⟩ = false := fun i => (b2.frozen (p := ⟨w.heap.size + 1, i, none⟩) (by show w.heap.size + 1 < w1'.heap.size; omega)).trans (I1 i)
  obtain ⟨x0, x1, x2⟩ := X2
  clear b2 B1 X1 Z1 I1
  go_wp2_with fail
  go_at_call 79
  refine (newMatrix_any p q m _ (by omega) (by omega) hM.out).mono ?_
  rintro e w3 ⟨g, rfl, o3, b3⟩
  have B3 := B2.trans (b3.mono B2.size)
  have s3 := b3.size
  have X3 := (show Box w2 w.heap.size r c (some ⟨b, off, none⟩) n cap from ⟨x0, x1, x2⟩).below b3 (by omega)
  have Z3 := Z2.below b3 (by omega)
  have I3 : ∀ i, w3.frozen? ⟨w.heap.size + 1, i, none⟩ = false := fun i => (b3.frozen (p := ⟨w.heap.size + 1, i, none⟩) (by show w.heap.size + 1 < w2.heap.size; omega)).trans (I2 i)
  have hpos : 0 < n := by rw [hN.out]; exact Nat.mul_pos hr1 hc1
  have hposm : 0 < m := by rw [hM.out]; exact Nat.mul_pos hp1 hq1
  obtain ⟨_, _, hBg, hgU, _, _⟩ := o3.cell hposm
  have F3 := h.below B3 (Nat.le_refl _)
  clear b3 B2 x0 x1 x2 Z2 I2 hv hli
  go_wp2_with fail
  have b4 : Below w3.heap.size w3 (w3.alloc (.cells #[.int .i64 p, .int .i64 q, .slice (some ⟨g, 0, none⟩) m m] 28)) := (by repeat first | (with_reducible exact Below.refl _ _) | (with_reducible refine Below.setCell ?_ (by first | exact Nat.le_refl _ | (simp; done) | (simp; omega) | omega) _) | (with_reducible refine Below.alloc ?_ (by first | exact Nat.le_refl _ | (simp; done) | (simp; omega) | omega) _) | (with_reducible refine below_drewN ?_ _) | (with_reducible refine Below.drew ?_))
  have U4 := Box.new w3 28 p q (some ⟨g, 0, none⟩) m m
  have hs4 : w3.heap.size < (w3.alloc (.cells #[.int .i64 p, .int .i64 q, .slice (some ⟨g, 0, none⟩) m m] 28)).heap.size := by simp
  generalize w3.alloc (.cells #[.int .i64 p, .int .i64 q, .slice (some ⟨g, 0, none⟩) m m] 28) = w4 at b4 U4 hs4 ⊢
  have X4 := X3.below b4 (by omega)
  have Z4 := Z3.below b4 (by omega)
  have I4 : ∀ i, w4.frozen? ⟨w.heap.size + 1, i, none⟩ = false := fun i => (b4.frozen (p := ⟨w.heap.size + 1, i, none⟩) (by show w.heap.size + 1 < w3.heap.size; omega)).trans (I3 i)
  have o4 := o3.kept (below_grew b4) (fun q hq => by cases hq)
  have B4 := B3.trans (b4.mono B3.size)
  have F4 := F3.below b4 (Nat.le_refl _)
  obtain ⟨_, _, e, hbb, _, _⟩ := h.at hpos
  simp only [Option.some.injEq, Addr.mk.injEq, and_true] at e
  obtain ⟨rfl, rfl⟩ := e
  clear b4 X3 Z3 I3 o3 B3 F3 h
  go_loopw [33] (fun i wr => ∃ (j : Nat) (X : Nat → Nat), j ≤ p ∧ i = .int .i64 j ∧ Own 40 .f32 w2.heap.size w3.heap.size wr (some ⟨g, 0, none⟩) m m X ∧ (∀ t, t < m → X t = partP c q j x y Z t) ∧ w4.grownBy wr (some g)) (fun i _ => p - (intOf i).toNat)
  case atStart => exact ⟨0, _, Nat.zero_le _, rfl, o4, fun t ht => by unfold partP; rw [if_neg (Nat.not_lt_zero _)], World.grownBy.refl _ _⟩
  case round =>
    obtain ⟨j, X, hj, rfl, ho, hX, hg⟩ := hrel
    have HX := Lib.hid hX
    clear o4 hX
    have hsr := hg.size
    by_cases hlt : j < p
    · have XA := X4.grown hg (by omega) (fun q hq => by cases hq; omega)
      have XU := U4.grown hg (by omega) (fun q hq => by cases hq; omega)
      have FZ := F4.grown hg (fun q hq => by cases hq; omega)
      obtain ⟨k, hk⟩ : ∃ k : Nat, x + j = k := ⟨_, rfl⟩
      have hkr : k < r := by omega
      have hW0 : IntKind.i64.wrap ((x : Int) + (j : Int)) = (k : Int) := by
        have e : (x : Int) + (j : Int) = (k : Int) := by omega
        rw [e]; exact IntWalk.i64_in _ (by omega)
      have HK := Lib.hid hk
      clear hk
      have hyc : y < c := by omega
      have hyc2 : ¬ c = y := by omega
      go_wp2
      refine wp_region_kinds (fun w' => Below wr.heap.size wr w') (fun _ => 0) 10 (below_drewN (Below.refl _ _) 1) (by kernel_rfl) (by kernel_rfl) (by kernel_rfl) ?_
      simp only [List.take_succ_cons, List.take_zero, List.drop_succ_cons, List.drop_zero]
      refine wpKinds_run (.agg #[.int .i64 p, .int .i64 q, .slice (some ⟨g, 0, none⟩) m m]) rfl rfl ?_ ?_
      · intro W hW
        obtain ⟨u0, u1, u2⟩ := XU.below hW (by omega)
        simp [go_sem, BigFrame.eval_const, BigFrame.eval_global, BigFrame.eval_func, u0, u1, u2]
      simp only [Act.put, List.setIfInBounds_toArray, List.set_cons_succ, List.set_cons_zero]
      refine wpKinds_plain rfl rfl rfl (fun K hK => ?_)
      go_big_quiet_op
      refine hK _ ?_
      clear hK K
      refine wpKinds_call (f := 74) (args := #[.agg #[.int .i64 p, .int .i64 q, .slice (some ⟨g, 0, none⟩) m m], .int .i64 j]) (.slice (some ⟨g, 0 + j * q, none⟩) q q) rfl rfl ?_ (by kernel_rfl) ?_ ?_
      · intro W
        simp [go_sem, BigFrame.eval_const, BigFrame.eval_global, BigFrame.eval_func]
      · intro W hW
        refine (rowOf_any g 0 p q m m j W (by omega) hq1 (by omega) hM.out (Nat.le_refl _) (by omega) hlt).mono ?_
        rintro e w' ⟨rfl, hb⟩
        exact ⟨rfl, hW.trans (hb.mono hW.size)⟩
      simp only [Act.put, List.setIfInBounds_toArray, List.set_cons_succ, List.set_cons_zero]
      refine wpKinds_run (.agg #[.int .i64 r, .int .i64 c, .slice (some ⟨b, off, none⟩) n cap]) rfl rfl ?_ ?_
      · intro W hW
        obtain ⟨u0, u1, u2⟩ := XA.below hW (by omega)
        simp [go_sem, BigFrame.eval_const, BigFrame.eval_global, BigFrame.eval_func, u0, u1, u2]
      simp only [Act.put, List.setIfInBounds_toArray, List.set_cons_succ, List.set_cons_zero]
      refine wpKinds_plain rfl rfl rfl (fun K hK => ?_)
      go_big_quiet_op
      refine hK _ ?_
      clear hK K
      refine wpKinds_plain rfl rfl rfl (fun K hK => ?_)
      go_big_quiet_op
      refine hK _ ?_
      clear hK K
      refine wpKinds_run (.int .i64 (k : Int)) rfl rfl ?_ ?_
      · intro W hW
        simp [go_sem, BigFrame.eval_const, BigFrame.eval_global, BigFrame.eval_func, hW0]
      simp only [Act.put, List.setIfInBounds_toArray, List.set_cons_succ, List.set_cons_zero]
      refine wpKinds_call (f := 74) (args := #[.agg #[.int .i64 r, .int .i64 c, .slice (some ⟨b, off, none⟩) n cap], .int .i64 k]) (.slice (some ⟨b, off + k * c, none⟩) c c) rfl rfl ?_ (by kernel_rfl) ?_ ?_
      · intro W
        simp [go_sem, BigFrame.eval_const, BigFrame.eval_global, BigFrame.eval_func]
      · intro W hW
        refine (rowOf_any b off r c n cap k W hr hc1 hc hN.out hcap hmax hkr).mono ?_
        rintro e w' ⟨rfl, hb⟩
        exact ⟨rfl, hW.trans (hb.mono hW.size)⟩
      simp only [Act.put, List.setIfInBounds_toArray, List.set_cons_succ, List.set_cons_zero]
      refine wpKinds_plain rfl rfl rfl (fun K hK => ?_)
      go_big_quiet_op
      refine hK _ ?_
      clear hK K
      refine wpKinds_plain rfl rfl rfl (fun K hK => ?_)
      go_big_quiet_op
      refine ⟨_, fun _ _ => rfl, hK _ ?_⟩
      clear hK K
      refine wpKinds_nil ?_
      intro w' hC
      have O' := ho.kept (below_grew hC) (fun q hq => by cases hq)
      obtain ⟨cur, hcur, hsz, _⟩ := O'.block
      have hjc := place_lt (c := q) hlt (show q - 1 < q by omega)
      rw [← hM.out] at hjc
      have FR := ((FZ.below hC (Nat.le_refl _)).row hN.out hkr c (Nat.le_refl _) (by unfold maxLen; omega)).drop (i := y) (m := q) (c' := c - y) hy (by omega) (by unfold maxLen; omega)
      have hwf : ∀ t, t < q → (Lit.float .f32 (Z (k * c + (y + t)))).wf = true := fun t ht => (FR.at ht).elim fun _ q => q.elim fun _ q => q.2.2.2.2
      obtain ⟨O5, G5⟩ := O'.paste (off := 0 + j * q) (m := q) (Y := fun t => Z (k * c + (y + t))) (by omega) hwf hcur
      refine wpList_copy_own rfl (.tmp 38) (.tmp 45) _ _ rfl 40 Try.underlying22 (by kernel_rfl) g (0 + j * q) q q ⟨b, off + k * c + y, none⟩ (c - y) (c - y) rfl rfl cur 40 hcur (cellsOf32 (fun t => Z (k * c + (y + t))) q) (by rw [cells32_len]; exact (Nat.min_eq_right (by omega)).symm) ?_ (by rw [cells32_len, hsz]; omega) cells32_one ?_
      · intro i v hi
        rw [Addr.add_lit]
        exact cells32_cell FR i v hi
      rw [cells32_len]
      rw [Nat.zero_add] at O5 G5
      have O6 := Lib.hid O5
      have G6 := Lib.hid (grownBy_trans hg (grownBy_trans (⟨hC.os, hC.tape, hC.output, hC.size, fun k hk _ => hC.block k hk⟩ : wr.grownBy w' (some g)) G5))
      clear O5 G5 ho hg O' FR hcur FZ XA XU hW0 hyc hyc2
      go_wp2
      go_roundw
      case rel =>
        refine ⟨j + 1, _, by omega, by go_num, O6.out, fun t ht => ?_, G6.out⟩
        rw [← partP_next hq1 t, HK.out]
        unfold pasted
        by_cases e : j * q ≤ t ∧ t < j * q + q
        · rw [if_pos e, if_pos e]
        · rw [if_neg e, if_neg e]; exact HX.out t ht
      case measure => simp [intOf]; omega
    · obtain rfl : j = p := by omega
      obtain ⟨u0, u1, u2⟩ := U4.grown hg (by omega) (fun q hq => by cases hq; omega)
      obtain ⟨z0, z1, z2⟩ := Z4.grown hg (by omega) (fun q hq => by cases hq; omega)
      have I5 : ∀ i, wr.frozen? ⟨w.heap.size + 1, i, none⟩ = false := fun i => (World.frozen?_of_block (a := ⟨w.heap.size + 1, i, none⟩) (hg.block (w.heap.size + 1) (by omega) (fun e => by cases e; omega))).trans (I4 i)
      have o5 := ho.same (Y := partZ c q x y Z) fun t ht => by
        rw [HX.out t ht]
        unfold partP partZ
        rw [if_pos (Nat.div_lt_of_lt_mul (by rw [Nat.mul_comm, ← hM.out]; exact ht))]
      have B5 := B4.grown hg B4.size (fun q hq => by cases hq; omega)
      clear ho hg
      go_wp2_with fail
      refine bodyPost_ret (v := .tuple #[.agg #[.int .i64 j, .int .i64 q, .slice (some ⟨g, 0, none⟩) m m], .bool true]) (by simp [results, Try.results52, go_sem, z0, z1, z2]) rfl ?_
      exact ⟨_, _, _, rfl, (by refine Own.to o5 (hk := fun g hg1 hg2 => by (try simp at hg1 hg2); repeat (first | rw [Below.heap_setCell _ _ _ _ (by simp; omega)] | rw [Below.heap_alloc _ _ _ (by simp [World.setCell]; omega)])) ?_ ?_ ?_ ?_ <;> (first | exact Nat.le_refl _ | omega | (simp [World.setCell]; done) | (simp [World.setCell]; omega))), fun i hi => rfl, (by repeat first | (with_reducible exact B5) | (with_reducible refine Below.setCell ?_ (by first | exact Nat.le_refl _ | (simp; done) | (simp; omega) | omega) _) | (with_reducible refine Below.alloc ?_ (by first | exact Nat.le_refl _ | (simp; done) | (simp; omega) | omega) _) | (with_reducible refine below_drewN ?_ _) | (with_reducible refine Below.drew ?_))⟩
end Go.Proofs.Ytedfbnkdhnadeaa
