/- Helper: a matrix with its rows in an order, of the program. Conditions: none. -/
import Derived.Test.YtffmjfgechdjjaaCopy
import Derived.Test.YtffmjfgechdjjaaKindSteps
import Derived.Test.YtffmjfgechdjjaaGive
import Derived.Test.YtffmjfgechdjjaaOrderKey
set_option linter.unusedVariables false
set_option linter.unusedSimpArgs false
namespace Go.Proofs.Ytffmjfgechdjjaa
open Go.RowKit

/-- Rows in their order, so far; and at last. -/
def ordP (c j : Nat) (L : Nat → Int) (Z : Nat → Nat) (t : Nat) : Nat := if t / c < j then Z ((L (t / c)).toNat * c + t % c) else 0
def ordZ (c : Nat) (L : Nat → Int) (Z : Nat → Nat) (t : Nat) : Nat := Z ((L (t / c)).toNat * c + t % c)
def orOk (R C : Int) (n n2 : Nat) (Z : Nat → Nat) (L : Nat → Int) : Bool := validB R C n (vals Z) && (ordB L n2 && decide ((n2 : Int) = R))
theorem ordP_next {c j : Nat} {L : Nat → Int} {Z : Nat → Nat} (hc : 0 < c) (t : Nat) : pasted (j * c) c (fun k => Z ((L j).toNat * c + k)) (ordP c j L Z) t = ordP c (j + 1) L Z t := by
  unfold pasted ordP
  have hp := place_eq (c := c) (t := t)
  have hm := Nat.mod_lt t hc
  by_cases h : j * c ≤ t ∧ t < j * c + c
  · have e : t / c = j := by
      have h1 : j ≤ t / c := (Nat.le_div_iff_mul_le hc).2 h.1
      have h2 : t / c < j + 1 := Nat.div_lt_of_lt_mul (by rw [Nat.mul_comm, Nat.add_mul, Nat.one_mul]; exact h.2)
      omega
    have e2 : t - j * c = t % c := by rw [e] at hp; omega
    rw [if_pos h, if_pos (by omega), e, e2]
  · rw [if_neg h]
    by_cases h2 : t / c < j
    · rw [if_pos h2, if_pos (by omega)]
    · rw [if_neg h2, if_neg]
      intro h3
      have e : t / c = j := by omega
      rw [e] at hp
      exact h ⟨by omega, by omega⟩

theorem IS.grown {k : IntKind} {w w' : World} {row : Option Nat} {b off n c : Nat} {Z : Nat → Int} (h : IS k w (some ⟨b, off, none⟩) n c Z) (hg : w.grownBy w' row) (hr : ∀ g, row = some g → b ≠ g) : IS k w' (some ⟨b, off, none⟩) n c Z :=
  ⟨h.1, h.2.1, fun i hi => by
    obtain ⟨b', off', e, hl, hc, hw⟩ := h.2.2 i hi
    simp only [Option.some.injEq, Addr.mk.injEq, and_true] at e
    obtain ⟨rfl, rfl⟩ := e
    exact ⟨b, off, rfl, Nat.lt_of_lt_of_le hl hg.size, (World.cell?_of_block (a := ⟨b, off + i, none⟩) (hg.block b hl (fun e => hr b e.symm rfl))).trans hc, hw⟩⟩
theorem ne_lenI {n2 : Nat} {R : Int} (h : ¬ (n2 : Int) = R) : ((n2 : Int) != R) = true := by
  simp [bne, beq_eq_false_iff_ne.2 h]
theorem implOrderRows_no (R C : Int) (a b : Option Addr) (n c n2 d : Nat) (Z : Nat → Nat) (L : Nat → Int) (w : World) (hn : n ≤ 1048576) (hm : n2 ≤ 1048576) (h : FS .f32 w a n c Z) (h2 : IS .i64 w b n2 d L) (ho : orOk R C n n2 Z L = false) :
    Calls Try.prog 22 #[.agg #[.int .i64 R, .int .i64 C, .slice a n c], .slice b n2 d] w (MatOwn false 0 0 0 (fun _ => none) w) := by
  cases hv : validB R C n (vals Z) with
  | false =>
    clear ho
    go_enter Try.func22, Try.ntmps22
    go_wp2_with fail
    go_at_call 38
    refine (implValid_any R C a n c Z _ hn (h.below (by repeat first | (with_reducible exact Below.refl _ _) | (with_reducible refine Below.setCell ?_ (by first | exact Nat.le_refl _ | (simp; done) | (simp; omega) | omega) _) | (with_reducible refine Below.alloc ?_ (by first | exact Nat.le_refl _ | (simp; done) | (simp; omega) | omega) _) | (with_reducible refine below_drewN ?_ _) | (with_reducible refine Below.drew ?_)) (Nat.le_refl _))).mono ?_
    rintro e w1 ⟨rfl, b1⟩
    have B1 : Below w.heap.size w w1 := Below.trans (by repeat first | (with_reducible exact Below.refl _ _) | (with_reducible refine Below.setCell ?_ (by first | exact Nat.le_refl _ | (simp; done) | (simp; omega) | omega) _) | (with_reducible refine Below.alloc ?_ (by first | exact Nat.le_refl _ | (simp; done) | (simp; omega) | omega) _) | (with_reducible refine below_drewN ?_ _) | (with_reducible refine Below.drew ?_)) (b1.mono (by simp <;> omega))
    obtain ⟨hc, hf⟩ := bcell b1
    have s1 : w.heap.size + 1 + 1 ≤ w1.heap.size := by have := b1.size; simp at this; omega
    go_wp2_with fail
    refine bodyPost_ret (v := .tuple #[.agg #[.int .i64 0, .int .i64 0, .slice none 0 0], .bool false]) (by simp [results, Try.results22, go_sem, hc]) rfl ?_
    exact ⟨none, 0, fun _ => 0, rfl, .inl ⟨rfl, rfl, rfl⟩, fun i hi => by omega, (by repeat first | (with_reducible exact B1) | (with_reducible refine Below.setCell ?_ (by first | exact Nat.le_refl _ | (simp; done) | (simp; omega) | omega) _) | (with_reducible refine Below.alloc ?_ (by first | exact Nat.le_refl _ | (simp; done) | (simp; omega) | omega) _) | (with_reducible refine below_drewN ?_ _) | (with_reducible refine Below.drew ?_))⟩
  | true =>
    have HV := Lib.hid hv
    have hcase : ordB L n2 = false ∨ (ordB L n2 = true ∧ ¬ (n2 : Int) = R) := by
      cases hL : ordB L n2 with
      | false => exact .inl rfl
      | true =>
        refine .inr ⟨rfl, fun e => ?_⟩
        unfold orOk at ho
        rw [HV.out, hL, decide_eq_true e] at ho
        cases ho
    clear ho
    rcases hcase with hL | ⟨hL, hne⟩
    all_goals
      try (have hd := ne_lenI hne; have hne' := Lib.hid hne; clear hne)
      go_enter Try.func22, Try.ntmps22
      go_wp2_with fail
      go_at_call 38
      refine (implValid_any R C a n c Z _ hn (h.below (by repeat first | (with_reducible exact Below.refl _ _) | (with_reducible refine Below.setCell ?_ (by first | exact Nat.le_refl _ | (simp; done) | (simp; omega) | omega) _) | (with_reducible refine Below.alloc ?_ (by first | exact Nat.le_refl _ | (simp; done) | (simp; omega) | omega) _) | (with_reducible refine below_drewN ?_ _) | (with_reducible refine Below.drew ?_)) (Nat.le_refl _))).mono ?_
      rintro e w1 ⟨rfl, b1⟩
      have B1 : Below w.heap.size w w1 := Below.trans (by repeat first | (with_reducible exact Below.refl _ _) | (with_reducible refine Below.setCell ?_ (by first | exact Nat.le_refl _ | (simp; done) | (simp; omega) | omega) _) | (with_reducible refine Below.alloc ?_ (by first | exact Nat.le_refl _ | (simp; done) | (simp; omega) | omega) _) | (with_reducible refine below_drewN ?_ _) | (with_reducible refine Below.drew ?_)) (b1.mono (by simp <;> omega))
      have s1 : w.heap.size + 1 + 1 ≤ w1.heap.size := by have := b1.size; simp at this; omega
      have X1 : Box w1 w.heap.size R C a n c := by
        obtain ⟨hc, hf⟩ := bcell b1
        refine ⟨?_, ?_, ?_⟩ <;> (rw [hc _ _ (by simp <;> omega)]; simp [go_sem])
      have Z1 : Box w1 (w.heap.size + 1) 0 0 none 0 0 := by
        obtain ⟨hc, hf⟩ := bcell b1
        refine ⟨?_, ?_, ?_⟩ <;> (rw [hc _ _ (by simp <;> omega)]; simp [go_sem])
      have I1 : ∀ i, w1.frozen? ⟨w.heap.size + 1, i, none⟩ = false := fun i => by rw [(bcell b1).2 _ _ (by simp <;> omega)]; simp [go_sem]
      clear b1
      go_wp2_with fail
      go_at_call 11
      refine (implOrder_any b n2 d L _ hm (h2.below B1 (Nat.le_refl _))).mono ?_
      rintro e w2 ⟨rfl, b2⟩
      have B2 := B1.trans (b2.mono B1.size)
      have s2 := b2.size
      obtain ⟨x0, x1, x2⟩ := X1.below b2 (by omega)
      obtain ⟨z0, z1, z2⟩ := Z1.below b2 (by omega)
      have I2 : ∀ i, w2.frozen? ⟨w.heap.size + 1, i, none⟩ = false := fun i => (b2.frozen (p := ⟨w.heap.size + 1, i, none⟩) (by show w.heap.size + 1 < w1.heap.size; omega)).trans (I1 i)
      clear b2 B1 X1 Z1 I1
      go_wp2_with fail
      refine bodyPost_ret (v := .tuple #[.agg #[.int .i64 0, .int .i64 0, .slice none 0 0], .bool false]) (by simp [results, Try.results22, go_sem, z0, z1, z2]) rfl ?_
      exact ⟨none, 0, fun _ => 0, rfl, .inl ⟨rfl, rfl, rfl⟩, fun i hi => by omega, (by repeat first | (with_reducible exact B2) | (with_reducible refine Below.setCell ?_ (by first | exact Nat.le_refl _ | (simp; done) | (simp; omega) | omega) _) | (with_reducible refine Below.alloc ?_ (by first | exact Nat.le_refl _ | (simp; done) | (simp; omega) | omega) _) | (with_reducible refine below_drewN ?_ _) | (with_reducible refine Below.drew ?_))⟩
set_option maxRecDepth 20000 in
set_option maxHeartbeats 2000000 in
theorem implOrderRows_yes (r c n p2 o2 b off cap d : Nat) (Z : Nat → Nat) (L : Nat → Int) (w : World) (hr1 : 1 ≤ r) (hr : r ≤ 12) (hc1 : 1 ≤ c) (hc : c ≤ 12) (hn : n = r * c) (hv : validB r c n (vals Z) = true) (hL : ordB L r = true)
    (h : FS .f32 w (some ⟨b, off, none⟩) n cap Z) (h2 : IS .i64 w (some ⟨p2, o2, none⟩) r d L) :
    Calls Try.prog 22 #[.agg #[.int .i64 r, .int .i64 c, .slice (some ⟨b, off, none⟩) n cap], .slice (some ⟨p2, o2, none⟩) r d] w (MatOwn true r c n (fun t => vals (ordZ c L Z) t) w) := by
  have hn144 : n ≤ 144 := by have := sides_le hr hc; omega
  have hN := Lib.hid hn
  have hcap := h.1
  have hmax : cap ≤ 9223372036854775807 := by have := h.2.1; unfold maxLen at this; omega
  have hd : ((r : Int) != (r : Int)) = false := by simp
  have hLt : Hid (∀ i, i < r → 0 ≤ L i ∧ L i < r) := Lib.hid fun i hi => by
    unfold ordB at hL
    simp only [Bool.and_eq_true, decide_eq_true_eq] at hL
    exact okTo_lt hL.2.2 hi
  clear hn
  go_enter Try.func22, Try.ntmps22
  go_wp2_with fail
  go_at_call 38
  refine (implValid_any r c _ n cap Z _ (by omega) (h.below (by repeat first | (with_reducible exact Below.refl _ _) | (with_reducible refine Below.setCell ?_ (by first | exact Nat.le_refl _ | (simp; done) | (simp; omega) | omega) _) | (with_reducible refine Below.alloc ?_ (by first | exact Nat.le_refl _ | (simp; done) | (simp; omega) | omega) _) | (with_reducible refine below_drewN ?_ _) | (with_reducible refine Below.drew ?_)) (Nat.le_refl _))).mono ?_
  rintro e w1 ⟨rfl, b1⟩
  have B1 : Below w.heap.size w w1 := Below.trans (by repeat first | (with_reducible exact Below.refl _ _) | (with_reducible refine Below.setCell ?_ (by first | exact Nat.le_refl _ | (simp; done) | (simp; omega) | omega) _) | (with_reducible refine Below.alloc ?_ (by first | exact Nat.le_refl _ | (simp; done) | (simp; omega) | omega) _) | (with_reducible refine below_drewN ?_ _) | (with_reducible refine Below.drew ?_)) (b1.mono (by simp <;> omega))
  have s1 : w.heap.size + 1 + 1 ≤ w1.heap.size := by have := b1.size; simp at this; omega
  have X1 : Box w1 w.heap.size r c (some ⟨b, off, none⟩) n cap := by
    obtain ⟨hc, hf⟩ := bcell b1
    refine ⟨?_, ?_, ?_⟩ <;> (rw [hc _ _ (by simp <;> omega)]; simp [go_sem])
  have Z1 : Box w1 (w.heap.size + 1) 0 0 none 0 0 := by
    obtain ⟨hc, hf⟩ := bcell b1
    refine ⟨?_, ?_, ?_⟩ <;> (rw [hc _ _ (by simp <;> omega)]; simp [go_sem])
  have I1 : ∀ i, w1.frozen? ⟨w.heap.size + 1, i, none⟩ = false := fun i => by rw [(bcell b1).2 _ _ (by simp <;> omega)]; simp [go_sem]
  clear b1
  go_wp2_with fail
  go_at_call 11
  refine (implOrder_any _ r d L _ (by omega) (h2.below B1 (Nat.le_refl _))).mono ?_
  rintro e w2 ⟨rfl, b2⟩
  have B2 := B1.trans (b2.mono B1.size)
  have s2 := b2.size
  have X2 := X1.below b2 (by omega)
  have Z2 := Z1.below b2 (by omega)
  have I2 : ∀ i, w2.frozen? ⟨w.heap.size + 1, i, none⟩ = false := fun i => (b2.frozen (p := ⟨w.heap.size + 1, i, none⟩) (by show w.heap.size + 1 < w1.heap.size; omega)).trans (I1 i)
  obtain ⟨x0, x1, x2⟩ := X2
  clear b2 B1 X1 Z1 I1
  go_wp2_with fail
  go_at_call 39
  refine (newMatrix_any r c n _ hr hc hN.out).mono ?_
  rintro e w3 ⟨g, rfl, o3, b3⟩
  have B3 := B2.trans (b3.mono B2.size)
  have s3 := b3.size
  have X3 := (show Box w2 w.heap.size r c (some ⟨b, off, none⟩) n cap from ⟨x0, x1, x2⟩).below b3 (by omega)
  have Z3 := Z2.below b3 (by omega)
  have I3 : ∀ i, w3.frozen? ⟨w.heap.size + 1, i, none⟩ = false := fun i => (b3.frozen (p := ⟨w.heap.size + 1, i, none⟩) (by show w.heap.size + 1 < w2.heap.size; omega)).trans (I2 i)
  have hpos : 0 < n := by rw [hN.out]; exact Nat.mul_pos hr1 hc1
  obtain ⟨_, _, hBg, hgU, _, _⟩ := o3.cell hpos
  have F3 := h.below B3 (Nat.le_refl _)
  have L3 := h2.below B3 (Nat.le_refl _)
  clear b3 B2 x0 x1 x2 Z2 I2 hv hL
  go_wp2_with fail
  have b4 : Below w3.heap.size w3 (w3.alloc (.cells #[.int .i64 r, .int .i64 c, .slice (some ⟨g, 0, none⟩) n n] 35)) := (by repeat first | (with_reducible exact Below.refl _ _) | (with_reducible refine Below.setCell ?_ (by first | exact Nat.le_refl _ | (simp; done) | (simp; omega) | omega) _) | (with_reducible refine Below.alloc ?_ (by first | exact Nat.le_refl _ | (simp; done) | (simp; omega) | omega) _) | (with_reducible refine below_drewN ?_ _) | (with_reducible refine Below.drew ?_))
  have U4 := Box.new w3 35 r c (some ⟨g, 0, none⟩) n n
  have hs4 : w3.heap.size < (w3.alloc (.cells #[.int .i64 r, .int .i64 c, .slice (some ⟨g, 0, none⟩) n n] 35)).heap.size := by simp
  generalize w3.alloc (.cells #[.int .i64 r, .int .i64 c, .slice (some ⟨g, 0, none⟩) n n] 35) = w4 at b4 U4 hs4 ⊢
  have X4 := X3.below b4 (by omega)
  have Z4 := Z3.below b4 (by omega)
  have I4 : ∀ i, w4.frozen? ⟨w.heap.size + 1, i, none⟩ = false := fun i => (b4.frozen (p := ⟨w.heap.size + 1, i, none⟩) (by show w.heap.size + 1 < w3.heap.size; omega)).trans (I3 i)
  have o4 := o3.kept (below_grew b4) (fun q hq => by cases hq)
  have B4 := B3.trans (b4.mono B3.size)
  have F4 := F3.below b4 (Nat.le_refl _)
  have L4 := L3.below b4 (Nat.le_refl _)
  obtain ⟨_, _, e, hbb, _, _⟩ := h.at hpos
  simp only [Option.some.injEq, Addr.mk.injEq, and_true] at e
  obtain ⟨rfl, rfl⟩ := e
  obtain ⟨_, _, e, hbp, _, _⟩ := h2.at (show 0 < r by omega)
  simp only [Option.some.injEq, Addr.mk.injEq, and_true] at e
  obtain ⟨rfl, rfl⟩ := e
  clear b4 X3 Z3 I3 o3 B3 F3 L3 hd h h2
  go_loopw [32] (fun i wr => ∃ (j : Nat) (X : Nat → Nat), j ≤ r ∧ i = .int .i64 j ∧ Own 44 .f32 w2.heap.size w3.heap.size wr (some ⟨g, 0, none⟩) n n X ∧ (∀ t, t < n → X t = ordP c j L Z t) ∧ w4.grownBy wr (some g)) (fun i _ => r - (intOf i).toNat)
  case atStart => exact ⟨0, _, Nat.zero_le _, rfl, o4, fun t ht => by unfold ordP; rw [if_neg (Nat.not_lt_zero _)], World.grownBy.refl _ _⟩
  case round =>
    obtain ⟨j, X, hj, rfl, ho, hX, hg⟩ := hrel
    have HX := Lib.hid hX
    clear o4 hX
    have hsr := hg.size
    by_cases hlt : j < r
    · have XA := X4.grown hg (by omega) (fun q hq => by cases hq; omega)
      have XU := U4.grown hg (by omega) (fun q hq => by cases hq; omega)
      have FZ := F4.grown hg (fun q hq => by cases hq; omega)
      have LI := L4.grown hg (fun q hq => by cases hq; omega)
      obtain ⟨b', off', e, _, hcl, _⟩ := LI.at hlt
      simp only [Option.some.injEq, Addr.mk.injEq, and_true] at e
      obtain ⟨rfl, rfl⟩ := e
      obtain ⟨hl0, hl1⟩ := hLt.out j hlt
      obtain ⟨k, hk⟩ : ∃ k : Nat, L j = k := ⟨(L j).toNat, by omega⟩
      have hkr : k < r := by omega
      rw [hk] at hcl
      have HK := Lib.hid hk
      clear hk hl0 hl1
      go_wp2
      refine wp_region_kinds (fun w' => Below wr.heap.size wr w') (fun _ => 0) 6 (below_drewN (Below.refl _ _) 1) (by kernel_rfl) (by kernel_rfl) (by kernel_rfl) ?_
      simp only [List.take_succ_cons, List.take_zero, List.drop_succ_cons, List.drop_zero]
      refine wpKinds_run (.agg #[.int .i64 r, .int .i64 c, .slice (some ⟨g, 0, none⟩) n n]) rfl rfl ?_ ?_
      · intro W hW
        obtain ⟨u0, u1, u2⟩ := XU.below hW (by omega)
        simp [go_sem, BigFrame.eval_const, BigFrame.eval_global, BigFrame.eval_func, u0, u1, u2]
      simp only [Act.put, List.setIfInBounds_toArray, List.set_cons_succ, List.set_cons_zero]
      refine wpKinds_plain rfl rfl rfl (fun K hK => ?_)
      go_big_quiet_op
      refine hK _ ?_
      clear hK K
      refine wpKinds_call (f := 40) (args := #[.agg #[.int .i64 r, .int .i64 c, .slice (some ⟨g, 0, none⟩) n n], .int .i64 j]) (.slice (some ⟨g, 0 + j * c, none⟩) c c) rfl rfl ?_ (by kernel_rfl) ?_ ?_
      · intro W
        simp [go_sem, BigFrame.eval_const, BigFrame.eval_global, BigFrame.eval_func]
      · intro W hW
        refine (rowOf_any g 0 r c n n j W hr hc1 hc hN.out (Nat.le_refl _) (by omega) hlt).mono ?_
        rintro e w' ⟨rfl, hb⟩
        exact ⟨rfl, hW.trans (hb.mono hW.size)⟩
      simp only [Act.put, List.setIfInBounds_toArray, List.set_cons_succ, List.set_cons_zero]
      refine wpKinds_run (.agg #[.int .i64 r, .int .i64 c, .slice (some ⟨b, off, none⟩) n cap]) rfl rfl ?_ ?_
      · intro W hW
        obtain ⟨u0, u1, u2⟩ := XA.below hW (by omega)
        simp [go_sem, BigFrame.eval_const, BigFrame.eval_global, BigFrame.eval_func, u0, u1, u2]
      simp only [Act.put, List.setIfInBounds_toArray, List.set_cons_succ, List.set_cons_zero]
      refine wpKinds_plain rfl rfl rfl (fun K hK => ?_)
      go_big_quiet_op
      refine hK _ ?_
      clear hK K
      refine wpKinds_call (f := 40) (args := #[.agg #[.int .i64 r, .int .i64 c, .slice (some ⟨b, off, none⟩) n cap], .int .i64 k]) (.slice (some ⟨b, off + k * c, none⟩) c c) rfl rfl ?_ (by kernel_rfl) ?_ ?_
      · intro W
        simp [go_sem, BigFrame.eval_const, BigFrame.eval_global, BigFrame.eval_func]
      · intro W hW
        refine (rowOf_any b off r c n cap k W hr hc1 hc hN.out hcap hmax hkr).mono ?_
        rintro e w' ⟨rfl, hb⟩
        exact ⟨rfl, hW.trans (hb.mono hW.size)⟩
      simp only [Act.put, List.setIfInBounds_toArray, List.set_cons_succ, List.set_cons_zero]
      refine wpKinds_nil ?_
      intro w' hC
      have O' := ho.kept (below_grew hC) (fun q hq => by cases hq)
      obtain ⟨cur, hcur, hsz, _⟩ := O'.block
      have hjc := place_lt (c := c) hlt (show c - 1 < c by omega)
      rw [← hN.out] at hjc
      have FR := (FZ.below hC (Nat.le_refl _)).row hN.out hkr c (Nat.le_refl _) (by unfold maxLen; omega)
      have hwf : ∀ t, t < c → (Lit.float .f32 (Z (k * c + t))).wf = true := fun t ht => (FR.at ht).elim fun _ q => q.elim fun _ q => q.2.2.2.2
      obtain ⟨O5, G5⟩ := O'.paste (off := 0 + j * c) (m := c) (Y := fun t => Z (k * c + t)) (by omega) hwf hcur
      refine wpList_copy_own rfl (.tmp 39) (.tmp 42) _ _ rfl 44 Try.underlying31 (by kernel_rfl) g (0 + j * c) c c ⟨b, off + k * c, none⟩ c c rfl rfl cur 44 hcur (cellsOf32 (fun t => Z (k * c + t)) c) (by rw [cells32_len]; exact (Nat.min_self c).symm) ?_ (by rw [cells32_len, hsz]; omega) cells32_one ?_
      · intro i v hi
        rw [Addr.add_lit]
        exact cells32_cell FR i v hi
      rw [cells32_len]
      rw [Nat.zero_add] at O5 G5
      have O6 := Lib.hid O5
      have G6 := Lib.hid (grownBy_trans hg (grownBy_trans (⟨hC.os, hC.tape, hC.output, hC.size, fun k hk _ => hC.block k hk⟩ : wr.grownBy w' (some g)) G5))
      clear O5 G5 ho hg O' FR hcur FZ XA XU LI
      go_wp2
      go_roundw
      case rel =>
        refine ⟨j + 1, _, by omega, by go_num, O6.out, fun t ht => ?_, G6.out⟩
        rw [← ordP_next hc1 t, HK.out]
        unfold pasted
        by_cases e : j * c ≤ t ∧ t < j * c + c
        · rw [if_pos e, if_pos e]; rfl
        · rw [if_neg e, if_neg e]; exact HX.out t ht
      case measure => simp [intOf]; omega
    · obtain rfl : j = r := by omega
      obtain ⟨u0, u1, u2⟩ := U4.grown hg (by omega) (fun q hq => by cases hq; omega)
      obtain ⟨z0, z1, z2⟩ := Z4.grown hg (by omega) (fun q hq => by cases hq; omega)
      have I5 : ∀ i, wr.frozen? ⟨w.heap.size + 1, i, none⟩ = false := fun i => (World.frozen?_of_block (a := ⟨w.heap.size + 1, i, none⟩) (hg.block (w.heap.size + 1) (by omega) (fun e => by cases e; omega))).trans (I4 i)
      have o5 := ho.same (Y := ordZ c L Z) fun t ht => by
        rw [HX.out t ht]
        unfold ordP ordZ
        rw [if_pos (Nat.div_lt_of_lt_mul (by rw [Nat.mul_comm, ← hN.out]; exact ht))]
      have B5 := B4.grown hg B4.size (fun q hq => by cases hq; omega)
      clear ho hg
      go_wp2_with fail
      refine bodyPost_ret (v := .tuple #[.agg #[.int .i64 j, .int .i64 c, .slice (some ⟨g, 0, none⟩) n n], .bool true]) (by simp [results, Try.results22, go_sem, z0, z1, z2]) rfl ?_
      exact ⟨_, _, _, rfl, (by refine Own.to o5 (hk := fun g hg1 hg2 => by (try simp at hg1 hg2); repeat (first | rw [Below.heap_setCell _ _ _ _ (by simp; omega)] | rw [Below.heap_alloc _ _ _ (by simp [World.setCell]; omega)])) ?_ ?_ ?_ ?_ <;> (first | exact Nat.le_refl _ | omega | (simp [World.setCell]; done) | (simp [World.setCell]; omega))), fun i hi => rfl, (by repeat first | (with_reducible exact B5) | (with_reducible refine Below.setCell ?_ (by first | exact Nat.le_refl _ | (simp; done) | (simp; omega) | omega) _) | (with_reducible refine Below.alloc ?_ (by first | exact Nat.le_refl _ | (simp; done) | (simp; omega) | omega) _) | (with_reducible refine below_drewN ?_ _) | (with_reducible refine Below.drew ?_))⟩
end Go.Proofs.Ytffmjfgechdjjaa
