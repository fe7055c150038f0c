/- Helper: a matrix into which a part is put, of the program: it is told. Conditions: none. -/
import Derived.Test.YtcldaafmbmmhiaaPutDefs
set_option linter.unusedVariables false
set_option linter.unusedSimpArgs false
namespace Go.Proofs.Ytcldaafmbmmhiaa
open Go.RowKit

set_option maxRecDepth 20000 in
set_option maxHeartbeats 2000000 in
theorem implPut_yes (r c n b off cap p q m b2 off2 cap2 x y : Nat) (Z Y : Nat → Nat) (w : World) (hr1 : 1 ≤ r) (hr : r ≤ 12) (hc1 : 1 ≤ c) (hc : c ≤ 12) (hn : n = r * c) (hp1 : 1 ≤ p) (hp : p ≤ 12) (hq1 : 1 ≤ q) (hq : q ≤ 12) (hm : m = p * q) (hx : x + p ≤ r) (hy : y + q ≤ c)
    (hvA : validB r c n (vals Z) = true) (hvB : validB p q m (vals Y) = true) (hli : (liB r p x && liB c q y) = true) (h : FS .f32 w (some ⟨b, off, none⟩) n cap Z) (h2 : FS .f32 w (some ⟨b2, off2, none⟩) m cap2 Y) :
    Calls Try.prog 18 #[.agg #[.int .i64 r, .int .i64 c, .slice (some ⟨b, off, none⟩) n cap], .agg #[.int .i64 p, .int .i64 q, .slice (some ⟨b2, off2, none⟩) m cap2], .int .i64 x, .int .i64 y] w (MatOwn true r c n (fun t => vals (putP c q p x y Y Z) t) w) := by
  have hM := Lib.hid hm
  have hm144 : m ≤ 144 := by have := sides_le hp hq; omega
  have hn144 : n ≤ 144 := by have := sides_le hr hc; omega
  have hN := Lib.hid hn
  have hcap := h.1
  have hmax : cap ≤ 9223372036854775807 := by have := h.2.1; unfold maxLen at this; omega
  have hcap2 := h2.1
  have hmax2 : cap2 ≤ 9223372036854775807 := by have := h2.2.1; unfold maxLen at this; omega
  clear hn hm
  go_enter Try.func18, Try.ntmps18
  go_wp2_with fail
  have XA : Box (((w.alloc (.cells #[.int .i64 r, .int .i64 c, .slice (some ⟨b, off, none⟩) n cap] 26)).alloc (.cells #[.int .i64 p, .int .i64 q, .slice (some ⟨b2, off2, none⟩) m cap2] 26)).alloc (.cells #[.int .i64 0, .int .i64 0, .slice none 0 0] 26)) w.heap.size r c (some ⟨b, off, none⟩) n cap := by refine ⟨?_, ?_, ?_⟩ <;> simp [go_sem]
  have XB : Box (((w.alloc (.cells #[.int .i64 r, .int .i64 c, .slice (some ⟨b, off, none⟩) n cap] 26)).alloc (.cells #[.int .i64 p, .int .i64 q, .slice (some ⟨b2, off2, none⟩) m cap2] 26)).alloc (.cells #[.int .i64 0, .int .i64 0, .slice none 0 0] 26)) (w.heap.size + 1) p q (some ⟨b2, off2, none⟩) m cap2 := by refine ⟨?_, ?_, ?_⟩ <;> simp [go_sem]
  have XR : Box (((w.alloc (.cells #[.int .i64 r, .int .i64 c, .slice (some ⟨b, off, none⟩) n cap] 26)).alloc (.cells #[.int .i64 p, .int .i64 q, .slice (some ⟨b2, off2, none⟩) m cap2] 26)).alloc (.cells #[.int .i64 0, .int .i64 0, .slice none 0 0] 26)) (w.heap.size + 1 + 1) 0 0 none 0 0 := by refine ⟨?_, ?_, ?_⟩ <;> simp [go_sem]
  have IR : ∀ i, ((((w.alloc (.cells #[.int .i64 r, .int .i64 c, .slice (some ⟨b, off, none⟩) n cap] 26)).alloc (.cells #[.int .i64 p, .int .i64 q, .slice (some ⟨b2, off2, none⟩) m cap2] 26)).alloc (.cells #[.int .i64 0, .int .i64 0, .slice none 0 0] 26))).frozen? ⟨w.heap.size + 1 + 1, i, none⟩ = false := fun i => by simp [go_sem]
  have B0 : Below w.heap.size w (((w.alloc (.cells #[.int .i64 r, .int .i64 c, .slice (some ⟨b, off, none⟩) n cap] 26)).alloc (.cells #[.int .i64 p, .int .i64 q, .slice (some ⟨b2, off2, none⟩) m cap2] 26)).alloc (.cells #[.int .i64 0, .int .i64 0, .slice none 0 0] 26)) := (by repeat first | (with_reducible exact Below.refl _ _) | (with_reducible refine Below.setCell ?_ (by first | exact Nat.le_refl _ | (simp; done) | (simp; omega) | omega) _) | (with_reducible refine Below.alloc ?_ (by first | exact Nat.le_refl _ | (simp; done) | (simp; omega) | omega) _) | (with_reducible refine below_drewN ?_ _) | (with_reducible refine Below.drew ?_))
  have s0 : ((((w.alloc (.cells #[.int .i64 r, .int .i64 c, .slice (some ⟨b, off, none⟩) n cap] 26)).alloc (.cells #[.int .i64 p, .int .i64 q, .slice (some ⟨b2, off2, none⟩) m cap2] 26)).alloc (.cells #[.int .i64 0, .int .i64 0, .slice none 0 0] 26))).heap.size = w.heap.size + 1 + 1 + 1 := by simp
  generalize (((w.alloc (.cells #[.int .i64 r, .int .i64 c, .slice (some ⟨b, off, none⟩) n cap] 26)).alloc (.cells #[.int .i64 p, .int .i64 q, .slice (some ⟨b2, off2, none⟩) m cap2] 26)).alloc (.cells #[.int .i64 0, .int .i64 0, .slice none 0 0] 26)) = w0 at *
  have FA := h.below B0 (Nat.le_refl _)
  have FB := h2.below B0 (Nat.le_refl _)
  refine wp_region_kinds (fun w' => Below w0.heap.size w0 w') (fun _ => 0) 17 (below_drewN (Below.refl _ _) 1) (by kernel_rfl) (by kernel_rfl) (by kernel_rfl) ?_
  simp only [List.take_succ_cons, List.take_zero, List.drop_succ_cons, List.drop_zero]
  refine wpKinds_run (.agg #[.int .i64 r, .int .i64 c, .slice (some ⟨b, off, none⟩) n cap]) rfl rfl ?_ ?_
  · intro W hW
    obtain ⟨u0, u1, u2⟩ := XA.below hW (by omega)
    simp [go_sem, BigFrame.eval_const, BigFrame.eval_global, BigFrame.eval_func, u0, u1, u2]
  simp only [Act.put, List.setIfInBounds_toArray, List.set_cons_succ, List.set_cons_zero]
  refine wpKinds_call (f := 52) (args := #[.agg #[.int .i64 r, .int .i64 c, .slice (some ⟨b, off, none⟩) n cap]]) (.bool true) rfl rfl ?_ (by kernel_rfl) ?_ ?_
  · intro W
    simp [go_sem, BigFrame.eval_const, BigFrame.eval_global, BigFrame.eval_func]
  · intro W hW
    refine (implValid_any r c (some ⟨b, off, none⟩) n cap Z W (by omega) (FA.below hW (Nat.le_refl _))).mono ?_
    rintro e w' ⟨rfl, hb⟩
    rw [hvA]; exact ⟨rfl, hW.trans (hb.mono hW.size)⟩
  simp only [Act.put, List.setIfInBounds_toArray, List.set_cons_succ, List.set_cons_zero]
  refine wpKinds_run (.bool false) rfl rfl ?_ ?_
  · intro W hW
    simp [go_sem, BigFrame.eval_const, BigFrame.eval_global, BigFrame.eval_func]
  simp only [Act.put, List.setIfInBounds_toArray, List.set_cons_succ, List.set_cons_zero]
  refine wpKinds_run (.bool false) rfl rfl ?_ ?_
  · intro W hW
    simp [go_sem, BigFrame.eval_const, BigFrame.eval_global, BigFrame.eval_func]
  simp only [Act.put, List.setIfInBounds_toArray, List.set_cons_succ, List.set_cons_zero]
  refine wpKinds_run (.agg #[.int .i64 p, .int .i64 q, .slice (some ⟨b2, off2, none⟩) m cap2]) rfl rfl ?_ ?_
  · intro W hW
    obtain ⟨u0, u1, u2⟩ := XB.below hW (by omega)
    simp [go_sem, BigFrame.eval_const, BigFrame.eval_global, BigFrame.eval_func, u0, u1, u2]
  simp only [Act.put, List.setIfInBounds_toArray, List.set_cons_succ, List.set_cons_zero]
  refine wpKinds_call (f := 52) (args := #[.agg #[.int .i64 p, .int .i64 q, .slice (some ⟨b2, off2, none⟩) m cap2]]) (.bool true) rfl rfl ?_ (by kernel_rfl) ?_ ?_
  · intro W
    simp [go_sem, BigFrame.eval_const, BigFrame.eval_global, BigFrame.eval_func]
  · intro W hW
    refine (implValid_any p q (some ⟨b2, off2, none⟩) m cap2 Y W (by omega) (FB.below hW (Nat.le_refl _))).mono ?_
    rintro e w' ⟨rfl, hb⟩
    rw [hvB]; exact ⟨rfl, hW.trans (hb.mono hW.size)⟩
  simp only [Act.put, List.setIfInBounds_toArray, List.set_cons_succ, List.set_cons_zero]
  refine wpKinds_run (.bool false) rfl rfl ?_ ?_
  · intro W hW
    simp [go_sem, BigFrame.eval_const, BigFrame.eval_global, BigFrame.eval_func]
  simp only [Act.put, List.setIfInBounds_toArray, List.set_cons_succ, List.set_cons_zero]
  refine wpKinds_run (.bool false) rfl rfl ?_ ?_
  · intro W hW
    simp [go_sem, BigFrame.eval_const, BigFrame.eval_global, BigFrame.eval_func]
  simp only [Act.put, List.setIfInBounds_toArray, List.set_cons_succ, List.set_cons_zero]
  refine wpKinds_run (.bool false) rfl rfl ?_ ?_
  · intro W hW
    simp [go_sem, BigFrame.eval_const, BigFrame.eval_global, BigFrame.eval_func]
  simp only [Act.put, List.setIfInBounds_toArray, List.set_cons_succ, List.set_cons_zero]
  refine wpKinds_run (.agg #[.int .i64 r, .int .i64 c, .slice (some ⟨b, off, none⟩) n cap]) rfl rfl ?_ ?_
  · intro W hW
    obtain ⟨u0, u1, u2⟩ := XA.below hW (by omega)
    simp [go_sem, BigFrame.eval_const, BigFrame.eval_global, BigFrame.eval_func, u0, u1, u2]
  simp only [Act.put, List.setIfInBounds_toArray, List.set_cons_succ, List.set_cons_zero]
  refine wpKinds_call (f := 54) (args := #[.agg #[.int .i64 r, .int .i64 c, .slice (some ⟨b, off, none⟩) n cap]]) (.agg #[.int .i64 r, .int .i64 c]) rfl rfl ?_ (by kernel_rfl) ?_ ?_
  · intro W
    simp [go_sem, BigFrame.eval_const, BigFrame.eval_global, BigFrame.eval_func]
  · intro W hW
    refine (sidesOf_any _ _ _ _ _ W).mono ?_
    rintro e w' ⟨rfl, hb⟩
    exact ⟨rfl, hW.trans (hb.mono hW.size)⟩
  simp only [Act.put, List.setIfInBounds_toArray, List.set_cons_succ, List.set_cons_zero]
  refine wpKinds_run (.agg #[.int .i64 p, .int .i64 q, .slice (some ⟨b2, off2, none⟩) m cap2]) rfl rfl ?_ ?_
  · intro W hW
    obtain ⟨u0, u1, u2⟩ := XB.below hW (by omega)
    simp [go_sem, BigFrame.eval_const, BigFrame.eval_global, BigFrame.eval_func, u0, u1, u2]
  simp only [Act.put, List.setIfInBounds_toArray, List.set_cons_succ, List.set_cons_zero]
  refine wpKinds_call (f := 54) (args := #[.agg #[.int .i64 p, .int .i64 q, .slice (some ⟨b2, off2, none⟩) m cap2]]) (.agg #[.int .i64 p, .int .i64 q]) rfl rfl ?_ (by kernel_rfl) ?_ ?_
  · intro W
    simp [go_sem, BigFrame.eval_const, BigFrame.eval_global, BigFrame.eval_func]
  · intro W hW
    refine (sidesOf_any _ _ _ _ _ W).mono ?_
    rintro e w' ⟨rfl, hb⟩
    exact ⟨rfl, hW.trans (hb.mono hW.size)⟩
  simp only [Act.put, List.setIfInBounds_toArray, List.set_cons_succ, List.set_cons_zero]
  refine wpKinds_run (.int .i64 x) rfl rfl ?_ ?_
  · intro W hW
    simp [go_sem, BigFrame.eval_const, BigFrame.eval_global, BigFrame.eval_func]
  simp only [Act.put, List.setIfInBounds_toArray, List.set_cons_succ, List.set_cons_zero]
  refine wpKinds_run (.int .i64 y) rfl rfl ?_ ?_
  · intro W hW
    simp [go_sem, BigFrame.eval_const, BigFrame.eval_global, BigFrame.eval_func]
  simp only [Act.put, List.setIfInBounds_toArray, List.set_cons_succ, List.set_cons_zero]
  refine wpKinds_call (f := 53) (args := #[.agg #[.int .i64 r, .int .i64 c], .agg #[.int .i64 p, .int .i64 q], .int .i64 x, .int .i64 y]) (.bool true) rfl rfl ?_ (by kernel_rfl) ?_ ?_
  · intro W
    simp [go_sem, BigFrame.eval_const, BigFrame.eval_global, BigFrame.eval_func]
  · intro W hW
    refine (liesIn_any r c p q x y W (by omega) (by omega) (by omega) (by omega)).mono ?_
    rintro e w' ⟨rfl, hb⟩
    rw [hli]; exact ⟨rfl, hW.trans (hb.mono hW.size)⟩
  simp only [Act.put, List.setIfInBounds_toArray, List.set_cons_succ, List.set_cons_zero]
  refine wpKinds_run (.bool false) rfl rfl ?_ ?_
  · intro W hW
    simp [go_sem, BigFrame.eval_const, BigFrame.eval_global, BigFrame.eval_func]
  simp only [Act.put, List.setIfInBounds_toArray, List.set_cons_succ, List.set_cons_zero]
  refine wpKinds_nil ?_
  intro w1 hC
  have B1 := B0.trans (hC.mono B0.size)
  have s1 := hC.size
  have XA1 := XA.below hC (by omega)
  have XB1 := XB.below hC (by omega)
  have XR1 := XR.below hC (by omega)
  have I1 : ∀ i, w1.frozen? ⟨w.heap.size + 1 + 1, i, none⟩ = false := fun i => (hC.frozen (p := ⟨w.heap.size + 1 + 1, i, none⟩) (by show w.heap.size + 1 + 1 < w0.heap.size; omega)).trans (IR i)
  clear hC FA FB XA XB XR IR B0 hvA hvB hli
  obtain ⟨x0, x1, x2⟩ := XA1
  go_wp2_with fail
  go_at_call 55
  refine (newMatrix_any r c n _ hr hc hN.out).mono ?_
  rintro e w3 ⟨g, rfl, o3, b3⟩
  have B3 := B1.trans (b3.mono B1.size)
  have s3 := b3.size
  have XA3 := (show Box w1 w.heap.size r c (some ⟨b, off, none⟩) n cap from ⟨x0, x1, x2⟩).below b3 (by omega)
  have XB3 := XB1.below b3 (by omega)
  have XR3 := XR1.below b3 (by omega)
  have I3 : ∀ i, w3.frozen? ⟨w.heap.size + 1 + 1, i, none⟩ = false := fun i => (b3.frozen (p := ⟨w.heap.size + 1 + 1, i, none⟩) (by show w.heap.size + 1 + 1 < w1.heap.size; omega)).trans (I1 i)
  have hpos : 0 < n := by rw [hN.out]; exact Nat.mul_pos hr1 hc1
  have hposm : 0 < m := by rw [hM.out]; exact Nat.mul_pos hp1 hq1
  obtain ⟨_, _, hBg, hgU, _, _⟩ := o3.cell hpos
  have F3 := h.below B3 (Nat.le_refl _)
  have G3 := h2.below B3 (Nat.le_refl _)
  clear b3 B1 x0 x1 x2 XB1 XR1 I1
  obtain ⟨w4, hw4⟩ : ∃ w4, w4 = w3.alloc (.cells #[.int .i64 r, .int .i64 c, .slice (some ⟨g, 0, none⟩) n n] 26) := ⟨_, rfl⟩
  have b4 : Below w3.heap.size w3 w4 := by rw [hw4]; exact (by repeat first | (with_reducible exact Below.refl _ _) | (with_reducible refine Below.setCell ?_ (by first | exact Nat.le_refl _ | (simp; done) | (simp; omega) | omega) _) | (with_reducible refine Below.alloc ?_ (by first | exact Nat.le_refl _ | (simp; done) | (simp; omega) | omega) _) | (with_reducible refine below_drewN ?_ _) | (with_reducible refine Below.drew ?_))
  have U4 : Box w4 w3.heap.size r c (some ⟨g, 0, none⟩) n n := by rw [hw4]; exact Box.new w3 26 r c (some ⟨g, 0, none⟩) n n
  have hs4 : w3.heap.size < w4.heap.size := by rw [hw4]; simp
  have XA4 := XA3.below b4 (by omega)
  have XB4 := XB3.below b4 (by omega)
  have XR4 := XR3.below b4 (by omega)
  have I4 : ∀ i, w4.frozen? ⟨w.heap.size + 1 + 1, i, none⟩ = false := fun i => (b4.frozen (p := ⟨w.heap.size + 1 + 1, i, none⟩) (by show w.heap.size + 1 + 1 < w3.heap.size; omega)).trans (I3 i)
  have o4 := o3.kept (below_grew b4) (fun q hq => by cases hq)
  have B4 := B3.trans (b4.mono B3.size)
  have F4 := F3.below b4 (Nat.le_refl _)
  have G4 := G3.below b4 (Nat.le_refl _)
  obtain ⟨_, _, e, hbb, _, _⟩ := h.at hpos
  simp only [Option.some.injEq, Addr.mk.injEq, and_true] at e
  obtain ⟨rfl, rfl⟩ := e
  obtain ⟨_, _, e, hbb2, _, _⟩ := h2.at hposm
  simp only [Option.some.injEq, Addr.mk.injEq, and_true] at e
  obtain ⟨rfl, rfl⟩ := e
  clear XB3 XR3 I3 o3 B3 F3 G3 h h2
  obtain ⟨cur, hcur, hsz, _⟩ := o4.block
  obtain ⟨O5, G5⟩ := o4.paste (off := 0) (m := n) (Y := Z) (by omega) (fun t ht => (F4.at ht).elim fun _ q => q.elim fun _ q => q.2.2.2.2) hcur
  obtain ⟨w5, hw5⟩ : ∃ w5, w5 = World.setRow w4 g (cur.toList.take 0 ++ (cellsOf32 Z n ++ cur.toList.drop (0 + n))).toArray := ⟨_, rfl⟩
  rw [← hw5] at O5 G5
  have O6 := Lib.hid (O5.same (Y := Z) fun t ht => by unfold pasted; rw [if_pos (by omega)]; rfl)
  have XB5 := XB4.grown G5 (by omega) (fun q hq => by cases hq; omega)
  have XR5 := XR4.grown G5 (by omega) (fun q hq => by cases hq; omega)
  have U5 := U4.grown G5 (by omega) (fun q hq => by cases hq; omega)
  have I5 : ∀ i, w5.frozen? ⟨w.heap.size + 1 + 1, i, none⟩ = false := fun i => (World.frozen?_of_block (a := ⟨w.heap.size + 1 + 1, i, none⟩) (G5.block (w.heap.size + 1 + 1) (by omega) (fun e => by cases e; omega))).trans (I4 i)
  have B5 := Lib.hid (B4.grown G5 B4.size (fun q hq => by cases hq; omega))
  have F5 := Lib.hid (G4.grown G5 (fun q hq => by cases hq; omega))
  have s5 := G5.size
  have s35 : w3.heap.size < w5.heap.size := by omega
  have HC := Lib.hid hcur
  have HF := Lib.hid F4
  clear s5 hs4
  subst hw4
  obtain ⟨v0, v1, v2⟩ := XA4
  obtain ⟨y0, y1, y2⟩ := XB5
  obtain ⟨x0, x1, x2⟩ := XA3
  clear b4 O5 G5 hcur XB4 XR4 U4 I4 B4 F4 G4 o4
  go_wp2_with (refine wpList_copy_own rfl (.tmp 37) (.tmp 39) _ _ rfl 33 Try.underlying22 (by kernel_rfl) g 0 n n ⟨b, off, none⟩ n cap rfl rfl cur 33 HC.out (cellsOf32 Z n) (by rw [cells32_len]; exact (Nat.min_self n).symm) (fun i v hi => by rw [Addr.add_lit]; exact cells32_cell HF.out i v hi) (by rw [cells32_len, hsz]; omega) cells32_one ?_; rw [cells32_len]; rw [← hw5]; clear hw5 HC HF v0 v1 v2 x0 x1 x2)
  have XB5 : Box w5 (w.heap.size + 1) p q (some ⟨b2, off2, none⟩) m cap2 := ⟨y0, y1, y2⟩
  clear y0 y1 y2
  go_loopw [43] (fun i wr => ∃ (j : Nat) (X : Nat → Nat), j ≤ p ∧ i = .int .i64 j ∧ Own 33 .f32 w1.heap.size w3.heap.size wr (some ⟨g, 0, none⟩) n n X ∧ (∀ t, t < n → X t = putP c q j x y Y Z t) ∧ w5.grownBy wr (some g)) (fun i _ => p - (intOf i).toNat)
  case atStart => exact ⟨0, _, Nat.zero_le _, rfl, O6.out, fun t ht => by unfold putP; rw [if_neg (by omega)], World.grownBy.refl _ _⟩
  case round =>
    obtain ⟨j, X, hj, rfl, ho, hX, hg⟩ := hrel
    have HX := Lib.hid hX
    clear hX
    have hsr := hg.size
    by_cases hlt : j < p
    · have XU := U5.grown hg (by omega) (fun q hq => by cases hq; omega)
      have XQ := XB5.grown hg (by omega) (fun q hq => by cases hq; omega)
      have FY := F5.out.grown hg (fun q hq => by cases hq; omega)
      obtain ⟨k, hk⟩ : ∃ k : Nat, x + j = k := ⟨_, rfl⟩
      have hkr : k < r := by omega
      have hW0 : IntKind.i64.wrap ((x : Int) + (j : Int)) = (k : Int) := by
        have e : (x : Int) + (j : Int) = (k : Int) := by omega
        rw [e]; exact IntWalk.i64_in _ (by omega)
      have HK := Lib.hid hk
      clear hk
      have hyc : y < c := by omega
      have hyc2 : ¬ c = y := by omega
      go_wp2
      refine wp_region_kinds (fun w' => Below wr.heap.size wr w') (fun _ => 0) 10 (below_drewN (Below.refl _ _) 1) (by kernel_rfl) (by kernel_rfl) (by kernel_rfl) ?_
      simp only [List.take_succ_cons, List.take_zero, List.drop_succ_cons, List.drop_zero]
      refine wpKinds_run (.agg #[.int .i64 r, .int .i64 c, .slice (some ⟨g, 0, none⟩) n n]) rfl rfl ?_ ?_
      · intro W hW
        obtain ⟨u0, u1, u2⟩ := XU.below hW (by omega)
        simp [go_sem, BigFrame.eval_const, BigFrame.eval_global, BigFrame.eval_func, u0, u1, u2]
      simp only [Act.put, List.setIfInBounds_toArray, List.set_cons_succ, List.set_cons_zero]
      refine wpKinds_run (.int .i64 x) rfl rfl ?_ ?_
      · intro W hW
        simp [go_sem, BigFrame.eval_const, BigFrame.eval_global, BigFrame.eval_func]
      simp only [Act.put, List.setIfInBounds_toArray, List.set_cons_succ, List.set_cons_zero]
      refine wpKinds_run (.int .i64 j) rfl rfl ?_ ?_
      · intro W hW
        simp [go_sem, BigFrame.eval_const, BigFrame.eval_global, BigFrame.eval_func]
      simp only [Act.put, List.setIfInBounds_toArray, List.set_cons_succ, List.set_cons_zero]
      refine wpKinds_run (.int .i64 (k : Int)) rfl rfl ?_ ?_
      · intro W hW
        simp [go_sem, BigFrame.eval_const, BigFrame.eval_global, BigFrame.eval_func, hW0]
      simp only [Act.put, List.setIfInBounds_toArray, List.set_cons_succ, List.set_cons_zero]
      refine wpKinds_call (f := 56) (args := #[.agg #[.int .i64 r, .int .i64 c, .slice (some ⟨g, 0, none⟩) n n], .int .i64 k]) (.slice (some ⟨g, 0 + k * c, none⟩) c c) rfl rfl ?_ (by kernel_rfl) ?_ ?_
      · intro W
        simp [go_sem, BigFrame.eval_const, BigFrame.eval_global, BigFrame.eval_func]
      · intro W hW
        refine (rowOf_any g 0 r c n n k W hr hc1 hc hN.out (Nat.le_refl _) (by omega) hkr).mono ?_
        rintro e w' ⟨rfl, hb⟩
        exact ⟨rfl, hW.trans (hb.mono hW.size)⟩
      simp only [Act.put, List.setIfInBounds_toArray, List.set_cons_succ, List.set_cons_zero]
      refine wpKinds_run (.int .i64 y) rfl rfl ?_ ?_
      · intro W hW
        simp [go_sem, BigFrame.eval_const, BigFrame.eval_global, BigFrame.eval_func]
      simp only [Act.put, List.setIfInBounds_toArray, List.set_cons_succ, List.set_cons_zero]
      refine wpKinds_plain rfl rfl rfl (fun K hK => ?_)
      go_big_quiet_op
      refine ⟨_, fun _ _ => rfl, hK _ ?_⟩
      clear hK K
      refine wpKinds_run (.agg #[.int .i64 p, .int .i64 q, .slice (some ⟨b2, off2, none⟩) m cap2]) rfl rfl ?_ ?_
      · intro W hW
        obtain ⟨u0, u1, u2⟩ := XQ.below hW (by omega)
        simp [go_sem, BigFrame.eval_const, BigFrame.eval_global, BigFrame.eval_func, u0, u1, u2]
      simp only [Act.put, List.setIfInBounds_toArray, List.set_cons_succ, List.set_cons_zero]
      refine wpKinds_run (.int .i64 j) rfl rfl ?_ ?_
      · intro W hW
        simp [go_sem, BigFrame.eval_const, BigFrame.eval_global, BigFrame.eval_func]
      simp only [Act.put, List.setIfInBounds_toArray, List.set_cons_succ, List.set_cons_zero]
      refine wpKinds_call (f := 56) (args := #[.agg #[.int .i64 p, .int .i64 q, .slice (some ⟨b2, off2, none⟩) m cap2], .int .i64 j]) (.slice (some ⟨b2, off2 + j * q, none⟩) q q) rfl rfl ?_ (by kernel_rfl) ?_ ?_
      · intro W
        simp [go_sem, BigFrame.eval_const, BigFrame.eval_global, BigFrame.eval_func]
      · intro W hW
        refine (rowOf_any b2 off2 p q m cap2 j W hp hq1 hq hM.out hcap2 hmax2 hlt).mono ?_
        rintro e w' ⟨rfl, hb⟩
        exact ⟨rfl, hW.trans (hb.mono hW.size)⟩
      simp only [Act.put, List.setIfInBounds_toArray, List.set_cons_succ, List.set_cons_zero]
      refine wpKinds_nil ?_
      intro w' hC
      have O' := ho.kept (below_grew hC) (fun q hq => by cases hq)
      obtain ⟨cur, hcur, hsz, _⟩ := O'.block
      have hjc := place_lt (c := c) hkr (show y + (q - 1) < c by omega)
      rw [← hN.out] at hjc
      have FR := (FY.below hC (Nat.le_refl _)).row hM.out hlt q (Nat.le_refl _) (by unfold maxLen; omega)
      have hwf : ∀ t, t < q → (Lit.float .f32 (Y (j * q + t))).wf = true := fun t ht => (FR.at ht).elim fun _ q => q.elim fun _ q => q.2.2.2.2
      obtain ⟨O5, G5⟩ := O'.paste (off := k * c + y) (m := q) (Y := fun t => Y (j * q + t)) (by omega) hwf hcur
      refine wpList_copy_own rfl (.tmp 52) (.tmp 55) _ _ rfl 33 Try.underlying22 (by kernel_rfl) g (k * c + y) (c - y) (c - y) ⟨b2, off2 + j * q, none⟩ q q rfl rfl cur 33 hcur (cellsOf32 (fun t => Y (j * q + t)) q) (by rw [cells32_len]; exact (Nat.min_eq_left (by omega)).symm) ?_ (by rw [cells32_len, hsz]; omega) cells32_one ?_
      · intro i v hi
        rw [Addr.add_lit]
        exact cells32_cell FR i v hi
      rw [cells32_len]
      have O6 := Lib.hid O5
      have G6 := Lib.hid (grownBy_trans hg (grownBy_trans (⟨hC.os, hC.tape, hC.output, hC.size, fun k hk _ => hC.block k hk⟩ : wr.grownBy w' (some g)) G5))
      clear O5 G5 ho hg O' FR hcur FY XQ XU hW0 hyc hyc2
      go_wp2
      go_roundw
      case rel =>
        refine ⟨j + 1, _, by omega, by go_num, O6.out, fun t ht => ?_, G6.out⟩
        rw [← putP_next hy hq1 t, HK.out]
        unfold pasted
        by_cases e : k * c + y ≤ t ∧ t < k * c + y + q
        · rw [if_pos e, if_pos e]
        · rw [if_neg e, if_neg e]; exact HX.out t ht
      case measure => simp [intOf]; omega
    · obtain rfl : j = p := by omega
      obtain ⟨u0, u1, u2⟩ := U5.grown hg (by omega) (fun q hq => by cases hq; omega)
      obtain ⟨z0, z1, z2⟩ := XR5.grown hg (by omega) (fun q hq => by cases hq; omega)
      have I6 : ∀ i, wr.frozen? ⟨w.heap.size + 1 + 1, i, none⟩ = false := fun i => (World.frozen?_of_block (a := ⟨w.heap.size + 1 + 1, i, none⟩) (hg.block (w.heap.size + 1 + 1) (by omega) (fun e => by cases e; omega))).trans (I5 i)
      have o5 := ho.same (Y := putP c q j x y Y Z) HX.out
      have B6 := B5.out.grown hg B5.out.size (fun q hq => by cases hq; omega)
      clear ho hg
      go_wp2_with fail
      refine bodyPost_ret (v := .tuple #[.agg #[.int .i64 r, .int .i64 c, .slice (some ⟨g, 0, none⟩) n n], .bool true]) (by simp [results, Try.results18, go_sem, z0, z1, z2]) rfl ?_
      exact ⟨_, _, _, rfl, (by refine Own.to o5 (hk := fun g hg1 hg2 => by (try simp at hg1 hg2); repeat (first | rw [Below.heap_setCell _ _ _ _ (by simp; omega)] | rw [Below.heap_alloc _ _ _ (by simp [World.setCell]; omega)])) ?_ ?_ ?_ ?_ <;> (first | exact Nat.le_refl _ | omega | (simp [World.setCell]; done) | (simp [World.setCell]; omega))), fun i hi => rfl, (by repeat first | (with_reducible exact B6) | (with_reducible refine Below.setCell ?_ (by first | exact Nat.le_refl _ | (simp; done) | (simp; omega) | omega) _) | (with_reducible refine Below.alloc ?_ (by first | exact Nat.le_refl _ | (simp; done) | (simp; omega) | omega) _) | (with_reducible refine below_drewN ?_ _) | (with_reducible refine Below.drew ?_))⟩
end Go.Proofs.Ytcldaafmbmmhiaa
