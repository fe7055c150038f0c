/- Helper: a square of which two rows and columns are turned, of the program. Conditions: none. -/
import Derived.Test.YtmjlhmbnaifhaaaTurnDefs
import Derived.Test.YtmjlhmbnaifhaaaTurnKey
import Derived.Test.YtmjlhmbnaifhaaaHeavyB
import Derived.Deep.Cut
set_option linter.unusedVariables false
set_option linter.unusedSimpArgs false
namespace Go.Proofs.Ytmjlhmbnaifhaaa
open Go.RowKit

/-- A world ahead of a store of nothing, and behind it. -/
def StF (w0 : World) (gf K : Nat) : Nat → World → Prop
  | 0, W => Below w0.heap.size w0 W
  | _ + 1, W => ∃ W0, Below w0.heap.size w0 W0 ∧ Below (W0.setCell ⟨gf, K, none⟩ (.float .f32 0)).heap.size (W0.setCell ⟨gf, K, none⟩ (.float .f32 0)) W
theorem grown_put (W : World) (g K : Nat) (v : Value) : W.grownBy (W.setCell ⟨g, K, none⟩ v) (some g) :=
  ⟨rfl, rfl, rfl, by simp [World.setCell], fun q _ hne => Below.heap_setCell _ _ _ _ (fun e => hne (by rw [e]))⟩
theorem StF.more {w0 W W' : World} {gf K : Nat} : ∀ {s : Nat}, Below W.heap.size W W' → StF w0 gf K s W → StF w0 gf K s W'
  | 0, hb, h => by
    have h' : Below w0.heap.size w0 W := h
    exact h'.trans (hb.mono h'.size)
  | s + 1, hb, ⟨W0, h1, h2⟩ => ⟨W0, h1, h2.trans (hb.mono h2.size)⟩
theorem StF.box {w0 W : World} {gf K mc : Nat} {R C : Int} {a : Option Addr} {n c : Nat} : ∀ {s : Nat}, StF w0 gf K s W → Box w0 mc R C a n c → mc < w0.heap.size → mc ≠ gf → Box W mc R C a n c
  | 0, h, b, hl, hn => by
    have h' : Below w0.heap.size w0 W := h
    exact b.below h' hl
  | s + 1, ⟨W0, h1, h2⟩, b, hl, hn => by
    have hl0 : mc < W0.heap.size := Nat.lt_of_lt_of_le hl h1.size
    have b1 := (b.below h1 hl).grown (grown_put W0 gf K (.float .f32 0)) hl0 (fun q hq => by cases hq; exact hn)
    exact b1.below h2 (Nat.lt_of_lt_of_le hl0 (grown_put W0 gf K (.float .f32 0)).size)
set_option maxRecDepth 20000 in
set_option maxHeartbeats 4000000 in
theorem turnedPair_any (r N x y p1 o1 d1 Bc Bs cc ss : Nat) {C S : Option Nat} (fc : FV .f32 cc C) (fs : FV .f32 ss S) (Z : Nat → Nat) (w : World) (h1 : 1 ≤ r) (h12 : r ≤ 12) (hn : N = r * r) (hxy : x < y) (hy : y < r) (lc : Bc < w.heap.size) (ls : Bs < w.heap.size)
    (hBc : w.cell? ⟨Bc, 0, none⟩ = some (.float .f32 cc)) (hBs : w.cell? ⟨Bs, 0, none⟩ = some (.float .f32 ss)) (h : FS .f32 w (some ⟨p1, o1, none⟩) N d1 Z) :
    Calls Try.prog 59 #[.agg #[.int .i64 r, .int .i64 r, .slice (some ⟨p1, o1, none⟩) N d1], .int .i64 x, .int .i64 y, .func (.func 84) #[] #[.pointer (some ⟨Bc, 0, none⟩), .pointer (some ⟨Bs, 0, none⟩)]] w (fun e w' => ∃ g d X, e = .returned (.agg #[.int .i64 r, .int .i64 r, .slice (some ⟨g, 0, none⟩) N d]) ∧ Own 33 .f32 w.heap.size w'.heap.size w' (some ⟨g, 0, none⟩) N d X ∧ (∀ t, t < N → vals X t = tpV C (fneg .f32 S) r x y (vals Z) t) ∧ Below w.heap.size w w') := by
  have HN := Lib.hid hn
  have h144 : N ≤ 144 := by have := sides_le h12 h12; omega
  have hpos : 0 < N := by rw [hn]; exact Nat.mul_pos h1 h1
  have c0 : cn .f32 0 = some 0 := by kernel_rfl
  have hx : x < r := by omega
  have hrx : x * r + r ≤ N := by rw [hn, ← Nat.succ_mul]; exact Nat.mul_le_mul_right r hx
  have hry : y * r + r ≤ N := by rw [hn, ← Nat.succ_mul]; exact Nat.mul_le_mul_right r hy
  have hd : x * r + r ≤ y * r := by rw [← Nat.succ_mul]; exact Nat.mul_le_mul_right r hxy
  have HD := Lib.hid hd
  have HRX := Lib.hid hrx
  have HRY := Lib.hid hry
  have hne : x * r ≠ y * r := by omega
  have HNE := Lib.hid hne
  clear hn hd hrx hry hne
  go_enter Try.func59, Try.ntmps59
  go_wp2_with fail
  go_at_call 70
  refine (copyOf_any r r p1 o1 N d1 Z _ hpos (by omega) (h.below (by repeat first | (with_reducible exact Below.refl _ _) | (with_reducible refine Below.setCell ?_ (by first | exact Nat.le_refl _ | (simp; done) | (simp; omega) | omega) _) | (with_reducible refine Below.alloc ?_ (by first | exact Nat.le_refl _ | (simp; done) | (simp; omega) | omega) _) | (with_reducible refine below_drewN ?_ _) | (with_reducible refine Below.drew ?_)) (Nat.le_refl _))).mono ?_
  rintro e w1 ⟨ga, da, rfl, oa, b1⟩
  have s1 : w.heap.size + 1 + 1 ≤ w1.heap.size := by have := b1.size; simp at this; omega
  have B1 : Below w.heap.size w w1 := Below.trans (by repeat first | (with_reducible exact Below.refl _ _) | (with_reducible refine Below.setCell ?_ (by first | exact Nat.le_refl _ | (simp; done) | (simp; omega) | omega) _) | (with_reducible refine Below.alloc ?_ (by first | exact Nat.le_refl _ | (simp; done) | (simp; omega) | omega) _) | (with_reducible refine below_drewN ?_ _) | (with_reducible refine Below.drew ?_)) (b1.mono (by simp; omega))
  have XR1 : Box w1 (w.heap.size + 1) 0 0 none 0 0 := Box.below (by refine ⟨?_, ?_, ?_⟩ <;> simp [go_sem]) b1 (by simp)
  have IR1 : ∀ i, w1.frozen? ⟨w.heap.size + 1, i, none⟩ = false := fun i => (b1.frozen (p := ⟨w.heap.size + 1, i, none⟩) (by simp)).trans (by simp [go_sem])
  obtain ⟨_, _, t1', t2, _, _⟩ := oa.cell hpos
  have t1 : w.heap.size + 1 + 1 ≤ ga := by simp at t1'; omega
  have oa1 := oa.alone hpos
  clear b1 oa t1'
  go_upto_region 2 with (fail)
  have XM2 := Box.new w1 26 r r (some ⟨ga, 0, none⟩) N da
  have b2 : Below w1.heap.size w1 (w1.alloc (.cells #[.int .i64 r, .int .i64 r, .slice (some ⟨ga, 0, none⟩) N da] 26)) := (by repeat first | (with_reducible exact Below.refl _ _) | (with_reducible refine Below.setCell ?_ (by first | exact Nat.le_refl _ | (simp; done) | (simp; omega) | omega) _) | (with_reducible refine Below.alloc ?_ (by first | exact Nat.le_refl _ | (simp; done) | (simp; omega) | omega) _) | (with_reducible refine below_drewN ?_ _) | (with_reducible refine Below.drew ?_))
  have s2 : w1.heap.size < (w1.alloc (.cells #[.int .i64 r, .int .i64 r, .slice (some ⟨ga, 0, none⟩) N da] 26)).heap.size := by simp
  generalize w1.alloc (.cells #[.int .i64 r, .int .i64 r, .slice (some ⟨ga, 0, none⟩) N da] 26) = w0 at XM2 b2 s2 ⊢
  have B2 := B1.trans (b2.mono B1.size)
  have XR2 := XR1.below b2 (by omega)
  have IR2 : ∀ i, w0.frozen? ⟨w.heap.size + 1, i, none⟩ = false := fun i => (b2.frozen (p := ⟨w.heap.size + 1, i, none⟩) (by show w.heap.size + 1 < w1.heap.size; omega)).trans (IR1 i)
  have oa2 := Lib.hid (oa1.kept (below_grew b2) (fun q hq => by cases hq))
  obtain ⟨mb, hmb⟩ : ∃ mb, mb = w1.heap.size := ⟨_, rfl⟩
  rw [← hmb] at XM2 s2 t2 ⊢
  have hmb2 : w.heap.size + 1 + 1 ≤ mb := by omega
  clear b2 B1 XR1 IR1 oa1 hmb
  have hcs := (Own.fs oa2.out).1
  have hms : da ≤ 9223372036854775807 := by have hh := (Own.fs oa2.out).2.1; unfold maxLen at hh; omega
  have rowX := fun W => by have hh := rowOf_any ga 0 r r N da x W h12 h1 h12 HN.out hcs hms hx; rwa [Nat.zero_add] at hh
  have rowY := fun W => by have hh := rowOf_any ga 0 r r N da y W h12 h1 h12 HN.out hcs hms hy; rwa [Nat.zero_add] at hh
  (refine wp_region_kinds (fun w' => Below w0.heap.size w0 w') (fun _ => 0) 7 (below_drewN (Below.refl _ _) 1) (by kernel_rfl) (by kernel_rfl) (by kernel_rfl) ?_; simp only [List.take_succ_cons, List.take_zero, List.drop_succ_cons, List.drop_zero])
  ((with_reducible refine wpKinds_plain ?hwant ?hkind ?hplain (fun K hK => ?_)); (case hwant => first | (simp [Region.wanted, yielded]; done) | rfl); (case hkind => rfl); (case hplain => rfl); go_big_quiet_op; (first | refine hK _ ?_ | refine ⟨_, fun _ _ => rfl, hK _ ?_⟩); clear hK K)
  ((with_reducible refine wpKinds_run (.agg #[.int .i64 r, .int .i64 r, .slice (some ⟨ga, 0, none⟩) N da]) ?hwant ?hkind ?hrun ?_); (case hwant => first | (simp [Region.wanted, yielded]; done) | rfl); (case hkind => rfl); (case hrun => intro W hW; obtain ⟨u0, u1, u2⟩ := Box.below XM2 hW (by omega); simp [go_sem, BigFrame.eval_const, BigFrame.eval_global, BigFrame.eval_func, u0, u1, u2]); simp only [Act.put, List.setIfInBounds_toArray, List.set_cons_succ, List.set_cons_zero])
  ((with_reducible refine wpKinds_plain ?hwant ?hkind ?hplain (fun K hK => ?_)); (case hwant => first | (simp [Region.wanted, yielded]; done) | rfl); (case hkind => rfl); (case hplain => rfl); go_big_quiet_op; (first | refine hK _ ?_ | refine ⟨_, fun _ _ => rfl, hK _ ?_⟩); clear hK K)
  ((with_reducible refine wpKinds_call (f := 36) (args := #[.agg #[.int .i64 r, .int .i64 r, .slice (some ⟨ga, 0, none⟩) N da], .int .i64 x]) (.slice (some ⟨ga, x * r, none⟩) r r) ?hwant ?hkind ?hrun ?hinit ?hcall ?_); (case hwant => first | (simp [Region.wanted, yielded]; done) | rfl); (case hkind => rfl); (case hrun => intro W; simp [go_sem, BigFrame.eval_const, BigFrame.eval_global, BigFrame.eval_func]); (case hinit => kernel_rfl); (case hcall => intro W hW; (refine (rowX W).mono ?_; rintro e w' ⟨rfl, hb⟩; exact ⟨rfl, hW.trans (hb.mono hW.size)⟩)); simp only [Act.put, List.setIfInBounds_toArray, List.set_cons_succ, List.set_cons_zero])
  ((with_reducible refine wpKinds_run (.agg #[.int .i64 r, .int .i64 r, .slice (some ⟨ga, 0, none⟩) N da]) ?hwant ?hkind ?hrun ?_); (case hwant => first | (simp [Region.wanted, yielded]; done) | rfl); (case hkind => rfl); (case hrun => intro W hW; obtain ⟨u0, u1, u2⟩ := Box.below XM2 hW (by omega); simp [go_sem, BigFrame.eval_const, BigFrame.eval_global, BigFrame.eval_func, u0, u1, u2]); simp only [Act.put, List.setIfInBounds_toArray, List.set_cons_succ, List.set_cons_zero])
  ((with_reducible refine wpKinds_plain ?hwant ?hkind ?hplain (fun K hK => ?_)); (case hwant => first | (simp [Region.wanted, yielded]; done) | rfl); (case hkind => rfl); (case hplain => rfl); go_big_quiet_op; (first | refine hK _ ?_ | refine ⟨_, fun _ _ => rfl, hK _ ?_⟩); clear hK K)
  ((with_reducible refine wpKinds_call (f := 36) (args := #[.agg #[.int .i64 r, .int .i64 r, .slice (some ⟨ga, 0, none⟩) N da], .int .i64 y]) (.slice (some ⟨ga, y * r, none⟩) r r) ?hwant ?hkind ?hrun ?hinit ?hcall ?_); (case hwant => first | (simp [Region.wanted, yielded]; done) | rfl); (case hkind => rfl); (case hrun => intro W; simp [go_sem, BigFrame.eval_const, BigFrame.eval_global, BigFrame.eval_func]); (case hinit => kernel_rfl); (case hcall => intro W hW; (refine (rowY W).mono ?_; rintro e w' ⟨rfl, hb⟩; exact ⟨rfl, hW.trans (hb.mono hW.size)⟩)); simp only [Act.put, List.setIfInBounds_toArray, List.set_cons_succ, List.set_cons_zero])
  refine wpKinds_nil ?_
  intro w3 hC
  have B3 := B2.trans (hC.mono B2.size)
  have s3 := hC.size
  have oa3 := oa2.out.kept (below_grew hC) (fun q hq => by cases hq)
  have XM3 := XM2.below hC s2
  have XR3 := XR2.below hC (by omega)
  have IR3 : ∀ i, w3.frozen? ⟨w.heap.size + 1, i, none⟩ = false := fun i => (hC.frozen (p := ⟨w.heap.size + 1, i, none⟩) (by show w.heap.size + 1 < w0.heap.size; omega)).trans (IR2 i)
  clear hC B2 oa2 XM2 XR2 IR2 rowX rowY
  go_wp2_with fail
  go_at_call 84
  refine (turnBy1_any Bc Bs ga (x * r) r (y * r) r N da ga (ga + 1) r cc ss fc fs Z _ ((B3.cell (p := ⟨Bc, 0, none⟩) lc).trans hBc) ((B3.cell (p := ⟨Bs, 0, none⟩) ls).trans hBs) (by omega) HRX.out HRY.out (Nat.le_refl _) (Nat.le_refl _) (by omega) (by omega) (.inl HD.out) HNE.out oa3).mono ?_
  rintro e w4 ⟨rfl, U, oU, hU, g4⟩
  have HU := Lib.hid hU
  have s4 := g4.size
  have B4 := B3.grown g4 B3.size (fun q hq => by cases hq; omega)
  have XM4 := XM3.grown g4 (by omega) (fun q hq => by cases hq; omega)
  have XR4 := XR3.grown g4 (by omega) (fun q hq => by cases hq; omega)
  have IR4 : ∀ i, w4.frozen? ⟨w.heap.size + 1, i, none⟩ = false := fun i => (World.frozen?_of_block (a := ⟨w.heap.size + 1, i, none⟩) (g4.block (w.heap.size + 1) (by omega) (fun e => by have := Option.some.inj e; omega))).trans (IR3 i)
  have FU := oU.fs
  obtain ⟨y0, y1, y2⟩ := XM4
  clear g4 B3 XM3 XR3 IR3 hU oa3 oU
  go_wp2_with fail
  go_at_call 64
  refine (flipped_any r r N ga 0 da U _ h1 h12 h1 h12 HN.out FU).mono ?_
  rintro e w5 ⟨gf, rfl, of, b5⟩
  have B5 := B4.trans (b5.mono B4.size)
  have s5 := b5.size
  have XR5 := XR4.below b5 (by omega)
  have IR5 : ∀ i, w5.frozen? ⟨w.heap.size + 1, i, none⟩ = false := fun i => (b5.frozen (p := ⟨w.heap.size + 1, i, none⟩) (by show w.heap.size + 1 < w4.heap.size; omega)).trans (IR4 i)
  obtain ⟨_, _, u1, u2, _, _⟩ := of.cell hpos
  have of5 := of.alone hpos
  clear b5 B4 XR4 IR4 of y0 y1 y2 FU
  go_upto_region 4 with (fail)
  have XM6 := Box.new w5 26 r r (some ⟨gf, 0, none⟩) N N
  have b6 : Below w5.heap.size w5 (w5.alloc (.cells #[.int .i64 r, .int .i64 r, .slice (some ⟨gf, 0, none⟩) N N] 26)) := (by repeat first | (with_reducible exact Below.refl _ _) | (with_reducible refine Below.setCell ?_ (by first | exact Nat.le_refl _ | (simp; done) | (simp; omega) | omega) _) | (with_reducible refine Below.alloc ?_ (by first | exact Nat.le_refl _ | (simp; done) | (simp; omega) | omega) _) | (with_reducible refine below_drewN ?_ _) | (with_reducible refine Below.drew ?_))
  have s6 : w5.heap.size < (w5.alloc (.cells #[.int .i64 r, .int .i64 r, .slice (some ⟨gf, 0, none⟩) N N] 26)).heap.size := by simp
  generalize w5.alloc (.cells #[.int .i64 r, .int .i64 r, .slice (some ⟨gf, 0, none⟩) N N] 26) = w0 at XM6 b6 s6 ⊢
  have B6 := B5.trans (b6.mono B5.size)
  have XR6 := XR5.below b6 (by omega)
  have IR6 : ∀ i, w0.frozen? ⟨w.heap.size + 1, i, none⟩ = false := fun i => (b6.frozen (p := ⟨w.heap.size + 1, i, none⟩) (by show w.heap.size + 1 < w5.heap.size; omega)).trans (IR5 i)
  have of6 := Lib.hid (of5.kept (below_grew b6) (fun q hq => by cases hq))
  obtain ⟨mc, hmc⟩ : ∃ mc, mc = w5.heap.size := ⟨_, rfl⟩
  rw [← hmc] at XM6 s6 u2 ⊢
  have hmc2 : w.heap.size + 1 + 1 ≤ mc := by omega
  have hgf2 : w.heap.size + 1 + 1 ≤ gf := by omega
  clear b6 B5 XR5 IR5 of5 hmc hcs hms
  have hms : N ≤ 9223372036854775807 := by omega
  have rowX := fun W => by have hh := rowOf_any gf 0 r r N N x W h12 h1 h12 HN.out (Nat.le_refl _) hms hx; rwa [Nat.zero_add] at hh
  have rowY := fun W => by have hh := rowOf_any gf 0 r r N N y W h12 h1 h12 HN.out (Nat.le_refl _) hms hy; rwa [Nat.zero_add] at hh
  (refine wp_region_kinds (fun w' => Below w0.heap.size w0 w') (fun _ => 0) 7 (below_drewN (Below.refl _ _) 1) (by kernel_rfl) (by kernel_rfl) (by kernel_rfl) ?_; simp only [List.take_succ_cons, List.take_zero, List.drop_succ_cons, List.drop_zero])
  ((with_reducible refine wpKinds_plain ?hwant ?hkind ?hplain (fun K hK => ?_)); (case hwant => first | (simp [Region.wanted, yielded]; done) | rfl); (case hkind => rfl); (case hplain => rfl); go_big_quiet_op; (first | refine hK _ ?_ | refine ⟨_, fun _ _ => rfl, hK _ ?_⟩); clear hK K)
  ((with_reducible refine wpKinds_run (.agg #[.int .i64 r, .int .i64 r, .slice (some ⟨gf, 0, none⟩) N N]) ?hwant ?hkind ?hrun ?_); (case hwant => first | (simp [Region.wanted, yielded]; done) | rfl); (case hkind => rfl); (case hrun => intro W hW; obtain ⟨u0, u1, u2⟩ := Box.below XM6 hW (by omega); simp [go_sem, BigFrame.eval_const, BigFrame.eval_global, BigFrame.eval_func, u0, u1, u2]); simp only [Act.put, List.setIfInBounds_toArray, List.set_cons_succ, List.set_cons_zero])
  ((with_reducible refine wpKinds_plain ?hwant ?hkind ?hplain (fun K hK => ?_)); (case hwant => first | (simp [Region.wanted, yielded]; done) | rfl); (case hkind => rfl); (case hplain => rfl); go_big_quiet_op; (first | refine hK _ ?_ | refine ⟨_, fun _ _ => rfl, hK _ ?_⟩); clear hK K)
  ((with_reducible refine wpKinds_call (f := 36) (args := #[.agg #[.int .i64 r, .int .i64 r, .slice (some ⟨gf, 0, none⟩) N N], .int .i64 x]) (.slice (some ⟨gf, x * r, none⟩) r r) ?hwant ?hkind ?hrun ?hinit ?hcall ?_); (case hwant => first | (simp [Region.wanted, yielded]; done) | rfl); (case hkind => rfl); (case hrun => intro W; simp [go_sem, BigFrame.eval_const, BigFrame.eval_global, BigFrame.eval_func]); (case hinit => kernel_rfl); (case hcall => intro W hW; (refine (rowX W).mono ?_; rintro e w' ⟨rfl, hb⟩; exact ⟨rfl, hW.trans (hb.mono hW.size)⟩)); simp only [Act.put, List.setIfInBounds_toArray, List.set_cons_succ, List.set_cons_zero])
  ((with_reducible refine wpKinds_run (.agg #[.int .i64 r, .int .i64 r, .slice (some ⟨gf, 0, none⟩) N N]) ?hwant ?hkind ?hrun ?_); (case hwant => first | (simp [Region.wanted, yielded]; done) | rfl); (case hkind => rfl); (case hrun => intro W hW; obtain ⟨u0, u1, u2⟩ := Box.below XM6 hW (by omega); simp [go_sem, BigFrame.eval_const, BigFrame.eval_global, BigFrame.eval_func, u0, u1, u2]); simp only [Act.put, List.setIfInBounds_toArray, List.set_cons_succ, List.set_cons_zero])
  ((with_reducible refine wpKinds_plain ?hwant ?hkind ?hplain (fun K hK => ?_)); (case hwant => first | (simp [Region.wanted, yielded]; done) | rfl); (case hkind => rfl); (case hplain => rfl); go_big_quiet_op; (first | refine hK _ ?_ | refine ⟨_, fun _ _ => rfl, hK _ ?_⟩); clear hK K)
  ((with_reducible refine wpKinds_call (f := 36) (args := #[.agg #[.int .i64 r, .int .i64 r, .slice (some ⟨gf, 0, none⟩) N N], .int .i64 y]) (.slice (some ⟨gf, y * r, none⟩) r r) ?hwant ?hkind ?hrun ?hinit ?hcall ?_); (case hwant => first | (simp [Region.wanted, yielded]; done) | rfl); (case hkind => rfl); (case hrun => intro W; simp [go_sem, BigFrame.eval_const, BigFrame.eval_global, BigFrame.eval_func]); (case hinit => kernel_rfl); (case hcall => intro W hW; (refine (rowY W).mono ?_; rintro e w' ⟨rfl, hb⟩; exact ⟨rfl, hW.trans (hb.mono hW.size)⟩)); simp only [Act.put, List.setIfInBounds_toArray, List.set_cons_succ, List.set_cons_zero])
  refine wpKinds_nil ?_
  intro w7 hC
  have B7 := B6.trans (hC.mono B6.size)
  have s7 := hC.size
  have of7 := of6.out.kept (below_grew hC) (fun q hq => by cases hq)
  have XM7 := XM6.below hC s6
  have XR7 := XR6.below hC (by omega)
  have IR7 : ∀ i, w7.frozen? ⟨w.heap.size + 1, i, none⟩ = false := fun i => (hC.frozen (p := ⟨w.heap.size + 1, i, none⟩) (by show w.heap.size + 1 < w0.heap.size; omega)).trans (IR6 i)
  clear hC B6 of6 XM6 XR6 IR6
  go_wp2_with fail
  go_at_call 84
  refine (turnBy1_any Bc Bs gf (x * r) r (y * r) r N N gf (gf + 1) r cc ss fc fs (flipZ r r U) _ ((B7.cell (p := ⟨Bc, 0, none⟩) lc).trans hBc) ((B7.cell (p := ⟨Bs, 0, none⟩) ls).trans hBs) (by omega) HRX.out HRY.out (Nat.le_refl _) (Nat.le_refl _) (by omega) (by omega) (.inl HD.out) HNE.out of7).mono ?_
  rintro e w8 ⟨rfl, F2, o2, hF2, g8⟩
  have HF2 := Lib.hid hF2
  have s8 := g8.size
  have B8 := B7.grown g8 B7.size (fun q hq => by cases hq; omega)
  have XM8 := XM7.grown g8 (by omega) (fun q hq => by cases hq; omega)
  have XR8 := XR7.grown g8 (by omega) (fun q hq => by cases hq; omega)
  have IR8 : ∀ i, w8.frozen? ⟨w.heap.size + 1, i, none⟩ = false := fun i => (World.frozen?_of_block (a := ⟨w.heap.size + 1, i, none⟩) (g8.block (w.heap.size + 1) (by omega) (fun e => by have := Option.some.inj e; omega))).trans (IR7 i)
  have O8 := Lib.hid o2
  clear g8 B7 XM7 XR7 IR7 hF2 of7 o2
  go_upto_region 5 with (fail)
  generalize w8 = w0 at XM8 XR8 IR8 O8 B8 s8 ⊢
  have l8 : mc < w0.heap.size := by omega
  obtain ⟨v0, v1, v2⟩ := XM8
  have hpl1 : x * r + y < N := by rw [HN.out]; exact place_lt hx hy
  have hpl2 : y * r + x < N := by rw [HN.out]; exact place_lt hy hx
  obtain ⟨ce1, fr1, _, _, lgf', _⟩ := O8.out.cell hpl1
  obtain ⟨ce2, fr2, _⟩ := O8.out.cell hpl2
  have lgf : gf < w0.heap.size := by omega
  have hnn : x * r + y ≠ y * r + x := fun e => by
    obtain ⟨q1, _⟩ := place_div (j := x) hy
    obtain ⟨q2, _⟩ := place_div (j := y) hx
    rw [e, q2] at q1
    omega
  have hnn' : y * r + x ≠ x * r + y := fun e => hnn e.symm
  obtain ⟨va, hva⟩ : ∃ v, v = F2 (x * r + y) := ⟨_, rfl⟩
  obtain ⟨vb, hvb⟩ : ∃ v, v = F2 (y * r + x) := ⟨_, rfl⟩
  rw [← hva] at ce1
  rw [← hvb] at ce2
  have hmg : mc ≠ gf := by omega
  have HP1 := Lib.hid hpl1
  have HP2 := Lib.hid hpl2
  clear hva hvb hpl1 hpl2
  go_wp2
  refine HB.wp_region_heavy (fun W => Box W mc r r (some ⟨gf, 0, none⟩) N N) (fun s a' W => (fun s l W => StF w0 gf (x * r + y) s W) s (([] : List Nat).map fun d => a'.tmps.getD d undef) W) (fun i => if i = 9 then some 0 else none) 10 1
    (HB.HClass.of (slots := []) (F := fun s l W => StF w0 gf (x * r + y) s W) (by kernel_rfl) (fun s l W h => StF.box h ⟨v0, v1, v2⟩ l8 hmg) (fun s l W W' hb h => StF.more hb h)) (by exact (Below.refl _ _).drew) (by kernel_rfl) (by kernel_rfl) (by kernel_rfl) (by kernel_rfl) ?_
  simp only [List.take_succ_cons, List.take_zero, List.drop_succ_cons, List.drop_zero]
  (refine HB.wpHeavy_run (.agg #[.int .i64 r, .int .i64 r, .slice (some ⟨gf, 0, none⟩) N N]) rfl rfl (by rintro W ⟨u0, u1, u2⟩; simp [go_sem, BigFrame.eval_const, BigFrame.eval_global, BigFrame.eval_func, u0, u1, u2]) ?_; simp only [Act.put, List.setIfInBounds_toArray, List.set_cons_succ, List.set_cons_zero])
  (refine HB.wpHeavy_plain rfl rfl rfl (fun K hK => ?_); go_big_quiet_op; (first | refine hK _ ?_ | refine ⟨_, fun _ _ => rfl, hK _ ?_⟩ | refine ⟨_, fun _ _ _ => rfl, hK _ ?_⟩); clear hK K)
  (refine HB.wpHeavy_call (f := 36) (args := #[.agg #[.int .i64 r, .int .i64 r, .slice (some ⟨gf, 0, none⟩) N N], .int .i64 x]) (.slice (some ⟨gf, x * r, none⟩) r r) rfl rfl (by intro W; simp [go_sem, BigFrame.eval_const, BigFrame.eval_global, BigFrame.eval_func]) (by kernel_rfl) (by intro W hW; refine (rowX W).mono ?_; rintro e w' ⟨rfl, hb⟩; exact ⟨rfl, hb⟩) ?_; simp only [Act.put, List.setIfInBounds_toArray, List.set_cons_succ, List.set_cons_zero])
  (refine HB.wpHeavy_plain rfl rfl rfl (fun K hK => ?_); go_big_quiet_op; (first | refine hK _ ?_ | refine ⟨_, fun _ _ => rfl, hK _ ?_⟩ | refine ⟨_, fun _ _ _ => rfl, hK _ ?_⟩); clear hK K)
  (refine HB.wpHeavy_run (.agg #[.int .i64 r, .int .i64 r, .slice (some ⟨gf, 0, none⟩) N N]) rfl rfl (by rintro W ⟨u0, u1, u2⟩; simp [go_sem, BigFrame.eval_const, BigFrame.eval_global, BigFrame.eval_func, u0, u1, u2]) ?_; simp only [Act.put, List.setIfInBounds_toArray, List.set_cons_succ, List.set_cons_zero])
  (refine HB.wpHeavy_plain rfl rfl rfl (fun K hK => ?_); go_big_quiet_op; (first | refine hK _ ?_ | refine ⟨_, fun _ _ => rfl, hK _ ?_⟩ | refine ⟨_, fun _ _ _ => rfl, hK _ ?_⟩); clear hK K)
  (refine HB.wpHeavy_call (f := 36) (args := #[.agg #[.int .i64 r, .int .i64 r, .slice (some ⟨gf, 0, none⟩) N N], .int .i64 y]) (.slice (some ⟨gf, y * r, none⟩) r r) rfl rfl (by intro W; simp [go_sem, BigFrame.eval_const, BigFrame.eval_global, BigFrame.eval_func]) (by kernel_rfl) (by intro W hW; refine (rowY W).mono ?_; rintro e w' ⟨rfl, hb⟩; exact ⟨rfl, hb⟩) ?_; simp only [Act.put, List.setIfInBounds_toArray, List.set_cons_succ, List.set_cons_zero])
  (refine HB.wpHeavy_plain rfl rfl rfl (fun K hK => ?_); go_big_quiet_op; (first | refine hK _ ?_ | refine ⟨_, fun _ _ => rfl, hK _ ?_⟩ | refine ⟨_, fun _ _ _ => rfl, hK _ ?_⟩); clear hK K)
  (refine HB.wpHeavy_run (.pointer (some ⟨gf, x * r + y, none⟩)) rfl rfl (by intro W hW; simp [go_sem, BigFrame.eval_const, BigFrame.eval_global, BigFrame.eval_func, hy]) ?_; simp only [Act.put, List.setIfInBounds_toArray, List.set_cons_succ, List.set_cons_zero])
  refine HB.wpHeavy_step rfl rfl ⟨w0, by exact Below.refl _ _⟩ ?_
  intro W hW
  have hW' : Below w0.heap.size w0 W := hW
  have hce1 := (hW'.cell (p := ⟨gf, x * r + y, none⟩) lgf).trans ce1
  have hfr1 := (hW'.frozen (p := ⟨gf, x * r + y, none⟩) lgf).trans fr1
  have hrun : ∀ {o : Oper} {a : Act}, (execOp a.eval o).run Try.prog W = .ok .skip (W.setCell ⟨gf, x * r + y, none⟩ (.float .f32 0)) → (execOp a.eval o).run Try.prog W = .ok .skip (W.setCell ⟨gf, x * r + y, none⟩ (.float .f32 0)) := fun h => h
  rw [hrun (by simp [go_sem, BigFrame.eval_const, BigFrame.eval_global, BigFrame.eval_func, hce1, hfr1])]
  refine ⟨⟨W, hW', Below.refl _ _⟩, ?_⟩
  refine HB.wpHeavy_nil ?_
  clear hce1 hfr1 hrun hW hW'
  intro w9 hC
  obtain ⟨W0, c1, c2⟩ : ∃ W0, Below w0.heap.size w0 W0 ∧ Below (W0.setCell ⟨gf, x * r + y, none⟩ (.float .f32 0)).heap.size (W0.setCell ⟨gf, x * r + y, none⟩ (.float .f32 0)) w9 := hC
  have p1 := O8.out.kept (below_grew c1) (fun q hq => by cases hq)
  obtain ⟨p2, g2⟩ := p1.stored (t := x * r + y) (v := 0) HP1.out (by decide)
  have p3 := p2.kept (below_grew c2) (fun q hq => by cases hq)
  have sz0 := c1.size
  have sz1 := g2.size
  have sz2 := c2.size
  have XM8 : Box w0 mc r r (some ⟨gf, 0, none⟩) N N := ⟨v0, v1, v2⟩
  have XM9 := ((XM8.below c1 l8).grown g2 (by omega) (fun q hq => by cases hq; exact hmg)).below c2 (by omega)
  have XR9 := ((XR8.below c1 (by omega)).grown g2 (by omega) (fun q hq => by cases hq; omega)).below c2 (by omega)
  have IR9 : ∀ i, w9.frozen? ⟨w.heap.size + 1, i, none⟩ = false := fun i => (c2.frozen (p := ⟨w.heap.size + 1, i, none⟩) (by show w.heap.size + 1 < (W0.setCell ⟨gf, x * r + y, none⟩ (.float .f32 0)).heap.size; omega)).trans ((World.frozen?_of_block (a := ⟨w.heap.size + 1, i, none⟩) (g2.block (w.heap.size + 1) (by omega) (fun e => by have := Option.some.inj e; omega))).trans ((c1.frozen (p := ⟨w.heap.size + 1, i, none⟩) (by show w.heap.size + 1 < w0.heap.size; omega)).trans (IR8 i)))
  have B9 := Lib.hid (((B8.trans (c1.mono B8.size)).grown g2 (B8.trans (c1.mono B8.size)).size (fun q hq => by cases hq; omega)).trans (c2.mono (by omega)))
  obtain ⟨hce9, hfr9, _⟩ := p3.cell HP2.out
  obtain ⟨p4, g4⟩ := p3.stored (t := y * r + x) (v := 0) HP2.out (by decide)
  have XM10 := XM9.grown g4 (by omega) (fun q hq => by cases hq; exact hmg)
  have XR10 := XR9.grown g4 (by omega) (fun q hq => by cases hq; omega)
  have IR10 : ∀ i, (w9.setCell ⟨gf, y * r + x, none⟩ (.float .f32 0)).frozen? ⟨w.heap.size + 1, i, none⟩ = false := fun i => (World.frozen?_of_block (a := ⟨w.heap.size + 1, i, none⟩) (g4.block (w.heap.size + 1) (by omega) (fun e => by have := Option.some.inj e; omega))).trans (IR9 i)
  have B10 := Lib.hid (B9.out.grown g4 B9.out.size (fun q hq => by cases hq; omega))
  have sz4 := g4.size
  have O10 := Lib.hid p4
  obtain ⟨F3, hF3⟩ : ∃ F3 : Nat → Nat, F3 = fun j => if j = y * r + x then 0 else if j = x * r + y then 0 else F2 j := ⟨_, rfl⟩
  have h3 : Hid (∀ t, t < N → vals F3 t = if t = y * r + x ∨ t = x * r + y then some 0 else vals F2 t) := Lib.hid fun t ht => by
    rw [hF3]
    show cn .f32 (if t = y * r + x then 0 else if t = x * r + y then 0 else F2 t) = _
    by_cases e1 : t = y * r + x
    · rw [if_pos e1, if_pos (.inl e1)]; exact c0
    · rw [if_neg e1]
      by_cases e2 : t = x * r + y
      · rw [if_pos e2, if_pos (.inr e2)]; exact c0
      · rw [if_neg e2, if_neg (fun q => q.elim e1 e2)]; rfl
  have O10' : Hid (Own 33 .f32 gf (gf + 1) (w9.setCell ⟨gf, y * r + x, none⟩ (.float .f32 0)) (some ⟨gf, 0, none⟩) N N F3) := Lib.hid (by rw [hF3]; exact O10.out)
  have HV : Hid (∀ t, t < N → vals (flipZ r r F3) t = tpV C (fneg .f32 S) r x y (vals Z) t) := Lib.hid (tp_end HN.out hxy hy HU.out HF2.out h3.out)
  clear p1 p2 p3 p4 g2 g4 c1 c2 v0 v1 v2 XM8 XM9 XR8 XR9 IR8 IR9 O8 O10 ce1 ce2 fr1 fr2 hF3 rowX rowY B8 hnn hnn'
  go_upto_region 6 with (fail)
  generalize w9.setCell ⟨gf, y * r + x, none⟩ (.float .f32 0) = w10 at XM10 XR10 IR10 B10 sz4 O10' ⊢
  have F10 := O10'.out.fs
  obtain ⟨y0, y1, y2⟩ := XM10
  clear hce9 hfr9
  go_wp2_with fail
  go_at_call 64
  refine (flipped_any r r N gf 0 N F3 _ h1 h12 h1 h12 HN.out F10).mono ?_
  rintro e w11 ⟨gr, rfl, oR, b11⟩
  have B11 := B10.out.trans (b11.mono B10.out.size)
  have s11 := b11.size
  obtain ⟨z0, z1, z2⟩ := XR10.below b11 (by omega)
  have hice : ∀ i, w11.frozen? ⟨w.heap.size + 1, i, none⟩ = false := fun i => (b11.frozen (p := ⟨w.heap.size + 1, i, none⟩) (by show w.heap.size + 1 < w10.heap.size; omega)).trans (IR10 i)
  obtain ⟨_, _, q1, q2, _, _⟩ := oR.cell hpos
  clear b11 y0 y1 y2 XR10 IR10 B10 F10
  go_wp2_with fail
  refine bodyPost_ret (v := .agg #[.int .i64 r, .int .i64 r, .slice (some ⟨gr, 0, none⟩) N N]) (by simp [results, Try.results59, go_sem, z0, z1, z2]) rfl ?_
  exact ⟨gr, N, _, rfl, (by refine Own.to oR (hk := fun g hg1 hg2 => by (try simp at hg1 hg2); repeat (first | rw [Below.heap_setCell _ _ _ _ (by simp; omega)] | rw [Below.heap_alloc _ _ _ (by simp [World.setCell]; omega)])) ?_ ?_ ?_ ?_ <;> (first | exact Nat.le_refl _ | omega | (simp [World.setCell]; done) | (simp [World.setCell]; omega))), HV.out, (by repeat first | (with_reducible exact B11) | (with_reducible refine Below.setCell ?_ (by first | exact Nat.le_refl _ | (simp; done) | (simp; omega) | omega) _) | (with_reducible refine Below.alloc ?_ (by first | exact Nat.le_refl _ | (simp; done) | (simp; omega) | omega) _) | (with_reducible refine below_drewN ?_ _) | (with_reducible refine Below.drew ?_))⟩
end Go.Proofs.Ytmjlhmbnaifhaaa
