/- Helper: the sum of two matrices that are weighed, of the program. Conditions: none. -/
import Derived.Test.YtbmiolfpgoggaaaKindSteps
import Derived.Test.YtbmiolfpgoggaaaWork
import Derived.Test.YtbmiolfpgoggaaaGive
import Derived.Test.YtbmiolfpgoggaaaPivot
set_option linter.unusedVariables false
set_option linter.unusedSimpArgs false
namespace Go.Proofs.Ytbmiolfpgoggaaa
open Go.RowKit

/-- Two matrices, weighed. -/
def weighV (x y : Nat) (Z Y : Nat → Nat) (t : Nat) : Option Nat := fop .add .f32 (fop .mul .f32 (cn .f32 x) (cn .f32 (Z t))) (fop .mul .f32 (cn .f32 y) (cn .f32 (Y t)))
theorem sidesOfW_any (R C : Int) (a : Option Addr) (n c : Nat) (w : World) : Calls Try.prog 53 #[.agg #[.int .i64 R, .int .i64 C, .slice a n c]] w fun e w' => e = .returned (.agg #[.int .i64 R, .int .i64 C]) ∧ Below w.heap.size w w' := by
  go_enter Try.func53, Try.ntmps53
  go_wp2
  refine bodyPost_ret (v := .agg #[.int .i64 R, .int .i64 C]) (by simp [results, Try.results53, go_sem]) rfl ?_
  exact ⟨rfl, (by repeat first | (with_reducible exact Below.refl _ _) | (with_reducible refine Below.setCell ?_ (by first | exact Nat.le_refl _ | (simp; done) | (simp; omega) | omega) _) | (with_reducible refine Below.alloc ?_ (by first | exact Nat.le_refl _ | (simp; done) | (simp; omega) | omega) _) | (with_reducible refine below_drewN ?_ _) | (with_reducible refine Below.drew ?_))⟩
set_option maxRecDepth 20000 in
set_option maxHeartbeats 4000000 in
theorem implWeigh_yes (p c n x y p1 o1 d1 p2 o2 d2 : Nat) (Z Y : Nat → Nat) (w : World) (hp1 : 1 ≤ p) (hp : p ≤ 12) (hc1 : 1 ≤ c) (hc : c ≤ 12) (hn : n = p * c) (wx : (Lit.float .f32 x).wf = true) (wy : (Lit.float .f32 y).wf = true)
    (hva : validB p c n (vals Z) = true) (hvb : validB p c n (vals Y) = true) (hx : finite .f32 (cn .f32 x) = true) (hy : finite .f32 (cn .f32 y) = true) (h : FS .f32 w (some ⟨p1, o1, none⟩) n d1 Z) (h2 : FS .f32 w (some ⟨p2, o2, none⟩) n d2 Y) :
    Calls Try.prog 28 #[.agg #[.int .i64 p, .int .i64 c, .slice (some ⟨p1, o1, none⟩) n d1], .agg #[.int .i64 p, .int .i64 c, .slice (some ⟨p2, o2, none⟩) n d2], .float .f32 x, .float .f32 y] w (OwnIf (allFin (weighV x y Z Y) n) p c n (weighV x y Z Y) w) := by
  have hN := Lib.hid hn
  have hn144 : n ≤ 144 := by have := sides_le hp hc; omega
  have hpos : 0 < n := by rw [hn]; exact Nat.mul_pos hp1 hc1
  have fx : FV .f32 x (cn .f32 x) := FV.mk' wx
  have fy : FV .f32 y (cn .f32 y) := FV.mk' wy
  obtain ⟨VV, hVV⟩ : ∃ VV, VV = weighV x y Z Y := ⟨_, rfl⟩
  rw [← hVV]
  have HVV := Lib.hid hVV
  have fin1 := fun W => implIsFinite_any x fx W
  have fin2 := fun W => implIsFinite_any y fy W
  rw [hx] at fin1
  rw [hy] at fin2
  have hvA := fun W (hW : FS .f32 W (some ⟨p1, o1, none⟩) n d1 Z) => implValid_any p c _ n d1 Z W (by omega) hW
  have hvB := fun W (hW : FS .f32 W (some ⟨p2, o2, none⟩) n d2 Y) => implValid_any p c _ n d2 Y W (by omega) hW
  rw [hva] at hvA
  rw [hvb] at hvB
  clear hn hVV hx hy wx wy hva hvb
  go_enter Try.func28, Try.ntmps28
  go_wp2_with fail
  generalize hwa : (w.alloc (.cells #[.int .i64 p, .int .i64 c, .slice (some ⟨p1, o1, none⟩) n d1] 26)).alloc (.cells #[.int .i64 p, .int .i64 c, .slice (some ⟨p2, o2, none⟩) n d2] 26) = wa
  have Ba : Below w.heap.size w wa := by rw [← hwa]; exact (by repeat first | (with_reducible exact Below.refl _ _) | (with_reducible refine Below.setCell ?_ (by first | exact Nat.le_refl _ | (simp; done) | (simp; omega) | omega) _) | (with_reducible refine Below.alloc ?_ (by first | exact Nat.le_refl _ | (simp; done) | (simp; omega) | omega) _) | (with_reducible refine below_drewN ?_ _) | (with_reducible refine Below.drew ?_))
  have sa : wa.heap.size = w.heap.size + 1 + 1 := by rw [← hwa]; simp
  have Xa : Box wa w.heap.size p c (some ⟨p1, o1, none⟩) n d1 := by rw [← hwa]; refine ⟨?_, ?_, ?_⟩ <;> simp [go_sem]
  have Xb : Box wa (w.heap.size + 1) p c (some ⟨p2, o2, none⟩) n d2 := by rw [← hwa]; refine ⟨?_, ?_, ?_⟩ <;> simp [go_sem]
  have Fa := h.below Ba (Nat.le_refl _)
  have Fb := h2.below Ba (Nat.le_refl _)
  have la : w.heap.size < wa.heap.size := by omega
  have lb : w.heap.size + 1 < wa.heap.size := by omega
  have B0 : Below wa.heap.size wa (wa.alloc (.cells #[.int .i64 0, .int .i64 0, .slice none 0 0] 26)) := (by repeat first | (with_reducible exact Below.refl _ _) | (with_reducible refine Below.setCell ?_ (by first | exact Nat.le_refl _ | (simp; done) | (simp; omega) | omega) _) | (with_reducible refine Below.alloc ?_ (by first | exact Nat.le_refl _ | (simp; done) | (simp; omega) | omega) _) | (with_reducible refine below_drewN ?_ _) | (with_reducible refine Below.drew ?_))
  have s0 : (wa.alloc (.cells #[.int .i64 0, .int .i64 0, .slice none 0 0] 26)).heap.size = wa.heap.size + 1 := by simp
  try rw [← sa]
  clear hwa h h2
  generalize hw0 : wa.alloc (.cells #[.int .i64 0, .int .i64 0, .slice none 0 0] 26) = w0 at B0 s0 ⊢
  have XA := Xa.below B0 la
  have XB := Xb.below B0 lb
  have FA := Fa.below B0 (Nat.le_refl _)
  have FB := Fb.below B0 (Nat.le_refl _)
  (refine wp_region_kinds (fun w' => Below w0.heap.size w0 w') (fun _ => 0) 24 (below_drewN (Below.refl _ _) 1) (by kernel_rfl) (by kernel_rfl) (by kernel_rfl) ?_; simp only [List.take_succ_cons, List.take_zero, List.drop_succ_cons, List.drop_zero])
  ((with_reducible refine wpKinds_run (.agg #[.int .i64 p, .int .i64 c, .slice (some ⟨p1, o1, none⟩) n d1]) ?hwant ?hkind ?hrun ?_); (case hwant => first | (simp [Region.wanted, yielded]; done) | rfl); (case hkind => rfl); (case hrun => intro W hW; obtain ⟨u0, u1, u2⟩ := Box.below XA hW (by omega); simp [go_sem, BigFrame.eval_const, BigFrame.eval_global, BigFrame.eval_func, u0, u1, u2]); simp only [Act.put, List.setIfInBounds_toArray, List.set_cons_succ, List.set_cons_zero])
  ((with_reducible refine wpKinds_call (f := 43) (args := #[.agg #[.int .i64 p, .int .i64 c, .slice (some ⟨p1, o1, none⟩) n d1]]) (.bool true) ?hwant ?hkind ?hrun ?hinit ?hcall ?_); (case hwant => first | (simp [Region.wanted, yielded]; done) | rfl); (case hkind => rfl); (case hrun => intro W; simp [go_sem, BigFrame.eval_const, BigFrame.eval_global, BigFrame.eval_func]); (case hinit => kernel_rfl); (case hcall => intro W hW; (refine (hvA W (FA.below hW (Nat.le_refl _))).mono ?_; rintro e w' ⟨rfl, hb⟩; exact ⟨rfl, hW.trans (hb.mono hW.size)⟩)); simp only [Act.put, List.setIfInBounds_toArray, List.set_cons_succ, List.set_cons_zero])
  ((with_reducible refine wpKinds_plain ?hwant ?hkind ?hplain (fun K hK => ?_)); (case hwant => first | (simp [Region.wanted, yielded]; done) | rfl); (case hkind => rfl); (case hplain => rfl); go_big_quiet_op; (first | refine hK _ ?_ | refine ⟨_, fun _ _ => rfl, hK _ ?_⟩); clear hK K)
  ((with_reducible refine wpKinds_plain ?hwant ?hkind ?hplain (fun K hK => ?_)); (case hwant => first | (simp [Region.wanted, yielded]; done) | rfl); (case hkind => rfl); (case hplain => rfl); go_big_quiet_op; (first | refine hK _ ?_ | refine ⟨_, fun _ _ => rfl, hK _ ?_⟩); clear hK K)
  ((with_reducible refine wpKinds_run (.agg #[.int .i64 p, .int .i64 c, .slice (some ⟨p2, o2, none⟩) n d2]) ?hwant ?hkind ?hrun ?_); (case hwant => first | (simp [Region.wanted, yielded]; done) | rfl); (case hkind => rfl); (case hrun => intro W hW; obtain ⟨u0, u1, u2⟩ := Box.below XB hW (by omega); simp [go_sem, BigFrame.eval_const, BigFrame.eval_global, BigFrame.eval_func, u0, u1, u2]); simp only [Act.put, List.setIfInBounds_toArray, List.set_cons_succ, List.set_cons_zero])
  ((with_reducible refine wpKinds_call (f := 43) (args := #[.agg #[.int .i64 p, .int .i64 c, .slice (some ⟨p2, o2, none⟩) n d2]]) (.bool true) ?hwant ?hkind ?hrun ?hinit ?hcall ?_); (case hwant => first | (simp [Region.wanted, yielded]; done) | rfl); (case hkind => rfl); (case hrun => intro W; simp [go_sem, BigFrame.eval_const, BigFrame.eval_global, BigFrame.eval_func]); (case hinit => kernel_rfl); (case hcall => intro W hW; (refine (hvB W (FB.below hW (Nat.le_refl _))).mono ?_; rintro e w' ⟨rfl, hb⟩; exact ⟨rfl, hW.trans (hb.mono hW.size)⟩)); simp only [Act.put, List.setIfInBounds_toArray, List.set_cons_succ, List.set_cons_zero])
  ((with_reducible refine wpKinds_plain ?hwant ?hkind ?hplain (fun K hK => ?_)); (case hwant => first | (simp [Region.wanted, yielded]; done) | rfl); (case hkind => rfl); (case hplain => rfl); go_big_quiet_op; (first | refine hK _ ?_ | refine ⟨_, fun _ _ => rfl, hK _ ?_⟩); clear hK K)
  ((with_reducible refine wpKinds_run (.bool false) ?hwant ?hkind ?hrun ?_); (case hwant => first | (simp [Region.wanted, yielded]; done) | rfl); (case hkind => rfl); (case hrun => intro W hW; simp [go_sem, BigFrame.eval_const, BigFrame.eval_global, BigFrame.eval_func]); simp only [Act.put, List.setIfInBounds_toArray, List.set_cons_succ, List.set_cons_zero])
  ((with_reducible refine wpKinds_plain ?hwant ?hkind ?hplain (fun K hK => ?_)); (case hwant => first | (simp [Region.wanted, yielded]; done) | rfl); (case hkind => rfl); (case hplain => rfl); go_big_quiet_op; (first | refine hK _ ?_ | refine ⟨_, fun _ _ => rfl, hK _ ?_⟩); clear hK K)
  ((with_reducible refine wpKinds_run (.agg #[.int .i64 p, .int .i64 c, .slice (some ⟨p1, o1, none⟩) n d1]) ?hwant ?hkind ?hrun ?_); (case hwant => first | (simp [Region.wanted, yielded]; done) | rfl); (case hkind => rfl); (case hrun => intro W hW; obtain ⟨u0, u1, u2⟩ := Box.below XA hW (by omega); simp [go_sem, BigFrame.eval_const, BigFrame.eval_global, BigFrame.eval_func, u0, u1, u2]); simp only [Act.put, List.setIfInBounds_toArray, List.set_cons_succ, List.set_cons_zero])
  ((with_reducible refine wpKinds_call (f := 53) (args := #[.agg #[.int .i64 p, .int .i64 c, .slice (some ⟨p1, o1, none⟩) n d1]]) (.agg #[.int .i64 p, .int .i64 c]) ?hwant ?hkind ?hrun ?hinit ?hcall ?_); (case hwant => first | (simp [Region.wanted, yielded]; done) | rfl); (case hkind => rfl); (case hrun => intro W; simp [go_sem, BigFrame.eval_const, BigFrame.eval_global, BigFrame.eval_func]); (case hinit => kernel_rfl); (case hcall => intro W hW; (refine (sidesOfW_any _ _ _ _ _ W).mono ?_; rintro e w' ⟨rfl, hb⟩; exact ⟨rfl, hW.trans (hb.mono hW.size)⟩)); simp only [Act.put, List.setIfInBounds_toArray, List.set_cons_succ, List.set_cons_zero])
  ((with_reducible refine wpKinds_run (.agg #[.int .i64 p, .int .i64 c, .slice (some ⟨p2, o2, none⟩) n d2]) ?hwant ?hkind ?hrun ?_); (case hwant => first | (simp [Region.wanted, yielded]; done) | rfl); (case hkind => rfl); (case hrun => intro W hW; obtain ⟨u0, u1, u2⟩ := Box.below XB hW (by omega); simp [go_sem, BigFrame.eval_const, BigFrame.eval_global, BigFrame.eval_func, u0, u1, u2]); simp only [Act.put, List.setIfInBounds_toArray, List.set_cons_succ, List.set_cons_zero])
  ((with_reducible refine wpKinds_call (f := 53) (args := #[.agg #[.int .i64 p, .int .i64 c, .slice (some ⟨p2, o2, none⟩) n d2]]) (.agg #[.int .i64 p, .int .i64 c]) ?hwant ?hkind ?hrun ?hinit ?hcall ?_); (case hwant => first | (simp [Region.wanted, yielded]; done) | rfl); (case hkind => rfl); (case hrun => intro W; simp [go_sem, BigFrame.eval_const, BigFrame.eval_global, BigFrame.eval_func]); (case hinit => kernel_rfl); (case hcall => intro W hW; (refine (sidesOfW_any _ _ _ _ _ W).mono ?_; rintro e w' ⟨rfl, hb⟩; exact ⟨rfl, hW.trans (hb.mono hW.size)⟩)); simp only [Act.put, List.setIfInBounds_toArray, List.set_cons_succ, List.set_cons_zero])
  ((with_reducible refine wpKinds_run (.bool false) ?hwant ?hkind ?hrun ?_); (case hwant => first | (simp [Region.wanted, yielded]; done) | rfl); (case hkind => rfl); (case hrun => intro W hW; simp [go_sem, BigFrame.eval_const, BigFrame.eval_global, BigFrame.eval_func]); simp only [Act.put, List.setIfInBounds_toArray, List.set_cons_succ, List.set_cons_zero])
  ((with_reducible refine wpKinds_run (.bool false) ?hwant ?hkind ?hrun ?_); (case hwant => first | (simp [Region.wanted, yielded]; done) | rfl); (case hkind => rfl); (case hrun => intro W hW; simp [go_sem, BigFrame.eval_const, BigFrame.eval_global, BigFrame.eval_func]); simp only [Act.put, List.setIfInBounds_toArray, List.set_cons_succ, List.set_cons_zero])
  ((with_reducible refine wpKinds_plain ?hwant ?hkind ?hplain (fun K hK => ?_)); (case hwant => first | (simp [Region.wanted, yielded]; done) | rfl); (case hkind => rfl); (case hplain => rfl); go_big_quiet_op; (first | refine hK _ ?_ | refine ⟨_, fun _ _ => rfl, hK _ ?_⟩); clear hK K)
  ((with_reducible refine wpKinds_plain ?hwant ?hkind ?hplain (fun K hK => ?_)); (case hwant => first | (simp [Region.wanted, yielded]; done) | rfl); (case hkind => rfl); (case hplain => rfl); go_big_quiet_op; (first | refine hK _ ?_ | refine ⟨_, fun _ _ => rfl, hK _ ?_⟩); clear hK K)
  ((with_reducible refine wpKinds_call (f := 54) (args := #[.float .f32 x]) (.bool true) ?hwant ?hkind ?hrun ?hinit ?hcall ?_); (case hwant => first | (simp [Region.wanted, yielded]; done) | rfl); (case hkind => rfl); (case hrun => intro W; simp [go_sem, BigFrame.eval_const, BigFrame.eval_global, BigFrame.eval_func]); (case hinit => kernel_rfl); (case hcall => intro W hW; (refine (fin1 W).mono ?_; rintro e w' ⟨rfl, q, rfl⟩; exact ⟨rfl, below_drewN hW _⟩)); simp only [Act.put, List.setIfInBounds_toArray, List.set_cons_succ, List.set_cons_zero])
  ((with_reducible refine wpKinds_plain ?hwant ?hkind ?hplain (fun K hK => ?_)); (case hwant => first | (simp [Region.wanted, yielded]; done) | rfl); (case hkind => rfl); (case hplain => rfl); go_big_quiet_op; (first | refine hK _ ?_ | refine ⟨_, fun _ _ => rfl, hK _ ?_⟩); clear hK K)
  ((with_reducible refine wpKinds_run (.bool false) ?hwant ?hkind ?hrun ?_); (case hwant => first | (simp [Region.wanted, yielded]; done) | rfl); (case hkind => rfl); (case hrun => intro W hW; simp [go_sem, BigFrame.eval_const, BigFrame.eval_global, BigFrame.eval_func]); simp only [Act.put, List.setIfInBounds_toArray, List.set_cons_succ, List.set_cons_zero])
  ((with_reducible refine wpKinds_plain ?hwant ?hkind ?hplain (fun K hK => ?_)); (case hwant => first | (simp [Region.wanted, yielded]; done) | rfl); (case hkind => rfl); (case hplain => rfl); go_big_quiet_op; (first | refine hK _ ?_ | refine ⟨_, fun _ _ => rfl, hK _ ?_⟩); clear hK K)
  ((with_reducible refine wpKinds_plain ?hwant ?hkind ?hplain (fun K hK => ?_)); (case hwant => first | (simp [Region.wanted, yielded]; done) | rfl); (case hkind => rfl); (case hplain => rfl); go_big_quiet_op; (first | refine hK _ ?_ | refine ⟨_, fun _ _ => rfl, hK _ ?_⟩); clear hK K)
  ((with_reducible refine wpKinds_call (f := 54) (args := #[.float .f32 y]) (.bool true) ?hwant ?hkind ?hrun ?hinit ?hcall ?_); (case hwant => first | (simp [Region.wanted, yielded]; done) | rfl); (case hkind => rfl); (case hrun => intro W; simp [go_sem, BigFrame.eval_const, BigFrame.eval_global, BigFrame.eval_func]); (case hinit => kernel_rfl); (case hcall => intro W hW; (refine (fin2 W).mono ?_; rintro e w' ⟨rfl, q, rfl⟩; exact ⟨rfl, below_drewN hW _⟩)); simp only [Act.put, List.setIfInBounds_toArray, List.set_cons_succ, List.set_cons_zero])
  ((with_reducible refine wpKinds_plain ?hwant ?hkind ?hplain (fun K hK => ?_)); (case hwant => first | (simp [Region.wanted, yielded]; done) | rfl); (case hkind => rfl); (case hplain => rfl); go_big_quiet_op; (first | refine hK _ ?_ | refine ⟨_, fun _ _ => rfl, hK _ ?_⟩); clear hK K)
  refine wpKinds_nil ?_
  intro w1 b1
  obtain ⟨x0, x1, x2⟩ := XA.below b1 (by omega)
  clear XA XB FA FB fin1 fin2 hvA hvB
  go_wp2_with fail
  go_at_call 50
  refine (newMatrix_any p c n _ hp hc hN.out).mono ?_
  rintro e w3 ⟨g, rfl, o3, b3⟩
  have b13 := b1.trans (b3.mono b1.size)
  subst hw0
  have wk := Work.start (w := wa) (R := (p : Int)) (C := (c : Int)) 26 26 (Own.mono (B' := wa.heap.size + 1) o3 (by have := b1.size; omega) (Nat.le_refl _) (Nat.le_refl _)) b13
  clear o3 b1 b3 b13 x0 x1 x2 B0 s0
  obtain ⟨g1, g2, g3, g4⟩ := wk.facts hpos
  obtain ⟨y0, y1, y2⟩ := wk.box
  go_wp2
  clear y0 y1 y2 g1 g2 g3 g4
  go_loopw [46] (fun i wr => ∃ (j : Nat) (X : Nat → Nat), j ≤ n ∧ i = .int .i64 j ∧ (∀ t, t < j → FV .f32 (X t) (VV t)) ∧ Work wa (wa.heap.size + 1) w3.heap.size g w3.heap.size wa.heap.size p c n X wr) (fun i _ => n - (intOf i).toNat)
  case atStart => exact ⟨0, _, Nat.zero_le _, rfl, fun t ht => absurd ht (Nat.not_lt_zero _), wk⟩
  case round =>
    obtain ⟨j, X, hj, rfl, hV, hk⟩ := hrel
    clear wk
    obtain ⟨g1, g2, g3, g4⟩ := hk.facts hpos
    by_cases hlt : j < n
    · obtain ⟨y0, y1, y2⟩ := hk.box
      obtain ⟨x0, x1, x2⟩ := Xa.below hk.bel la
      obtain ⟨v0, v1, v2⟩ := Xb.below hk.bel lb
      obtain ⟨b', off', e, hbl, hce, hfv⟩ := (Fa.below hk.bel (Nat.le_refl _)).at hlt
      simp only [Option.some.injEq, Addr.mk.injEq, and_true] at e
      obtain ⟨rfl, rfl⟩ := e
      obtain ⟨b', off', e, hbl2, hce3, hfv3⟩ := (Fb.below hk.bel (Nat.le_refl _)).at hlt
      simp only [Option.some.injEq, Addr.mk.injEq, and_true] at e
      obtain ⟨rfl, rfl⟩ := e
      have fz : FV .f32 (Z j) (cn .f32 (Z j)) := FV.mk' hfv.2
      have fw : FV .f32 (Y j) (cn .f32 (Y j)) := FV.mk' hfv3.2
      obtain ⟨hce2, hfr, _⟩ := hk.own.cell hlt
      have HVX := Lib.hid hV
      have hk' := Lib.hid hk
      have HV : Hid (fop .add .f32 (fop .mul .f32 (cn .f32 x) (cn .f32 (Z j))) (fop .mul .f32 (cn .f32 y) (cn .f32 (Y j))) = VV j) := Lib.hid (by rw [HVV.out]; rfl)
      clear hk hfv hbl hV hbl2 hfv3
      generalize cn .f32 (Z j) = zz at fz HV
      generalize cn .f32 (Y j) = ww at fw HV
      generalize cn .f32 x = xx at fx HV
      generalize cn .f32 y = yy at fy HV
      generalize Z j = z at hce fz
      generalize Y j = y' at hce3 fw
      generalize X j = old at hce2
      go_wp2
      (refine wp_region_loose_tail 18 (by kernel_rfl) (by kernel_rfl) ?_; simp only [List.take_succ_cons, List.take_zero, List.drop_succ_cons, List.drop_zero]; (repeat (refine wpLoose_want rfl (fun K hK => ?_); first | (refine loose_farith _ _ _ _ _ rfl rfl _ _ _ rfl rfl (by first | assumption | (with_reducible exact FV.ofInt _ _) | (with_reducible exact FV.neg (by assumption)) | exact FV.lit (by kernel_rfl) (by kernel_rfl)) (by first | assumption | (with_reducible exact FV.ofInt _ _) | (with_reducible exact FV.neg (by assumption)) | exact FV.lit (by kernel_rfl) (by kernel_rfl)) ?_; intro r hr; refine hK _ ?_; clear hK K; simp only [Act.put, List.setIfInBounds_toArray, List.set_cons_succ, List.set_cons_zero]) | (refine loose_of_quiet rfl ?_; go_big_quiet_op; refine hK _ ?_; clear hK K))); refine wpLoose_nil ?_)
      rintro _ ⟨kk, rfl⟩
      have hr2 := FV.of_eq hr HV.out
      have hst := (hk'.out.drewN (m := kk)).stored (t := j) (v := r) hlt hr2.2
      have hst' := Lib.hid hst
      have hvn : Hid (∀ t, t < j + 1 → FV .f32 (if t = j then r else X t) (VV t)) := by
        refine Lib.hid fun t ht => ?_
        by_cases e : t = j
        · subst e; rw [if_pos rfl]; exact hr2
        · rw [if_neg e]; exact HVX.out t (by omega)
      clear hst hk' hce hce3 y0 y1 y2 x0 x1 x2 v0 v1 v2
      go_wp2_with fail
      go_roundw
      case rel => exact ⟨j + 1, _, by omega, by go_num, hvn.out, hst'.out⟩
      case measure => simp [intOf]; omega
    · obtain rfl : j = n := by omega
      obtain ⟨y0, y1, y2⟩ := hk.box
      have hvB : validB p c j (vals X) = allFin VV j := (validB_nat hp1 hp hc1 hc hN.out).trans (allFin_congr fun t ht => (hV t ht).1)
      have hfs := hk.own.fs
      have HVX := Lib.hid hV
      clear hV
      cases hf : allFin VV j with
      | true =>
        rw [hf] at hvB
        go_wp2_with fail
        go_at_call 29
        refine (implGive_yes _ _ _ _ _ X _ (by omega) hfs hvB).mono ?_
        rintro e w4 ⟨rfl, b4⟩
        have hk2 := hk.below b4 g3 g4
        clear hk hfs y0 y1 y2
        obtain ⟨z0, z1, z2⟩ := hk2.res
        have o2 := hk2.own
        have B2 := Ba.trans (hk2.bel.mono (by omega))
        have hlo := hk2.lo
        have hmid := hk2.mid
        have hice : ∀ i, w4.frozen? ⟨w.heap.size + 1 + 1, i, none⟩ = false := fun i => by have hh := hk2.ice i; rwa [sa] at hh
        rw [sa] at z0 z1 z2
        obtain ⟨_, _, g3', _⟩ := hk2.facts hpos
        clear hk2
        try rw [sa]
        go_wp2_with fail
        refine bodyPost_ret (v := .tuple #[.agg #[.int .i64 p, .int .i64 c, .slice (some ⟨g, 0, none⟩) j j], .bool true]) (by simp [results, Try.results28, go_sem, z0, z1, z2]) rfl ?_
        exact OwnIf.yes hf ⟨_, _, _, rfl, (by refine Own.to o2 (hk := fun g hg1 hg2 => by (try simp at hg1 hg2); repeat (first | rw [Below.heap_setCell _ _ _ _ (by simp; omega)] | rw [Below.heap_alloc _ _ _ (by simp [World.setCell]; omega)])) ?_ ?_ ?_ ?_ <;> (first | exact Nat.le_refl _ | omega | (simp [World.setCell]; done) | (simp [World.setCell]; omega))), fun i hi => (HVX.out i hi).1, (by repeat first | (with_reducible exact B2) | (with_reducible refine Below.setCell ?_ (by first | exact Nat.le_refl _ | (simp; done) | (simp; omega) | omega) _) | (with_reducible refine Below.alloc ?_ (by first | exact Nat.le_refl _ | (simp; done) | (simp; omega) | omega) _) | (with_reducible refine below_drewN ?_ _) | (with_reducible refine Below.drew ?_))⟩
      | false =>
        rw [hf] at hvB
        go_wp2_with fail
        go_at_call 29
        refine (implGive_no _ _ _ _ _ X _ (by omega) hfs hvB).mono ?_
        rintro e w4 ⟨rfl, b4⟩
        have hk2 := hk.below b4 g3 g4
        clear hk hfs y0 y1 y2
        obtain ⟨z0, z1, z2⟩ := hk2.res
        have B2 := Ba.trans (hk2.bel.mono (by omega))
        have hice : ∀ i, w4.frozen? ⟨w.heap.size + 1 + 1, i, none⟩ = false := fun i => by have hh := hk2.ice i; rwa [sa] at hh
        rw [sa] at z0 z1 z2
        clear hk2
        try rw [sa]
        go_wp2_with fail
        refine bodyPost_ret (v := .tuple #[.agg #[.int .i64 0, .int .i64 0, .slice none 0 0], .bool false]) (by simp [results, Try.results28, go_sem, z0, z1, z2]) rfl ?_
        exact OwnIf.no hf ⟨none, 0, fun _ => 0, rfl, .inl ⟨rfl, rfl, rfl⟩, fun i hi => absurd hi (Nat.not_lt_zero _), (by repeat first | (with_reducible exact B2) | (with_reducible refine Below.setCell ?_ (by first | exact Nat.le_refl _ | (simp; done) | (simp; omega) | omega) _) | (with_reducible refine Below.alloc ?_ (by first | exact Nat.le_refl _ | (simp; done) | (simp; omega) | omega) _) | (with_reducible refine below_drewN ?_ _) | (with_reducible refine Below.drew ?_))⟩
end Go.Proofs.Ytbmiolfpgoggaaa
