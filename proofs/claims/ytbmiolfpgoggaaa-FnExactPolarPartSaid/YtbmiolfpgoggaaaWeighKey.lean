/- Helper: the sum of two matrices that are weighed, told by program and reference alike. Conditions: none. -/
import Derived.Test.YtbmiolfpgoggaaaWeighSpec
set_option linter.unusedVariables false
set_option linter.unusedSimpArgs false
namespace Go.Proofs.Ytbmiolfpgoggaaa
open Go.RowKit

def weighB (R C : Int) (n : Nat) (V : Nat → Option Nat) (R2 C2 : Int) (n2 : Nat) (V2 : Nat → Option Nat) (X Y : Option Nat) : Bool :=
  validB R C n V && (validB R2 C2 n2 V2 && (decide (R = R2) && (decide (C = C2) && (finite .f32 X && finite .f32 Y))))
set_option maxRecDepth 20000 in
set_option maxHeartbeats 2000000 in
theorem implWeigh_no0 (x y : Nat) (R C : Int) (a : Option Addr) (n c : Nat) (Z : Nat → Nat) (R2 C2 : Int) (b : Option Addr) (n2 d : Nat) (Y : Nat → Nat) (w : World) (wx : (Lit.float .f32 x).wf = true) (wy : (Lit.float .f32 y).wf = true) (hn : n ≤ 1048576) (hm : n2 ≤ 1048576) (h : FS .f32 w a n c Z) (h2 : FS .f32 w b n2 d Y)
    (hva : validB R C n (vals Z) = false) :
    Calls Try.prog 28 #[.agg #[.int .i64 R, .int .i64 C, .slice a n c], .agg #[.int .i64 R2, .int .i64 C2, .slice b n2 d], .float .f32 x, .float .f32 y] w (MatOwn false 0 0 0 (fun _ => none) w) := by
  have hvA := fun W (hW : FS .f32 W a n c Z) => implValid_any R C a n c Z W hn hW
  rw [hva] at hvA
  have hvB := fun W (hW : FS .f32 W b n2 d Y) => implValid_any R2 C2 b n2 d Y W hm hW
  have fin1 := fun W => implIsFinite_any x (FV.mk' wx) W
  have fin2 := fun W => implIsFinite_any y (FV.mk' wy) W
  clear hva wx wy
  go_enter Try.func28, Try.ntmps28
  go_wp2_with fail
  have XA : Box (((w.alloc (.cells #[.int .i64 R, .int .i64 C, .slice a n c] 26)).alloc (.cells #[.int .i64 R2, .int .i64 C2, .slice b n2 d] 26)).alloc (.cells #[.int .i64 0, .int .i64 0, .slice none 0 0] 26)) w.heap.size R C a n c := by refine ⟨?_, ?_, ?_⟩ <;> simp [go_sem]
  have XB : Box (((w.alloc (.cells #[.int .i64 R, .int .i64 C, .slice a n c] 26)).alloc (.cells #[.int .i64 R2, .int .i64 C2, .slice b n2 d] 26)).alloc (.cells #[.int .i64 0, .int .i64 0, .slice none 0 0] 26)) (w.heap.size + 1) R2 C2 b n2 d := by refine ⟨?_, ?_, ?_⟩ <;> simp [go_sem]
  have XR : Box (((w.alloc (.cells #[.int .i64 R, .int .i64 C, .slice a n c] 26)).alloc (.cells #[.int .i64 R2, .int .i64 C2, .slice b n2 d] 26)).alloc (.cells #[.int .i64 0, .int .i64 0, .slice none 0 0] 26)) (w.heap.size + 1 + 1) 0 0 none 0 0 := by refine ⟨?_, ?_, ?_⟩ <;> simp [go_sem]
  have IR : ∀ i, (((w.alloc (.cells #[.int .i64 R, .int .i64 C, .slice a n c] 26)).alloc (.cells #[.int .i64 R2, .int .i64 C2, .slice b n2 d] 26)).alloc (.cells #[.int .i64 0, .int .i64 0, .slice none 0 0] 26)).frozen? ⟨w.heap.size + 1 + 1, i, none⟩ = false := by intro i; simp [go_sem]
  have B0 : Below w.heap.size w (((w.alloc (.cells #[.int .i64 R, .int .i64 C, .slice a n c] 26)).alloc (.cells #[.int .i64 R2, .int .i64 C2, .slice b n2 d] 26)).alloc (.cells #[.int .i64 0, .int .i64 0, .slice none 0 0] 26)) := (by repeat first | (with_reducible exact Below.refl _ _) | (with_reducible refine Below.setCell ?_ (by first | exact Nat.le_refl _ | (simp; done) | (simp; omega) | omega) _) | (with_reducible refine Below.alloc ?_ (by first | exact Nat.le_refl _ | (simp; done) | (simp; omega) | omega) _) | (with_reducible refine below_drewN ?_ _) | (with_reducible refine Below.drew ?_))
  have s0 : (((w.alloc (.cells #[.int .i64 R, .int .i64 C, .slice a n c] 26)).alloc (.cells #[.int .i64 R2, .int .i64 C2, .slice b n2 d] 26)).alloc (.cells #[.int .i64 0, .int .i64 0, .slice none 0 0] 26)).heap.size = w.heap.size + 1 + 1 + 1 := by simp
  generalize ((w.alloc (.cells #[.int .i64 R, .int .i64 C, .slice a n c] 26)).alloc (.cells #[.int .i64 R2, .int .i64 C2, .slice b n2 d] 26)).alloc (.cells #[.int .i64 0, .int .i64 0, .slice none 0 0] 26) = w0 at *
  have FA := h.below B0 (Nat.le_refl _)
  have FB := h2.below B0 (Nat.le_refl _)
  (refine wp_region_kinds (fun w' => Below w0.heap.size w0 w') (fun _ => 0) 24 (below_drewN (Below.refl _ _) 1) (by kernel_rfl) (by kernel_rfl) (by kernel_rfl) ?_; simp only [List.take_succ_cons, List.take_zero, List.drop_succ_cons, List.drop_zero])
  ((with_reducible refine wpKinds_run (.agg #[.int .i64 R, .int .i64 C, .slice a n c]) ?hwant ?hkind ?hrun ?_); (case hwant => first | (simp [Region.wanted, yielded]; done) | rfl); (case hkind => rfl); (case hrun => intro W hW; obtain ⟨u0, u1, u2⟩ := Box.below XA hW (by omega); simp [go_sem, BigFrame.eval_const, BigFrame.eval_global, BigFrame.eval_func, u0, u1, u2]); simp only [Act.put, List.setIfInBounds_toArray, List.set_cons_succ, List.set_cons_zero])
  ((with_reducible refine wpKinds_call (f := 43) (args := #[.agg #[.int .i64 R, .int .i64 C, .slice a n c]]) (.bool false) ?hwant ?hkind ?hrun ?hinit ?hcall ?_); (case hwant => first | (simp [Region.wanted, yielded]; done) | rfl); (case hkind => rfl); (case hrun => intro W; simp [go_sem, BigFrame.eval_const, BigFrame.eval_global, BigFrame.eval_func]); (case hinit => kernel_rfl); (case hcall => intro W hW; (refine (hvA W (FA.below hW (Nat.le_refl _))).mono ?_; rintro e w' ⟨rfl, hb⟩; exact ⟨rfl, hW.trans (hb.mono hW.size)⟩)); simp only [Act.put, List.setIfInBounds_toArray, List.set_cons_succ, List.set_cons_zero])
  ((with_reducible refine wpKinds_plain ?hwant ?hkind ?hplain (fun K hK => ?_)); (case hwant => first | (simp [Region.wanted, yielded]; done) | rfl); (case hkind => rfl); (case hplain => rfl); go_big_quiet_op; (first | refine hK _ ?_ | refine ⟨_, fun _ _ => rfl, hK _ ?_⟩); clear hK K)
  ((with_reducible refine wpKinds_plain ?hwant ?hkind ?hplain (fun K hK => ?_)); (case hwant => first | (simp [Region.wanted, yielded]; done) | rfl); (case hkind => rfl); (case hplain => rfl); go_big_quiet_op; (first | refine hK _ ?_ | refine ⟨_, fun _ _ => rfl, hK _ ?_⟩); clear hK K)
  ((with_reducible refine wpKinds_skip ?hwant ?_); (case hwant => first | (simp [Region.wanted, yielded]; done) | rfl); simp only [Act.put, List.setIfInBounds_toArray, List.set_cons_succ, List.set_cons_zero])
  ((with_reducible refine wpKinds_skip ?hwant ?_); (case hwant => first | (simp [Region.wanted, yielded]; done) | rfl); simp only [Act.put, List.setIfInBounds_toArray, List.set_cons_succ, List.set_cons_zero])
  ((with_reducible refine wpKinds_skip ?hwant ?_); (case hwant => first | (simp [Region.wanted, yielded]; done) | rfl); simp only [Act.put, List.setIfInBounds_toArray, List.set_cons_succ, List.set_cons_zero])
  ((with_reducible refine wpKinds_run (.bool true) ?hwant ?hkind ?hrun ?_); (case hwant => first | (simp [Region.wanted, yielded]; done) | rfl); (case hkind => rfl); (case hrun => intro W hW; simp [go_sem, BigFrame.eval_const, BigFrame.eval_global, BigFrame.eval_func]); simp only [Act.put, List.setIfInBounds_toArray, List.set_cons_succ, List.set_cons_zero])
  ((with_reducible refine wpKinds_plain ?hwant ?hkind ?hplain (fun K hK => ?_)); (case hwant => first | (simp [Region.wanted, yielded]; done) | rfl); (case hkind => rfl); (case hplain => rfl); go_big_quiet_op; (first | refine hK _ ?_ | refine ⟨_, fun _ _ => rfl, hK _ ?_⟩); clear hK K)
  ((with_reducible refine wpKinds_skip ?hwant ?_); (case hwant => first | (simp [Region.wanted, yielded]; done) | rfl); simp only [Act.put, List.setIfInBounds_toArray, List.set_cons_succ, List.set_cons_zero])
  ((with_reducible refine wpKinds_skip ?hwant ?_); (case hwant => first | (simp [Region.wanted, yielded]; done) | rfl); simp only [Act.put, List.setIfInBounds_toArray, List.set_cons_succ, List.set_cons_zero])
  ((with_reducible refine wpKinds_skip ?hwant ?_); (case hwant => first | (simp [Region.wanted, yielded]; done) | rfl); simp only [Act.put, List.setIfInBounds_toArray, List.set_cons_succ, List.set_cons_zero])
  ((with_reducible refine wpKinds_skip ?hwant ?_); (case hwant => first | (simp [Region.wanted, yielded]; done) | rfl); simp only [Act.put, List.setIfInBounds_toArray, List.set_cons_succ, List.set_cons_zero])
  ((with_reducible refine wpKinds_skip ?hwant ?_); (case hwant => first | (simp [Region.wanted, yielded]; done) | rfl); simp only [Act.put, List.setIfInBounds_toArray, List.set_cons_succ, List.set_cons_zero])
  ((with_reducible refine wpKinds_run (.bool true) ?hwant ?hkind ?hrun ?_); (case hwant => first | (simp [Region.wanted, yielded]; done) | rfl); (case hkind => rfl); (case hrun => intro W hW; simp [go_sem, BigFrame.eval_const, BigFrame.eval_global, BigFrame.eval_func]); simp only [Act.put, List.setIfInBounds_toArray, List.set_cons_succ, List.set_cons_zero])
  ((with_reducible refine wpKinds_plain ?hwant ?hkind ?hplain (fun K hK => ?_)); (case hwant => first | (simp [Region.wanted, yielded]; done) | rfl); (case hkind => rfl); (case hplain => rfl); go_big_quiet_op; (first | refine hK _ ?_ | refine ⟨_, fun _ _ => rfl, hK _ ?_⟩); clear hK K)
  ((with_reducible refine wpKinds_skip ?hwant ?_); (case hwant => first | (simp [Region.wanted, yielded]; done) | rfl); simp only [Act.put, List.setIfInBounds_toArray, List.set_cons_succ, List.set_cons_zero])
  ((with_reducible refine wpKinds_skip ?hwant ?_); (case hwant => first | (simp [Region.wanted, yielded]; done) | rfl); simp only [Act.put, List.setIfInBounds_toArray, List.set_cons_succ, List.set_cons_zero])
  ((with_reducible refine wpKinds_skip ?hwant ?_); (case hwant => first | (simp [Region.wanted, yielded]; done) | rfl); simp only [Act.put, List.setIfInBounds_toArray, List.set_cons_succ, List.set_cons_zero])
  ((with_reducible refine wpKinds_run (.bool true) ?hwant ?hkind ?hrun ?_); (case hwant => first | (simp [Region.wanted, yielded]; done) | rfl); (case hkind => rfl); (case hrun => intro W hW; simp [go_sem, BigFrame.eval_const, BigFrame.eval_global, BigFrame.eval_func]); simp only [Act.put, List.setIfInBounds_toArray, List.set_cons_succ, List.set_cons_zero])
  ((with_reducible refine wpKinds_plain ?hwant ?hkind ?hplain (fun K hK => ?_)); (case hwant => first | (simp [Region.wanted, yielded]; done) | rfl); (case hkind => rfl); (case hplain => rfl); go_big_quiet_op; (first | refine hK _ ?_ | refine ⟨_, fun _ _ => rfl, hK _ ?_⟩); clear hK K)
  ((with_reducible refine wpKinds_skip ?hwant ?_); (case hwant => first | (simp [Region.wanted, yielded]; done) | rfl); simp only [Act.put, List.setIfInBounds_toArray, List.set_cons_succ, List.set_cons_zero])
  ((with_reducible refine wpKinds_skip ?hwant ?_); (case hwant => first | (simp [Region.wanted, yielded]; done) | rfl); simp only [Act.put, List.setIfInBounds_toArray, List.set_cons_succ, List.set_cons_zero])
  ((with_reducible refine wpKinds_skip ?hwant ?_); (case hwant => first | (simp [Region.wanted, yielded]; done) | rfl); simp only [Act.put, List.setIfInBounds_toArray, List.set_cons_succ, List.set_cons_zero])
  refine wpKinds_nil ?_
  intro w1 b1
  obtain ⟨z0, z1, z2⟩ := XR.below b1 (by omega)
  have I1 : ∀ i, w1.frozen? ⟨w.heap.size + 1 + 1, i, none⟩ = false := fun i => (b1.frozen (p := ⟨w.heap.size + 1 + 1, i, none⟩) (by show w.heap.size + 1 + 1 < w0.heap.size; omega)).trans (IR i)
  have B1 := B0.trans (b1.mono B0.size)
  clear XA XB XR IR B0 FA FB hvA hvB fin1 fin2 b1
  go_wp2_with fail
  refine bodyPost_ret (v := .tuple #[.agg #[.int .i64 0, .int .i64 0, .slice none 0 0], .bool false]) (by simp [results, Try.results28, go_sem, z0, z1, z2]) rfl ?_
  exact ⟨none, 0, fun _ => 0, rfl, .inl ⟨rfl, rfl, rfl⟩, fun i hi => by omega, (by repeat first | (with_reducible exact B1) | (with_reducible refine Below.setCell ?_ (by first | exact Nat.le_refl _ | (simp; done) | (simp; omega) | omega) _) | (with_reducible refine Below.alloc ?_ (by first | exact Nat.le_refl _ | (simp; done) | (simp; omega) | omega) _) | (with_reducible refine below_drewN ?_ _) | (with_reducible refine Below.drew ?_))⟩
set_option maxRecDepth 20000 in
set_option maxHeartbeats 2000000 in
theorem implWeigh_no1 (x y : Nat) (R C : Int) (a : Option Addr) (n c : Nat) (Z : Nat → Nat) (R2 C2 : Int) (b : Option Addr) (n2 d : Nat) (Y : Nat → Nat) (w : World) (wx : (Lit.float .f32 x).wf = true) (wy : (Lit.float .f32 y).wf = true) (hn : n ≤ 1048576) (hm : n2 ≤ 1048576) (h : FS .f32 w a n c Z) (h2 : FS .f32 w b n2 d Y)
    (hva : validB R C n (vals Z) = true) (hvb : validB R2 C2 n2 (vals Y) = false) :
    Calls Try.prog 28 #[.agg #[.int .i64 R, .int .i64 C, .slice a n c], .agg #[.int .i64 R2, .int .i64 C2, .slice b n2 d], .float .f32 x, .float .f32 y] w (MatOwn false 0 0 0 (fun _ => none) w) := by
  have hvA := fun W (hW : FS .f32 W a n c Z) => implValid_any R C a n c Z W hn hW
  rw [hva] at hvA
  have hvB := fun W (hW : FS .f32 W b n2 d Y) => implValid_any R2 C2 b n2 d Y W hm hW
  rw [hvb] at hvB
  have fin1 := fun W => implIsFinite_any x (FV.mk' wx) W
  have fin2 := fun W => implIsFinite_any y (FV.mk' wy) W
  clear hva hvb wx wy
  go_enter Try.func28, Try.ntmps28
  go_wp2_with fail
  have XA : Box (((w.alloc (.cells #[.int .i64 R, .int .i64 C, .slice a n c] 26)).alloc (.cells #[.int .i64 R2, .int .i64 C2, .slice b n2 d] 26)).alloc (.cells #[.int .i64 0, .int .i64 0, .slice none 0 0] 26)) w.heap.size R C a n c := by refine ⟨?_, ?_, ?_⟩ <;> simp [go_sem]
  have XB : Box (((w.alloc (.cells #[.int .i64 R, .int .i64 C, .slice a n c] 26)).alloc (.cells #[.int .i64 R2, .int .i64 C2, .slice b n2 d] 26)).alloc (.cells #[.int .i64 0, .int .i64 0, .slice none 0 0] 26)) (w.heap.size + 1) R2 C2 b n2 d := by refine ⟨?_, ?_, ?_⟩ <;> simp [go_sem]
  have XR : Box (((w.alloc (.cells #[.int .i64 R, .int .i64 C, .slice a n c] 26)).alloc (.cells #[.int .i64 R2, .int .i64 C2, .slice b n2 d] 26)).alloc (.cells #[.int .i64 0, .int .i64 0, .slice none 0 0] 26)) (w.heap.size + 1 + 1) 0 0 none 0 0 := by refine ⟨?_, ?_, ?_⟩ <;> simp [go_sem]
  have IR : ∀ i, (((w.alloc (.cells #[.int .i64 R, .int .i64 C, .slice a n c] 26)).alloc (.cells #[.int .i64 R2, .int .i64 C2, .slice b n2 d] 26)).alloc (.cells #[.int .i64 0, .int .i64 0, .slice none 0 0] 26)).frozen? ⟨w.heap.size + 1 + 1, i, none⟩ = false := by intro i; simp [go_sem]
  have B0 : Below w.heap.size w (((w.alloc (.cells #[.int .i64 R, .int .i64 C, .slice a n c] 26)).alloc (.cells #[.int .i64 R2, .int .i64 C2, .slice b n2 d] 26)).alloc (.cells #[.int .i64 0, .int .i64 0, .slice none 0 0] 26)) := (by repeat first | (with_reducible exact Below.refl _ _) | (with_reducible refine Below.setCell ?_ (by first | exact Nat.le_refl _ | (simp; done) | (simp; omega) | omega) _) | (with_reducible refine Below.alloc ?_ (by first | exact Nat.le_refl _ | (simp; done) | (simp; omega) | omega) _) | (with_reducible refine below_drewN ?_ _) | (with_reducible refine Below.drew ?_))
  have s0 : (((w.alloc (.cells #[.int .i64 R, .int .i64 C, .slice a n c] 26)).alloc (.cells #[.int .i64 R2, .int .i64 C2, .slice b n2 d] 26)).alloc (.cells #[.int .i64 0, .int .i64 0, .slice none 0 0] 26)).heap.size = w.heap.size + 1 + 1 + 1 := by simp
  generalize ((w.alloc (.cells #[.int .i64 R, .int .i64 C, .slice a n c] 26)).alloc (.cells #[.int .i64 R2, .int .i64 C2, .slice b n2 d] 26)).alloc (.cells #[.int .i64 0, .int .i64 0, .slice none 0 0] 26) = w0 at *
  have FA := h.below B0 (Nat.le_refl _)
  have FB := h2.below B0 (Nat.le_refl _)
  (refine wp_region_kinds (fun w' => Below w0.heap.size w0 w') (fun _ => 0) 24 (below_drewN (Below.refl _ _) 1) (by kernel_rfl) (by kernel_rfl) (by kernel_rfl) ?_; simp only [List.take_succ_cons, List.take_zero, List.drop_succ_cons, List.drop_zero])
  ((with_reducible refine wpKinds_run (.agg #[.int .i64 R, .int .i64 C, .slice a n c]) ?hwant ?hkind ?hrun ?_); (case hwant => first | (simp [Region.wanted, yielded]; done) | rfl); (case hkind => rfl); (case hrun => intro W hW; obtain ⟨u0, u1, u2⟩ := Box.below XA hW (by omega); simp [go_sem, BigFrame.eval_const, BigFrame.eval_global, BigFrame.eval_func, u0, u1, u2]); simp only [Act.put, List.setIfInBounds_toArray, List.set_cons_succ, List.set_cons_zero])
  ((with_reducible refine wpKinds_call (f := 43) (args := #[.agg #[.int .i64 R, .int .i64 C, .slice a n c]]) (.bool true) ?hwant ?hkind ?hrun ?hinit ?hcall ?_); (case hwant => first | (simp [Region.wanted, yielded]; done) | rfl); (case hkind => rfl); (case hrun => intro W; simp [go_sem, BigFrame.eval_const, BigFrame.eval_global, BigFrame.eval_func]); (case hinit => kernel_rfl); (case hcall => intro W hW; (refine (hvA W (FA.below hW (Nat.le_refl _))).mono ?_; rintro e w' ⟨rfl, hb⟩; exact ⟨rfl, hW.trans (hb.mono hW.size)⟩)); simp only [Act.put, List.setIfInBounds_toArray, List.set_cons_succ, List.set_cons_zero])
  ((with_reducible refine wpKinds_plain ?hwant ?hkind ?hplain (fun K hK => ?_)); (case hwant => first | (simp [Region.wanted, yielded]; done) | rfl); (case hkind => rfl); (case hplain => rfl); go_big_quiet_op; (first | refine hK _ ?_ | refine ⟨_, fun _ _ => rfl, hK _ ?_⟩); clear hK K)
  ((with_reducible refine wpKinds_plain ?hwant ?hkind ?hplain (fun K hK => ?_)); (case hwant => first | (simp [Region.wanted, yielded]; done) | rfl); (case hkind => rfl); (case hplain => rfl); go_big_quiet_op; (first | refine hK _ ?_ | refine ⟨_, fun _ _ => rfl, hK _ ?_⟩); clear hK K)
  ((with_reducible refine wpKinds_run (.agg #[.int .i64 R2, .int .i64 C2, .slice b n2 d]) ?hwant ?hkind ?hrun ?_); (case hwant => first | (simp [Region.wanted, yielded]; done) | rfl); (case hkind => rfl); (case hrun => intro W hW; obtain ⟨u0, u1, u2⟩ := Box.below XB hW (by omega); simp [go_sem, BigFrame.eval_const, BigFrame.eval_global, BigFrame.eval_func, u0, u1, u2]); simp only [Act.put, List.setIfInBounds_toArray, List.set_cons_succ, List.set_cons_zero])
  ((with_reducible refine wpKinds_call (f := 43) (args := #[.agg #[.int .i64 R2, .int .i64 C2, .slice b n2 d]]) (.bool false) ?hwant ?hkind ?hrun ?hinit ?hcall ?_); (case hwant => first | (simp [Region.wanted, yielded]; done) | rfl); (case hkind => rfl); (case hrun => intro W; simp [go_sem, BigFrame.eval_const, BigFrame.eval_global, BigFrame.eval_func]); (case hinit => kernel_rfl); (case hcall => intro W hW; (refine (hvB W (FB.below hW (Nat.le_refl _))).mono ?_; rintro e w' ⟨rfl, hb⟩; exact ⟨rfl, hW.trans (hb.mono hW.size)⟩)); simp only [Act.put, List.setIfInBounds_toArray, List.set_cons_succ, List.set_cons_zero])
  ((with_reducible refine wpKinds_plain ?hwant ?hkind ?hplain (fun K hK => ?_)); (case hwant => first | (simp [Region.wanted, yielded]; done) | rfl); (case hkind => rfl); (case hplain => rfl); go_big_quiet_op; (first | refine hK _ ?_ | refine ⟨_, fun _ _ => rfl, hK _ ?_⟩); clear hK K)
  ((with_reducible refine wpKinds_run (.bool true) ?hwant ?hkind ?hrun ?_); (case hwant => first | (simp [Region.wanted, yielded]; done) | rfl); (case hkind => rfl); (case hrun => intro W hW; simp [go_sem, BigFrame.eval_const, BigFrame.eval_global, BigFrame.eval_func]); simp only [Act.put, List.setIfInBounds_toArray, List.set_cons_succ, List.set_cons_zero])
  ((with_reducible refine wpKinds_plain ?hwant ?hkind ?hplain (fun K hK => ?_)); (case hwant => first | (simp [Region.wanted, yielded]; done) | rfl); (case hkind => rfl); (case hplain => rfl); go_big_quiet_op; (first | refine hK _ ?_ | refine ⟨_, fun _ _ => rfl, hK _ ?_⟩); clear hK K)
  ((with_reducible refine wpKinds_skip ?hwant ?_); (case hwant => first | (simp [Region.wanted, yielded]; done) | rfl); simp only [Act.put, List.setIfInBounds_toArray, List.set_cons_succ, List.set_cons_zero])
  ((with_reducible refine wpKinds_skip ?hwant ?_); (case hwant => first | (simp [Region.wanted, yielded]; done) | rfl); simp only [Act.put, List.setIfInBounds_toArray, List.set_cons_succ, List.set_cons_zero])
  ((with_reducible refine wpKinds_skip ?hwant ?_); (case hwant => first | (simp [Region.wanted, yielded]; done) | rfl); simp only [Act.put, List.setIfInBounds_toArray, List.set_cons_succ, List.set_cons_zero])
  ((with_reducible refine wpKinds_skip ?hwant ?_); (case hwant => first | (simp [Region.wanted, yielded]; done) | rfl); simp only [Act.put, List.setIfInBounds_toArray, List.set_cons_succ, List.set_cons_zero])
  ((with_reducible refine wpKinds_skip ?hwant ?_); (case hwant => first | (simp [Region.wanted, yielded]; done) | rfl); simp only [Act.put, List.setIfInBounds_toArray, List.set_cons_succ, List.set_cons_zero])
  ((with_reducible refine wpKinds_run (.bool true) ?hwant ?hkind ?hrun ?_); (case hwant => first | (simp [Region.wanted, yielded]; done) | rfl); (case hkind => rfl); (case hrun => intro W hW; simp [go_sem, BigFrame.eval_const, BigFrame.eval_global, BigFrame.eval_func]); simp only [Act.put, List.setIfInBounds_toArray, List.set_cons_succ, List.set_cons_zero])
  ((with_reducible refine wpKinds_plain ?hwant ?hkind ?hplain (fun K hK => ?_)); (case hwant => first | (simp [Region.wanted, yielded]; done) | rfl); (case hkind => rfl); (case hplain => rfl); go_big_quiet_op; (first | refine hK _ ?_ | refine ⟨_, fun _ _ => rfl, hK _ ?_⟩); clear hK K)
  ((with_reducible refine wpKinds_skip ?hwant ?_); (case hwant => first | (simp [Region.wanted, yielded]; done) | rfl); simp only [Act.put, List.setIfInBounds_toArray, List.set_cons_succ, List.set_cons_zero])
  ((with_reducible refine wpKinds_skip ?hwant ?_); (case hwant => first | (simp [Region.wanted, yielded]; done) | rfl); simp only [Act.put, List.setIfInBounds_toArray, List.set_cons_succ, List.set_cons_zero])
  ((with_reducible refine wpKinds_skip ?hwant ?_); (case hwant => first | (simp [Region.wanted, yielded]; done) | rfl); simp only [Act.put, List.setIfInBounds_toArray, List.set_cons_succ, List.set_cons_zero])
  ((with_reducible refine wpKinds_run (.bool true) ?hwant ?hkind ?hrun ?_); (case hwant => first | (simp [Region.wanted, yielded]; done) | rfl); (case hkind => rfl); (case hrun => intro W hW; simp [go_sem, BigFrame.eval_const, BigFrame.eval_global, BigFrame.eval_func]); simp only [Act.put, List.setIfInBounds_toArray, List.set_cons_succ, List.set_cons_zero])
  ((with_reducible refine wpKinds_plain ?hwant ?hkind ?hplain (fun K hK => ?_)); (case hwant => first | (simp [Region.wanted, yielded]; done) | rfl); (case hkind => rfl); (case hplain => rfl); go_big_quiet_op; (first | refine hK _ ?_ | refine ⟨_, fun _ _ => rfl, hK _ ?_⟩); clear hK K)
  ((with_reducible refine wpKinds_skip ?hwant ?_); (case hwant => first | (simp [Region.wanted, yielded]; done) | rfl); simp only [Act.put, List.setIfInBounds_toArray, List.set_cons_succ, List.set_cons_zero])
  ((with_reducible refine wpKinds_skip ?hwant ?_); (case hwant => first | (simp [Region.wanted, yielded]; done) | rfl); simp only [Act.put, List.setIfInBounds_toArray, List.set_cons_succ, List.set_cons_zero])
  ((with_reducible refine wpKinds_skip ?hwant ?_); (case hwant => first | (simp [Region.wanted, yielded]; done) | rfl); simp only [Act.put, List.setIfInBounds_toArray, List.set_cons_succ, List.set_cons_zero])
  refine wpKinds_nil ?_
  intro w1 b1
  obtain ⟨z0, z1, z2⟩ := XR.below b1 (by omega)
  have I1 : ∀ i, w1.frozen? ⟨w.heap.size + 1 + 1, i, none⟩ = false := fun i => (b1.frozen (p := ⟨w.heap.size + 1 + 1, i, none⟩) (by show w.heap.size + 1 + 1 < w0.heap.size; omega)).trans (IR i)
  have B1 := B0.trans (b1.mono B0.size)
  clear XA XB XR IR B0 FA FB hvA hvB fin1 fin2 b1
  go_wp2_with fail
  refine bodyPost_ret (v := .tuple #[.agg #[.int .i64 0, .int .i64 0, .slice none 0 0], .bool false]) (by simp [results, Try.results28, go_sem, z0, z1, z2]) rfl ?_
  exact ⟨none, 0, fun _ => 0, rfl, .inl ⟨rfl, rfl, rfl⟩, fun i hi => by omega, (by repeat first | (with_reducible exact B1) | (with_reducible refine Below.setCell ?_ (by first | exact Nat.le_refl _ | (simp; done) | (simp; omega) | omega) _) | (with_reducible refine Below.alloc ?_ (by first | exact Nat.le_refl _ | (simp; done) | (simp; omega) | omega) _) | (with_reducible refine below_drewN ?_ _) | (with_reducible refine Below.drew ?_))⟩
set_option maxRecDepth 20000 in
set_option maxHeartbeats 2000000 in
theorem implWeigh_no2 (x y : Nat) (R C : Int) (a : Option Addr) (n c : Nat) (Z : Nat → Nat) (R2 C2 : Int) (b : Option Addr) (n2 d : Nat) (Y : Nat → Nat) (w : World) (wx : (Lit.float .f32 x).wf = true) (wy : (Lit.float .f32 y).wf = true) (hn : n ≤ 1048576) (hm : n2 ≤ 1048576) (h : FS .f32 w a n c Z) (h2 : FS .f32 w b n2 d Y)
    (hva : validB R C n (vals Z) = true) (hvb : validB R2 C2 n2 (vals Y) = true) (he : ¬ R = R2) :
    Calls Try.prog 28 #[.agg #[.int .i64 R, .int .i64 C, .slice a n c], .agg #[.int .i64 R2, .int .i64 C2, .slice b n2 d], .float .f32 x, .float .f32 y] w (MatOwn false 0 0 0 (fun _ => none) w) := by
  have hvA := fun W (hW : FS .f32 W a n c Z) => implValid_any R C a n c Z W hn hW
  rw [hva] at hvA
  have hvB := fun W (hW : FS .f32 W b n2 d Y) => implValid_any R2 C2 b n2 d Y W hm hW
  rw [hvb] at hvB
  have fin1 := fun W => implIsFinite_any x (FV.mk' wx) W
  have fin2 := fun W => implIsFinite_any y (FV.mk' wy) W
  clear hva hvb wx wy
  go_enter Try.func28, Try.ntmps28
  go_wp2_with fail
  have XA : Box (((w.alloc (.cells #[.int .i64 R, .int .i64 C, .slice a n c] 26)).alloc (.cells #[.int .i64 R2, .int .i64 C2, .slice b n2 d] 26)).alloc (.cells #[.int .i64 0, .int .i64 0, .slice none 0 0] 26)) w.heap.size R C a n c := by refine ⟨?_, ?_, ?_⟩ <;> simp [go_sem]
  have XB : Box (((w.alloc (.cells #[.int .i64 R, .int .i64 C, .slice a n c] 26)).alloc (.cells #[.int .i64 R2, .int .i64 C2, .slice b n2 d] 26)).alloc (.cells #[.int .i64 0, .int .i64 0, .slice none 0 0] 26)) (w.heap.size + 1) R2 C2 b n2 d := by refine ⟨?_, ?_, ?_⟩ <;> simp [go_sem]
  have XR : Box (((w.alloc (.cells #[.int .i64 R, .int .i64 C, .slice a n c] 26)).alloc (.cells #[.int .i64 R2, .int .i64 C2, .slice b n2 d] 26)).alloc (.cells #[.int .i64 0, .int .i64 0, .slice none 0 0] 26)) (w.heap.size + 1 + 1) 0 0 none 0 0 := by refine ⟨?_, ?_, ?_⟩ <;> simp [go_sem]
  have IR : ∀ i, (((w.alloc (.cells #[.int .i64 R, .int .i64 C, .slice a n c] 26)).alloc (.cells #[.int .i64 R2, .int .i64 C2, .slice b n2 d] 26)).alloc (.cells #[.int .i64 0, .int .i64 0, .slice none 0 0] 26)).frozen? ⟨w.heap.size + 1 + 1, i, none⟩ = false := by intro i; simp [go_sem]
  have B0 : Below w.heap.size w (((w.alloc (.cells #[.int .i64 R, .int .i64 C, .slice a n c] 26)).alloc (.cells #[.int .i64 R2, .int .i64 C2, .slice b n2 d] 26)).alloc (.cells #[.int .i64 0, .int .i64 0, .slice none 0 0] 26)) := (by repeat first | (with_reducible exact Below.refl _ _) | (with_reducible refine Below.setCell ?_ (by first | exact Nat.le_refl _ | (simp; done) | (simp; omega) | omega) _) | (with_reducible refine Below.alloc ?_ (by first | exact Nat.le_refl _ | (simp; done) | (simp; omega) | omega) _) | (with_reducible refine below_drewN ?_ _) | (with_reducible refine Below.drew ?_))
  have s0 : (((w.alloc (.cells #[.int .i64 R, .int .i64 C, .slice a n c] 26)).alloc (.cells #[.int .i64 R2, .int .i64 C2, .slice b n2 d] 26)).alloc (.cells #[.int .i64 0, .int .i64 0, .slice none 0 0] 26)).heap.size = w.heap.size + 1 + 1 + 1 := by simp
  generalize ((w.alloc (.cells #[.int .i64 R, .int .i64 C, .slice a n c] 26)).alloc (.cells #[.int .i64 R2, .int .i64 C2, .slice b n2 d] 26)).alloc (.cells #[.int .i64 0, .int .i64 0, .slice none 0 0] 26) = w0 at *
  have FA := h.below B0 (Nat.le_refl _)
  have FB := h2.below B0 (Nat.le_refl _)
  (refine wp_region_kinds (fun w' => Below w0.heap.size w0 w') (fun _ => 0) 24 (below_drewN (Below.refl _ _) 1) (by kernel_rfl) (by kernel_rfl) (by kernel_rfl) ?_; simp only [List.take_succ_cons, List.take_zero, List.drop_succ_cons, List.drop_zero])
  ((with_reducible refine wpKinds_run (.agg #[.int .i64 R, .int .i64 C, .slice a n c]) ?hwant ?hkind ?hrun ?_); (case hwant => first | (simp [Region.wanted, yielded]; done) | rfl); (case hkind => rfl); (case hrun => intro W hW; obtain ⟨u0, u1, u2⟩ := Box.below XA hW (by omega); simp [go_sem, BigFrame.eval_const, BigFrame.eval_global, BigFrame.eval_func, u0, u1, u2]); simp only [Act.put, List.setIfInBounds_toArray, List.set_cons_succ, List.set_cons_zero])
  ((with_reducible refine wpKinds_call (f := 43) (args := #[.agg #[.int .i64 R, .int .i64 C, .slice a n c]]) (.bool true) ?hwant ?hkind ?hrun ?hinit ?hcall ?_); (case hwant => first | (simp [Region.wanted, yielded]; done) | rfl); (case hkind => rfl); (case hrun => intro W; simp [go_sem, BigFrame.eval_const, BigFrame.eval_global, BigFrame.eval_func]); (case hinit => kernel_rfl); (case hcall => intro W hW; (refine (hvA W (FA.below hW (Nat.le_refl _))).mono ?_; rintro e w' ⟨rfl, hb⟩; exact ⟨rfl, hW.trans (hb.mono hW.size)⟩)); simp only [Act.put, List.setIfInBounds_toArray, List.set_cons_succ, List.set_cons_zero])
  ((with_reducible refine wpKinds_plain ?hwant ?hkind ?hplain (fun K hK => ?_)); (case hwant => first | (simp [Region.wanted, yielded]; done) | rfl); (case hkind => rfl); (case hplain => rfl); go_big_quiet_op; (first | refine hK _ ?_ | refine ⟨_, fun _ _ => rfl, hK _ ?_⟩); clear hK K)
  ((with_reducible refine wpKinds_plain ?hwant ?hkind ?hplain (fun K hK => ?_)); (case hwant => first | (simp [Region.wanted, yielded]; done) | rfl); (case hkind => rfl); (case hplain => rfl); go_big_quiet_op; (first | refine hK _ ?_ | refine ⟨_, fun _ _ => rfl, hK _ ?_⟩); clear hK K)
  ((with_reducible refine wpKinds_run (.agg #[.int .i64 R2, .int .i64 C2, .slice b n2 d]) ?hwant ?hkind ?hrun ?_); (case hwant => first | (simp [Region.wanted, yielded]; done) | rfl); (case hkind => rfl); (case hrun => intro W hW; obtain ⟨u0, u1, u2⟩ := Box.below XB hW (by omega); simp [go_sem, BigFrame.eval_const, BigFrame.eval_global, BigFrame.eval_func, u0, u1, u2]); simp only [Act.put, List.setIfInBounds_toArray, List.set_cons_succ, List.set_cons_zero])
  ((with_reducible refine wpKinds_call (f := 43) (args := #[.agg #[.int .i64 R2, .int .i64 C2, .slice b n2 d]]) (.bool true) ?hwant ?hkind ?hrun ?hinit ?hcall ?_); (case hwant => first | (simp [Region.wanted, yielded]; done) | rfl); (case hkind => rfl); (case hrun => intro W; simp [go_sem, BigFrame.eval_const, BigFrame.eval_global, BigFrame.eval_func]); (case hinit => kernel_rfl); (case hcall => intro W hW; (refine (hvB W (FB.below hW (Nat.le_refl _))).mono ?_; rintro e w' ⟨rfl, hb⟩; exact ⟨rfl, hW.trans (hb.mono hW.size)⟩)); simp only [Act.put, List.setIfInBounds_toArray, List.set_cons_succ, List.set_cons_zero])
  ((with_reducible refine wpKinds_plain ?hwant ?hkind ?hplain (fun K hK => ?_)); (case hwant => first | (simp [Region.wanted, yielded]; done) | rfl); (case hkind => rfl); (case hplain => rfl); go_big_quiet_op; (first | refine hK _ ?_ | refine ⟨_, fun _ _ => rfl, hK _ ?_⟩); clear hK K)
  ((with_reducible refine wpKinds_run (.bool false) ?hwant ?hkind ?hrun ?_); (case hwant => first | (simp [Region.wanted, yielded]; done) | rfl); (case hkind => rfl); (case hrun => intro W hW; simp [go_sem, BigFrame.eval_const, BigFrame.eval_global, BigFrame.eval_func]); simp only [Act.put, List.setIfInBounds_toArray, List.set_cons_succ, List.set_cons_zero])
  ((with_reducible refine wpKinds_plain ?hwant ?hkind ?hplain (fun K hK => ?_)); (case hwant => first | (simp [Region.wanted, yielded]; done) | rfl); (case hkind => rfl); (case hplain => rfl); go_big_quiet_op; (first | refine hK _ ?_ | refine ⟨_, fun _ _ => rfl, hK _ ?_⟩); clear hK K)
  ((with_reducible refine wpKinds_run (.agg #[.int .i64 R, .int .i64 C, .slice a n c]) ?hwant ?hkind ?hrun ?_); (case hwant => first | (simp [Region.wanted, yielded]; done) | rfl); (case hkind => rfl); (case hrun => intro W hW; obtain ⟨u0, u1, u2⟩ := Box.below XA hW (by omega); simp [go_sem, BigFrame.eval_const, BigFrame.eval_global, BigFrame.eval_func, u0, u1, u2]); simp only [Act.put, List.setIfInBounds_toArray, List.set_cons_succ, List.set_cons_zero])
  ((with_reducible refine wpKinds_call (f := 53) (args := #[.agg #[.int .i64 R, .int .i64 C, .slice a n c]]) (.agg #[.int .i64 R, .int .i64 C]) ?hwant ?hkind ?hrun ?hinit ?hcall ?_); (case hwant => first | (simp [Region.wanted, yielded]; done) | rfl); (case hkind => rfl); (case hrun => intro W; simp [go_sem, BigFrame.eval_const, BigFrame.eval_global, BigFrame.eval_func]); (case hinit => kernel_rfl); (case hcall => intro W hW; (refine (sidesOfW_any _ _ _ _ _ W).mono ?_; rintro e w' ⟨rfl, hb⟩; exact ⟨rfl, hW.trans (hb.mono hW.size)⟩)); simp only [Act.put, List.setIfInBounds_toArray, List.set_cons_succ, List.set_cons_zero])
  ((with_reducible refine wpKinds_run (.agg #[.int .i64 R2, .int .i64 C2, .slice b n2 d]) ?hwant ?hkind ?hrun ?_); (case hwant => first | (simp [Region.wanted, yielded]; done) | rfl); (case hkind => rfl); (case hrun => intro W hW; obtain ⟨u0, u1, u2⟩ := Box.below XB hW (by omega); simp [go_sem, BigFrame.eval_const, BigFrame.eval_global, BigFrame.eval_func, u0, u1, u2]); simp only [Act.put, List.setIfInBounds_toArray, List.set_cons_succ, List.set_cons_zero])
  ((with_reducible refine wpKinds_call (f := 53) (args := #[.agg #[.int .i64 R2, .int .i64 C2, .slice b n2 d]]) (.agg #[.int .i64 R2, .int .i64 C2]) ?hwant ?hkind ?hrun ?hinit ?hcall ?_); (case hwant => first | (simp [Region.wanted, yielded]; done) | rfl); (case hkind => rfl); (case hrun => intro W; simp [go_sem, BigFrame.eval_const, BigFrame.eval_global, BigFrame.eval_func]); (case hinit => kernel_rfl); (case hcall => intro W hW; (refine (sidesOfW_any _ _ _ _ _ W).mono ?_; rintro e w' ⟨rfl, hb⟩; exact ⟨rfl, hW.trans (hb.mono hW.size)⟩)); simp only [Act.put, List.setIfInBounds_toArray, List.set_cons_succ, List.set_cons_zero])
  ((with_reducible refine wpKinds_run (.bool true) ?hwant ?hkind ?hrun ?_); (case hwant => first | (simp [Region.wanted, yielded]; done) | rfl); (case hkind => rfl); (case hrun => intro W hW; simp [go_sem, BigFrame.eval_const, BigFrame.eval_global, BigFrame.eval_func, he]); simp only [Act.put, List.setIfInBounds_toArray, List.set_cons_succ, List.set_cons_zero])
  ((with_reducible refine wpKinds_run (.bool true) ?hwant ?hkind ?hrun ?_); (case hwant => first | (simp [Region.wanted, yielded]; done) | rfl); (case hkind => rfl); (case hrun => intro W hW; simp [go_sem, BigFrame.eval_const, BigFrame.eval_global, BigFrame.eval_func]); simp only [Act.put, List.setIfInBounds_toArray, List.set_cons_succ, List.set_cons_zero])
  ((with_reducible refine wpKinds_plain ?hwant ?hkind ?hplain (fun K hK => ?_)); (case hwant => first | (simp [Region.wanted, yielded]; done) | rfl); (case hkind => rfl); (case hplain => rfl); go_big_quiet_op; (first | refine hK _ ?_ | refine ⟨_, fun _ _ => rfl, hK _ ?_⟩); clear hK K)
  ((with_reducible refine wpKinds_skip ?hwant ?_); (case hwant => first | (simp [Region.wanted, yielded]; done) | rfl); simp only [Act.put, List.setIfInBounds_toArray, List.set_cons_succ, List.set_cons_zero])
  ((with_reducible refine wpKinds_skip ?hwant ?_); (case hwant => first | (simp [Region.wanted, yielded]; done) | rfl); simp only [Act.put, List.setIfInBounds_toArray, List.set_cons_succ, List.set_cons_zero])
  ((with_reducible refine wpKinds_skip ?hwant ?_); (case hwant => first | (simp [Region.wanted, yielded]; done) | rfl); simp only [Act.put, List.setIfInBounds_toArray, List.set_cons_succ, List.set_cons_zero])
  ((with_reducible refine wpKinds_run (.bool true) ?hwant ?hkind ?hrun ?_); (case hwant => first | (simp [Region.wanted, yielded]; done) | rfl); (case hkind => rfl); (case hrun => intro W hW; simp [go_sem, BigFrame.eval_const, BigFrame.eval_global, BigFrame.eval_func]); simp only [Act.put, List.setIfInBounds_toArray, List.set_cons_succ, List.set_cons_zero])
  ((with_reducible refine wpKinds_plain ?hwant ?hkind ?hplain (fun K hK => ?_)); (case hwant => first | (simp [Region.wanted, yielded]; done) | rfl); (case hkind => rfl); (case hplain => rfl); go_big_quiet_op; (first | refine hK _ ?_ | refine ⟨_, fun _ _ => rfl, hK _ ?_⟩); clear hK K)
  ((with_reducible refine wpKinds_skip ?hwant ?_); (case hwant => first | (simp [Region.wanted, yielded]; done) | rfl); simp only [Act.put, List.setIfInBounds_toArray, List.set_cons_succ, List.set_cons_zero])
  ((with_reducible refine wpKinds_skip ?hwant ?_); (case hwant => first | (simp [Region.wanted, yielded]; done) | rfl); simp only [Act.put, List.setIfInBounds_toArray, List.set_cons_succ, List.set_cons_zero])
  ((with_reducible refine wpKinds_skip ?hwant ?_); (case hwant => first | (simp [Region.wanted, yielded]; done) | rfl); simp only [Act.put, List.setIfInBounds_toArray, List.set_cons_succ, List.set_cons_zero])
  refine wpKinds_nil ?_
  intro w1 b1
  obtain ⟨z0, z1, z2⟩ := XR.below b1 (by omega)
  have I1 : ∀ i, w1.frozen? ⟨w.heap.size + 1 + 1, i, none⟩ = false := fun i => (b1.frozen (p := ⟨w.heap.size + 1 + 1, i, none⟩) (by show w.heap.size + 1 + 1 < w0.heap.size; omega)).trans (IR i)
  have B1 := B0.trans (b1.mono B0.size)
  clear XA XB XR IR B0 FA FB hvA hvB fin1 fin2 b1
  go_wp2_with fail
  refine bodyPost_ret (v := .tuple #[.agg #[.int .i64 0, .int .i64 0, .slice none 0 0], .bool false]) (by simp [results, Try.results28, go_sem, z0, z1, z2]) rfl ?_
  exact ⟨none, 0, fun _ => 0, rfl, .inl ⟨rfl, rfl, rfl⟩, fun i hi => by omega, (by repeat first | (with_reducible exact B1) | (with_reducible refine Below.setCell ?_ (by first | exact Nat.le_refl _ | (simp; done) | (simp; omega) | omega) _) | (with_reducible refine Below.alloc ?_ (by first | exact Nat.le_refl _ | (simp; done) | (simp; omega) | omega) _) | (with_reducible refine below_drewN ?_ _) | (with_reducible refine Below.drew ?_))⟩
set_option maxRecDepth 20000 in
set_option maxHeartbeats 2000000 in
theorem implWeigh_no25 (x y : Nat) (R C : Int) (a : Option Addr) (n c : Nat) (Z : Nat → Nat) (R2 C2 : Int) (b : Option Addr) (n2 d : Nat) (Y : Nat → Nat) (w : World) (wx : (Lit.float .f32 x).wf = true) (wy : (Lit.float .f32 y).wf = true) (hn : n ≤ 1048576) (hm : n2 ≤ 1048576) (h : FS .f32 w a n c Z) (h2 : FS .f32 w b n2 d Y)
    (hva : validB R C n (vals Z) = true) (hvb : validB R2 C2 n2 (vals Y) = true) (he1 : R = R2) (he : ¬ C = C2) :
    Calls Try.prog 28 #[.agg #[.int .i64 R, .int .i64 C, .slice a n c], .agg #[.int .i64 R2, .int .i64 C2, .slice b n2 d], .float .f32 x, .float .f32 y] w (MatOwn false 0 0 0 (fun _ => none) w) := by
  subst he1
  have hvA := fun W (hW : FS .f32 W a n c Z) => implValid_any R C a n c Z W hn hW
  rw [hva] at hvA
  have hvB := fun W (hW : FS .f32 W b n2 d Y) => implValid_any R C2 b n2 d Y W hm hW
  rw [hvb] at hvB
  have fin1 := fun W => implIsFinite_any x (FV.mk' wx) W
  have fin2 := fun W => implIsFinite_any y (FV.mk' wy) W
  clear hva hvb wx wy
  go_enter Try.func28, Try.ntmps28
  go_wp2_with fail
  have XA : Box (((w.alloc (.cells #[.int .i64 R, .int .i64 C, .slice a n c] 26)).alloc (.cells #[.int .i64 R, .int .i64 C2, .slice b n2 d] 26)).alloc (.cells #[.int .i64 0, .int .i64 0, .slice none 0 0] 26)) w.heap.size R C a n c := by refine ⟨?_, ?_, ?_⟩ <;> simp [go_sem]
  have XB : Box (((w.alloc (.cells #[.int .i64 R, .int .i64 C, .slice a n c] 26)).alloc (.cells #[.int .i64 R, .int .i64 C2, .slice b n2 d] 26)).alloc (.cells #[.int .i64 0, .int .i64 0, .slice none 0 0] 26)) (w.heap.size + 1) R C2 b n2 d := by refine ⟨?_, ?_, ?_⟩ <;> simp [go_sem]
  have XR : Box (((w.alloc (.cells #[.int .i64 R, .int .i64 C, .slice a n c] 26)).alloc (.cells #[.int .i64 R, .int .i64 C2, .slice b n2 d] 26)).alloc (.cells #[.int .i64 0, .int .i64 0, .slice none 0 0] 26)) (w.heap.size + 1 + 1) 0 0 none 0 0 := by refine ⟨?_, ?_, ?_⟩ <;> simp [go_sem]
  have IR : ∀ i, (((w.alloc (.cells #[.int .i64 R, .int .i64 C, .slice a n c] 26)).alloc (.cells #[.int .i64 R, .int .i64 C2, .slice b n2 d] 26)).alloc (.cells #[.int .i64 0, .int .i64 0, .slice none 0 0] 26)).frozen? ⟨w.heap.size + 1 + 1, i, none⟩ = false := by intro i; simp [go_sem]
  have B0 : Below w.heap.size w (((w.alloc (.cells #[.int .i64 R, .int .i64 C, .slice a n c] 26)).alloc (.cells #[.int .i64 R, .int .i64 C2, .slice b n2 d] 26)).alloc (.cells #[.int .i64 0, .int .i64 0, .slice none 0 0] 26)) := (by repeat first | (with_reducible exact Below.refl _ _) | (with_reducible refine Below.setCell ?_ (by first | exact Nat.le_refl _ | (simp; done) | (simp; omega) | omega) _) | (with_reducible refine Below.alloc ?_ (by first | exact Nat.le_refl _ | (simp; done) | (simp; omega) | omega) _) | (with_reducible refine below_drewN ?_ _) | (with_reducible refine Below.drew ?_))
  have s0 : (((w.alloc (.cells #[.int .i64 R, .int .i64 C, .slice a n c] 26)).alloc (.cells #[.int .i64 R, .int .i64 C2, .slice b n2 d] 26)).alloc (.cells #[.int .i64 0, .int .i64 0, .slice none 0 0] 26)).heap.size = w.heap.size + 1 + 1 + 1 := by simp
  generalize ((w.alloc (.cells #[.int .i64 R, .int .i64 C, .slice a n c] 26)).alloc (.cells #[.int .i64 R, .int .i64 C2, .slice b n2 d] 26)).alloc (.cells #[.int .i64 0, .int .i64 0, .slice none 0 0] 26) = w0 at *
  have FA := h.below B0 (Nat.le_refl _)
  have FB := h2.below B0 (Nat.le_refl _)
  (refine wp_region_kinds (fun w' => Below w0.heap.size w0 w') (fun _ => 0) 24 (below_drewN (Below.refl _ _) 1) (by kernel_rfl) (by kernel_rfl) (by kernel_rfl) ?_; simp only [List.take_succ_cons, List.take_zero, List.drop_succ_cons, List.drop_zero])
  ((with_reducible refine wpKinds_run (.agg #[.int .i64 R, .int .i64 C, .slice a n c]) ?hwant ?hkind ?hrun ?_); (case hwant => first | (simp [Region.wanted, yielded]; done) | rfl); (case hkind => rfl); (case hrun => intro W hW; obtain ⟨u0, u1, u2⟩ := Box.below XA hW (by omega); simp [go_sem, BigFrame.eval_const, BigFrame.eval_global, BigFrame.eval_func, u0, u1, u2]); simp only [Act.put, List.setIfInBounds_toArray, List.set_cons_succ, List.set_cons_zero])
  ((with_reducible refine wpKinds_call (f := 43) (args := #[.agg #[.int .i64 R, .int .i64 C, .slice a n c]]) (.bool true) ?hwant ?hkind ?hrun ?hinit ?hcall ?_); (case hwant => first | (simp [Region.wanted, yielded]; done) | rfl); (case hkind => rfl); (case hrun => intro W; simp [go_sem, BigFrame.eval_const, BigFrame.eval_global, BigFrame.eval_func]); (case hinit => kernel_rfl); (case hcall => intro W hW; (refine (hvA W (FA.below hW (Nat.le_refl _))).mono ?_; rintro e w' ⟨rfl, hb⟩; exact ⟨rfl, hW.trans (hb.mono hW.size)⟩)); simp only [Act.put, List.setIfInBounds_toArray, List.set_cons_succ, List.set_cons_zero])
  ((with_reducible refine wpKinds_plain ?hwant ?hkind ?hplain (fun K hK => ?_)); (case hwant => first | (simp [Region.wanted, yielded]; done) | rfl); (case hkind => rfl); (case hplain => rfl); go_big_quiet_op; (first | refine hK _ ?_ | refine ⟨_, fun _ _ => rfl, hK _ ?_⟩); clear hK K)
  ((with_reducible refine wpKinds_plain ?hwant ?hkind ?hplain (fun K hK => ?_)); (case hwant => first | (simp [Region.wanted, yielded]; done) | rfl); (case hkind => rfl); (case hplain => rfl); go_big_quiet_op; (first | refine hK _ ?_ | refine ⟨_, fun _ _ => rfl, hK _ ?_⟩); clear hK K)
  ((with_reducible refine wpKinds_run (.agg #[.int .i64 R, .int .i64 C2, .slice b n2 d]) ?hwant ?hkind ?hrun ?_); (case hwant => first | (simp [Region.wanted, yielded]; done) | rfl); (case hkind => rfl); (case hrun => intro W hW; obtain ⟨u0, u1, u2⟩ := Box.below XB hW (by omega); simp [go_sem, BigFrame.eval_const, BigFrame.eval_global, BigFrame.eval_func, u0, u1, u2]); simp only [Act.put, List.setIfInBounds_toArray, List.set_cons_succ, List.set_cons_zero])
  ((with_reducible refine wpKinds_call (f := 43) (args := #[.agg #[.int .i64 R, .int .i64 C2, .slice b n2 d]]) (.bool true) ?hwant ?hkind ?hrun ?hinit ?hcall ?_); (case hwant => first | (simp [Region.wanted, yielded]; done) | rfl); (case hkind => rfl); (case hrun => intro W; simp [go_sem, BigFrame.eval_const, BigFrame.eval_global, BigFrame.eval_func]); (case hinit => kernel_rfl); (case hcall => intro W hW; (refine (hvB W (FB.below hW (Nat.le_refl _))).mono ?_; rintro e w' ⟨rfl, hb⟩; exact ⟨rfl, hW.trans (hb.mono hW.size)⟩)); simp only [Act.put, List.setIfInBounds_toArray, List.set_cons_succ, List.set_cons_zero])
  ((with_reducible refine wpKinds_plain ?hwant ?hkind ?hplain (fun K hK => ?_)); (case hwant => first | (simp [Region.wanted, yielded]; done) | rfl); (case hkind => rfl); (case hplain => rfl); go_big_quiet_op; (first | refine hK _ ?_ | refine ⟨_, fun _ _ => rfl, hK _ ?_⟩); clear hK K)
  ((with_reducible refine wpKinds_run (.bool false) ?hwant ?hkind ?hrun ?_); (case hwant => first | (simp [Region.wanted, yielded]; done) | rfl); (case hkind => rfl); (case hrun => intro W hW; simp [go_sem, BigFrame.eval_const, BigFrame.eval_global, BigFrame.eval_func]); simp only [Act.put, List.setIfInBounds_toArray, List.set_cons_succ, List.set_cons_zero])
  ((with_reducible refine wpKinds_plain ?hwant ?hkind ?hplain (fun K hK => ?_)); (case hwant => first | (simp [Region.wanted, yielded]; done) | rfl); (case hkind => rfl); (case hplain => rfl); go_big_quiet_op; (first | refine hK _ ?_ | refine ⟨_, fun _ _ => rfl, hK _ ?_⟩); clear hK K)
  ((with_reducible refine wpKinds_run (.agg #[.int .i64 R, .int .i64 C, .slice a n c]) ?hwant ?hkind ?hrun ?_); (case hwant => first | (simp [Region.wanted, yielded]; done) | rfl); (case hkind => rfl); (case hrun => intro W hW; obtain ⟨u0, u1, u2⟩ := Box.below XA hW (by omega); simp [go_sem, BigFrame.eval_const, BigFrame.eval_global, BigFrame.eval_func, u0, u1, u2]); simp only [Act.put, List.setIfInBounds_toArray, List.set_cons_succ, List.set_cons_zero])
  ((with_reducible refine wpKinds_call (f := 53) (args := #[.agg #[.int .i64 R, .int .i64 C, .slice a n c]]) (.agg #[.int .i64 R, .int .i64 C]) ?hwant ?hkind ?hrun ?hinit ?hcall ?_); (case hwant => first | (simp [Region.wanted, yielded]; done) | rfl); (case hkind => rfl); (case hrun => intro W; simp [go_sem, BigFrame.eval_const, BigFrame.eval_global, BigFrame.eval_func]); (case hinit => kernel_rfl); (case hcall => intro W hW; (refine (sidesOfW_any _ _ _ _ _ W).mono ?_; rintro e w' ⟨rfl, hb⟩; exact ⟨rfl, hW.trans (hb.mono hW.size)⟩)); simp only [Act.put, List.setIfInBounds_toArray, List.set_cons_succ, List.set_cons_zero])
  ((with_reducible refine wpKinds_run (.agg #[.int .i64 R, .int .i64 C2, .slice b n2 d]) ?hwant ?hkind ?hrun ?_); (case hwant => first | (simp [Region.wanted, yielded]; done) | rfl); (case hkind => rfl); (case hrun => intro W hW; obtain ⟨u0, u1, u2⟩ := Box.below XB hW (by omega); simp [go_sem, BigFrame.eval_const, BigFrame.eval_global, BigFrame.eval_func, u0, u1, u2]); simp only [Act.put, List.setIfInBounds_toArray, List.set_cons_succ, List.set_cons_zero])
  ((with_reducible refine wpKinds_call (f := 53) (args := #[.agg #[.int .i64 R, .int .i64 C2, .slice b n2 d]]) (.agg #[.int .i64 R, .int .i64 C2]) ?hwant ?hkind ?hrun ?hinit ?hcall ?_); (case hwant => first | (simp [Region.wanted, yielded]; done) | rfl); (case hkind => rfl); (case hrun => intro W; simp [go_sem, BigFrame.eval_const, BigFrame.eval_global, BigFrame.eval_func]); (case hinit => kernel_rfl); (case hcall => intro W hW; (refine (sidesOfW_any _ _ _ _ _ W).mono ?_; rintro e w' ⟨rfl, hb⟩; exact ⟨rfl, hW.trans (hb.mono hW.size)⟩)); simp only [Act.put, List.setIfInBounds_toArray, List.set_cons_succ, List.set_cons_zero])
  ((with_reducible refine wpKinds_run (.bool true) ?hwant ?hkind ?hrun ?_); (case hwant => first | (simp [Region.wanted, yielded]; done) | rfl); (case hkind => rfl); (case hrun => intro W hW; simp [go_sem, BigFrame.eval_const, BigFrame.eval_global, BigFrame.eval_func, he]); simp only [Act.put, List.setIfInBounds_toArray, List.set_cons_succ, List.set_cons_zero])
  ((with_reducible refine wpKinds_run (.bool true) ?hwant ?hkind ?hrun ?_); (case hwant => first | (simp [Region.wanted, yielded]; done) | rfl); (case hkind => rfl); (case hrun => intro W hW; simp [go_sem, BigFrame.eval_const, BigFrame.eval_global, BigFrame.eval_func]); simp only [Act.put, List.setIfInBounds_toArray, List.set_cons_succ, List.set_cons_zero])
  ((with_reducible refine wpKinds_plain ?hwant ?hkind ?hplain (fun K hK => ?_)); (case hwant => first | (simp [Region.wanted, yielded]; done) | rfl); (case hkind => rfl); (case hplain => rfl); go_big_quiet_op; (first | refine hK _ ?_ | refine ⟨_, fun _ _ => rfl, hK _ ?_⟩); clear hK K)
  ((with_reducible refine wpKinds_skip ?hwant ?_); (case hwant => first | (simp [Region.wanted, yielded]; done) | rfl); simp only [Act.put, List.setIfInBounds_toArray, List.set_cons_succ, List.set_cons_zero])
  ((with_reducible refine wpKinds_skip ?hwant ?_); (case hwant => first | (simp [Region.wanted, yielded]; done) | rfl); simp only [Act.put, List.setIfInBounds_toArray, List.set_cons_succ, List.set_cons_zero])
  ((with_reducible refine wpKinds_skip ?hwant ?_); (case hwant => first | (simp [Region.wanted, yielded]; done) | rfl); simp only [Act.put, List.setIfInBounds_toArray, List.set_cons_succ, List.set_cons_zero])
  ((with_reducible refine wpKinds_run (.bool true) ?hwant ?hkind ?hrun ?_); (case hwant => first | (simp [Region.wanted, yielded]; done) | rfl); (case hkind => rfl); (case hrun => intro W hW; simp [go_sem, BigFrame.eval_const, BigFrame.eval_global, BigFrame.eval_func]); simp only [Act.put, List.setIfInBounds_toArray, List.set_cons_succ, List.set_cons_zero])
  ((with_reducible refine wpKinds_plain ?hwant ?hkind ?hplain (fun K hK => ?_)); (case hwant => first | (simp [Region.wanted, yielded]; done) | rfl); (case hkind => rfl); (case hplain => rfl); go_big_quiet_op; (first | refine hK _ ?_ | refine ⟨_, fun _ _ => rfl, hK _ ?_⟩); clear hK K)
  ((with_reducible refine wpKinds_skip ?hwant ?_); (case hwant => first | (simp [Region.wanted, yielded]; done) | rfl); simp only [Act.put, List.setIfInBounds_toArray, List.set_cons_succ, List.set_cons_zero])
  ((with_reducible refine wpKinds_skip ?hwant ?_); (case hwant => first | (simp [Region.wanted, yielded]; done) | rfl); simp only [Act.put, List.setIfInBounds_toArray, List.set_cons_succ, List.set_cons_zero])
  ((with_reducible refine wpKinds_skip ?hwant ?_); (case hwant => first | (simp [Region.wanted, yielded]; done) | rfl); simp only [Act.put, List.setIfInBounds_toArray, List.set_cons_succ, List.set_cons_zero])
  refine wpKinds_nil ?_
  intro w1 b1
  obtain ⟨z0, z1, z2⟩ := XR.below b1 (by omega)
  have I1 : ∀ i, w1.frozen? ⟨w.heap.size + 1 + 1, i, none⟩ = false := fun i => (b1.frozen (p := ⟨w.heap.size + 1 + 1, i, none⟩) (by show w.heap.size + 1 + 1 < w0.heap.size; omega)).trans (IR i)
  have B1 := B0.trans (b1.mono B0.size)
  clear XA XB XR IR B0 FA FB hvA hvB fin1 fin2 b1
  go_wp2_with fail
  refine bodyPost_ret (v := .tuple #[.agg #[.int .i64 0, .int .i64 0, .slice none 0 0], .bool false]) (by simp [results, Try.results28, go_sem, z0, z1, z2]) rfl ?_
  exact ⟨none, 0, fun _ => 0, rfl, .inl ⟨rfl, rfl, rfl⟩, fun i hi => by omega, (by repeat first | (with_reducible exact B1) | (with_reducible refine Below.setCell ?_ (by first | exact Nat.le_refl _ | (simp; done) | (simp; omega) | omega) _) | (with_reducible refine Below.alloc ?_ (by first | exact Nat.le_refl _ | (simp; done) | (simp; omega) | omega) _) | (with_reducible refine below_drewN ?_ _) | (with_reducible refine Below.drew ?_))⟩
set_option maxRecDepth 20000 in
set_option maxHeartbeats 2000000 in
theorem implWeigh_no3 (x y : Nat) (R C : Int) (a : Option Addr) (n c : Nat) (Z : Nat → Nat) (R2 C2 : Int) (b : Option Addr) (n2 d : Nat) (Y : Nat → Nat) (w : World) (wx : (Lit.float .f32 x).wf = true) (wy : (Lit.float .f32 y).wf = true) (hn : n ≤ 1048576) (hm : n2 ≤ 1048576) (h : FS .f32 w a n c Z) (h2 : FS .f32 w b n2 d Y)
    (hva : validB R C n (vals Z) = true) (hvb : validB R2 C2 n2 (vals Y) = true) (he1 : R = R2) (he : C = C2) (hx : finite .f32 (cn .f32 x) = false) :
    Calls Try.prog 28 #[.agg #[.int .i64 R, .int .i64 C, .slice a n c], .agg #[.int .i64 R2, .int .i64 C2, .slice b n2 d], .float .f32 x, .float .f32 y] w (MatOwn false 0 0 0 (fun _ => none) w) := by
  subst he1
  subst he
  have hvA := fun W (hW : FS .f32 W a n c Z) => implValid_any R C a n c Z W hn hW
  rw [hva] at hvA
  have hvB := fun W (hW : FS .f32 W b n2 d Y) => implValid_any R C b n2 d Y W hm hW
  rw [hvb] at hvB
  have fin1 := fun W => implIsFinite_any x (FV.mk' wx) W
  have fin2 := fun W => implIsFinite_any y (FV.mk' wy) W
  rw [hx] at fin1
  clear hva hvb hx wx wy
  go_enter Try.func28, Try.ntmps28
  go_wp2_with fail
  have XA : Box (((w.alloc (.cells #[.int .i64 R, .int .i64 C, .slice a n c] 26)).alloc (.cells #[.int .i64 R, .int .i64 C, .slice b n2 d] 26)).alloc (.cells #[.int .i64 0, .int .i64 0, .slice none 0 0] 26)) w.heap.size R C a n c := by refine ⟨?_, ?_, ?_⟩ <;> simp [go_sem]
  have XB : Box (((w.alloc (.cells #[.int .i64 R, .int .i64 C, .slice a n c] 26)).alloc (.cells #[.int .i64 R, .int .i64 C, .slice b n2 d] 26)).alloc (.cells #[.int .i64 0, .int .i64 0, .slice none 0 0] 26)) (w.heap.size + 1) R C b n2 d := by refine ⟨?_, ?_, ?_⟩ <;> simp [go_sem]
  have XR : Box (((w.alloc (.cells #[.int .i64 R, .int .i64 C, .slice a n c] 26)).alloc (.cells #[.int .i64 R, .int .i64 C, .slice b n2 d] 26)).alloc (.cells #[.int .i64 0, .int .i64 0, .slice none 0 0] 26)) (w.heap.size + 1 + 1) 0 0 none 0 0 := by refine ⟨?_, ?_, ?_⟩ <;> simp [go_sem]
  have IR : ∀ i, (((w.alloc (.cells #[.int .i64 R, .int .i64 C, .slice a n c] 26)).alloc (.cells #[.int .i64 R, .int .i64 C, .slice b n2 d] 26)).alloc (.cells #[.int .i64 0, .int .i64 0, .slice none 0 0] 26)).frozen? ⟨w.heap.size + 1 + 1, i, none⟩ = false := by intro i; simp [go_sem]
  have B0 : Below w.heap.size w (((w.alloc (.cells #[.int .i64 R, .int .i64 C, .slice a n c] 26)).alloc (.cells #[.int .i64 R, .int .i64 C, .slice b n2 d] 26)).alloc (.cells #[.int .i64 0, .int .i64 0, .slice none 0 0] 26)) := (by repeat first | (with_reducible exact Below.refl _ _) | (with_reducible refine Below.setCell ?_ (by first | exact Nat.le_refl _ | (simp; done) | (simp; omega) | omega) _) | (with_reducible refine Below.alloc ?_ (by first | exact Nat.le_refl _ | (simp; done) | (simp; omega) | omega) _) | (with_reducible refine below_drewN ?_ _) | (with_reducible refine Below.drew ?_))
  have s0 : (((w.alloc (.cells #[.int .i64 R, .int .i64 C, .slice a n c] 26)).alloc (.cells #[.int .i64 R, .int .i64 C, .slice b n2 d] 26)).alloc (.cells #[.int .i64 0, .int .i64 0, .slice none 0 0] 26)).heap.size = w.heap.size + 1 + 1 + 1 := by simp
  generalize ((w.alloc (.cells #[.int .i64 R, .int .i64 C, .slice a n c] 26)).alloc (.cells #[.int .i64 R, .int .i64 C, .slice b n2 d] 26)).alloc (.cells #[.int .i64 0, .int .i64 0, .slice none 0 0] 26) = w0 at *
  have FA := h.below B0 (Nat.le_refl _)
  have FB := h2.below B0 (Nat.le_refl _)
  (refine wp_region_kinds (fun w' => Below w0.heap.size w0 w') (fun _ => 0) 24 (below_drewN (Below.refl _ _) 1) (by kernel_rfl) (by kernel_rfl) (by kernel_rfl) ?_; simp only [List.take_succ_cons, List.take_zero, List.drop_succ_cons, List.drop_zero])
  ((with_reducible refine wpKinds_run (.agg #[.int .i64 R, .int .i64 C, .slice a n c]) ?hwant ?hkind ?hrun ?_); (case hwant => first | (simp [Region.wanted, yielded]; done) | rfl); (case hkind => rfl); (case hrun => intro W hW; obtain ⟨u0, u1, u2⟩ := Box.below XA hW (by omega); simp [go_sem, BigFrame.eval_const, BigFrame.eval_global, BigFrame.eval_func, u0, u1, u2]); simp only [Act.put, List.setIfInBounds_toArray, List.set_cons_succ, List.set_cons_zero])
  ((with_reducible refine wpKinds_call (f := 43) (args := #[.agg #[.int .i64 R, .int .i64 C, .slice a n c]]) (.bool true) ?hwant ?hkind ?hrun ?hinit ?hcall ?_); (case hwant => first | (simp [Region.wanted, yielded]; done) | rfl); (case hkind => rfl); (case hrun => intro W; simp [go_sem, BigFrame.eval_const, BigFrame.eval_global, BigFrame.eval_func]); (case hinit => kernel_rfl); (case hcall => intro W hW; (refine (hvA W (FA.below hW (Nat.le_refl _))).mono ?_; rintro e w' ⟨rfl, hb⟩; exact ⟨rfl, hW.trans (hb.mono hW.size)⟩)); simp only [Act.put, List.setIfInBounds_toArray, List.set_cons_succ, List.set_cons_zero])
  ((with_reducible refine wpKinds_plain ?hwant ?hkind ?hplain (fun K hK => ?_)); (case hwant => first | (simp [Region.wanted, yielded]; done) | rfl); (case hkind => rfl); (case hplain => rfl); go_big_quiet_op; (first | refine hK _ ?_ | refine ⟨_, fun _ _ => rfl, hK _ ?_⟩); clear hK K)
  ((with_reducible refine wpKinds_plain ?hwant ?hkind ?hplain (fun K hK => ?_)); (case hwant => first | (simp [Region.wanted, yielded]; done) | rfl); (case hkind => rfl); (case hplain => rfl); go_big_quiet_op; (first | refine hK _ ?_ | refine ⟨_, fun _ _ => rfl, hK _ ?_⟩); clear hK K)
  ((with_reducible refine wpKinds_run (.agg #[.int .i64 R, .int .i64 C, .slice b n2 d]) ?hwant ?hkind ?hrun ?_); (case hwant => first | (simp [Region.wanted, yielded]; done) | rfl); (case hkind => rfl); (case hrun => intro W hW; obtain ⟨u0, u1, u2⟩ := Box.below XB hW (by omega); simp [go_sem, BigFrame.eval_const, BigFrame.eval_global, BigFrame.eval_func, u0, u1, u2]); simp only [Act.put, List.setIfInBounds_toArray, List.set_cons_succ, List.set_cons_zero])
  ((with_reducible refine wpKinds_call (f := 43) (args := #[.agg #[.int .i64 R, .int .i64 C, .slice b n2 d]]) (.bool true) ?hwant ?hkind ?hrun ?hinit ?hcall ?_); (case hwant => first | (simp [Region.wanted, yielded]; done) | rfl); (case hkind => rfl); (case hrun => intro W; simp [go_sem, BigFrame.eval_const, BigFrame.eval_global, BigFrame.eval_func]); (case hinit => kernel_rfl); (case hcall => intro W hW; (refine (hvB W (FB.below hW (Nat.le_refl _))).mono ?_; rintro e w' ⟨rfl, hb⟩; exact ⟨rfl, hW.trans (hb.mono hW.size)⟩)); simp only [Act.put, List.setIfInBounds_toArray, List.set_cons_succ, List.set_cons_zero])
  ((with_reducible refine wpKinds_plain ?hwant ?hkind ?hplain (fun K hK => ?_)); (case hwant => first | (simp [Region.wanted, yielded]; done) | rfl); (case hkind => rfl); (case hplain => rfl); go_big_quiet_op; (first | refine hK _ ?_ | refine ⟨_, fun _ _ => rfl, hK _ ?_⟩); clear hK K)
  ((with_reducible refine wpKinds_run (.bool false) ?hwant ?hkind ?hrun ?_); (case hwant => first | (simp [Region.wanted, yielded]; done) | rfl); (case hkind => rfl); (case hrun => intro W hW; simp [go_sem, BigFrame.eval_const, BigFrame.eval_global, BigFrame.eval_func]); simp only [Act.put, List.setIfInBounds_toArray, List.set_cons_succ, List.set_cons_zero])
  ((with_reducible refine wpKinds_plain ?hwant ?hkind ?hplain (fun K hK => ?_)); (case hwant => first | (simp [Region.wanted, yielded]; done) | rfl); (case hkind => rfl); (case hplain => rfl); go_big_quiet_op; (first | refine hK _ ?_ | refine ⟨_, fun _ _ => rfl, hK _ ?_⟩); clear hK K)
  ((with_reducible refine wpKinds_run (.agg #[.int .i64 R, .int .i64 C, .slice a n c]) ?hwant ?hkind ?hrun ?_); (case hwant => first | (simp [Region.wanted, yielded]; done) | rfl); (case hkind => rfl); (case hrun => intro W hW; obtain ⟨u0, u1, u2⟩ := Box.below XA hW (by omega); simp [go_sem, BigFrame.eval_const, BigFrame.eval_global, BigFrame.eval_func, u0, u1, u2]); simp only [Act.put, List.setIfInBounds_toArray, List.set_cons_succ, List.set_cons_zero])
  ((with_reducible refine wpKinds_call (f := 53) (args := #[.agg #[.int .i64 R, .int .i64 C, .slice a n c]]) (.agg #[.int .i64 R, .int .i64 C]) ?hwant ?hkind ?hrun ?hinit ?hcall ?_); (case hwant => first | (simp [Region.wanted, yielded]; done) | rfl); (case hkind => rfl); (case hrun => intro W; simp [go_sem, BigFrame.eval_const, BigFrame.eval_global, BigFrame.eval_func]); (case hinit => kernel_rfl); (case hcall => intro W hW; (refine (sidesOfW_any _ _ _ _ _ W).mono ?_; rintro e w' ⟨rfl, hb⟩; exact ⟨rfl, hW.trans (hb.mono hW.size)⟩)); simp only [Act.put, List.setIfInBounds_toArray, List.set_cons_succ, List.set_cons_zero])
  ((with_reducible refine wpKinds_run (.agg #[.int .i64 R, .int .i64 C, .slice b n2 d]) ?hwant ?hkind ?hrun ?_); (case hwant => first | (simp [Region.wanted, yielded]; done) | rfl); (case hkind => rfl); (case hrun => intro W hW; obtain ⟨u0, u1, u2⟩ := Box.below XB hW (by omega); simp [go_sem, BigFrame.eval_const, BigFrame.eval_global, BigFrame.eval_func, u0, u1, u2]); simp only [Act.put, List.setIfInBounds_toArray, List.set_cons_succ, List.set_cons_zero])
  ((with_reducible refine wpKinds_call (f := 53) (args := #[.agg #[.int .i64 R, .int .i64 C, .slice b n2 d]]) (.agg #[.int .i64 R, .int .i64 C]) ?hwant ?hkind ?hrun ?hinit ?hcall ?_); (case hwant => first | (simp [Region.wanted, yielded]; done) | rfl); (case hkind => rfl); (case hrun => intro W; simp [go_sem, BigFrame.eval_const, BigFrame.eval_global, BigFrame.eval_func]); (case hinit => kernel_rfl); (case hcall => intro W hW; (refine (sidesOfW_any _ _ _ _ _ W).mono ?_; rintro e w' ⟨rfl, hb⟩; exact ⟨rfl, hW.trans (hb.mono hW.size)⟩)); simp only [Act.put, List.setIfInBounds_toArray, List.set_cons_succ, List.set_cons_zero])
  ((with_reducible refine wpKinds_run (.bool false) ?hwant ?hkind ?hrun ?_); (case hwant => first | (simp [Region.wanted, yielded]; done) | rfl); (case hkind => rfl); (case hrun => intro W hW; simp [go_sem, BigFrame.eval_const, BigFrame.eval_global, BigFrame.eval_func]); simp only [Act.put, List.setIfInBounds_toArray, List.set_cons_succ, List.set_cons_zero])
  ((with_reducible refine wpKinds_run (.bool false) ?hwant ?hkind ?hrun ?_); (case hwant => first | (simp [Region.wanted, yielded]; done) | rfl); (case hkind => rfl); (case hrun => intro W hW; simp [go_sem, BigFrame.eval_const, BigFrame.eval_global, BigFrame.eval_func]); simp only [Act.put, List.setIfInBounds_toArray, List.set_cons_succ, List.set_cons_zero])
  ((with_reducible refine wpKinds_plain ?hwant ?hkind ?hplain (fun K hK => ?_)); (case hwant => first | (simp [Region.wanted, yielded]; done) | rfl); (case hkind => rfl); (case hplain => rfl); go_big_quiet_op; (first | refine hK _ ?_ | refine ⟨_, fun _ _ => rfl, hK _ ?_⟩); clear hK K)
  ((with_reducible refine wpKinds_plain ?hwant ?hkind ?hplain (fun K hK => ?_)); (case hwant => first | (simp [Region.wanted, yielded]; done) | rfl); (case hkind => rfl); (case hplain => rfl); go_big_quiet_op; (first | refine hK _ ?_ | refine ⟨_, fun _ _ => rfl, hK _ ?_⟩); clear hK K)
  ((with_reducible refine wpKinds_call (f := 54) (args := #[.float .f32 x]) (.bool false) ?hwant ?hkind ?hrun ?hinit ?hcall ?_); (case hwant => first | (simp [Region.wanted, yielded]; done) | rfl); (case hkind => rfl); (case hrun => intro W; simp [go_sem, BigFrame.eval_const, BigFrame.eval_global, BigFrame.eval_func]); (case hinit => kernel_rfl); (case hcall => intro W hW; (refine (fin1 W).mono ?_; rintro e w' ⟨rfl, q, rfl⟩; exact ⟨rfl, below_drewN hW _⟩)); simp only [Act.put, List.setIfInBounds_toArray, List.set_cons_succ, List.set_cons_zero])
  ((with_reducible refine wpKinds_plain ?hwant ?hkind ?hplain (fun K hK => ?_)); (case hwant => first | (simp [Region.wanted, yielded]; done) | rfl); (case hkind => rfl); (case hplain => rfl); go_big_quiet_op; (first | refine hK _ ?_ | refine ⟨_, fun _ _ => rfl, hK _ ?_⟩); clear hK K)
  ((with_reducible refine wpKinds_run (.bool true) ?hwant ?hkind ?hrun ?_); (case hwant => first | (simp [Region.wanted, yielded]; done) | rfl); (case hkind => rfl); (case hrun => intro W hW; simp [go_sem, BigFrame.eval_const, BigFrame.eval_global, BigFrame.eval_func]); simp only [Act.put, List.setIfInBounds_toArray, List.set_cons_succ, List.set_cons_zero])
  ((with_reducible refine wpKinds_plain ?hwant ?hkind ?hplain (fun K hK => ?_)); (case hwant => first | (simp [Region.wanted, yielded]; done) | rfl); (case hkind => rfl); (case hplain => rfl); go_big_quiet_op; (first | refine hK _ ?_ | refine ⟨_, fun _ _ => rfl, hK _ ?_⟩); clear hK K)
  ((with_reducible refine wpKinds_skip ?hwant ?_); (case hwant => first | (simp [Region.wanted, yielded]; done) | rfl); simp only [Act.put, List.setIfInBounds_toArray, List.set_cons_succ, List.set_cons_zero])
  ((with_reducible refine wpKinds_skip ?hwant ?_); (case hwant => first | (simp [Region.wanted, yielded]; done) | rfl); simp only [Act.put, List.setIfInBounds_toArray, List.set_cons_succ, List.set_cons_zero])
  ((with_reducible refine wpKinds_skip ?hwant ?_); (case hwant => first | (simp [Region.wanted, yielded]; done) | rfl); simp only [Act.put, List.setIfInBounds_toArray, List.set_cons_succ, List.set_cons_zero])
  refine wpKinds_nil ?_
  intro w1 b1
  obtain ⟨z0, z1, z2⟩ := XR.below b1 (by omega)
  have I1 : ∀ i, w1.frozen? ⟨w.heap.size + 1 + 1, i, none⟩ = false := fun i => (b1.frozen (p := ⟨w.heap.size + 1 + 1, i, none⟩) (by show w.heap.size + 1 + 1 < w0.heap.size; omega)).trans (IR i)
  have B1 := B0.trans (b1.mono B0.size)
  clear XA XB XR IR B0 FA FB hvA hvB fin1 fin2 b1
  go_wp2_with fail
  refine bodyPost_ret (v := .tuple #[.agg #[.int .i64 0, .int .i64 0, .slice none 0 0], .bool false]) (by simp [results, Try.results28, go_sem, z0, z1, z2]) rfl ?_
  exact ⟨none, 0, fun _ => 0, rfl, .inl ⟨rfl, rfl, rfl⟩, fun i hi => by omega, (by repeat first | (with_reducible exact B1) | (with_reducible refine Below.setCell ?_ (by first | exact Nat.le_refl _ | (simp; done) | (simp; omega) | omega) _) | (with_reducible refine Below.alloc ?_ (by first | exact Nat.le_refl _ | (simp; done) | (simp; omega) | omega) _) | (with_reducible refine below_drewN ?_ _) | (with_reducible refine Below.drew ?_))⟩
set_option maxRecDepth 20000 in
set_option maxHeartbeats 2000000 in
theorem implWeigh_no4 (x y : Nat) (R C : Int) (a : Option Addr) (n c : Nat) (Z : Nat → Nat) (R2 C2 : Int) (b : Option Addr) (n2 d : Nat) (Y : Nat → Nat) (w : World) (wx : (Lit.float .f32 x).wf = true) (wy : (Lit.float .f32 y).wf = true) (hn : n ≤ 1048576) (hm : n2 ≤ 1048576) (h : FS .f32 w a n c Z) (h2 : FS .f32 w b n2 d Y)
    (hva : validB R C n (vals Z) = true) (hvb : validB R2 C2 n2 (vals Y) = true) (he1 : R = R2) (he : C = C2) (hx : finite .f32 (cn .f32 x) = true) (hy : finite .f32 (cn .f32 y) = false) :
    Calls Try.prog 28 #[.agg #[.int .i64 R, .int .i64 C, .slice a n c], .agg #[.int .i64 R2, .int .i64 C2, .slice b n2 d], .float .f32 x, .float .f32 y] w (MatOwn false 0 0 0 (fun _ => none) w) := by
  subst he1
  subst he
  have hvA := fun W (hW : FS .f32 W a n c Z) => implValid_any R C a n c Z W hn hW
  rw [hva] at hvA
  have hvB := fun W (hW : FS .f32 W b n2 d Y) => implValid_any R C b n2 d Y W hm hW
  rw [hvb] at hvB
  have fin1 := fun W => implIsFinite_any x (FV.mk' wx) W
  have fin2 := fun W => implIsFinite_any y (FV.mk' wy) W
  rw [hx] at fin1
  rw [hy] at fin2
  clear hva hvb hx hy wx wy
  go_enter Try.func28, Try.ntmps28
  go_wp2_with fail
  have XA : Box (((w.alloc (.cells #[.int .i64 R, .int .i64 C, .slice a n c] 26)).alloc (.cells #[.int .i64 R, .int .i64 C, .slice b n2 d] 26)).alloc (.cells #[.int .i64 0, .int .i64 0, .slice none 0 0] 26)) w.heap.size R C a n c := by refine ⟨?_, ?_, ?_⟩ <;> simp [go_sem]
  have XB : Box (((w.alloc (.cells #[.int .i64 R, .int .i64 C, .slice a n c] 26)).alloc (.cells #[.int .i64 R, .int .i64 C, .slice b n2 d] 26)).alloc (.cells #[.int .i64 0, .int .i64 0, .slice none 0 0] 26)) (w.heap.size + 1) R C b n2 d := by refine ⟨?_, ?_, ?_⟩ <;> simp [go_sem]
  have XR : Box (((w.alloc (.cells #[.int .i64 R, .int .i64 C, .slice a n c] 26)).alloc (.cells #[.int .i64 R, .int .i64 C, .slice b n2 d] 26)).alloc (.cells #[.int .i64 0, .int .i64 0, .slice none 0 0] 26)) (w.heap.size + 1 + 1) 0 0 none 0 0 := by refine ⟨?_, ?_, ?_⟩ <;> simp [go_sem]
  have IR : ∀ i, (((w.alloc (.cells #[.int .i64 R, .int .i64 C, .slice a n c] 26)).alloc (.cells #[.int .i64 R, .int .i64 C, .slice b n2 d] 26)).alloc (.cells #[.int .i64 0, .int .i64 0, .slice none 0 0] 26)).frozen? ⟨w.heap.size + 1 + 1, i, none⟩ = false := by intro i; simp [go_sem]
  have B0 : Below w.heap.size w (((w.alloc (.cells #[.int .i64 R, .int .i64 C, .slice a n c] 26)).alloc (.cells #[.int .i64 R, .int .i64 C, .slice b n2 d] 26)).alloc (.cells #[.int .i64 0, .int .i64 0, .slice none 0 0] 26)) := (by repeat first | (with_reducible exact Below.refl _ _) | (with_reducible refine Below.setCell ?_ (by first | exact Nat.le_refl _ | (simp; done) | (simp; omega) | omega) _) | (with_reducible refine Below.alloc ?_ (by first | exact Nat.le_refl _ | (simp; done) | (simp; omega) | omega) _) | (with_reducible refine below_drewN ?_ _) | (with_reducible refine Below.drew ?_))
  have s0 : (((w.alloc (.cells #[.int .i64 R, .int .i64 C, .slice a n c] 26)).alloc (.cells #[.int .i64 R, .int .i64 C, .slice b n2 d] 26)).alloc (.cells #[.int .i64 0, .int .i64 0, .slice none 0 0] 26)).heap.size = w.heap.size + 1 + 1 + 1 := by simp
  generalize ((w.alloc (.cells #[.int .i64 R, .int .i64 C, .slice a n c] 26)).alloc (.cells #[.int .i64 R, .int .i64 C, .slice b n2 d] 26)).alloc (.cells #[.int .i64 0, .int .i64 0, .slice none 0 0] 26) = w0 at *
  have FA := h.below B0 (Nat.le_refl _)
  have FB := h2.below B0 (Nat.le_refl _)
  (refine wp_region_kinds (fun w' => Below w0.heap.size w0 w') (fun _ => 0) 24 (below_drewN (Below.refl _ _) 1) (by kernel_rfl) (by kernel_rfl) (by kernel_rfl) ?_; simp only [List.take_succ_cons, List.take_zero, List.drop_succ_cons, List.drop_zero])
  ((with_reducible refine wpKinds_run (.agg #[.int .i64 R, .int .i64 C, .slice a n c]) ?hwant ?hkind ?hrun ?_); (case hwant => first | (simp [Region.wanted, yielded]; done) | rfl); (case hkind => rfl); (case hrun => intro W hW; obtain ⟨u0, u1, u2⟩ := Box.below XA hW (by omega); simp [go_sem, BigFrame.eval_const, BigFrame.eval_global, BigFrame.eval_func, u0, u1, u2]); simp only [Act.put, List.setIfInBounds_toArray, List.set_cons_succ, List.set_cons_zero])
  ((with_reducible refine wpKinds_call (f := 43) (args := #[.agg #[.int .i64 R, .int .i64 C, .slice a n c]]) (.bool true) ?hwant ?hkind ?hrun ?hinit ?hcall ?_); (case hwant => first | (simp [Region.wanted, yielded]; done) | rfl); (case hkind => rfl); (case hrun => intro W; simp [go_sem, BigFrame.eval_const, BigFrame.eval_global, BigFrame.eval_func]); (case hinit => kernel_rfl); (case hcall => intro W hW; (refine (hvA W (FA.below hW (Nat.le_refl _))).mono ?_; rintro e w' ⟨rfl, hb⟩; exact ⟨rfl, hW.trans (hb.mono hW.size)⟩)); simp only [Act.put, List.setIfInBounds_toArray, List.set_cons_succ, List.set_cons_zero])
  ((with_reducible refine wpKinds_plain ?hwant ?hkind ?hplain (fun K hK => ?_)); (case hwant => first | (simp [Region.wanted, yielded]; done) | rfl); (case hkind => rfl); (case hplain => rfl); go_big_quiet_op; (first | refine hK _ ?_ | refine ⟨_, fun _ _ => rfl, hK _ ?_⟩); clear hK K)
  ((with_reducible refine wpKinds_plain ?hwant ?hkind ?hplain (fun K hK => ?_)); (case hwant => first | (simp [Region.wanted, yielded]; done) | rfl); (case hkind => rfl); (case hplain => rfl); go_big_quiet_op; (first | refine hK _ ?_ | refine ⟨_, fun _ _ => rfl, hK _ ?_⟩); clear hK K)
  ((with_reducible refine wpKinds_run (.agg #[.int .i64 R, .int .i64 C, .slice b n2 d]) ?hwant ?hkind ?hrun ?_); (case hwant => first | (simp [Region.wanted, yielded]; done) | rfl); (case hkind => rfl); (case hrun => intro W hW; obtain ⟨u0, u1, u2⟩ := Box.below XB hW (by omega); simp [go_sem, BigFrame.eval_const, BigFrame.eval_global, BigFrame.eval_func, u0, u1, u2]); simp only [Act.put, List.setIfInBounds_toArray, List.set_cons_succ, List.set_cons_zero])
  ((with_reducible refine wpKinds_call (f := 43) (args := #[.agg #[.int .i64 R, .int .i64 C, .slice b n2 d]]) (.bool true) ?hwant ?hkind ?hrun ?hinit ?hcall ?_); (case hwant => first | (simp [Region.wanted, yielded]; done) | rfl); (case hkind => rfl); (case hrun => intro W; simp [go_sem, BigFrame.eval_const, BigFrame.eval_global, BigFrame.eval_func]); (case hinit => kernel_rfl); (case hcall => intro W hW; (refine (hvB W (FB.below hW (Nat.le_refl _))).mono ?_; rintro e w' ⟨rfl, hb⟩; exact ⟨rfl, hW.trans (hb.mono hW.size)⟩)); simp only [Act.put, List.setIfInBounds_toArray, List.set_cons_succ, List.set_cons_zero])
  ((with_reducible refine wpKinds_plain ?hwant ?hkind ?hplain (fun K hK => ?_)); (case hwant => first | (simp [Region.wanted, yielded]; done) | rfl); (case hkind => rfl); (case hplain => rfl); go_big_quiet_op; (first | refine hK _ ?_ | refine ⟨_, fun _ _ => rfl, hK _ ?_⟩); clear hK K)
  ((with_reducible refine wpKinds_run (.bool false) ?hwant ?hkind ?hrun ?_); (case hwant => first | (simp [Region.wanted, yielded]; done) | rfl); (case hkind => rfl); (case hrun => intro W hW; simp [go_sem, BigFrame.eval_const, BigFrame.eval_global, BigFrame.eval_func]); simp only [Act.put, List.setIfInBounds_toArray, List.set_cons_succ, List.set_cons_zero])
  ((with_reducible refine wpKinds_plain ?hwant ?hkind ?hplain (fun K hK => ?_)); (case hwant => first | (simp [Region.wanted, yielded]; done) | rfl); (case hkind => rfl); (case hplain => rfl); go_big_quiet_op; (first | refine hK _ ?_ | refine ⟨_, fun _ _ => rfl, hK _ ?_⟩); clear hK K)
  ((with_reducible refine wpKinds_run (.agg #[.int .i64 R, .int .i64 C, .slice a n c]) ?hwant ?hkind ?hrun ?_); (case hwant => first | (simp [Region.wanted, yielded]; done) | rfl); (case hkind => rfl); (case hrun => intro W hW; obtain ⟨u0, u1, u2⟩ := Box.below XA hW (by omega); simp [go_sem, BigFrame.eval_const, BigFrame.eval_global, BigFrame.eval_func, u0, u1, u2]); simp only [Act.put, List.setIfInBounds_toArray, List.set_cons_succ, List.set_cons_zero])
  ((with_reducible refine wpKinds_call (f := 53) (args := #[.agg #[.int .i64 R, .int .i64 C, .slice a n c]]) (.agg #[.int .i64 R, .int .i64 C]) ?hwant ?hkind ?hrun ?hinit ?hcall ?_); (case hwant => first | (simp [Region.wanted, yielded]; done) | rfl); (case hkind => rfl); (case hrun => intro W; simp [go_sem, BigFrame.eval_const, BigFrame.eval_global, BigFrame.eval_func]); (case hinit => kernel_rfl); (case hcall => intro W hW; (refine (sidesOfW_any _ _ _ _ _ W).mono ?_; rintro e w' ⟨rfl, hb⟩; exact ⟨rfl, hW.trans (hb.mono hW.size)⟩)); simp only [Act.put, List.setIfInBounds_toArray, List.set_cons_succ, List.set_cons_zero])
  ((with_reducible refine wpKinds_run (.agg #[.int .i64 R, .int .i64 C, .slice b n2 d]) ?hwant ?hkind ?hrun ?_); (case hwant => first | (simp [Region.wanted, yielded]; done) | rfl); (case hkind => rfl); (case hrun => intro W hW; obtain ⟨u0, u1, u2⟩ := Box.below XB hW (by omega); simp [go_sem, BigFrame.eval_const, BigFrame.eval_global, BigFrame.eval_func, u0, u1, u2]); simp only [Act.put, List.setIfInBounds_toArray, List.set_cons_succ, List.set_cons_zero])
  ((with_reducible refine wpKinds_call (f := 53) (args := #[.agg #[.int .i64 R, .int .i64 C, .slice b n2 d]]) (.agg #[.int .i64 R, .int .i64 C]) ?hwant ?hkind ?hrun ?hinit ?hcall ?_); (case hwant => first | (simp [Region.wanted, yielded]; done) | rfl); (case hkind => rfl); (case hrun => intro W; simp [go_sem, BigFrame.eval_const, BigFrame.eval_global, BigFrame.eval_func]); (case hinit => kernel_rfl); (case hcall => intro W hW; (refine (sidesOfW_any _ _ _ _ _ W).mono ?_; rintro e w' ⟨rfl, hb⟩; exact ⟨rfl, hW.trans (hb.mono hW.size)⟩)); simp only [Act.put, List.setIfInBounds_toArray, List.set_cons_succ, List.set_cons_zero])
  ((with_reducible refine wpKinds_run (.bool false) ?hwant ?hkind ?hrun ?_); (case hwant => first | (simp [Region.wanted, yielded]; done) | rfl); (case hkind => rfl); (case hrun => intro W hW; simp [go_sem, BigFrame.eval_const, BigFrame.eval_global, BigFrame.eval_func]); simp only [Act.put, List.setIfInBounds_toArray, List.set_cons_succ, List.set_cons_zero])
  ((with_reducible refine wpKinds_run (.bool false) ?hwant ?hkind ?hrun ?_); (case hwant => first | (simp [Region.wanted, yielded]; done) | rfl); (case hkind => rfl); (case hrun => intro W hW; simp [go_sem, BigFrame.eval_const, BigFrame.eval_global, BigFrame.eval_func]); simp only [Act.put, List.setIfInBounds_toArray, List.set_cons_succ, List.set_cons_zero])
  ((with_reducible refine wpKinds_plain ?hwant ?hkind ?hplain (fun K hK => ?_)); (case hwant => first | (simp [Region.wanted, yielded]; done) | rfl); (case hkind => rfl); (case hplain => rfl); go_big_quiet_op; (first | refine hK _ ?_ | refine ⟨_, fun _ _ => rfl, hK _ ?_⟩); clear hK K)
  ((with_reducible refine wpKinds_plain ?hwant ?hkind ?hplain (fun K hK => ?_)); (case hwant => first | (simp [Region.wanted, yielded]; done) | rfl); (case hkind => rfl); (case hplain => rfl); go_big_quiet_op; (first | refine hK _ ?_ | refine ⟨_, fun _ _ => rfl, hK _ ?_⟩); clear hK K)
  ((with_reducible refine wpKinds_call (f := 54) (args := #[.float .f32 x]) (.bool true) ?hwant ?hkind ?hrun ?hinit ?hcall ?_); (case hwant => first | (simp [Region.wanted, yielded]; done) | rfl); (case hkind => rfl); (case hrun => intro W; simp [go_sem, BigFrame.eval_const, BigFrame.eval_global, BigFrame.eval_func]); (case hinit => kernel_rfl); (case hcall => intro W hW; (refine (fin1 W).mono ?_; rintro e w' ⟨rfl, q, rfl⟩; exact ⟨rfl, below_drewN hW _⟩)); simp only [Act.put, List.setIfInBounds_toArray, List.set_cons_succ, List.set_cons_zero])
  ((with_reducible refine wpKinds_plain ?hwant ?hkind ?hplain (fun K hK => ?_)); (case hwant => first | (simp [Region.wanted, yielded]; done) | rfl); (case hkind => rfl); (case hplain => rfl); go_big_quiet_op; (first | refine hK _ ?_ | refine ⟨_, fun _ _ => rfl, hK _ ?_⟩); clear hK K)
  ((with_reducible refine wpKinds_run (.bool false) ?hwant ?hkind ?hrun ?_); (case hwant => first | (simp [Region.wanted, yielded]; done) | rfl); (case hkind => rfl); (case hrun => intro W hW; simp [go_sem, BigFrame.eval_const, BigFrame.eval_global, BigFrame.eval_func]); simp only [Act.put, List.setIfInBounds_toArray, List.set_cons_succ, List.set_cons_zero])
  ((with_reducible refine wpKinds_plain ?hwant ?hkind ?hplain (fun K hK => ?_)); (case hwant => first | (simp [Region.wanted, yielded]; done) | rfl); (case hkind => rfl); (case hplain => rfl); go_big_quiet_op; (first | refine hK _ ?_ | refine ⟨_, fun _ _ => rfl, hK _ ?_⟩); clear hK K)
  ((with_reducible refine wpKinds_plain ?hwant ?hkind ?hplain (fun K hK => ?_)); (case hwant => first | (simp [Region.wanted, yielded]; done) | rfl); (case hkind => rfl); (case hplain => rfl); go_big_quiet_op; (first | refine hK _ ?_ | refine ⟨_, fun _ _ => rfl, hK _ ?_⟩); clear hK K)
  ((with_reducible refine wpKinds_call (f := 54) (args := #[.float .f32 y]) (.bool false) ?hwant ?hkind ?hrun ?hinit ?hcall ?_); (case hwant => first | (simp [Region.wanted, yielded]; done) | rfl); (case hkind => rfl); (case hrun => intro W; simp [go_sem, BigFrame.eval_const, BigFrame.eval_global, BigFrame.eval_func]); (case hinit => kernel_rfl); (case hcall => intro W hW; (refine (fin2 W).mono ?_; rintro e w' ⟨rfl, q, rfl⟩; exact ⟨rfl, below_drewN hW _⟩)); simp only [Act.put, List.setIfInBounds_toArray, List.set_cons_succ, List.set_cons_zero])
  ((with_reducible refine wpKinds_plain ?hwant ?hkind ?hplain (fun K hK => ?_)); (case hwant => first | (simp [Region.wanted, yielded]; done) | rfl); (case hkind => rfl); (case hplain => rfl); go_big_quiet_op; (first | refine hK _ ?_ | refine ⟨_, fun _ _ => rfl, hK _ ?_⟩); clear hK K)
  refine wpKinds_nil ?_
  intro w1 b1
  obtain ⟨z0, z1, z2⟩ := XR.below b1 (by omega)
  have I1 : ∀ i, w1.frozen? ⟨w.heap.size + 1 + 1, i, none⟩ = false := fun i => (b1.frozen (p := ⟨w.heap.size + 1 + 1, i, none⟩) (by show w.heap.size + 1 + 1 < w0.heap.size; omega)).trans (IR i)
  have B1 := B0.trans (b1.mono B0.size)
  clear XA XB XR IR B0 FA FB hvA hvB fin1 fin2 b1
  go_wp2_with fail
  refine bodyPost_ret (v := .tuple #[.agg #[.int .i64 0, .int .i64 0, .slice none 0 0], .bool false]) (by simp [results, Try.results28, go_sem, z0, z1, z2]) rfl ?_
  exact ⟨none, 0, fun _ => 0, rfl, .inl ⟨rfl, rfl, rfl⟩, fun i hi => by omega, (by repeat first | (with_reducible exact B1) | (with_reducible refine Below.setCell ?_ (by first | exact Nat.le_refl _ | (simp; done) | (simp; omega) | omega) _) | (with_reducible refine Below.alloc ?_ (by first | exact Nat.le_refl _ | (simp; done) | (simp; omega) | omega) _) | (with_reducible refine below_drewN ?_ _) | (with_reducible refine Below.drew ?_))⟩
set_option maxRecDepth 20000 in
set_option maxHeartbeats 2000000 in
theorem specWeigh_no0 (x y : Nat) (R C : Int) (a : Option Addr) (n c : Nat) (Z : Nat → Nat) (R2 C2 : Int) (b : Option Addr) (n2 d : Nat) (Y : Nat → Nat) (w : World) (wx : (Lit.float .f32 x).wf = true) (wy : (Lit.float .f32 y).wf = true) (hn : n ≤ 1048576) (hm : n2 ≤ 1048576) (h : FS .f32 w a n c Z) (h2 : FS .f32 w b n2 d Y)
    (hva : validB R C n (vals Z) = false) :
    Calls Try.prog 18 #[.agg #[.int .i64 R, .int .i64 C, .slice a n c], .agg #[.int .i64 R2, .int .i64 C2, .slice b n2 d], .float .f32 x, .float .f32 y] w (MatBel false 0 0 0 (fun _ => none) w) := by
  have hvA := fun q W hX (hW : FS .f32 W a n c Z) => specIs_any q R C a n c Z W hn hX hW
  rw [hva] at hvA
  have hvB := fun q W hX (hW : FS .f32 W b n2 d Y) => specIs_any q R2 C2 b n2 d Y W hm hX hW
  have fin1 := fun W => specFinite_any x (FV.mk' wx) W
  have fin2 := fun W => specFinite_any y (FV.mk' wy) W
  clear hva wx wy
  go_enter Try.func18, Try.ntmps18
  go_wp2_with fail
  go_at_call 33
  refine (hvA w.heap.size _ (by refine ⟨?_, ?_, ?_⟩ <;> simp [go_sem]) (h.below (by repeat first | (with_reducible exact Below.refl _ _) | (with_reducible refine Below.setCell ?_ (by first | exact Nat.le_refl _ | (simp; done) | (simp; omega) | omega) _) | (with_reducible refine Below.alloc ?_ (by first | exact Nat.le_refl _ | (simp; done) | (simp; omega) | omega) _) | (with_reducible refine below_drewN ?_ _) | (with_reducible refine Below.drew ?_)) (Nat.le_refl _))).mono ?_
  rintro e w1 ⟨rfl, m1, rfl⟩
  go_wp2_with (go_at_call 42; first | ((with_reducible refine (fin1 _).mono ?_); rintro e w' ⟨rfl, q1, rfl⟩) | ((with_reducible refine (fin2 _).mono ?_); rintro e w' ⟨rfl, q2, rfl⟩))
  refine bodyPost_ret (v := .tuple #[.agg #[.int .i64 0, .int .i64 0, .slice none 0 0], .bool false]) (by simp [results, Try.results18, go_sem]) rfl ?_
  exact ⟨none, 0, fun _ => 0, rfl, ⟨Nat.le_refl _, Nat.zero_le _, fun i hi => by omega⟩, fun i hi => by omega, (by repeat first | (with_reducible exact Below.refl _ _) | (with_reducible refine Below.setCell ?_ (by first | exact Nat.le_refl _ | (simp; done) | (simp; omega) | omega) _) | (with_reducible refine Below.alloc ?_ (by first | exact Nat.le_refl _ | (simp; done) | (simp; omega) | omega) _) | (with_reducible refine below_drewN ?_ _) | (with_reducible refine Below.drew ?_))⟩
set_option maxRecDepth 20000 in
set_option maxHeartbeats 2000000 in
theorem specWeigh_no1 (x y : Nat) (R C : Int) (a : Option Addr) (n c : Nat) (Z : Nat → Nat) (R2 C2 : Int) (b : Option Addr) (n2 d : Nat) (Y : Nat → Nat) (w : World) (wx : (Lit.float .f32 x).wf = true) (wy : (Lit.float .f32 y).wf = true) (hn : n ≤ 1048576) (hm : n2 ≤ 1048576) (h : FS .f32 w a n c Z) (h2 : FS .f32 w b n2 d Y)
    (hva : validB R C n (vals Z) = true) (hvb : validB R2 C2 n2 (vals Y) = false) :
    Calls Try.prog 18 #[.agg #[.int .i64 R, .int .i64 C, .slice a n c], .agg #[.int .i64 R2, .int .i64 C2, .slice b n2 d], .float .f32 x, .float .f32 y] w (MatBel false 0 0 0 (fun _ => none) w) := by
  have hvA := fun q W hX (hW : FS .f32 W a n c Z) => specIs_any q R C a n c Z W hn hX hW
  rw [hva] at hvA
  have hvB := fun q W hX (hW : FS .f32 W b n2 d Y) => specIs_any q R2 C2 b n2 d Y W hm hX hW
  rw [hvb] at hvB
  have fin1 := fun W => specFinite_any x (FV.mk' wx) W
  have fin2 := fun W => specFinite_any y (FV.mk' wy) W
  clear hva hvb wx wy
  go_enter Try.func18, Try.ntmps18
  go_wp2_with fail
  go_at_call 33
  refine (hvA w.heap.size _ (by refine ⟨?_, ?_, ?_⟩ <;> simp [go_sem]) (h.below (by repeat first | (with_reducible exact Below.refl _ _) | (with_reducible refine Below.setCell ?_ (by first | exact Nat.le_refl _ | (simp; done) | (simp; omega) | omega) _) | (with_reducible refine Below.alloc ?_ (by first | exact Nat.le_refl _ | (simp; done) | (simp; omega) | omega) _) | (with_reducible refine below_drewN ?_ _) | (with_reducible refine Below.drew ?_)) (Nat.le_refl _))).mono ?_
  rintro e w1 ⟨rfl, m1, rfl⟩
  go_wp2_with fail
  go_at_call 33
  refine (hvB (w.heap.size + 1) _ (by refine ⟨?_, ?_, ?_⟩ <;> simp [go_sem]) (h2.below (by repeat first | (with_reducible exact Below.refl _ _) | (with_reducible refine Below.setCell ?_ (by first | exact Nat.le_refl _ | (simp; done) | (simp; omega) | omega) _) | (with_reducible refine Below.alloc ?_ (by first | exact Nat.le_refl _ | (simp; done) | (simp; omega) | omega) _) | (with_reducible refine below_drewN ?_ _) | (with_reducible refine Below.drew ?_)) (Nat.le_refl _))).mono ?_
  rintro e w1 ⟨rfl, m2, rfl⟩
  go_wp2_with (go_at_call 42; first | ((with_reducible refine (fin1 _).mono ?_); rintro e w' ⟨rfl, q1, rfl⟩) | ((with_reducible refine (fin2 _).mono ?_); rintro e w' ⟨rfl, q2, rfl⟩))
  refine bodyPost_ret (v := .tuple #[.agg #[.int .i64 0, .int .i64 0, .slice none 0 0], .bool false]) (by simp [results, Try.results18, go_sem]) rfl ?_
  exact ⟨none, 0, fun _ => 0, rfl, ⟨Nat.le_refl _, Nat.zero_le _, fun i hi => by omega⟩, fun i hi => by omega, (by repeat first | (with_reducible exact Below.refl _ _) | (with_reducible refine Below.setCell ?_ (by first | exact Nat.le_refl _ | (simp; done) | (simp; omega) | omega) _) | (with_reducible refine Below.alloc ?_ (by first | exact Nat.le_refl _ | (simp; done) | (simp; omega) | omega) _) | (with_reducible refine below_drewN ?_ _) | (with_reducible refine Below.drew ?_))⟩
set_option maxRecDepth 20000 in
set_option maxHeartbeats 2000000 in
theorem specWeigh_no2 (x y : Nat) (R C : Int) (a : Option Addr) (n c : Nat) (Z : Nat → Nat) (R2 C2 : Int) (b : Option Addr) (n2 d : Nat) (Y : Nat → Nat) (w : World) (wx : (Lit.float .f32 x).wf = true) (wy : (Lit.float .f32 y).wf = true) (hn : n ≤ 1048576) (hm : n2 ≤ 1048576) (h : FS .f32 w a n c Z) (h2 : FS .f32 w b n2 d Y)
    (hva : validB R C n (vals Z) = true) (hvb : validB R2 C2 n2 (vals Y) = true) (he : ¬ R = R2) :
    Calls Try.prog 18 #[.agg #[.int .i64 R, .int .i64 C, .slice a n c], .agg #[.int .i64 R2, .int .i64 C2, .slice b n2 d], .float .f32 x, .float .f32 y] w (MatBel false 0 0 0 (fun _ => none) w) := by
  have hvA := fun q W hX (hW : FS .f32 W a n c Z) => specIs_any q R C a n c Z W hn hX hW
  rw [hva] at hvA
  have hvB := fun q W hX (hW : FS .f32 W b n2 d Y) => specIs_any q R2 C2 b n2 d Y W hm hX hW
  rw [hvb] at hvB
  have fin1 := fun W => specFinite_any x (FV.mk' wx) W
  have fin2 := fun W => specFinite_any y (FV.mk' wy) W
  have hd : (R == R2) = false := beq_eq_false_iff_ne.2 he
  clear hva hvb wx wy
  go_enter Try.func18, Try.ntmps18
  go_wp2_with fail
  go_at_call 33
  refine (hvA w.heap.size _ (by refine ⟨?_, ?_, ?_⟩ <;> simp [go_sem]) (h.below (by repeat first | (with_reducible exact Below.refl _ _) | (with_reducible refine Below.setCell ?_ (by first | exact Nat.le_refl _ | (simp; done) | (simp; omega) | omega) _) | (with_reducible refine Below.alloc ?_ (by first | exact Nat.le_refl _ | (simp; done) | (simp; omega) | omega) _) | (with_reducible refine below_drewN ?_ _) | (with_reducible refine Below.drew ?_)) (Nat.le_refl _))).mono ?_
  rintro e w1 ⟨rfl, m1, rfl⟩
  go_wp2_with fail
  go_at_call 33
  refine (hvB (w.heap.size + 1) _ (by refine ⟨?_, ?_, ?_⟩ <;> simp [go_sem]) (h2.below (by repeat first | (with_reducible exact Below.refl _ _) | (with_reducible refine Below.setCell ?_ (by first | exact Nat.le_refl _ | (simp; done) | (simp; omega) | omega) _) | (with_reducible refine Below.alloc ?_ (by first | exact Nat.le_refl _ | (simp; done) | (simp; omega) | omega) _) | (with_reducible refine below_drewN ?_ _) | (with_reducible refine Below.drew ?_)) (Nat.le_refl _))).mono ?_
  rintro e w1 ⟨rfl, m2, rfl⟩
  go_wp2_with (go_at_call 42; first | ((with_reducible refine (fin1 _).mono ?_); rintro e w' ⟨rfl, q1, rfl⟩) | ((with_reducible refine (fin2 _).mono ?_); rintro e w' ⟨rfl, q2, rfl⟩))
  refine bodyPost_ret (v := .tuple #[.agg #[.int .i64 0, .int .i64 0, .slice none 0 0], .bool false]) (by simp [results, Try.results18, go_sem]) rfl ?_
  exact ⟨none, 0, fun _ => 0, rfl, ⟨Nat.le_refl _, Nat.zero_le _, fun i hi => by omega⟩, fun i hi => by omega, (by repeat first | (with_reducible exact Below.refl _ _) | (with_reducible refine Below.setCell ?_ (by first | exact Nat.le_refl _ | (simp; done) | (simp; omega) | omega) _) | (with_reducible refine Below.alloc ?_ (by first | exact Nat.le_refl _ | (simp; done) | (simp; omega) | omega) _) | (with_reducible refine below_drewN ?_ _) | (with_reducible refine Below.drew ?_))⟩
set_option maxRecDepth 20000 in
set_option maxHeartbeats 2000000 in
theorem specWeigh_no25 (x y : Nat) (R C : Int) (a : Option Addr) (n c : Nat) (Z : Nat → Nat) (R2 C2 : Int) (b : Option Addr) (n2 d : Nat) (Y : Nat → Nat) (w : World) (wx : (Lit.float .f32 x).wf = true) (wy : (Lit.float .f32 y).wf = true) (hn : n ≤ 1048576) (hm : n2 ≤ 1048576) (h : FS .f32 w a n c Z) (h2 : FS .f32 w b n2 d Y)
    (hva : validB R C n (vals Z) = true) (hvb : validB R2 C2 n2 (vals Y) = true) (he1 : R = R2) (he : ¬ C = C2) :
    Calls Try.prog 18 #[.agg #[.int .i64 R, .int .i64 C, .slice a n c], .agg #[.int .i64 R2, .int .i64 C2, .slice b n2 d], .float .f32 x, .float .f32 y] w (MatBel false 0 0 0 (fun _ => none) w) := by
  subst he1
  have hvA := fun q W hX (hW : FS .f32 W a n c Z) => specIs_any q R C a n c Z W hn hX hW
  rw [hva] at hvA
  have hvB := fun q W hX (hW : FS .f32 W b n2 d Y) => specIs_any q R C2 b n2 d Y W hm hX hW
  rw [hvb] at hvB
  have fin1 := fun W => specFinite_any x (FV.mk' wx) W
  have fin2 := fun W => specFinite_any y (FV.mk' wy) W
  have hd : (C == C2) = false := beq_eq_false_iff_ne.2 he
  clear hva hvb wx wy
  go_enter Try.func18, Try.ntmps18
  go_wp2_with fail
  go_at_call 33
  refine (hvA w.heap.size _ (by refine ⟨?_, ?_, ?_⟩ <;> simp [go_sem]) (h.below (by repeat first | (with_reducible exact Below.refl _ _) | (with_reducible refine Below.setCell ?_ (by first | exact Nat.le_refl _ | (simp; done) | (simp; omega) | omega) _) | (with_reducible refine Below.alloc ?_ (by first | exact Nat.le_refl _ | (simp; done) | (simp; omega) | omega) _) | (with_reducible refine below_drewN ?_ _) | (with_reducible refine Below.drew ?_)) (Nat.le_refl _))).mono ?_
  rintro e w1 ⟨rfl, m1, rfl⟩
  go_wp2_with fail
  go_at_call 33
  refine (hvB (w.heap.size + 1) _ (by refine ⟨?_, ?_, ?_⟩ <;> simp [go_sem]) (h2.below (by repeat first | (with_reducible exact Below.refl _ _) | (with_reducible refine Below.setCell ?_ (by first | exact Nat.le_refl _ | (simp; done) | (simp; omega) | omega) _) | (with_reducible refine Below.alloc ?_ (by first | exact Nat.le_refl _ | (simp; done) | (simp; omega) | omega) _) | (with_reducible refine below_drewN ?_ _) | (with_reducible refine Below.drew ?_)) (Nat.le_refl _))).mono ?_
  rintro e w1 ⟨rfl, m2, rfl⟩
  go_wp2_with (go_at_call 42; first | ((with_reducible refine (fin1 _).mono ?_); rintro e w' ⟨rfl, q1, rfl⟩) | ((with_reducible refine (fin2 _).mono ?_); rintro e w' ⟨rfl, q2, rfl⟩))
  refine bodyPost_ret (v := .tuple #[.agg #[.int .i64 0, .int .i64 0, .slice none 0 0], .bool false]) (by simp [results, Try.results18, go_sem]) rfl ?_
  exact ⟨none, 0, fun _ => 0, rfl, ⟨Nat.le_refl _, Nat.zero_le _, fun i hi => by omega⟩, fun i hi => by omega, (by repeat first | (with_reducible exact Below.refl _ _) | (with_reducible refine Below.setCell ?_ (by first | exact Nat.le_refl _ | (simp; done) | (simp; omega) | omega) _) | (with_reducible refine Below.alloc ?_ (by first | exact Nat.le_refl _ | (simp; done) | (simp; omega) | omega) _) | (with_reducible refine below_drewN ?_ _) | (with_reducible refine Below.drew ?_))⟩
set_option maxRecDepth 20000 in
set_option maxHeartbeats 2000000 in
theorem specWeigh_no3 (x y : Nat) (R C : Int) (a : Option Addr) (n c : Nat) (Z : Nat → Nat) (R2 C2 : Int) (b : Option Addr) (n2 d : Nat) (Y : Nat → Nat) (w : World) (wx : (Lit.float .f32 x).wf = true) (wy : (Lit.float .f32 y).wf = true) (hn : n ≤ 1048576) (hm : n2 ≤ 1048576) (h : FS .f32 w a n c Z) (h2 : FS .f32 w b n2 d Y)
    (hva : validB R C n (vals Z) = true) (hvb : validB R2 C2 n2 (vals Y) = true) (he1 : R = R2) (he : C = C2) (hx : finite .f32 (cn .f32 x) = false) :
    Calls Try.prog 18 #[.agg #[.int .i64 R, .int .i64 C, .slice a n c], .agg #[.int .i64 R2, .int .i64 C2, .slice b n2 d], .float .f32 x, .float .f32 y] w (MatBel false 0 0 0 (fun _ => none) w) := by
  subst he1
  subst he
  have hvA := fun q W hX (hW : FS .f32 W a n c Z) => specIs_any q R C a n c Z W hn hX hW
  rw [hva] at hvA
  have hvB := fun q W hX (hW : FS .f32 W b n2 d Y) => specIs_any q R C b n2 d Y W hm hX hW
  rw [hvb] at hvB
  have fin1 := fun W => specFinite_any x (FV.mk' wx) W
  have fin2 := fun W => specFinite_any y (FV.mk' wy) W
  rw [hx] at fin1
  clear hva hvb hx wx wy
  go_enter Try.func18, Try.ntmps18
  go_wp2_with fail
  go_at_call 33
  refine (hvA w.heap.size _ (by refine ⟨?_, ?_, ?_⟩ <;> simp [go_sem]) (h.below (by repeat first | (with_reducible exact Below.refl _ _) | (with_reducible refine Below.setCell ?_ (by first | exact Nat.le_refl _ | (simp; done) | (simp; omega) | omega) _) | (with_reducible refine Below.alloc ?_ (by first | exact Nat.le_refl _ | (simp; done) | (simp; omega) | omega) _) | (with_reducible refine below_drewN ?_ _) | (with_reducible refine Below.drew ?_)) (Nat.le_refl _))).mono ?_
  rintro e w1 ⟨rfl, m1, rfl⟩
  go_wp2_with fail
  go_at_call 33
  refine (hvB (w.heap.size + 1) _ (by refine ⟨?_, ?_, ?_⟩ <;> simp [go_sem]) (h2.below (by repeat first | (with_reducible exact Below.refl _ _) | (with_reducible refine Below.setCell ?_ (by first | exact Nat.le_refl _ | (simp; done) | (simp; omega) | omega) _) | (with_reducible refine Below.alloc ?_ (by first | exact Nat.le_refl _ | (simp; done) | (simp; omega) | omega) _) | (with_reducible refine below_drewN ?_ _) | (with_reducible refine Below.drew ?_)) (Nat.le_refl _))).mono ?_
  rintro e w1 ⟨rfl, m2, rfl⟩
  go_wp2_with (go_at_call 42; first | ((with_reducible refine (fin1 _).mono ?_); rintro e w' ⟨rfl, q1, rfl⟩) | ((with_reducible refine (fin2 _).mono ?_); rintro e w' ⟨rfl, q2, rfl⟩))
  refine bodyPost_ret (v := .tuple #[.agg #[.int .i64 0, .int .i64 0, .slice none 0 0], .bool false]) (by simp [results, Try.results18, go_sem]) rfl ?_
  exact ⟨none, 0, fun _ => 0, rfl, ⟨Nat.le_refl _, Nat.zero_le _, fun i hi => by omega⟩, fun i hi => by omega, (by repeat first | (with_reducible exact Below.refl _ _) | (with_reducible refine Below.setCell ?_ (by first | exact Nat.le_refl _ | (simp; done) | (simp; omega) | omega) _) | (with_reducible refine Below.alloc ?_ (by first | exact Nat.le_refl _ | (simp; done) | (simp; omega) | omega) _) | (with_reducible refine below_drewN ?_ _) | (with_reducible refine Below.drew ?_))⟩
set_option maxRecDepth 20000 in
set_option maxHeartbeats 2000000 in
theorem specWeigh_no4 (x y : Nat) (R C : Int) (a : Option Addr) (n c : Nat) (Z : Nat → Nat) (R2 C2 : Int) (b : Option Addr) (n2 d : Nat) (Y : Nat → Nat) (w : World) (wx : (Lit.float .f32 x).wf = true) (wy : (Lit.float .f32 y).wf = true) (hn : n ≤ 1048576) (hm : n2 ≤ 1048576) (h : FS .f32 w a n c Z) (h2 : FS .f32 w b n2 d Y)
    (hva : validB R C n (vals Z) = true) (hvb : validB R2 C2 n2 (vals Y) = true) (he1 : R = R2) (he : C = C2) (hx : finite .f32 (cn .f32 x) = true) (hy : finite .f32 (cn .f32 y) = false) :
    Calls Try.prog 18 #[.agg #[.int .i64 R, .int .i64 C, .slice a n c], .agg #[.int .i64 R2, .int .i64 C2, .slice b n2 d], .float .f32 x, .float .f32 y] w (MatBel false 0 0 0 (fun _ => none) w) := by
  subst he1
  subst he
  have hvA := fun q W hX (hW : FS .f32 W a n c Z) => specIs_any q R C a n c Z W hn hX hW
  rw [hva] at hvA
  have hvB := fun q W hX (hW : FS .f32 W b n2 d Y) => specIs_any q R C b n2 d Y W hm hX hW
  rw [hvb] at hvB
  have fin1 := fun W => specFinite_any x (FV.mk' wx) W
  have fin2 := fun W => specFinite_any y (FV.mk' wy) W
  rw [hx] at fin1
  rw [hy] at fin2
  clear hva hvb hx hy wx wy
  go_enter Try.func18, Try.ntmps18
  go_wp2_with fail
  go_at_call 33
  refine (hvA w.heap.size _ (by refine ⟨?_, ?_, ?_⟩ <;> simp [go_sem]) (h.below (by repeat first | (with_reducible exact Below.refl _ _) | (with_reducible refine Below.setCell ?_ (by first | exact Nat.le_refl _ | (simp; done) | (simp; omega) | omega) _) | (with_reducible refine Below.alloc ?_ (by first | exact Nat.le_refl _ | (simp; done) | (simp; omega) | omega) _) | (with_reducible refine below_drewN ?_ _) | (with_reducible refine Below.drew ?_)) (Nat.le_refl _))).mono ?_
  rintro e w1 ⟨rfl, m1, rfl⟩
  go_wp2_with fail
  go_at_call 33
  refine (hvB (w.heap.size + 1) _ (by refine ⟨?_, ?_, ?_⟩ <;> simp [go_sem]) (h2.below (by repeat first | (with_reducible exact Below.refl _ _) | (with_reducible refine Below.setCell ?_ (by first | exact Nat.le_refl _ | (simp; done) | (simp; omega) | omega) _) | (with_reducible refine Below.alloc ?_ (by first | exact Nat.le_refl _ | (simp; done) | (simp; omega) | omega) _) | (with_reducible refine below_drewN ?_ _) | (with_reducible refine Below.drew ?_)) (Nat.le_refl _))).mono ?_
  rintro e w1 ⟨rfl, m2, rfl⟩
  go_wp2_with (go_at_call 42; first | ((with_reducible refine (fin1 _).mono ?_); rintro e w' ⟨rfl, q1, rfl⟩) | ((with_reducible refine (fin2 _).mono ?_); rintro e w' ⟨rfl, q2, rfl⟩))
  refine bodyPost_ret (v := .tuple #[.agg #[.int .i64 0, .int .i64 0, .slice none 0 0], .bool false]) (by simp [results, Try.results18, go_sem]) rfl ?_
  exact ⟨none, 0, fun _ => 0, rfl, ⟨Nat.le_refl _, Nat.zero_le _, fun i hi => by omega⟩, fun i hi => by omega, (by repeat first | (with_reducible exact Below.refl _ _) | (with_reducible refine Below.setCell ?_ (by first | exact Nat.le_refl _ | (simp; done) | (simp; omega) | omega) _) | (with_reducible refine Below.alloc ?_ (by first | exact Nat.le_refl _ | (simp; done) | (simp; omega) | omega) _) | (with_reducible refine below_drewN ?_ _) | (with_reducible refine Below.drew ?_))⟩
theorem keyWeighMatrices (R0 C0 : Int) (n0 : Nat) (Z0 : Nat → Nat) (R1 C1 : Int) (n1 : Nat) (Z1 : Nat → Nat) (x2 x3 : Nat) (hn0 : n0 ≤ 1048576) (hn1 : n1 ≤ 1048576) (wx2 : (Lit.float .f32 x2).wf = true) (wx3 : (Lit.float .f32 x3).wf = true) : ∃ (ok : Bool) (R C : Int) (n : Nat) (V : Nat → Option Nat), n ≤ 144 ∧
    (∀ a c b d W, FS .f32 W a n0 c Z0 → FS .f32 W b n1 d Z1 → Calls Try.prog 18 #[.agg #[.int .i64 R0, .int .i64 C0, .slice a n0 c], .agg #[.int .i64 R1, .int .i64 C1, .slice b n1 d], .float .f32 x2, .float .f32 x3] W (MatBel ok R C n V W)) ∧
    (∀ a c b d W, FS .f32 W a n0 c Z0 → FS .f32 W b n1 d Z1 → Calls Try.prog 28 #[.agg #[.int .i64 R0, .int .i64 C0, .slice a n0 c], .agg #[.int .i64 R1, .int .i64 C1, .slice b n1 d], .float .f32 x2, .float .f32 x3] W (MatOwn ok R C n V W)) := by
  cases hva : validB R0 C0 n0 (vals Z0) with
  | false => exact ⟨false, 0, 0, 0, fun _ => none, by omega, fun a c b d W h h2 => specWeigh_no0 x2 x3 _ _ _ _ _ _ _ _ _ _ _ _ W wx2 wx3 hn0 hn1 h h2 hva, fun a c b d W h h2 => implWeigh_no0 x2 x3 _ _ _ _ _ _ _ _ _ _ _ _ W wx2 wx3 hn0 hn1 h h2 hva⟩
  | true =>
  cases hvb : validB R1 C1 n1 (vals Z1) with
  | false => exact ⟨false, 0, 0, 0, fun _ => none, by omega, fun a c b d W h h2 => specWeigh_no1 x2 x3 _ _ _ _ _ _ _ _ _ _ _ _ W wx2 wx3 hn0 hn1 h h2 hva hvb, fun a c b d W h h2 => implWeigh_no1 x2 x3 _ _ _ _ _ _ _ _ _ _ _ _ W wx2 wx3 hn0 hn1 h h2 hva hvb⟩
  | true =>
  by_cases e1 : R0 = R1
  case neg => exact ⟨false, 0, 0, 0, fun _ => none, by omega, fun a c b d W h h2 => specWeigh_no2 x2 x3 _ _ _ _ _ _ _ _ _ _ _ _ W wx2 wx3 hn0 hn1 h h2 hva hvb e1, fun a c b d W h h2 => implWeigh_no2 x2 x3 _ _ _ _ _ _ _ _ _ _ _ _ W wx2 wx3 hn0 hn1 h h2 hva hvb e1⟩
  by_cases e2 : C0 = C1
  case neg => exact ⟨false, 0, 0, 0, fun _ => none, by omega, fun a c b d W h h2 => specWeigh_no25 x2 x3 _ _ _ _ _ _ _ _ _ _ _ _ W wx2 wx3 hn0 hn1 h h2 hva hvb e1 e2, fun a c b d W h h2 => implWeigh_no25 x2 x3 _ _ _ _ _ _ _ _ _ _ _ _ W wx2 wx3 hn0 hn1 h h2 hva hvb e1 e2⟩
  cases hx : finite .f32 (cn .f32 x2) with
  | false => exact ⟨false, 0, 0, 0, fun _ => none, by omega, fun a c b d W h h2 => specWeigh_no3 x2 x3 _ _ _ _ _ _ _ _ _ _ _ _ W wx2 wx3 hn0 hn1 h h2 hva hvb e1 e2 hx, fun a c b d W h h2 => implWeigh_no3 x2 x3 _ _ _ _ _ _ _ _ _ _ _ _ W wx2 wx3 hn0 hn1 h h2 hva hvb e1 e2 hx⟩
  | true =>
  cases hy : finite .f32 (cn .f32 x3) with
  | false => exact ⟨false, 0, 0, 0, fun _ => none, by omega, fun a c b d W h h2 => specWeigh_no4 x2 x3 _ _ _ _ _ _ _ _ _ _ _ _ W wx2 wx3 hn0 hn1 h h2 hva hvb e1 e2 hx hy, fun a c b d W h h2 => implWeigh_no4 x2 x3 _ _ _ _ _ _ _ _ _ _ _ _ W wx2 wx3 hn0 hn1 h h2 hva hvb e1 e2 hx hy⟩
  | true =>
  subst e1
  subst e2
  obtain ⟨p, q, rfl, rfl, hp1, hp, hq1, hq, f1, f2⟩ := valid_nat hva
  obtain ⟨p', q', e1, e2, _, _, _, _, f3, f4⟩ := valid_nat hvb
  obtain rfl : p = p' := by omega
  obtain rfl : q = q' := by omega
  obtain rfl : n0 = n1 := by rw [f1, f3]
  have k1 : ∀ a c b d W, FS .f32 W a n0 c Z0 → FS .f32 W b n0 d Z1 → Calls Try.prog 18 #[.agg #[.int .i64 p, .int .i64 q, .slice a n0 c], .agg #[.int .i64 p, .int .i64 q, .slice b n0 d], .float .f32 x2, .float .f32 x3] W (BelIf (allFin (weighV x2 x3 Z0 Z1) n0) p q n0 (weighV x2 x3 Z0 Z1) W) := fun a c b d W h h2 => by
    obtain ⟨p1, o1, rfl, _⟩ := h.at (show 0 < n0 by rw [f1]; exact Nat.mul_pos hp1 hq1)
    obtain ⟨p2, o2, rfl, _⟩ := h2.at (show 0 < n0 by rw [f1]; exact Nat.mul_pos hp1 hq1)
    exact specWeigh_yes p q n0 x2 x3 p1 o1 c p2 o2 d Z0 Z1 W hp1 hp hq1 hq f1 wx2 wx3 hva hvb f2 f4 hx hy h h2
  have k2 : ∀ a c b d W, FS .f32 W a n0 c Z0 → FS .f32 W b n0 d Z1 → Calls Try.prog 28 #[.agg #[.int .i64 p, .int .i64 q, .slice a n0 c], .agg #[.int .i64 p, .int .i64 q, .slice b n0 d], .float .f32 x2, .float .f32 x3] W (OwnIf (allFin (weighV x2 x3 Z0 Z1) n0) p q n0 (weighV x2 x3 Z0 Z1) W) := fun a c b d W h h2 => by
    obtain ⟨p1, o1, rfl, _⟩ := h.at (show 0 < n0 by rw [f1]; exact Nat.mul_pos hp1 hq1)
    obtain ⟨p2, o2, rfl, _⟩ := h2.at (show 0 < n0 by rw [f1]; exact Nat.mul_pos hp1 hq1)
    exact implWeigh_yes p q n0 x2 x3 p1 o1 c p2 o2 d Z0 Z1 W hp1 hp hq1 hq f1 wx2 wx3 hva hvb hx hy h h2
  have hle : n0 ≤ 144 := by have := sides_le hp hq; omega
  generalize allFin (weighV x2 x3 Z0 Z1) n0 = ok at k1 k2
  cases ok
  · exact ⟨false, 0, 0, 0, fun _ => none, by omega, k1, k2⟩
  · exact ⟨true, p, q, n0, weighV x2 x3 Z0 Z1, hle, k1, k2⟩
end Go.Proofs.Ytbmiolfpgoggaaa
