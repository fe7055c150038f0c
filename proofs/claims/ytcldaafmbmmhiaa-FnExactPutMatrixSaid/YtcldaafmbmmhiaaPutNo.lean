/- Helper: a matrix into which a part is put, of the program: it fails. Conditions: none. -/
import Derived.Test.YtcldaafmbmmhiaaPutDefs
set_option linter.unusedVariables false
set_option linter.unusedSimpArgs false
namespace Go.Proofs.Ytcldaafmbmmhiaa
open Go.RowKit

set_option maxHeartbeats 10000000 in
theorem implPut_no (R C R2 C2 x y : Int) (a a2 : Option Addr) (n c n2 c2 : Nat) (Z Y : Nat → Nat) (w : World) (hn : n ≤ 1048576) (hm : n2 ≤ 1048576) (h : FS .f32 w a n c Z) (h2 : FS .f32 w a2 n2 c2 Y) (ho : putOk R C R2 C2 x y n n2 Z Y = false) :
    Calls Try.prog 18 #[.agg #[.int .i64 R, .int .i64 C, .slice a n c], .agg #[.int .i64 R2, .int .i64 C2, .slice a2 n2 c2], .int .i64 x, .int .i64 y] w (MatOwn false 0 0 0 (fun _ => none) w) := by
  cases hvA : validB R C n (vals Z) with
  | false =>
    clear ho
    go_enter Try.func18, Try.ntmps18
    go_wp2_with fail
    have XA : Box (((w.alloc (.cells #[.int .i64 R, .int .i64 C, .slice a n c] 26)).alloc (.cells #[.int .i64 R2, .int .i64 C2, .slice a2 n2 c2] 26)).alloc (.cells #[.int .i64 0, .int .i64 0, .slice none 0 0] 26)) w.heap.size R C a n c := by refine ⟨?_, ?_, ?_⟩ <;> simp [go_sem]
    have XB : Box (((w.alloc (.cells #[.int .i64 R, .int .i64 C, .slice a n c] 26)).alloc (.cells #[.int .i64 R2, .int .i64 C2, .slice a2 n2 c2] 26)).alloc (.cells #[.int .i64 0, .int .i64 0, .slice none 0 0] 26)) (w.heap.size + 1) R2 C2 a2 n2 c2 := by refine ⟨?_, ?_, ?_⟩ <;> simp [go_sem]
    have XR : Box (((w.alloc (.cells #[.int .i64 R, .int .i64 C, .slice a n c] 26)).alloc (.cells #[.int .i64 R2, .int .i64 C2, .slice a2 n2 c2] 26)).alloc (.cells #[.int .i64 0, .int .i64 0, .slice none 0 0] 26)) (w.heap.size + 1 + 1) 0 0 none 0 0 := by refine ⟨?_, ?_, ?_⟩ <;> simp [go_sem]
    have IR : ∀ i, ((((w.alloc (.cells #[.int .i64 R, .int .i64 C, .slice a n c] 26)).alloc (.cells #[.int .i64 R2, .int .i64 C2, .slice a2 n2 c2] 26)).alloc (.cells #[.int .i64 0, .int .i64 0, .slice none 0 0] 26))).frozen? ⟨w.heap.size + 1 + 1, i, none⟩ = false := fun i => by simp [go_sem]
    have B0 : Below w.heap.size w (((w.alloc (.cells #[.int .i64 R, .int .i64 C, .slice a n c] 26)).alloc (.cells #[.int .i64 R2, .int .i64 C2, .slice a2 n2 c2] 26)).alloc (.cells #[.int .i64 0, .int .i64 0, .slice none 0 0] 26)) := (by repeat first | (with_reducible exact Below.refl _ _) | (with_reducible refine Below.setCell ?_ (by first | exact Nat.le_refl _ | (simp; done) | (simp; omega) | omega) _) | (with_reducible refine Below.alloc ?_ (by first | exact Nat.le_refl _ | (simp; done) | (simp; omega) | omega) _) | (with_reducible refine below_drewN ?_ _) | (with_reducible refine Below.drew ?_))
    have s0 : ((((w.alloc (.cells #[.int .i64 R, .int .i64 C, .slice a n c] 26)).alloc (.cells #[.int .i64 R2, .int .i64 C2, .slice a2 n2 c2] 26)).alloc (.cells #[.int .i64 0, .int .i64 0, .slice none 0 0] 26))).heap.size = w.heap.size + 1 + 1 + 1 := by simp
    generalize (((w.alloc (.cells #[.int .i64 R, .int .i64 C, .slice a n c] 26)).alloc (.cells #[.int .i64 R2, .int .i64 C2, .slice a2 n2 c2] 26)).alloc (.cells #[.int .i64 0, .int .i64 0, .slice none 0 0] 26)) = w0 at *
    have FA := h.below B0 (Nat.le_refl _)
    have FB := h2.below B0 (Nat.le_refl _)
    refine wp_region_kinds (fun w' => Below w0.heap.size w0 w') (fun _ => 0) 17 (below_drewN (Below.refl _ _) 1) (by kernel_rfl) (by kernel_rfl) (by kernel_rfl) ?_
    simp only [List.take_succ_cons, List.take_zero, List.drop_succ_cons, List.drop_zero]
    refine wpKinds_run (.agg #[.int .i64 R, .int .i64 C, .slice a n c]) rfl rfl ?_ ?_
    · intro W hW
      obtain ⟨u0, u1, u2⟩ := XA.below hW (by omega)
      simp [go_sem, BigFrame.eval_const, BigFrame.eval_global, BigFrame.eval_func, u0, u1, u2]
    simp only [Act.put, List.setIfInBounds_toArray, List.set_cons_succ, List.set_cons_zero]
    refine wpKinds_call (f := 52) (args := #[.agg #[.int .i64 R, .int .i64 C, .slice a n c]]) (.bool false) rfl rfl ?_ (by kernel_rfl) ?_ ?_
    · intro W
      simp [go_sem, BigFrame.eval_const, BigFrame.eval_global, BigFrame.eval_func]
    · intro W hW
      refine (implValid_any R C a n c Z W (by omega) (FA.below hW (Nat.le_refl _))).mono ?_
      rintro e w' ⟨rfl, hb⟩
      rw [hvA]; exact ⟨rfl, hW.trans (hb.mono hW.size)⟩
    simp only [Act.put, List.setIfInBounds_toArray, List.set_cons_succ, List.set_cons_zero]
    refine wpKinds_run (.bool true) rfl rfl ?_ ?_
    · intro W hW
      simp [go_sem, BigFrame.eval_const, BigFrame.eval_global, BigFrame.eval_func]
    simp only [Act.put, List.setIfInBounds_toArray, List.set_cons_succ, List.set_cons_zero]
    refine wpKinds_run (.bool true) rfl rfl ?_ ?_
    · intro W hW
      simp [go_sem, BigFrame.eval_const, BigFrame.eval_global, BigFrame.eval_func]
    simp only [Act.put, List.setIfInBounds_toArray, List.set_cons_succ, List.set_cons_zero]
    refine wpKinds_skip rfl ?_
    simp only [Act.put, List.setIfInBounds_toArray, List.set_cons_succ, List.set_cons_zero]
    refine wpKinds_skip rfl ?_
    simp only [Act.put, List.setIfInBounds_toArray, List.set_cons_succ, List.set_cons_zero]
    refine wpKinds_skip rfl ?_
    simp only [Act.put, List.setIfInBounds_toArray, List.set_cons_succ, List.set_cons_zero]
    refine wpKinds_run (.bool true) rfl rfl ?_ ?_
    · intro W hW
      simp [go_sem, BigFrame.eval_const, BigFrame.eval_global, BigFrame.eval_func]
    simp only [Act.put, List.setIfInBounds_toArray, List.set_cons_succ, List.set_cons_zero]
    refine wpKinds_run (.bool true) rfl rfl ?_ ?_
    · intro W hW
      simp [go_sem, BigFrame.eval_const, BigFrame.eval_global, BigFrame.eval_func]
    simp only [Act.put, List.setIfInBounds_toArray, List.set_cons_succ, List.set_cons_zero]
    refine wpKinds_skip rfl ?_
    simp only [Act.put, List.setIfInBounds_toArray, List.set_cons_succ, List.set_cons_zero]
    refine wpKinds_skip rfl ?_
    simp only [Act.put, List.setIfInBounds_toArray, List.set_cons_succ, List.set_cons_zero]
    refine wpKinds_skip rfl ?_
    simp only [Act.put, List.setIfInBounds_toArray, List.set_cons_succ, List.set_cons_zero]
    refine wpKinds_skip rfl ?_
    simp only [Act.put, List.setIfInBounds_toArray, List.set_cons_succ, List.set_cons_zero]
    refine wpKinds_skip rfl ?_
    simp only [Act.put, List.setIfInBounds_toArray, List.set_cons_succ, List.set_cons_zero]
    refine wpKinds_skip rfl ?_
    simp only [Act.put, List.setIfInBounds_toArray, List.set_cons_succ, List.set_cons_zero]
    refine wpKinds_skip rfl ?_
    simp only [Act.put, List.setIfInBounds_toArray, List.set_cons_succ, List.set_cons_zero]
    refine wpKinds_skip rfl ?_
    simp only [Act.put, List.setIfInBounds_toArray, List.set_cons_succ, List.set_cons_zero]
    refine wpKinds_nil ?_
    intro w1 hC
    have B2 := B0.trans (hC.mono B0.size)
    obtain ⟨z0, z1, z2⟩ := XR.below hC (by omega)
    have I2 : ∀ i, w1.frozen? ⟨w.heap.size + 1 + 1, i, none⟩ = false := fun i => (hC.frozen (p := ⟨w.heap.size + 1 + 1, i, none⟩) (by show w.heap.size + 1 + 1 < w0.heap.size; omega)).trans (IR i)
    have s1 := hC.size
    clear hC FA FB XA XB XR IR B0
    go_wp2_with fail
    refine bodyPost_ret (v := .tuple #[.agg #[.int .i64 0, .int .i64 0, .slice none 0 0], .bool false]) (by simp [results, Try.results18, go_sem, z0, z1, z2]) rfl ?_
    exact ⟨none, 0, fun _ => 0, rfl, .inl ⟨rfl, rfl, rfl⟩, fun i hi => by omega, (by repeat first | (with_reducible exact B2) | (with_reducible refine Below.setCell ?_ (by first | exact Nat.le_refl _ | (simp; done) | (simp; omega) | omega) _) | (with_reducible refine Below.alloc ?_ (by first | exact Nat.le_refl _ | (simp; done) | (simp; omega) | omega) _) | (with_reducible refine below_drewN ?_ _) | (with_reducible refine Below.drew ?_))⟩
  | true =>
    cases hvB : validB R2 C2 n2 (vals Y) with
    | false =>
      clear ho
      go_enter Try.func18, Try.ntmps18
      go_wp2_with fail
      have XA : Box (((w.alloc (.cells #[.int .i64 R, .int .i64 C, .slice a n c] 26)).alloc (.cells #[.int .i64 R2, .int .i64 C2, .slice a2 n2 c2] 26)).alloc (.cells #[.int .i64 0, .int .i64 0, .slice none 0 0] 26)) w.heap.size R C a n c := by refine ⟨?_, ?_, ?_⟩ <;> simp [go_sem]
      have XB : Box (((w.alloc (.cells #[.int .i64 R, .int .i64 C, .slice a n c] 26)).alloc (.cells #[.int .i64 R2, .int .i64 C2, .slice a2 n2 c2] 26)).alloc (.cells #[.int .i64 0, .int .i64 0, .slice none 0 0] 26)) (w.heap.size + 1) R2 C2 a2 n2 c2 := by refine ⟨?_, ?_, ?_⟩ <;> simp [go_sem]
      have XR : Box (((w.alloc (.cells #[.int .i64 R, .int .i64 C, .slice a n c] 26)).alloc (.cells #[.int .i64 R2, .int .i64 C2, .slice a2 n2 c2] 26)).alloc (.cells #[.int .i64 0, .int .i64 0, .slice none 0 0] 26)) (w.heap.size + 1 + 1) 0 0 none 0 0 := by refine ⟨?_, ?_, ?_⟩ <;> simp [go_sem]
      have IR : ∀ i, ((((w.alloc (.cells #[.int .i64 R, .int .i64 C, .slice a n c] 26)).alloc (.cells #[.int .i64 R2, .int .i64 C2, .slice a2 n2 c2] 26)).alloc (.cells #[.int .i64 0, .int .i64 0, .slice none 0 0] 26))).frozen? ⟨w.heap.size + 1 + 1, i, none⟩ = false := fun i => by simp [go_sem]
      have B0 : Below w.heap.size w (((w.alloc (.cells #[.int .i64 R, .int .i64 C, .slice a n c] 26)).alloc (.cells #[.int .i64 R2, .int .i64 C2, .slice a2 n2 c2] 26)).alloc (.cells #[.int .i64 0, .int .i64 0, .slice none 0 0] 26)) := (by repeat first | (with_reducible exact Below.refl _ _) | (with_reducible refine Below.setCell ?_ (by first | exact Nat.le_refl _ | (simp; done) | (simp; omega) | omega) _) | (with_reducible refine Below.alloc ?_ (by first | exact Nat.le_refl _ | (simp; done) | (simp; omega) | omega) _) | (with_reducible refine below_drewN ?_ _) | (with_reducible refine Below.drew ?_))
      have s0 : ((((w.alloc (.cells #[.int .i64 R, .int .i64 C, .slice a n c] 26)).alloc (.cells #[.int .i64 R2, .int .i64 C2, .slice a2 n2 c2] 26)).alloc (.cells #[.int .i64 0, .int .i64 0, .slice none 0 0] 26))).heap.size = w.heap.size + 1 + 1 + 1 := by simp
      generalize (((w.alloc (.cells #[.int .i64 R, .int .i64 C, .slice a n c] 26)).alloc (.cells #[.int .i64 R2, .int .i64 C2, .slice a2 n2 c2] 26)).alloc (.cells #[.int .i64 0, .int .i64 0, .slice none 0 0] 26)) = w0 at *
      have FA := h.below B0 (Nat.le_refl _)
      have FB := h2.below B0 (Nat.le_refl _)
      refine wp_region_kinds (fun w' => Below w0.heap.size w0 w') (fun _ => 0) 17 (below_drewN (Below.refl _ _) 1) (by kernel_rfl) (by kernel_rfl) (by kernel_rfl) ?_
      simp only [List.take_succ_cons, List.take_zero, List.drop_succ_cons, List.drop_zero]
      refine wpKinds_run (.agg #[.int .i64 R, .int .i64 C, .slice a n c]) rfl rfl ?_ ?_
      · intro W hW
        obtain ⟨u0, u1, u2⟩ := XA.below hW (by omega)
        simp [go_sem, BigFrame.eval_const, BigFrame.eval_global, BigFrame.eval_func, u0, u1, u2]
      simp only [Act.put, List.setIfInBounds_toArray, List.set_cons_succ, List.set_cons_zero]
      refine wpKinds_call (f := 52) (args := #[.agg #[.int .i64 R, .int .i64 C, .slice a n c]]) (.bool true) rfl rfl ?_ (by kernel_rfl) ?_ ?_
      · intro W
        simp [go_sem, BigFrame.eval_const, BigFrame.eval_global, BigFrame.eval_func]
      · intro W hW
        refine (implValid_any R C a n c Z W (by omega) (FA.below hW (Nat.le_refl _))).mono ?_
        rintro e w' ⟨rfl, hb⟩
        rw [hvA]; exact ⟨rfl, hW.trans (hb.mono hW.size)⟩
      simp only [Act.put, List.setIfInBounds_toArray, List.set_cons_succ, List.set_cons_zero]
      refine wpKinds_run (.bool false) rfl rfl ?_ ?_
      · intro W hW
        simp [go_sem, BigFrame.eval_const, BigFrame.eval_global, BigFrame.eval_func]
      simp only [Act.put, List.setIfInBounds_toArray, List.set_cons_succ, List.set_cons_zero]
      refine wpKinds_run (.bool false) rfl rfl ?_ ?_
      · intro W hW
        simp [go_sem, BigFrame.eval_const, BigFrame.eval_global, BigFrame.eval_func]
      simp only [Act.put, List.setIfInBounds_toArray, List.set_cons_succ, List.set_cons_zero]
      refine wpKinds_run (.agg #[.int .i64 R2, .int .i64 C2, .slice a2 n2 c2]) rfl rfl ?_ ?_
      · intro W hW
        obtain ⟨u0, u1, u2⟩ := XB.below hW (by omega)
        simp [go_sem, BigFrame.eval_const, BigFrame.eval_global, BigFrame.eval_func, u0, u1, u2]
      simp only [Act.put, List.setIfInBounds_toArray, List.set_cons_succ, List.set_cons_zero]
      refine wpKinds_call (f := 52) (args := #[.agg #[.int .i64 R2, .int .i64 C2, .slice a2 n2 c2]]) (.bool false) rfl rfl ?_ (by kernel_rfl) ?_ ?_
      · intro W
        simp [go_sem, BigFrame.eval_const, BigFrame.eval_global, BigFrame.eval_func]
      · intro W hW
        refine (implValid_any R2 C2 a2 n2 c2 Y W (by omega) (FB.below hW (Nat.le_refl _))).mono ?_
        rintro e w' ⟨rfl, hb⟩
        rw [hvB]; exact ⟨rfl, hW.trans (hb.mono hW.size)⟩
      simp only [Act.put, List.setIfInBounds_toArray, List.set_cons_succ, List.set_cons_zero]
      refine wpKinds_run (.bool true) rfl rfl ?_ ?_
      · intro W hW
        simp [go_sem, BigFrame.eval_const, BigFrame.eval_global, BigFrame.eval_func]
      simp only [Act.put, List.setIfInBounds_toArray, List.set_cons_succ, List.set_cons_zero]
      refine wpKinds_run (.bool true) rfl rfl ?_ ?_
      · intro W hW
        simp [go_sem, BigFrame.eval_const, BigFrame.eval_global, BigFrame.eval_func]
      simp only [Act.put, List.setIfInBounds_toArray, List.set_cons_succ, List.set_cons_zero]
      refine wpKinds_run (.bool true) rfl rfl ?_ ?_
      · intro W hW
        simp [go_sem, BigFrame.eval_const, BigFrame.eval_global, BigFrame.eval_func]
      simp only [Act.put, List.setIfInBounds_toArray, List.set_cons_succ, List.set_cons_zero]
      refine wpKinds_skip rfl ?_
      simp only [Act.put, List.setIfInBounds_toArray, List.set_cons_succ, List.set_cons_zero]
      refine wpKinds_skip rfl ?_
      simp only [Act.put, List.setIfInBounds_toArray, List.set_cons_succ, List.set_cons_zero]
      refine wpKinds_skip rfl ?_
      simp only [Act.put, List.setIfInBounds_toArray, List.set_cons_succ, List.set_cons_zero]
      refine wpKinds_skip rfl ?_
      simp only [Act.put, List.setIfInBounds_toArray, List.set_cons_succ, List.set_cons_zero]
      refine wpKinds_skip rfl ?_
      simp only [Act.put, List.setIfInBounds_toArray, List.set_cons_succ, List.set_cons_zero]
      refine wpKinds_skip rfl ?_
      simp only [Act.put, List.setIfInBounds_toArray, List.set_cons_succ, List.set_cons_zero]
      refine wpKinds_skip rfl ?_
      simp only [Act.put, List.setIfInBounds_toArray, List.set_cons_succ, List.set_cons_zero]
      refine wpKinds_skip rfl ?_
      simp only [Act.put, List.setIfInBounds_toArray, List.set_cons_succ, List.set_cons_zero]
      refine wpKinds_nil ?_
      intro w1 hC
      have B2 := B0.trans (hC.mono B0.size)
      obtain ⟨z0, z1, z2⟩ := XR.below hC (by omega)
      have I2 : ∀ i, w1.frozen? ⟨w.heap.size + 1 + 1, i, none⟩ = false := fun i => (hC.frozen (p := ⟨w.heap.size + 1 + 1, i, none⟩) (by show w.heap.size + 1 + 1 < w0.heap.size; omega)).trans (IR i)
      have s1 := hC.size
      clear hC FA FB XA XB XR IR B0
      go_wp2_with fail
      refine bodyPost_ret (v := .tuple #[.agg #[.int .i64 0, .int .i64 0, .slice none 0 0], .bool false]) (by simp [results, Try.results18, go_sem, z0, z1, z2]) rfl ?_
      exact ⟨none, 0, fun _ => 0, rfl, .inl ⟨rfl, rfl, rfl⟩, fun i hi => by omega, (by repeat first | (with_reducible exact B2) | (with_reducible refine Below.setCell ?_ (by first | exact Nat.le_refl _ | (simp; done) | (simp; omega) | omega) _) | (with_reducible refine Below.alloc ?_ (by first | exact Nat.le_refl _ | (simp; done) | (simp; omega) | omega) _) | (with_reducible refine below_drewN ?_ _) | (with_reducible refine Below.drew ?_))⟩
    | true =>
      have hli : (liB R R2 x && liB C C2 y) = false := by unfold putOk at ho; rw [hvA, hvB] at ho; exact ho
      obtain ⟨r, k, rfl, rfl, g1, g2, g3, g4, g5, g6⟩ := valid_nat hvA
      obtain ⟨p, q, rfl, rfl, f1, f2, f3, f4, f5, f6⟩ := valid_nat hvB
      clear ho g5 g6 f5 f6
      go_enter Try.func18, Try.ntmps18
      go_wp2_with fail
      have XA : Box (((w.alloc (.cells #[.int .i64 r, .int .i64 k, .slice a n c] 26)).alloc (.cells #[.int .i64 p, .int .i64 q, .slice a2 n2 c2] 26)).alloc (.cells #[.int .i64 0, .int .i64 0, .slice none 0 0] 26)) w.heap.size r k a n c := by refine ⟨?_, ?_, ?_⟩ <;> simp [go_sem]
      have XB : Box (((w.alloc (.cells #[.int .i64 r, .int .i64 k, .slice a n c] 26)).alloc (.cells #[.int .i64 p, .int .i64 q, .slice a2 n2 c2] 26)).alloc (.cells #[.int .i64 0, .int .i64 0, .slice none 0 0] 26)) (w.heap.size + 1) p q a2 n2 c2 := by refine ⟨?_, ?_, ?_⟩ <;> simp [go_sem]
      have XR : Box (((w.alloc (.cells #[.int .i64 r, .int .i64 k, .slice a n c] 26)).alloc (.cells #[.int .i64 p, .int .i64 q, .slice a2 n2 c2] 26)).alloc (.cells #[.int .i64 0, .int .i64 0, .slice none 0 0] 26)) (w.heap.size + 1 + 1) 0 0 none 0 0 := by refine ⟨?_, ?_, ?_⟩ <;> simp [go_sem]
      have IR : ∀ i, ((((w.alloc (.cells #[.int .i64 r, .int .i64 k, .slice a n c] 26)).alloc (.cells #[.int .i64 p, .int .i64 q, .slice a2 n2 c2] 26)).alloc (.cells #[.int .i64 0, .int .i64 0, .slice none 0 0] 26))).frozen? ⟨w.heap.size + 1 + 1, i, none⟩ = false := fun i => by simp [go_sem]
      have B0 : Below w.heap.size w (((w.alloc (.cells #[.int .i64 r, .int .i64 k, .slice a n c] 26)).alloc (.cells #[.int .i64 p, .int .i64 q, .slice a2 n2 c2] 26)).alloc (.cells #[.int .i64 0, .int .i64 0, .slice none 0 0] 26)) := (by repeat first | (with_reducible exact Below.refl _ _) | (with_reducible refine Below.setCell ?_ (by first | exact Nat.le_refl _ | (simp; done) | (simp; omega) | omega) _) | (with_reducible refine Below.alloc ?_ (by first | exact Nat.le_refl _ | (simp; done) | (simp; omega) | omega) _) | (with_reducible refine below_drewN ?_ _) | (with_reducible refine Below.drew ?_))
      have s0 : ((((w.alloc (.cells #[.int .i64 r, .int .i64 k, .slice a n c] 26)).alloc (.cells #[.int .i64 p, .int .i64 q, .slice a2 n2 c2] 26)).alloc (.cells #[.int .i64 0, .int .i64 0, .slice none 0 0] 26))).heap.size = w.heap.size + 1 + 1 + 1 := by simp
      generalize (((w.alloc (.cells #[.int .i64 r, .int .i64 k, .slice a n c] 26)).alloc (.cells #[.int .i64 p, .int .i64 q, .slice a2 n2 c2] 26)).alloc (.cells #[.int .i64 0, .int .i64 0, .slice none 0 0] 26)) = w0 at *
      have FA := h.below B0 (Nat.le_refl _)
      have FB := h2.below B0 (Nat.le_refl _)
      refine wp_region_kinds (fun w' => Below w0.heap.size w0 w') (fun _ => 0) 17 (below_drewN (Below.refl _ _) 1) (by kernel_rfl) (by kernel_rfl) (by kernel_rfl) ?_
      simp only [List.take_succ_cons, List.take_zero, List.drop_succ_cons, List.drop_zero]
      refine wpKinds_run (.agg #[.int .i64 r, .int .i64 k, .slice a n c]) rfl rfl ?_ ?_
      · intro W hW
        obtain ⟨u0, u1, u2⟩ := XA.below hW (by omega)
        simp [go_sem, BigFrame.eval_const, BigFrame.eval_global, BigFrame.eval_func, u0, u1, u2]
      simp only [Act.put, List.setIfInBounds_toArray, List.set_cons_succ, List.set_cons_zero]
      refine wpKinds_call (f := 52) (args := #[.agg #[.int .i64 r, .int .i64 k, .slice a n c]]) (.bool true) rfl rfl ?_ (by kernel_rfl) ?_ ?_
      · intro W
        simp [go_sem, BigFrame.eval_const, BigFrame.eval_global, BigFrame.eval_func]
      · intro W hW
        refine (implValid_any r k a n c Z W (by omega) (FA.below hW (Nat.le_refl _))).mono ?_
        rintro e w' ⟨rfl, hb⟩
        rw [hvA]; exact ⟨rfl, hW.trans (hb.mono hW.size)⟩
      simp only [Act.put, List.setIfInBounds_toArray, List.set_cons_succ, List.set_cons_zero]
      refine wpKinds_run (.bool false) rfl rfl ?_ ?_
      · intro W hW
        simp [go_sem, BigFrame.eval_const, BigFrame.eval_global, BigFrame.eval_func]
      simp only [Act.put, List.setIfInBounds_toArray, List.set_cons_succ, List.set_cons_zero]
      refine wpKinds_run (.bool false) rfl rfl ?_ ?_
      · intro W hW
        simp [go_sem, BigFrame.eval_const, BigFrame.eval_global, BigFrame.eval_func]
      simp only [Act.put, List.setIfInBounds_toArray, List.set_cons_succ, List.set_cons_zero]
      refine wpKinds_run (.agg #[.int .i64 p, .int .i64 q, .slice a2 n2 c2]) rfl rfl ?_ ?_
      · intro W hW
        obtain ⟨u0, u1, u2⟩ := XB.below hW (by omega)
        simp [go_sem, BigFrame.eval_const, BigFrame.eval_global, BigFrame.eval_func, u0, u1, u2]
      simp only [Act.put, List.setIfInBounds_toArray, List.set_cons_succ, List.set_cons_zero]
      refine wpKinds_call (f := 52) (args := #[.agg #[.int .i64 p, .int .i64 q, .slice a2 n2 c2]]) (.bool true) rfl rfl ?_ (by kernel_rfl) ?_ ?_
      · intro W
        simp [go_sem, BigFrame.eval_const, BigFrame.eval_global, BigFrame.eval_func]
      · intro W hW
        refine (implValid_any p q a2 n2 c2 Y W (by omega) (FB.below hW (Nat.le_refl _))).mono ?_
        rintro e w' ⟨rfl, hb⟩
        rw [hvB]; exact ⟨rfl, hW.trans (hb.mono hW.size)⟩
      simp only [Act.put, List.setIfInBounds_toArray, List.set_cons_succ, List.set_cons_zero]
      refine wpKinds_run (.bool false) rfl rfl ?_ ?_
      · intro W hW
        simp [go_sem, BigFrame.eval_const, BigFrame.eval_global, BigFrame.eval_func]
      simp only [Act.put, List.setIfInBounds_toArray, List.set_cons_succ, List.set_cons_zero]
      refine wpKinds_run (.bool false) rfl rfl ?_ ?_
      · intro W hW
        simp [go_sem, BigFrame.eval_const, BigFrame.eval_global, BigFrame.eval_func]
      simp only [Act.put, List.setIfInBounds_toArray, List.set_cons_succ, List.set_cons_zero]
      refine wpKinds_run (.bool false) rfl rfl ?_ ?_
      · intro W hW
        simp [go_sem, BigFrame.eval_const, BigFrame.eval_global, BigFrame.eval_func]
      simp only [Act.put, List.setIfInBounds_toArray, List.set_cons_succ, List.set_cons_zero]
      refine wpKinds_run (.agg #[.int .i64 r, .int .i64 k, .slice a n c]) rfl rfl ?_ ?_
      · intro W hW
        obtain ⟨u0, u1, u2⟩ := XA.below hW (by omega)
        simp [go_sem, BigFrame.eval_const, BigFrame.eval_global, BigFrame.eval_func, u0, u1, u2]
      simp only [Act.put, List.setIfInBounds_toArray, List.set_cons_succ, List.set_cons_zero]
      refine wpKinds_call (f := 54) (args := #[.agg #[.int .i64 r, .int .i64 k, .slice a n c]]) (.agg #[.int .i64 r, .int .i64 k]) rfl rfl ?_ (by kernel_rfl) ?_ ?_
      · intro W
        simp [go_sem, BigFrame.eval_const, BigFrame.eval_global, BigFrame.eval_func]
      · intro W hW
        refine (sidesOf_any _ _ _ _ _ W).mono ?_
        rintro e w' ⟨rfl, hb⟩
        exact ⟨rfl, hW.trans (hb.mono hW.size)⟩
      simp only [Act.put, List.setIfInBounds_toArray, List.set_cons_succ, List.set_cons_zero]
      refine wpKinds_run (.agg #[.int .i64 p, .int .i64 q, .slice a2 n2 c2]) rfl rfl ?_ ?_
      · intro W hW
        obtain ⟨u0, u1, u2⟩ := XB.below hW (by omega)
        simp [go_sem, BigFrame.eval_const, BigFrame.eval_global, BigFrame.eval_func, u0, u1, u2]
      simp only [Act.put, List.setIfInBounds_toArray, List.set_cons_succ, List.set_cons_zero]
      refine wpKinds_call (f := 54) (args := #[.agg #[.int .i64 p, .int .i64 q, .slice a2 n2 c2]]) (.agg #[.int .i64 p, .int .i64 q]) rfl rfl ?_ (by kernel_rfl) ?_ ?_
      · intro W
        simp [go_sem, BigFrame.eval_const, BigFrame.eval_global, BigFrame.eval_func]
      · intro W hW
        refine (sidesOf_any _ _ _ _ _ W).mono ?_
        rintro e w' ⟨rfl, hb⟩
        exact ⟨rfl, hW.trans (hb.mono hW.size)⟩
      simp only [Act.put, List.setIfInBounds_toArray, List.set_cons_succ, List.set_cons_zero]
      refine wpKinds_run (.int .i64 x) rfl rfl ?_ ?_
      · intro W hW
        simp [go_sem, BigFrame.eval_const, BigFrame.eval_global, BigFrame.eval_func]
      simp only [Act.put, List.setIfInBounds_toArray, List.set_cons_succ, List.set_cons_zero]
      refine wpKinds_run (.int .i64 y) rfl rfl ?_ ?_
      · intro W hW
        simp [go_sem, BigFrame.eval_const, BigFrame.eval_global, BigFrame.eval_func]
      simp only [Act.put, List.setIfInBounds_toArray, List.set_cons_succ, List.set_cons_zero]
      refine wpKinds_call (f := 53) (args := #[.agg #[.int .i64 r, .int .i64 k], .agg #[.int .i64 p, .int .i64 q], .int .i64 x, .int .i64 y]) (.bool false) rfl rfl ?_ (by kernel_rfl) ?_ ?_
      · intro W
        simp [go_sem, BigFrame.eval_const, BigFrame.eval_global, BigFrame.eval_func]
      · intro W hW
        refine (liesIn_any r k p q x y W (by omega) (by omega) (by omega) (by omega)).mono ?_
        rintro e w' ⟨rfl, hb⟩
        rw [hli]; exact ⟨rfl, hW.trans (hb.mono hW.size)⟩
      simp only [Act.put, List.setIfInBounds_toArray, List.set_cons_succ, List.set_cons_zero]
      refine wpKinds_run (.bool true) rfl rfl ?_ ?_
      · intro W hW
        simp [go_sem, BigFrame.eval_const, BigFrame.eval_global, BigFrame.eval_func]
      simp only [Act.put, List.setIfInBounds_toArray, List.set_cons_succ, List.set_cons_zero]
      refine wpKinds_nil ?_
      intro w1 hC
      have B2 := B0.trans (hC.mono B0.size)
      obtain ⟨z0, z1, z2⟩ := XR.below hC (by omega)
      have I2 : ∀ i, w1.frozen? ⟨w.heap.size + 1 + 1, i, none⟩ = false := fun i => (hC.frozen (p := ⟨w.heap.size + 1 + 1, i, none⟩) (by show w.heap.size + 1 + 1 < w0.heap.size; omega)).trans (IR i)
      have s1 := hC.size
      clear hC FA FB XA XB XR IR B0
      go_wp2_with fail
      refine bodyPost_ret (v := .tuple #[.agg #[.int .i64 0, .int .i64 0, .slice none 0 0], .bool false]) (by simp [results, Try.results18, go_sem, z0, z1, z2]) rfl ?_
      exact ⟨none, 0, fun _ => 0, rfl, .inl ⟨rfl, rfl, rfl⟩, fun i hi => by omega, (by repeat first | (with_reducible exact B2) | (with_reducible refine Below.setCell ?_ (by first | exact Nat.le_refl _ | (simp; done) | (simp; omega) | omega) _) | (with_reducible refine Below.alloc ?_ (by first | exact Nat.le_refl _ | (simp; done) | (simp; omega) | omega) _) | (with_reducible refine below_drewN ?_ _) | (with_reducible refine Below.drew ?_))⟩
end Go.Proofs.Ytcldaafmbmmhiaa
