/- Helper: whether two matrices are the same, of the program, and the key. Conditions: none. -/
import Derived.Test.YtmddhhmgfhljiabSameSpec
set_option linter.unusedVariables false
set_option linter.unusedSimpArgs false
namespace Go.Proofs.Ytmddhhmgfhljiab
open Go.RowKit

theorem implSameNumber_any (a : Nat) (ha : (Lit.float .f32 a).wf = true) (b : Nat) (hb : (Lit.float .f32 b).wf = true) (w : World) :
    Calls Try.prog 45 #[.float .f32 a, .float .f32 b] w fun e w' => e = .returned (.bool (bitsP (cn .f32 a) == bitsP (cn .f32 b))) ∧ w = w' := by
  go_enter Try.func45, Try.ntmps45
  go_wp2_with (go_at_call 75; refine (implBits_any _ (by assumption) _).mono ?_; rintro e w' ⟨rfl, rfl⟩)
  go_ret
  exact ⟨rfl, rfl⟩
theorem sidesOfM_any (R C : Int) (a : Option Addr) (n c : Nat) (w : World) : Calls Try.prog 76 #[.agg #[.int .i64 R, .int .i64 C, .slice a n c]] w fun e w' => e = .returned (.agg #[.int .i64 R, .int .i64 C]) ∧ Below w.heap.size w w' := by
  go_enter Try.func76, Try.ntmps76
  go_wp2
  refine bodyPost_ret (v := .agg #[.int .i64 R, .int .i64 C]) (by simp [results, Try.results76, go_sem]) rfl ?_
  exact ⟨rfl, (by repeat first | (with_reducible exact Below.refl _ _) | (with_reducible refine Below.setCell ?_ (by first | exact Nat.le_refl _ | (simp; done) | (simp; omega) | omega) _) | (with_reducible refine Below.alloc ?_ (by first | exact Nat.le_refl _ | (simp; done) | (simp; omega) | omega) _) | (with_reducible refine below_drewN ?_ _) | (with_reducible refine Below.drew ?_))⟩
set_option maxHeartbeats 2000000 in
theorem implSame_any (R C R2 C2 : Int) (a a2 : Option Addr) (n c n2 c2 : Nat) (X Y : Nat → Nat) (w : World) (hn : n ≤ 1048576) (hm : n2 ≤ 1048576) (h : FS .f32 w a n c X) (h2 : FS .f32 w a2 n2 c2 Y) :
    Calls Try.prog 46 #[.agg #[.int .i64 R, .int .i64 C, .slice a n c], .agg #[.int .i64 R2, .int .i64 C2, .slice a2 n2 c2]] w (BoolBel (sameM R C R2 C2 n n2 X Y) w) := by
  go_enter Try.func46, Try.ntmps46
  go_wp2_with fail
  have XA : Box ((w.alloc (.cells #[.int .i64 R, .int .i64 C, .slice a n c] 34)).alloc (.cells #[.int .i64 R2, .int .i64 C2, .slice a2 n2 c2] 34)) w.heap.size R C a n c := by refine ⟨?_, ?_, ?_⟩ <;> simp [go_sem]
  have XB : Box ((w.alloc (.cells #[.int .i64 R, .int .i64 C, .slice a n c] 34)).alloc (.cells #[.int .i64 R2, .int .i64 C2, .slice a2 n2 c2] 34)) (w.heap.size + 1) R2 C2 a2 n2 c2 := by refine ⟨?_, ?_, ?_⟩ <;> simp [go_sem]
  have B0 : Below w.heap.size w ((w.alloc (.cells #[.int .i64 R, .int .i64 C, .slice a n c] 34)).alloc (.cells #[.int .i64 R2, .int .i64 C2, .slice a2 n2 c2] 34)) := (by repeat first | (with_reducible exact Below.refl _ _) | (with_reducible refine Below.setCell ?_ (by first | exact Nat.le_refl _ | (simp; done) | (simp; omega) | omega) _) | (with_reducible refine Below.alloc ?_ (by first | exact Nat.le_refl _ | (simp; done) | (simp; omega) | omega) _) | (with_reducible refine below_drewN ?_ _) | (with_reducible refine Below.drew ?_))
  have s0 : ((w.alloc (.cells #[.int .i64 R, .int .i64 C, .slice a n c] 34)).alloc (.cells #[.int .i64 R2, .int .i64 C2, .slice a2 n2 c2] 34)).heap.size = w.heap.size + 1 + 1 := by simp
  generalize (w.alloc (.cells #[.int .i64 R, .int .i64 C, .slice a n c] 34)).alloc (.cells #[.int .i64 R2, .int .i64 C2, .slice a2 n2 c2] 34) = w0 at *
  have FA := h.below B0 (Nat.le_refl _)
  have FB := h2.below B0 (Nat.le_refl _)
  by_cases h5 : R = R2
  · subst h5
    by_cases h6 : C = C2
    · subst h6
      by_cases h7 : n = n2
      · subst h7
        have HM : Hid (sameM R C R C n n X Y = sameTo X Y n) := Lib.hid (by unfold sameM; rw [decide_eq_true rfl, decide_eq_true rfl, decide_eq_true rfl]; rfl)
        refine wp_region_kinds (fun w' => Below w0.heap.size w0 w') (fun _ => 0) 13 (below_drewN (Below.refl _ _) 1) (by kernel_rfl) (by kernel_rfl) (by kernel_rfl) ?_
        simp only [List.take_succ_cons, List.take_zero, List.drop_succ_cons, List.drop_zero]
        refine wpKinds_run (.agg #[.int .i64 R, .int .i64 C, .slice a n c]) rfl rfl ?_ ?_
        · intro W hW
          obtain ⟨u0, u1, u2⟩ := XA.below hW (by omega)
          simp [go_sem, BigFrame.eval_const, BigFrame.eval_global, BigFrame.eval_func, u0, u1, u2]
        simp only [Act.put, List.setIfInBounds_toArray, List.set_cons_succ, List.set_cons_zero]
        refine wpKinds_call (f := 76) (args := #[.agg #[.int .i64 R, .int .i64 C, .slice a n c]]) (.agg #[.int .i64 R, .int .i64 C]) rfl rfl ?_ (by kernel_rfl) ?_ ?_
        · intro W
          simp [go_sem, BigFrame.eval_const, BigFrame.eval_global, BigFrame.eval_func]
        · intro W hW
          refine (sidesOfM_any _ _ _ _ _ W).mono ?_
          rintro e w' ⟨rfl, hb⟩
          exact ⟨rfl, hW.trans (hb.mono hW.size)⟩
        simp only [Act.put, List.setIfInBounds_toArray, List.set_cons_succ, List.set_cons_zero]
        refine wpKinds_run (.agg #[.int .i64 R, .int .i64 C, .slice a2 n c2]) rfl rfl ?_ ?_
        · intro W hW
          obtain ⟨u0, u1, u2⟩ := XB.below hW (by omega)
          simp [go_sem, BigFrame.eval_const, BigFrame.eval_global, BigFrame.eval_func, u0, u1, u2]
        simp only [Act.put, List.setIfInBounds_toArray, List.set_cons_succ, List.set_cons_zero]
        refine wpKinds_call (f := 76) (args := #[.agg #[.int .i64 R, .int .i64 C, .slice a2 n c2]]) (.agg #[.int .i64 R, .int .i64 C]) rfl rfl ?_ (by kernel_rfl) ?_ ?_
        · intro W
          simp [go_sem, BigFrame.eval_const, BigFrame.eval_global, BigFrame.eval_func]
        · intro W hW
          refine (sidesOfM_any _ _ _ _ _ W).mono ?_
          rintro e w' ⟨rfl, hb⟩
          exact ⟨rfl, hW.trans (hb.mono hW.size)⟩
        simp only [Act.put, List.setIfInBounds_toArray, List.set_cons_succ, List.set_cons_zero]
        refine wpKinds_run (.bool false) rfl rfl ?_ ?_
        · intro W hW
          simp [go_sem, BigFrame.eval_const, BigFrame.eval_global, BigFrame.eval_func]
        simp only [Act.put, List.setIfInBounds_toArray, List.set_cons_succ, List.set_cons_zero]
        refine wpKinds_run (.bool false) rfl rfl ?_ ?_
        · intro W hW
          simp [go_sem, BigFrame.eval_const, BigFrame.eval_global, BigFrame.eval_func]
        simp only [Act.put, List.setIfInBounds_toArray, List.set_cons_succ, List.set_cons_zero]
        refine wpKinds_run (.pointer (some ⟨w.heap.size, 2, none⟩)) rfl rfl ?_ ?_
        · intro W hW
          simp [go_sem, BigFrame.eval_const, BigFrame.eval_global, BigFrame.eval_func]
        simp only [Act.put, List.setIfInBounds_toArray, List.set_cons_succ, List.set_cons_zero]
        refine wpKinds_run (.slice a n c) rfl rfl ?_ ?_
        · intro W hW
          obtain ⟨u0, u1, u2⟩ := XA.below hW (by omega)
          simp [go_sem, BigFrame.eval_const, BigFrame.eval_global, BigFrame.eval_func, u0, u1, u2]
        simp only [Act.put, List.setIfInBounds_toArray, List.set_cons_succ, List.set_cons_zero]
        refine wpKinds_run (.int .i64 n) rfl rfl ?_ ?_
        · intro W hW
          simp [go_sem, BigFrame.eval_const, BigFrame.eval_global, BigFrame.eval_func]
        simp only [Act.put, List.setIfInBounds_toArray, List.set_cons_succ, List.set_cons_zero]
        refine wpKinds_run (.pointer (some ⟨w.heap.size + 1, 2, none⟩)) rfl rfl ?_ ?_
        · intro W hW
          simp [go_sem, BigFrame.eval_const, BigFrame.eval_global, BigFrame.eval_func]
        simp only [Act.put, List.setIfInBounds_toArray, List.set_cons_succ, List.set_cons_zero]
        refine wpKinds_run (.slice a2 n c2) rfl rfl ?_ ?_
        · intro W hW
          obtain ⟨u0, u1, u2⟩ := XB.below hW (by omega)
          simp [go_sem, BigFrame.eval_const, BigFrame.eval_global, BigFrame.eval_func, u0, u1, u2]
        simp only [Act.put, List.setIfInBounds_toArray, List.set_cons_succ, List.set_cons_zero]
        refine wpKinds_run (.int .i64 n) rfl rfl ?_ ?_
        · intro W hW
          simp [go_sem, BigFrame.eval_const, BigFrame.eval_global, BigFrame.eval_func]
        simp only [Act.put, List.setIfInBounds_toArray, List.set_cons_succ, List.set_cons_zero]
        refine wpKinds_run (.bool false) rfl rfl ?_ ?_
        · intro W hW
          simp [go_sem, BigFrame.eval_const, BigFrame.eval_global, BigFrame.eval_func]
        simp only [Act.put, List.setIfInBounds_toArray, List.set_cons_succ, List.set_cons_zero]
        refine wpKinds_nil ?_
        intro w' hC
        obtain ⟨x0, x1, x2⟩ := XA.below hC (by omega)
        obtain ⟨y0, y1, y2⟩ := XB.below hC (by omega)
        have F1 := FA.below hC (Nat.le_refl _)
        have F2 := FB.below hC (Nat.le_refl _)
        have B2 := B0.trans (hC.mono B0.size)
        clear hC FA FB XA XB B0
        go_wp2
        go_loopw [24] (fun i wr => ∃ j m : Nat, j ≤ n ∧ i = .int .i64 j ∧ sameTo X Y j = true ∧ wr = w'.drewN m) (fun i _ => n - (intOf i).toNat)
        case atStart => exact ⟨0, 0, Nat.zero_le _, rfl, rfl, rfl⟩
        case round =>
          obtain ⟨j, m0, hj, rfl, ha, rfl⟩ := hrel
          have HA := Lib.hid ha
          clear ha
          by_cases hlt : j < n
          · obtain ⟨b, off, rfl, hbl, hc, hfv⟩ := F1.at hlt
            obtain ⟨b2, off2, rfl, hbl2, hc2, hfv2⟩ := F2.at hlt
            clear hbl hbl2 F1 F2 h h2
            have hcall : ∀ W, Calls Try.prog 45 #[.float .f32 (X j), .float .f32 (Y j)] W fun e w' => e = .returned (.bool (sameAt X Y j)) ∧ W = w' := fun W => implSameNumber_any _ hfv.2 _ hfv2.2 W
            cases hs : sameAt X Y j with
            | true =>
              have HF := Lib.hid (sameTo_succ HA.out hs)
              rw [hs] at hcall
              clear hs
              go_wp2_with (go_at_call 45; refine (hcall _).mono ?_; rintro e w' ⟨rfl, rfl⟩)
              go_roundw
              case rel => exact ⟨j + 1, _, by omega, by go_num, HF.out, rfl⟩
              case measure => simp [intOf]; omega
            | false =>
              have HN := Lib.hid (sameTo_no hlt hs)
              rw [hs] at hcall
              clear hs
              go_wp2_with (go_at_call 45; refine (hcall _).mono ?_; rintro e w' ⟨rfl, rfl⟩)
              go_ret
              exact ⟨by rw [HM.out, HN.out]; rfl, (by repeat first | (with_reducible exact B2) | (with_reducible refine Below.setCell ?_ (by first | exact Nat.le_refl _ | (simp; done) | (simp; omega) | omega) _) | (with_reducible refine Below.alloc ?_ (by first | exact Nat.le_refl _ | (simp; done) | (simp; omega) | omega) _) | (with_reducible refine below_drewN ?_ _) | (with_reducible refine Below.drew ?_))⟩
          · obtain rfl : j = n := by omega
            go_wp2
            go_ret
            exact ⟨by rw [HM.out, HA.out]; rfl, (by repeat first | (with_reducible exact B2) | (with_reducible refine Below.setCell ?_ (by first | exact Nat.le_refl _ | (simp; done) | (simp; omega) | omega) _) | (with_reducible refine Below.alloc ?_ (by first | exact Nat.le_refl _ | (simp; done) | (simp; omega) | omega) _) | (with_reducible refine below_drewN ?_ _) | (with_reducible refine Below.drew ?_))⟩
      · have HM : Hid (sameM R C R C n n2 X Y = false) := Lib.hid (by unfold sameM; rw [decide_eq_false h7]; simp)
        have h7i : ¬ (n : Int) = n2 := by omega
        refine wp_region_kinds (fun w' => Below w0.heap.size w0 w') (fun _ => 0) 13 (below_drewN (Below.refl _ _) 1) (by kernel_rfl) (by kernel_rfl) (by kernel_rfl) ?_
        simp only [List.take_succ_cons, List.take_zero, List.drop_succ_cons, List.drop_zero]
        refine wpKinds_run (.agg #[.int .i64 R, .int .i64 C, .slice a n c]) rfl rfl ?_ ?_
        · intro W hW
          obtain ⟨u0, u1, u2⟩ := XA.below hW (by omega)
          simp [go_sem, BigFrame.eval_const, BigFrame.eval_global, BigFrame.eval_func, u0, u1, u2]
        simp only [Act.put, List.setIfInBounds_toArray, List.set_cons_succ, List.set_cons_zero]
        refine wpKinds_call (f := 76) (args := #[.agg #[.int .i64 R, .int .i64 C, .slice a n c]]) (.agg #[.int .i64 R, .int .i64 C]) rfl rfl ?_ (by kernel_rfl) ?_ ?_
        · intro W
          simp [go_sem, BigFrame.eval_const, BigFrame.eval_global, BigFrame.eval_func]
        · intro W hW
          refine (sidesOfM_any _ _ _ _ _ W).mono ?_
          rintro e w' ⟨rfl, hb⟩
          exact ⟨rfl, hW.trans (hb.mono hW.size)⟩
        simp only [Act.put, List.setIfInBounds_toArray, List.set_cons_succ, List.set_cons_zero]
        refine wpKinds_run (.agg #[.int .i64 R, .int .i64 C, .slice a2 n2 c2]) rfl rfl ?_ ?_
        · intro W hW
          obtain ⟨u0, u1, u2⟩ := XB.below hW (by omega)
          simp [go_sem, BigFrame.eval_const, BigFrame.eval_global, BigFrame.eval_func, u0, u1, u2]
        simp only [Act.put, List.setIfInBounds_toArray, List.set_cons_succ, List.set_cons_zero]
        refine wpKinds_call (f := 76) (args := #[.agg #[.int .i64 R, .int .i64 C, .slice a2 n2 c2]]) (.agg #[.int .i64 R, .int .i64 C]) rfl rfl ?_ (by kernel_rfl) ?_ ?_
        · intro W
          simp [go_sem, BigFrame.eval_const, BigFrame.eval_global, BigFrame.eval_func]
        · intro W hW
          refine (sidesOfM_any _ _ _ _ _ W).mono ?_
          rintro e w' ⟨rfl, hb⟩
          exact ⟨rfl, hW.trans (hb.mono hW.size)⟩
        simp only [Act.put, List.setIfInBounds_toArray, List.set_cons_succ, List.set_cons_zero]
        refine wpKinds_run (.bool false) rfl rfl ?_ ?_
        · intro W hW
          simp [go_sem, BigFrame.eval_const, BigFrame.eval_global, BigFrame.eval_func]
        simp only [Act.put, List.setIfInBounds_toArray, List.set_cons_succ, List.set_cons_zero]
        refine wpKinds_run (.bool false) rfl rfl ?_ ?_
        · intro W hW
          simp [go_sem, BigFrame.eval_const, BigFrame.eval_global, BigFrame.eval_func]
        simp only [Act.put, List.setIfInBounds_toArray, List.set_cons_succ, List.set_cons_zero]
        refine wpKinds_run (.pointer (some ⟨w.heap.size, 2, none⟩)) rfl rfl ?_ ?_
        · intro W hW
          simp [go_sem, BigFrame.eval_const, BigFrame.eval_global, BigFrame.eval_func]
        simp only [Act.put, List.setIfInBounds_toArray, List.set_cons_succ, List.set_cons_zero]
        refine wpKinds_run (.slice a n c) rfl rfl ?_ ?_
        · intro W hW
          obtain ⟨u0, u1, u2⟩ := XA.below hW (by omega)
          simp [go_sem, BigFrame.eval_const, BigFrame.eval_global, BigFrame.eval_func, u0, u1, u2]
        simp only [Act.put, List.setIfInBounds_toArray, List.set_cons_succ, List.set_cons_zero]
        refine wpKinds_run (.int .i64 n) rfl rfl ?_ ?_
        · intro W hW
          simp [go_sem, BigFrame.eval_const, BigFrame.eval_global, BigFrame.eval_func]
        simp only [Act.put, List.setIfInBounds_toArray, List.set_cons_succ, List.set_cons_zero]
        refine wpKinds_run (.pointer (some ⟨w.heap.size + 1, 2, none⟩)) rfl rfl ?_ ?_
        · intro W hW
          simp [go_sem, BigFrame.eval_const, BigFrame.eval_global, BigFrame.eval_func]
        simp only [Act.put, List.setIfInBounds_toArray, List.set_cons_succ, List.set_cons_zero]
        refine wpKinds_run (.slice a2 n2 c2) rfl rfl ?_ ?_
        · intro W hW
          obtain ⟨u0, u1, u2⟩ := XB.below hW (by omega)
          simp [go_sem, BigFrame.eval_const, BigFrame.eval_global, BigFrame.eval_func, u0, u1, u2]
        simp only [Act.put, List.setIfInBounds_toArray, List.set_cons_succ, List.set_cons_zero]
        refine wpKinds_run (.int .i64 n2) rfl rfl ?_ ?_
        · intro W hW
          simp [go_sem, BigFrame.eval_const, BigFrame.eval_global, BigFrame.eval_func]
        simp only [Act.put, List.setIfInBounds_toArray, List.set_cons_succ, List.set_cons_zero]
        refine wpKinds_run (.bool true) rfl rfl ?_ ?_
        · intro W hW
          simp [go_sem, BigFrame.eval_const, BigFrame.eval_global, BigFrame.eval_func, h7, h7i]
        simp only [Act.put, List.setIfInBounds_toArray, List.set_cons_succ, List.set_cons_zero]
        refine wpKinds_nil ?_
        intro w' hC
        have B2 := B0.trans (hC.mono B0.size)
        clear hC FA FB XA XB B0
        go_wp2
        go_ret
        exact ⟨by rw [HM.out]; rfl, (by repeat first | (with_reducible exact B2) | (with_reducible refine Below.setCell ?_ (by first | exact Nat.le_refl _ | (simp; done) | (simp; omega) | omega) _) | (with_reducible refine Below.alloc ?_ (by first | exact Nat.le_refl _ | (simp; done) | (simp; omega) | omega) _) | (with_reducible refine below_drewN ?_ _) | (with_reducible refine Below.drew ?_))⟩
    · have HM : Hid (sameM R C R C2 n n2 X Y = false) := Lib.hid (by unfold sameM; rw [decide_eq_false h6]; simp)
      refine wp_region_kinds (fun w' => Below w0.heap.size w0 w') (fun _ => 0) 13 (below_drewN (Below.refl _ _) 1) (by kernel_rfl) (by kernel_rfl) (by kernel_rfl) ?_
      simp only [List.take_succ_cons, List.take_zero, List.drop_succ_cons, List.drop_zero]
      refine wpKinds_run (.agg #[.int .i64 R, .int .i64 C, .slice a n c]) rfl rfl ?_ ?_
      · intro W hW
        obtain ⟨u0, u1, u2⟩ := XA.below hW (by omega)
        simp [go_sem, BigFrame.eval_const, BigFrame.eval_global, BigFrame.eval_func, u0, u1, u2]
      simp only [Act.put, List.setIfInBounds_toArray, List.set_cons_succ, List.set_cons_zero]
      refine wpKinds_call (f := 76) (args := #[.agg #[.int .i64 R, .int .i64 C, .slice a n c]]) (.agg #[.int .i64 R, .int .i64 C]) rfl rfl ?_ (by kernel_rfl) ?_ ?_
      · intro W
        simp [go_sem, BigFrame.eval_const, BigFrame.eval_global, BigFrame.eval_func]
      · intro W hW
        refine (sidesOfM_any _ _ _ _ _ W).mono ?_
        rintro e w' ⟨rfl, hb⟩
        exact ⟨rfl, hW.trans (hb.mono hW.size)⟩
      simp only [Act.put, List.setIfInBounds_toArray, List.set_cons_succ, List.set_cons_zero]
      refine wpKinds_run (.agg #[.int .i64 R, .int .i64 C2, .slice a2 n2 c2]) rfl rfl ?_ ?_
      · intro W hW
        obtain ⟨u0, u1, u2⟩ := XB.below hW (by omega)
        simp [go_sem, BigFrame.eval_const, BigFrame.eval_global, BigFrame.eval_func, u0, u1, u2]
      simp only [Act.put, List.setIfInBounds_toArray, List.set_cons_succ, List.set_cons_zero]
      refine wpKinds_call (f := 76) (args := #[.agg #[.int .i64 R, .int .i64 C2, .slice a2 n2 c2]]) (.agg #[.int .i64 R, .int .i64 C2]) rfl rfl ?_ (by kernel_rfl) ?_ ?_
      · intro W
        simp [go_sem, BigFrame.eval_const, BigFrame.eval_global, BigFrame.eval_func]
      · intro W hW
        refine (sidesOfM_any _ _ _ _ _ W).mono ?_
        rintro e w' ⟨rfl, hb⟩
        exact ⟨rfl, hW.trans (hb.mono hW.size)⟩
      simp only [Act.put, List.setIfInBounds_toArray, List.set_cons_succ, List.set_cons_zero]
      refine wpKinds_run (.bool true) rfl rfl ?_ ?_
      · intro W hW
        simp [go_sem, BigFrame.eval_const, BigFrame.eval_global, BigFrame.eval_func, h6]
      simp only [Act.put, List.setIfInBounds_toArray, List.set_cons_succ, List.set_cons_zero]
      refine wpKinds_run (.bool true) rfl rfl ?_ ?_
      · intro W hW
        simp [go_sem, BigFrame.eval_const, BigFrame.eval_global, BigFrame.eval_func]
      simp only [Act.put, List.setIfInBounds_toArray, List.set_cons_succ, List.set_cons_zero]
      refine wpKinds_skip rfl ?_
      simp only [Act.put, List.setIfInBounds_toArray, List.set_cons_succ, List.set_cons_zero]
      refine wpKinds_skip rfl ?_
      simp only [Act.put, List.setIfInBounds_toArray, List.set_cons_succ, List.set_cons_zero]
      refine wpKinds_skip rfl ?_
      simp only [Act.put, List.setIfInBounds_toArray, List.set_cons_succ, List.set_cons_zero]
      refine wpKinds_skip rfl ?_
      simp only [Act.put, List.setIfInBounds_toArray, List.set_cons_succ, List.set_cons_zero]
      refine wpKinds_skip rfl ?_
      simp only [Act.put, List.setIfInBounds_toArray, List.set_cons_succ, List.set_cons_zero]
      refine wpKinds_skip rfl ?_
      simp only [Act.put, List.setIfInBounds_toArray, List.set_cons_succ, List.set_cons_zero]
      refine wpKinds_skip rfl ?_
      simp only [Act.put, List.setIfInBounds_toArray, List.set_cons_succ, List.set_cons_zero]
      refine wpKinds_nil ?_
      intro w' hC
      have B2 := B0.trans (hC.mono B0.size)
      clear hC FA FB XA XB B0
      go_wp2
      go_ret
      exact ⟨by rw [HM.out]; rfl, (by repeat first | (with_reducible exact B2) | (with_reducible refine Below.setCell ?_ (by first | exact Nat.le_refl _ | (simp; done) | (simp; omega) | omega) _) | (with_reducible refine Below.alloc ?_ (by first | exact Nat.le_refl _ | (simp; done) | (simp; omega) | omega) _) | (with_reducible refine below_drewN ?_ _) | (with_reducible refine Below.drew ?_))⟩
  · have HM : Hid (sameM R C R2 C2 n n2 X Y = false) := Lib.hid (by unfold sameM; rw [decide_eq_false h5]; rfl)
    refine wp_region_kinds (fun w' => Below w0.heap.size w0 w') (fun _ => 0) 13 (below_drewN (Below.refl _ _) 1) (by kernel_rfl) (by kernel_rfl) (by kernel_rfl) ?_
    simp only [List.take_succ_cons, List.take_zero, List.drop_succ_cons, List.drop_zero]
    refine wpKinds_run (.agg #[.int .i64 R, .int .i64 C, .slice a n c]) rfl rfl ?_ ?_
    · intro W hW
      obtain ⟨u0, u1, u2⟩ := XA.below hW (by omega)
      simp [go_sem, BigFrame.eval_const, BigFrame.eval_global, BigFrame.eval_func, u0, u1, u2]
    simp only [Act.put, List.setIfInBounds_toArray, List.set_cons_succ, List.set_cons_zero]
    refine wpKinds_call (f := 76) (args := #[.agg #[.int .i64 R, .int .i64 C, .slice a n c]]) (.agg #[.int .i64 R, .int .i64 C]) rfl rfl ?_ (by kernel_rfl) ?_ ?_
    · intro W
      simp [go_sem, BigFrame.eval_const, BigFrame.eval_global, BigFrame.eval_func]
    · intro W hW
      refine (sidesOfM_any _ _ _ _ _ W).mono ?_
      rintro e w' ⟨rfl, hb⟩
      exact ⟨rfl, hW.trans (hb.mono hW.size)⟩
    simp only [Act.put, List.setIfInBounds_toArray, List.set_cons_succ, List.set_cons_zero]
    refine wpKinds_run (.agg #[.int .i64 R2, .int .i64 C2, .slice a2 n2 c2]) rfl rfl ?_ ?_
    · intro W hW
      obtain ⟨u0, u1, u2⟩ := XB.below hW (by omega)
      simp [go_sem, BigFrame.eval_const, BigFrame.eval_global, BigFrame.eval_func, u0, u1, u2]
    simp only [Act.put, List.setIfInBounds_toArray, List.set_cons_succ, List.set_cons_zero]
    refine wpKinds_call (f := 76) (args := #[.agg #[.int .i64 R2, .int .i64 C2, .slice a2 n2 c2]]) (.agg #[.int .i64 R2, .int .i64 C2]) rfl rfl ?_ (by kernel_rfl) ?_ ?_
    · intro W
      simp [go_sem, BigFrame.eval_const, BigFrame.eval_global, BigFrame.eval_func]
    · intro W hW
      refine (sidesOfM_any _ _ _ _ _ W).mono ?_
      rintro e w' ⟨rfl, hb⟩
      exact ⟨rfl, hW.trans (hb.mono hW.size)⟩
    simp only [Act.put, List.setIfInBounds_toArray, List.set_cons_succ, List.set_cons_zero]
    refine wpKinds_run (.bool true) rfl rfl ?_ ?_
    · intro W hW
      simp [go_sem, BigFrame.eval_const, BigFrame.eval_global, BigFrame.eval_func, h5]
    simp only [Act.put, List.setIfInBounds_toArray, List.set_cons_succ, List.set_cons_zero]
    refine wpKinds_run (.bool true) rfl rfl ?_ ?_
    · intro W hW
      simp [go_sem, BigFrame.eval_const, BigFrame.eval_global, BigFrame.eval_func]
    simp only [Act.put, List.setIfInBounds_toArray, List.set_cons_succ, List.set_cons_zero]
    refine wpKinds_skip rfl ?_
    simp only [Act.put, List.setIfInBounds_toArray, List.set_cons_succ, List.set_cons_zero]
    refine wpKinds_skip rfl ?_
    simp only [Act.put, List.setIfInBounds_toArray, List.set_cons_succ, List.set_cons_zero]
    refine wpKinds_skip rfl ?_
    simp only [Act.put, List.setIfInBounds_toArray, List.set_cons_succ, List.set_cons_zero]
    refine wpKinds_skip rfl ?_
    simp only [Act.put, List.setIfInBounds_toArray, List.set_cons_succ, List.set_cons_zero]
    refine wpKinds_skip rfl ?_
    simp only [Act.put, List.setIfInBounds_toArray, List.set_cons_succ, List.set_cons_zero]
    refine wpKinds_skip rfl ?_
    simp only [Act.put, List.setIfInBounds_toArray, List.set_cons_succ, List.set_cons_zero]
    refine wpKinds_skip rfl ?_
    simp only [Act.put, List.setIfInBounds_toArray, List.set_cons_succ, List.set_cons_zero]
    refine wpKinds_nil ?_
    intro w' hC
    have B2 := B0.trans (hC.mono B0.size)
    clear hC FA FB XA XB B0
    go_wp2
    go_ret
    exact ⟨by rw [HM.out]; rfl, (by repeat first | (with_reducible exact B2) | (with_reducible refine Below.setCell ?_ (by first | exact Nat.le_refl _ | (simp; done) | (simp; omega) | omega) _) | (with_reducible refine Below.alloc ?_ (by first | exact Nat.le_refl _ | (simp; done) | (simp; omega) | omega) _) | (with_reducible refine below_drewN ?_ _) | (with_reducible refine Below.drew ?_))⟩
end Go.Proofs.Ytmddhhmgfhljiab
