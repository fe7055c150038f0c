/- Helper: triangles that are solved from the first row on, of the program. Conditions: none. -/
import Derived.Test.YtmddhhmgfhljiaaUp
set_option linter.unusedVariables false
set_option linter.unusedSimpArgs false
namespace Go.Proofs.Ytmddhhmgfhljiaa
open Go.RowKit

set_option maxRecDepth 20000 in
set_option maxHeartbeats 1000000 in
theorem lowerSteps_any (n N b off cap g d B U : Nat) (dv : Bool) (Z Y : Nat → Nat) (w : World) (h1 : 1 ≤ n) (h12 : n ≤ 12) (hN : N = n * n) (h : FS .f32 w (some ⟨b, off, none⟩) N cap Z)
    (o : Own 44 .f32 B U w (some ⟨g, 0, none⟩) n d Y) (hne : b ≠ g) :
    Calls Try.prog 44 #[.agg #[.int .i64 n, .int .i64 n, .slice (some ⟨b, off, none⟩) N cap], .slice (some ⟨g, 0, none⟩) n d, .bool dv] w fun e w' => e = .returned (.tuple #[]) ∧ Became B U g n d (lowY (sq n Z) dv (vals Y) n) w w' := by
  have hN' := Lib.hid hN
  have hN144 : N ≤ 144 := by have := sides_le h12 h12; omega
  have hcap := h.1
  have hmx := h.2.1
  have hmax : cap ≤ 9223372036854775807 := by unfold maxLen at hmx; omega
  have hd1 := (Own.fs o).1
  have hd2 := (Own.fs o).2.1
  have hd3 : d ≤ 9223372036854775807 := by unfold maxLen at hd2; omega
  obtain ⟨_, _, hBg, hgU, hUw, _⟩ := o.cell (t := 0) (by omega)
  have G0 := World.grownBy_alloc w (.cells #[.int .i64 n, .int .i64 n, .slice (some ⟨b, off, none⟩) N cap] 31) (some g)
  have X0 := Box.new w 31 n n (some ⟨b, off, none⟩) N cap
  have F0 := h.grown G0 (fun q hq => by cases hq; exact hne)
  have O0 := o.kept (World.grownBy_alloc w (.cells #[.int .i64 n, .int .i64 n, .slice (some ⟨b, off, none⟩) N cap] 31) none) (fun q hq => by cases hq)
  obtain ⟨UU, hUU⟩ : ∃ UU, UU = lowY (sq n Z) dv (vals Y) := ⟨_, rfl⟩
  rw [← hUU]
  have hU := Lib.hid hUU
  clear hN h o hUU
  cases dv
  all_goals
    go_enter Try.func44, Try.ntmps44
    go_wp2
    generalize hw0 : w.alloc (.cells #[.int .i64 n, .int .i64 n, .slice (some ⟨b, off, none⟩) N cap] 31) = w0 at X0 G0 F0 O0 ⊢
    have hs0 : w.heap.size < w0.heap.size := by rw [← hw0]; simp
    clear hw0
    go_loopw [10] (fun i wr => ∃ (q : Nat) (X : Nat → Nat), q ≤ n ∧ i = .int .i64 q ∧ Own 44 .f32 B U wr (some ⟨g, 0, none⟩) n d X ∧ (∀ t, t < n → vals X t = UU q t) ∧ w0.grownBy wr (some g)) (fun i _ => n - (intOf i).toNat)
    case atStart => exact ⟨0, Y, Nat.zero_le _, rfl, O0, fun t ht => by rw [hU.out]; rfl, World.grownBy.refl _ _⟩
    case round =>
      obtain ⟨q, X, hq, rfl, ho, hv, hg⟩ := hrel
      have hv' := Lib.hid hv
      clear O0 hv
      by_cases hq' : q < n
      · have hX := X0.grown hg hs0 (fun q hq => by cases hq; omega)
        obtain ⟨y0, y1, y2⟩ := hX
        go_wp2_with fail
        go_at_call 68
        refine (rowOf_any b off n n N cap q _ h12 h1 h12 hN'.out hcap hmax hq').mono ?_
        rintro e w3 ⟨rfl, b3⟩
        have g3 := below_grew b3
        have O3 := ho.kept g3 (fun q hq => by cases hq)
        have G3 := grownBy_trans hg (⟨g3.os, g3.tape, g3.output, g3.size, fun k hk _ => g3.block k hk (by simp)⟩ : wr.grownBy w3 (some g))
        have F3 := (F0.grown G3 (fun q hq => by cases hq; exact hne)).row hN'.out hq' n (Nat.le_refl _) (by unfold maxLen; omega)
        have FY := O3.fs
        obtain ⟨hce, hfr, _⟩ := O3.cell hq'
        have hwq := (FY.at hq').elim fun _ q => q.elim fun _ q => q.2.2.2
        obtain ⟨LL, hLL⟩ : ∃ LL, LL = lessG (vals X q) (sq n Z q) (vals X) q := ⟨_, rfl⟩
        have hC' : ∀ W, (∃ k, W = w3.drewN k) → Calls Try.prog 85 #[.float .f32 (X q), .slice (some ⟨b, off + q * n, none⟩) q n, .slice (some ⟨g, 0, none⟩) n d] W (fun e w' => ∃ u, e = .returned u ∧ (∃ k, w' = w3.drewN k) ∧ ∃ r, u = .float .f32 r ∧ FV .f32 r LL) := by
          rintro W ⟨k, rfl⟩
          have f1 := F3.take (i := q) (c' := n) (by omega) (by omega) (by omega)
          refine (implLess_any (X q) hwq _ _ q n n d _ _ _ (by omega) (by omega) (by omega) (FS.drewN f1) (FS.drewN FY)).mono ?_
          rintro e w' ⟨r, rfl, hr, k2, rfl⟩
          exact ⟨_, rfl, ⟨_, World.drewN_drewN _ _ _⟩, r, rfl, FV.of_eq hr (by rw [hLL]; rfl)⟩
        have hC := Lib.hid hC'
        have HLL := Lib.hid hLL
        clear hLL hC' ho hg b3 g3 y0 y1 y2
        all_goals
          go_wp2
          (refine wp_region_pivot_tail 10 12 (by kernel_rfl) (by kernel_rfl) ?_; simp only [List.take_succ_cons, List.take_zero, List.drop_succ_cons, List.drop_zero]; (repeat (refine wpPivot_plain rfl rfl rfl (fun K hK => ?_); go_big_quiet_op; refine hK _ ?_; clear hK K)))
          refine wpPivot_noisy rfl rfl (fun K hK => ?_)
          apply noisy_of_call (f := 85) (args := #[.float .f32 _, .slice _ _ _, .slice _ _ _]) (fun u => ∃ r, u = .float .f32 r ∧ FV .f32 r LL)
          case hr =>
            intro W
            simp [go_sem, BigFrame.eval_const, BigFrame.eval_global, BigFrame.eval_func]
            repeat' (first | exact rfl | refine ⟨?_, ?_⟩)
          case hc =>
            exact hC.out
          rintro _ ⟨r1, rfl, hr1⟩
          refine hK _ ?_
          clear hK K
          simp only [Act.put, List.setIfInBounds_toArray, List.set_cons_succ, List.set_cons_zero]
          repeat (refine wpPivot_plain rfl rfl rfl (fun K hK => ?_); go_big_quiet_op; refine hK _ ?_; clear hK K)
          refine wpPivot_nil ?_
          rintro _ ⟨kk, rfl⟩
          have O4 := (show Own 44 .f32 B U (w3.drewN kk) (some ⟨g, 0, none⟩) n _ X from O3).stored hq' hr1.2
          obtain ⟨O4, G4⟩ := O4
          have hc4 := (O4.cell hq').1
          simp only [if_true] at hc4
          have hf4 := (O4.cell hq').2.1
          have F4 := (show FS .f32 (w3.drewN kk) (some ⟨b, off + q * n, none⟩) n n _ from F3).grown G4 (fun q hq => by cases hq; exact hne)
          obtain ⟨b', off', e, hbl, hce5, hfv⟩ := F4.at hq'
          simp only [Option.some.injEq, Addr.mk.injEq, and_true] at e
          obtain ⟨rfl, rfl⟩ := e
          have hv1 := Lib.hid (fun r2 (h2 : FV .f32 r2 _) => low_next (r := r2) hU.out hq' hv'.out HLL.out h2)
          have O4' := Lib.hid O4
          have G4' := Lib.hid (grownBy_trans G3 (⟨G4.os, G4.tape, G4.output, G4.size, G4.block⟩ : w3.grownBy _ (some g)))
          clear O4 G4 F3 FY O3 G3 F4 hbl
          go_wp2
        all_goals
          first
            | (refine ⟨⟨q + 1, _, by omega, ?_, O4'.out, hv1.out r1 hr1, G4'.out⟩, ?_⟩
               · go_num
               · simp [intOf]; omega)
            | ((refine wp_region_loose_tail 10 (by kernel_rfl) (by kernel_rfl) ?_; simp only [List.take_succ_cons, List.take_zero, List.drop_succ_cons, List.drop_zero]; (repeat (refine wpLoose_want rfl (fun K hK => ?_); first | (refine loose_farith _ _ _ _ _ rfl rfl _ _ _ rfl rfl (by first | assumption | (with_reducible exact FV.ofInt _ _) | (with_reducible exact FV.neg (by assumption)) | exact FV.lit (by kernel_rfl) (by kernel_rfl)) (by first | assumption | (with_reducible exact FV.ofInt _ _) | (with_reducible exact FV.neg (by assumption)) | exact FV.lit (by kernel_rfl) (by kernel_rfl)) ?_; intro r hr; refine hK _ ?_; clear hK K; simp only [Act.put, List.setIfInBounds_toArray, List.set_cons_succ, List.set_cons_zero]) | (refine loose_of_quiet rfl ?_; go_big_quiet_op; refine hK _ ?_; clear hK K))); refine wpLoose_nil ?_)
               rintro _ ⟨k2, rfl⟩
               have O5 := ((show Own 44 .f32 B U (((w3.drewN kk).setCell ⟨g, q, none⟩ (.float .f32 r1)).drewN k2) (some ⟨g, 0, none⟩) n _ _ from O4'.out).stored hq' hr.2)
               obtain ⟨O5, G5⟩ := O5
               have O6 := Lib.hid (O5.same (Y := fun t => if t = q then r else X t) (fun t _ => by by_cases e : t = q <;> simp [e]))
               have G6 := Lib.hid (grownBy_trans G4'.out (⟨G5.os, G5.tape, G5.output, G5.size, G5.block⟩ : World.grownBy ((w3.drewN kk).setCell ⟨g, q, none⟩ (.float .f32 r1)) _ (some g)))
               clear O5 G5
               go_wp2
               refine ⟨⟨q + 1, _, by omega, ?_, O6.out, hv1.out r hr, G6.out⟩, ?_⟩
               · go_num
               · simp [intOf]; omega)
      · obtain rfl : q = n := by omega
        have O' := Lib.hid ho
        have G' := Lib.hid (grownBy_trans G0 hg)
        clear ho hg
        go_wp2
        go_end0
        exact ⟨rfl, _, O'.out, hv'.out, G'.out⟩
end Go.Proofs.Ytmddhhmgfhljiaa
