/- Helper: a square of which two rows and columns are turned, of the reference. Conditions: none. -/
import Derived.Test.YtmjlhmbnaifhaaaTurnDefs
import Derived.Test.YtmjlhmbnaifhaaaTurnKey
import Derived.Test.YtmjlhmbnaifhaaaUpperOfKey
import Derived.Deep.Cut
set_option linter.unusedVariables false
set_option linter.unusedSimpArgs false
namespace Go.Proofs.Ytmjlhmbnaifhaaa
open Go.RowKit

set_option maxRecDepth 20000 in
set_option maxHeartbeats 4000000 in
theorem l04Rows_any (mb r N x y g d B U cc ss : Nat) {C S : Option Nat} (fc : FV .f32 cc C) (fs : FV .f32 ss S) (Z : Nat → Nat) (w : World) (h1 : 1 ≤ r) (h12 : r ≤ 12) (hn : N = r * r) (hxy : x < y) (hy : y < r) (lb : mb < w.heap.size) (hne : mb ≠ g)
    (hb : Box w mb r r (some ⟨g, 0, none⟩) N d) (o : Own 33 .f32 B U w (some ⟨g, 0, none⟩) N d Z) :
    Calls Try.prog 80 #[.pointer (some ⟨mb, 0, none⟩), .int .i64 x, .int .i64 y, .float .f32 cc, .float .f32 ss] w fun e w' => e = .returned (.tuple #[]) ∧ ∃ X, Own 33 .f32 B U w' (some ⟨g, 0, none⟩) N d X ∧ (∀ t, t < N → vals X t = tnS C (fneg .f32 S) (x * r) (y * r) (vals Z) r t) ∧ w.grownBy w' (some g) := by
  have HN := Lib.hid hn
  have h144 : N ≤ 144 := by have := sides_le h12 h12; omega
  have hx : x < r := by omega
  have hne' : g ≠ mb := fun e => hne e.symm
  have isS := Lib.hid (isW.of fs)
  have hpos : 0 < N := by rw [hn]; exact Nat.mul_pos h1 h1
  have gg := (o.cell hpos).2.2.2.1
  have gl : g < w.heap.size := by obtain ⟨_, _, _, _, q, _⟩ := o.cell hpos; omega
  clear hn gg
  obtain ⟨x0, x1, x2⟩ := hb
  have hb : Box w mb r r (some ⟨g, 0, none⟩) N d := ⟨x0, x1, x2⟩
  go_enter Try.func80, Try.ntmps80
  go_wp2
  go_loopw [10] (fun i wr => ∃ (j : Nat) (X : Nat → Nat), j ≤ r ∧ i = .int .i64 j ∧ Own 33 .f32 B U wr (some ⟨g, 0, none⟩) N d X ∧ (∀ t, t < N → vals X t = tnS C (fneg .f32 S) (x * r) (y * r) (vals Z) j t) ∧ w.grownBy wr (some g)) (fun i _ => r - (intOf i).toNat)
  case atStart => exact ⟨0, Z, Nat.zero_le _, rfl, o, fun t _ => tnS_zero.symm, World.grownBy.refl _ _⟩
  case round =>
    obtain ⟨j, X, hj, rfl, k1, v1, ho⟩ := hrel
    clear o x0 x1 x2
    have XM := hb.grown ho lb (fun q hq => by cases hq; exact hne)
    have sw := ho.size
    by_cases hlt : j < r
    · have hp1 : x * r + j < N := by rw [HN.out]; exact place_lt hx hlt
      have hp2 : y * r + j < N := by rw [HN.out]; exact place_lt hy hlt
      obtain ⟨_, _, _, _, _, wf1⟩ := k1.cell hp1
      obtain ⟨_, _, _, _, _, wf2⟩ := k1.cell hp2
      have fx : FV .f32 (X (x * r + j)) (vals Z (x * r + j)) := ⟨(v1 _ hp1).trans (tnS_left (m := r) (.inl (by rw [← Nat.succ_mul]; exact Nat.mul_le_mul_right r hxy)) hlt), wf1⟩
      have fy : FV .f32 (X (y * r + j)) (vals Z (y * r + j)) := ⟨(v1 _ hp2).trans (tnS_right (m := r) (.inl (by rw [← Nat.succ_mul]; exact Nat.mul_le_mul_right r hxy)) hlt), wf2⟩
      have at1 := Lib.hid (specAt_any mb g 0 r r N d x j X wr h12 h12 HN.out XM k1.fs hx hlt)
      have at2 := Lib.hid (fun m : Nat => specAt_any mb g 0 r r N d y j X (wr.drewN m) h12 h12 HN.out XM.drewN (FS.drewN k1.fs) hy hlt)
      obtain ⟨K1, hK1⟩ : ∃ K, K = x * r + j := ⟨_, rfl⟩
      obtain ⟨K2, hK2⟩ : ∃ K, K = y * r + j := ⟨_, rfl⟩
      obtain ⟨L1, hL1⟩ : ∃ L, L = x * r := ⟨_, rfl⟩
      obtain ⟨L2, hL2⟩ : ∃ L, L = y * r := ⟨_, rfl⟩
      have hM1a : IntKind.i64.wrap ((x : Int) * (r : Int)) = (L1 : Int) := by rw [← Int.natCast_mul, ← hL1]; exact IntWalk.i64_in _ (by omega)
      have hM1b : IntKind.i64.wrap ((L1 : Int) + (j : Int)) = (K1 : Int) := by rw [hK1, ← hL1, ← Int.natCast_add]; exact IntWalk.i64_in _ (by omega)
      have hM2a : IntKind.i64.wrap ((y : Int) * (r : Int)) = (L2 : Int) := by rw [← Int.natCast_mul, ← hL2]; exact IntWalk.i64_in _ (by omega)
      have hM2b : IntKind.i64.wrap ((L2 : Int) + (j : Int)) = (K2 : Int) := by rw [hK2, ← hL2, ← Int.natCast_add]; exact IntWalk.i64_in _ (by omega)
      obtain ⟨xx, hxx⟩ : ∃ v, v = X (x * r + j) := ⟨_, rfl⟩
      obtain ⟨yy, hyy⟩ : ∃ v, v = X (y * r + j) := ⟨_, rfl⟩
      rw [← hxx] at fx at1
      rw [← hyy] at fy at2
      have HPUT : Hid (∀ u v, FV .f32 u (fop .sub .f32 (fop .mul .f32 C (vals Z (x * r + j))) (fop .mul .f32 S (vals Z (y * r + j)))) → FV .f32 v (fop .add .f32 (fop .mul .f32 S (vals Z (x * r + j))) (fop .mul .f32 C (vals Z (y * r + j)))) →
          ∀ t, t < N → vals (fun t => if t = K2 then v else if t = K1 then u else X t) t = tnS C (fneg .f32 S) (x * r) (y * r) (vals Z) (j + 1) t) := Lib.hid fun u v hu hv => by
        rw [hK1, hK2]
        exact tnS_put (m := r) (.inl (by rw [← Nat.succ_mul]; exact Nat.mul_le_mul_right r hxy)) hlt v1 (by unfold tnP; rw [turn_x isS.out]; exact hu) (by unfold tnM; rw [turn_y isS.out]; exact hv)
      have hkn1 : K1 < N := by rw [hK1]; exact hp1
      have hkn2 : K2 < N := by rw [hK2]; exact hp2
      have HK1 := Lib.hid k1
      have HO := Lib.hid ho
      obtain ⟨V1, hV1⟩ : ∃ V, V = vals Z (x * r + j) := ⟨_, rfl⟩
      obtain ⟨V2, hV2⟩ : ∃ V, V = vals Z (y * r + j) := ⟨_, rfl⟩
      rw [← hV1, ← hV2] at HPUT
      rw [← hV1] at fx
      rw [← hV2] at fy
      have lmb : mb < wr.heap.size := by omega
      have lg : g < wr.heap.size := by omega
      clear k1 v1 ho hxx hyy wf1 wf2 hp1 hp2 hK1 hK2 hL1 hL2 hV1 hV2
      obtain ⟨y0, y1, y2⟩ := XM
      go_wp2_with fail
      go_at_call 46
      refine at1.out.mono ?_
      rintro e wa ⟨rfl, ma, rfl⟩
      go_wp2_with fail
      go_at_call 46
      refine (at2.out ma).mono ?_
      rintro e wb ⟨rfl, mb2, rfl⟩
      have y1' : (wr.drewN (ma + mb2)).cell? ⟨mb, 1, none⟩ = some (.int .i64 r) := y1
      have y2' : (wr.drewN (ma + mb2)).cell? ⟨mb, 2, none⟩ = some (.slice (some ⟨g, 0, none⟩) N d) := y2
      have HOM : Hid (Own 33 .f32 B U (wr.drewN (ma + mb2)) (some ⟨g, 0, none⟩) N d X) := HK1
      have HG : Hid (w.grownBy (wr.drewN (ma + mb2)) (some g)) := Lib.hid ⟨HO.out.os, HO.out.tape, HO.out.output, HO.out.size, HO.out.block⟩
      have lmb' : mb < (wr.drewN (ma + mb2)).heap.size := lmb
      have lg' : g < (wr.drewN (ma + mb2)).heap.size := lg
      clear y0 y1 y2 at1 at2 HK1 HO lmb lg
      go_upto_region 5 with (fail)
      generalize wr.drewN (ma + mb2) = w0 at y1' y2' HOM HG lmb' lg' ⊢
      have y1 := y1'
      have y2 := y2'
      have lmb := lmb'
      have lg := lg'
      clear y1' y2' lmb' lg'
      (refine wp_region_kinds (fun w' => Below w0.heap.size w0 w') (fun i => if i = 14 then 1 else if i = 17 then 1 else if i = 18 then 1 else 0) 20 (below_drewN (Below.refl _ _) 1) (by kernel_rfl) (by kernel_rfl) (by kernel_rfl) ?_; simp only [List.take_succ_cons, List.take_zero, List.drop_succ_cons, List.drop_zero])
      ((with_reducible refine wpKinds_plain ?hwant ?hkind ?hplain (fun K hK => ?_)); (case hwant => first | (simp [Region.wanted, yielded]; done) | rfl); (case hkind => rfl); (case hplain => rfl); go_big_quiet_op; (first | refine hK _ ?_ | refine ⟨_, fun _ _ => rfl, hK _ ?_⟩); clear hK K)
      ((with_reducible refine wpKinds_run (.pointer (some ⟨mb, 0, none⟩)) ?hwant ?hkind ?hrun ?_); (case hwant => first | (simp [Region.wanted, yielded]; done) | rfl); (case hkind => rfl); (case hrun => intro W hW; simp [go_sem, BigFrame.eval_const, BigFrame.eval_global, BigFrame.eval_func]); simp only [Act.put, List.setIfInBounds_toArray, List.set_cons_succ, List.set_cons_zero])
      ((with_reducible refine wpKinds_run (.pointer (some ⟨mb, 2, none⟩)) ?hwant ?hkind ?hrun ?_); (case hwant => first | (simp [Region.wanted, yielded]; done) | rfl); (case hkind => rfl); (case hrun => intro W hW; simp [go_sem, BigFrame.eval_const, BigFrame.eval_global, BigFrame.eval_func]); simp only [Act.put, List.setIfInBounds_toArray, List.set_cons_succ, List.set_cons_zero])
      ((with_reducible refine wpKinds_run (.slice (some ⟨g, 0, none⟩) N d) ?hwant ?hkind ?hrun ?_); (case hwant => first | (simp [Region.wanted, yielded]; done) | rfl); (case hkind => rfl); (case hrun => intro W hW; have hcell := (hW.cell (p := _) (by assumption)).trans y2; simp [go_sem, BigFrame.eval_const, BigFrame.eval_global, BigFrame.eval_func, hcell]); simp only [Act.put, List.setIfInBounds_toArray, List.set_cons_succ, List.set_cons_zero])
      ((with_reducible refine wpKinds_plain ?hwant ?hkind ?hplain (fun K hK => ?_)); (case hwant => first | (simp [Region.wanted, yielded]; done) | rfl); (case hkind => rfl); (case hplain => rfl); go_big_quiet_op; (first | refine hK _ ?_ | refine ⟨_, fun _ _ => rfl, hK _ ?_⟩); clear hK K)
      ((with_reducible refine wpKinds_plain ?hwant ?hkind ?hplain (fun K hK => ?_)); (case hwant => first | (simp [Region.wanted, yielded]; done) | rfl); (case hkind => rfl); (case hplain => rfl); go_big_quiet_op; (first | refine hK _ ?_ | refine ⟨_, fun _ _ => rfl, hK _ ?_⟩); clear hK K)
      ((with_reducible refine wpKinds_run (.pointer (some ⟨mb, 0, none⟩)) ?hwant ?hkind ?hrun ?_); (case hwant => first | (simp [Region.wanted, yielded]; done) | rfl); (case hkind => rfl); (case hrun => intro W hW; simp [go_sem, BigFrame.eval_const, BigFrame.eval_global, BigFrame.eval_func]); simp only [Act.put, List.setIfInBounds_toArray, List.set_cons_succ, List.set_cons_zero])
      ((with_reducible refine wpKinds_run (.pointer (some ⟨mb, 1, none⟩)) ?hwant ?hkind ?hrun ?_); (case hwant => first | (simp [Region.wanted, yielded]; done) | rfl); (case hkind => rfl); (case hrun => intro W hW; simp [go_sem, BigFrame.eval_const, BigFrame.eval_global, BigFrame.eval_func]); simp only [Act.put, List.setIfInBounds_toArray, List.set_cons_succ, List.set_cons_zero])
      ((with_reducible refine wpKinds_run (.int .i64 r) ?hwant ?hkind ?hrun ?_); (case hwant => first | (simp [Region.wanted, yielded]; done) | rfl); (case hkind => rfl); (case hrun => intro W hW; have hcell := (hW.cell (p := _) (by assumption)).trans y1; simp [go_sem, BigFrame.eval_const, BigFrame.eval_global, BigFrame.eval_func, hcell]); simp only [Act.put, List.setIfInBounds_toArray, List.set_cons_succ, List.set_cons_zero])
      ((with_reducible refine wpKinds_run (.int .i64 L1) ?hwant ?hkind ?hrun ?_); (case hwant => first | (simp [Region.wanted, yielded]; done) | rfl); (case hkind => rfl); (case hrun => intro W hW; simp [go_sem, BigFrame.eval_const, BigFrame.eval_global, BigFrame.eval_func, hM1a]); simp only [Act.put, List.setIfInBounds_toArray, List.set_cons_succ, List.set_cons_zero])
      ((with_reducible refine wpKinds_plain ?hwant ?hkind ?hplain (fun K hK => ?_)); (case hwant => first | (simp [Region.wanted, yielded]; done) | rfl); (case hkind => rfl); (case hplain => rfl); go_big_quiet_op; (first | refine hK _ ?_ | refine ⟨_, fun _ _ => rfl, hK _ ?_⟩); clear hK K)
      ((with_reducible refine wpKinds_run (.int .i64 K1) ?hwant ?hkind ?hrun ?_); (case hwant => first | (simp [Region.wanted, yielded]; done) | rfl); (case hkind => rfl); (case hrun => intro W hW; simp [go_sem, BigFrame.eval_const, BigFrame.eval_global, BigFrame.eval_func, hM1b]); simp only [Act.put, List.setIfInBounds_toArray, List.set_cons_succ, List.set_cons_zero])
      ((with_reducible refine wpKinds_plain ?hwant ?hkind ?hplain (fun K hK => ?_)); (case hwant => first | (simp [Region.wanted, yielded]; done) | rfl); (case hkind => rfl); (case hplain => rfl); go_big_quiet_op; (first | refine hK _ ?_ | refine ⟨_, fun _ _ => rfl, hK _ ?_⟩); clear hK K)
      ((with_reducible refine wpKinds_plain ?hwant ?hkind ?hplain (fun K hK => ?_)); (case hwant => first | (simp [Region.wanted, yielded]; done) | rfl); (case hkind => rfl); (case hplain => rfl); go_big_quiet_op; (first | refine hK _ ?_ | refine ⟨_, fun _ _ => rfl, hK _ ?_⟩); clear hK K)
      refine wpKinds_farith (fun W m hW => below_drewN hW m) rfl rfl _ _ _ _ _ rfl rfl _ _ _ rfl rfl fc fx (fun r1 hr1 => ?_)
      simp only [Act.put, List.setIfInBounds_toArray, List.set_cons_succ, List.set_cons_zero]
      ((with_reducible refine wpKinds_plain ?hwant ?hkind ?hplain (fun K hK => ?_)); (case hwant => first | (simp [Region.wanted, yielded]; done) | rfl); (case hkind => rfl); (case hplain => rfl); go_big_quiet_op; (first | refine hK _ ?_ | refine ⟨_, fun _ _ => rfl, hK _ ?_⟩); clear hK K)
      ((with_reducible refine wpKinds_plain ?hwant ?hkind ?hplain (fun K hK => ?_)); (case hwant => first | (simp [Region.wanted, yielded]; done) | rfl); (case hkind => rfl); (case hplain => rfl); go_big_quiet_op; (first | refine hK _ ?_ | refine ⟨_, fun _ _ => rfl, hK _ ?_⟩); clear hK K)
      refine wpKinds_farith (fun W m hW => below_drewN hW m) rfl rfl _ _ _ _ _ rfl rfl _ _ _ rfl rfl fs fy (fun r2 hr2 => ?_)
      simp only [Act.put, List.setIfInBounds_toArray, List.set_cons_succ, List.set_cons_zero]
      refine wpKinds_farith (fun W m hW => below_drewN hW m) rfl rfl _ _ _ _ _ rfl rfl _ _ _ rfl rfl hr1 hr2 (fun r3 hr3 => ?_)
      simp only [Act.put, List.setIfInBounds_toArray, List.set_cons_succ, List.set_cons_zero]
      ((with_reducible refine wpKinds_run (.pointer (some ⟨g, K1, none⟩)) ?hwant ?hkind ?hrun ?_); (case hwant => first | (simp [Region.wanted, yielded]; done) | rfl); (case hkind => rfl); (case hrun => intro W hW; simp [go_sem, BigFrame.eval_const, BigFrame.eval_global, BigFrame.eval_func, hkn1]); simp only [Act.put, List.setIfInBounds_toArray, List.set_cons_succ, List.set_cons_zero])
      refine wpKinds_nil ?_
      intro w6 hC
      have om6 := HOM.out.kept (below_grew hC) (fun q hq => by cases hq)
      obtain ⟨hce6, hfr6, _⟩ := om6.cell hkn1
      obtain ⟨O7, G7⟩ := om6.stored hkn1 hr3.2
      have y1' := (World.cell?_of_block (a := ⟨mb, 1, none⟩) (G7.block mb (by have := hC.size; show mb < w6.heap.size; omega) (fun e => hne (Option.some.inj e)))).trans ((hC.cell (p := ⟨mb, 1, none⟩) lmb).trans y1)
      have y2' := (World.cell?_of_block (a := ⟨mb, 2, none⟩) (G7.block mb (by have := hC.size; show mb < w6.heap.size; omega) (fun e => hne (Option.some.inj e)))).trans ((hC.cell (p := ⟨mb, 2, none⟩) lmb).trans y2)
      have lmb' := Nat.lt_of_lt_of_le (Nat.lt_of_lt_of_le lmb hC.size) G7.size
      have lg' := Nat.lt_of_lt_of_le (Nat.lt_of_lt_of_le lg hC.size) G7.size
      have HOM7 := Lib.hid O7
      have HG7 := Lib.hid (grownBy_trans (grownBy_trans HG.out ⟨hC.os, hC.tape, hC.output, hC.size, fun q hq _ => hC.block q hq⟩) G7)
      clear O7 G7 om6 HOM HG hC y1 y2 lmb lg
      go_upto_region 6 with (fail)
      generalize w6.setCell ⟨g, K1, none⟩ (.float .f32 r3) = w0 at y1' y2' HOM7 HG7 lmb' lg' ⊢
      have y1 := y1'
      have y2 := y2'
      have lmb := lmb'
      have lg := lg'
      clear y1' y2' lmb' lg' hce6 hfr6 hr1 hr2
      (refine wp_region_kinds (fun w' => Below w0.heap.size w0 w') (fun i => if i = 14 then 1 else if i = 17 then 1 else if i = 18 then 1 else 0) 20 (below_drewN (Below.refl _ _) 1) (by kernel_rfl) (by kernel_rfl) (by kernel_rfl) ?_; simp only [List.take_succ_cons, List.take_zero, List.drop_succ_cons, List.drop_zero])
      ((with_reducible refine wpKinds_plain ?hwant ?hkind ?hplain (fun K hK => ?_)); (case hwant => first | (simp [Region.wanted, yielded]; done) | rfl); (case hkind => rfl); (case hplain => rfl); go_big_quiet_op; (first | refine hK _ ?_ | refine ⟨_, fun _ _ => rfl, hK _ ?_⟩); clear hK K)
      ((with_reducible refine wpKinds_run (.pointer (some ⟨mb, 0, none⟩)) ?hwant ?hkind ?hrun ?_); (case hwant => first | (simp [Region.wanted, yielded]; done) | rfl); (case hkind => rfl); (case hrun => intro W hW; simp [go_sem, BigFrame.eval_const, BigFrame.eval_global, BigFrame.eval_func]); simp only [Act.put, List.setIfInBounds_toArray, List.set_cons_succ, List.set_cons_zero])
      ((with_reducible refine wpKinds_run (.pointer (some ⟨mb, 2, none⟩)) ?hwant ?hkind ?hrun ?_); (case hwant => first | (simp [Region.wanted, yielded]; done) | rfl); (case hkind => rfl); (case hrun => intro W hW; simp [go_sem, BigFrame.eval_const, BigFrame.eval_global, BigFrame.eval_func]); simp only [Act.put, List.setIfInBounds_toArray, List.set_cons_succ, List.set_cons_zero])
      ((with_reducible refine wpKinds_run (.slice (some ⟨g, 0, none⟩) N d) ?hwant ?hkind ?hrun ?_); (case hwant => first | (simp [Region.wanted, yielded]; done) | rfl); (case hkind => rfl); (case hrun => intro W hW; have hcell := (hW.cell (p := _) (by assumption)).trans y2; simp [go_sem, BigFrame.eval_const, BigFrame.eval_global, BigFrame.eval_func, hcell]); simp only [Act.put, List.setIfInBounds_toArray, List.set_cons_succ, List.set_cons_zero])
      ((with_reducible refine wpKinds_plain ?hwant ?hkind ?hplain (fun K hK => ?_)); (case hwant => first | (simp [Region.wanted, yielded]; done) | rfl); (case hkind => rfl); (case hplain => rfl); go_big_quiet_op; (first | refine hK _ ?_ | refine ⟨_, fun _ _ => rfl, hK _ ?_⟩); clear hK K)
      ((with_reducible refine wpKinds_plain ?hwant ?hkind ?hplain (fun K hK => ?_)); (case hwant => first | (simp [Region.wanted, yielded]; done) | rfl); (case hkind => rfl); (case hplain => rfl); go_big_quiet_op; (first | refine hK _ ?_ | refine ⟨_, fun _ _ => rfl, hK _ ?_⟩); clear hK K)
      ((with_reducible refine wpKinds_run (.pointer (some ⟨mb, 0, none⟩)) ?hwant ?hkind ?hrun ?_); (case hwant => first | (simp [Region.wanted, yielded]; done) | rfl); (case hkind => rfl); (case hrun => intro W hW; simp [go_sem, BigFrame.eval_const, BigFrame.eval_global, BigFrame.eval_func]); simp only [Act.put, List.setIfInBounds_toArray, List.set_cons_succ, List.set_cons_zero])
      ((with_reducible refine wpKinds_run (.pointer (some ⟨mb, 1, none⟩)) ?hwant ?hkind ?hrun ?_); (case hwant => first | (simp [Region.wanted, yielded]; done) | rfl); (case hkind => rfl); (case hrun => intro W hW; simp [go_sem, BigFrame.eval_const, BigFrame.eval_global, BigFrame.eval_func]); simp only [Act.put, List.setIfInBounds_toArray, List.set_cons_succ, List.set_cons_zero])
      ((with_reducible refine wpKinds_run (.int .i64 r) ?hwant ?hkind ?hrun ?_); (case hwant => first | (simp [Region.wanted, yielded]; done) | rfl); (case hkind => rfl); (case hrun => intro W hW; have hcell := (hW.cell (p := _) (by assumption)).trans y1; simp [go_sem, BigFrame.eval_const, BigFrame.eval_global, BigFrame.eval_func, hcell]); simp only [Act.put, List.setIfInBounds_toArray, List.set_cons_succ, List.set_cons_zero])
      ((with_reducible refine wpKinds_run (.int .i64 L2) ?hwant ?hkind ?hrun ?_); (case hwant => first | (simp [Region.wanted, yielded]; done) | rfl); (case hkind => rfl); (case hrun => intro W hW; simp [go_sem, BigFrame.eval_const, BigFrame.eval_global, BigFrame.eval_func, hM2a]); simp only [Act.put, List.setIfInBounds_toArray, List.set_cons_succ, List.set_cons_zero])
      ((with_reducible refine wpKinds_plain ?hwant ?hkind ?hplain (fun K hK => ?_)); (case hwant => first | (simp [Region.wanted, yielded]; done) | rfl); (case hkind => rfl); (case hplain => rfl); go_big_quiet_op; (first | refine hK _ ?_ | refine ⟨_, fun _ _ => rfl, hK _ ?_⟩); clear hK K)
      ((with_reducible refine wpKinds_run (.int .i64 K2) ?hwant ?hkind ?hrun ?_); (case hwant => first | (simp [Region.wanted, yielded]; done) | rfl); (case hkind => rfl); (case hrun => intro W hW; simp [go_sem, BigFrame.eval_const, BigFrame.eval_global, BigFrame.eval_func, hM2b]); simp only [Act.put, List.setIfInBounds_toArray, List.set_cons_succ, List.set_cons_zero])
      ((with_reducible refine wpKinds_plain ?hwant ?hkind ?hplain (fun K hK => ?_)); (case hwant => first | (simp [Region.wanted, yielded]; done) | rfl); (case hkind => rfl); (case hplain => rfl); go_big_quiet_op; (first | refine hK _ ?_ | refine ⟨_, fun _ _ => rfl, hK _ ?_⟩); clear hK K)
      ((with_reducible refine wpKinds_plain ?hwant ?hkind ?hplain (fun K hK => ?_)); (case hwant => first | (simp [Region.wanted, yielded]; done) | rfl); (case hkind => rfl); (case hplain => rfl); go_big_quiet_op; (first | refine hK _ ?_ | refine ⟨_, fun _ _ => rfl, hK _ ?_⟩); clear hK K)
      refine wpKinds_farith (fun W m hW => below_drewN hW m) rfl rfl _ _ _ _ _ rfl rfl _ _ _ rfl rfl fs fx (fun r1 hr1 => ?_)
      simp only [Act.put, List.setIfInBounds_toArray, List.set_cons_succ, List.set_cons_zero]
      ((with_reducible refine wpKinds_plain ?hwant ?hkind ?hplain (fun K hK => ?_)); (case hwant => first | (simp [Region.wanted, yielded]; done) | rfl); (case hkind => rfl); (case hplain => rfl); go_big_quiet_op; (first | refine hK _ ?_ | refine ⟨_, fun _ _ => rfl, hK _ ?_⟩); clear hK K)
      ((with_reducible refine wpKinds_plain ?hwant ?hkind ?hplain (fun K hK => ?_)); (case hwant => first | (simp [Region.wanted, yielded]; done) | rfl); (case hkind => rfl); (case hplain => rfl); go_big_quiet_op; (first | refine hK _ ?_ | refine ⟨_, fun _ _ => rfl, hK _ ?_⟩); clear hK K)
      refine wpKinds_farith (fun W m hW => below_drewN hW m) rfl rfl _ _ _ _ _ rfl rfl _ _ _ rfl rfl fc fy (fun r2 hr2 => ?_)
      simp only [Act.put, List.setIfInBounds_toArray, List.set_cons_succ, List.set_cons_zero]
      refine wpKinds_farith (fun W m hW => below_drewN hW m) rfl rfl _ _ _ _ _ rfl rfl _ _ _ rfl rfl hr1 hr2 (fun r6 hr6 => ?_)
      simp only [Act.put, List.setIfInBounds_toArray, List.set_cons_succ, List.set_cons_zero]
      ((with_reducible refine wpKinds_run (.pointer (some ⟨g, K2, none⟩)) ?hwant ?hkind ?hrun ?_); (case hwant => first | (simp [Region.wanted, yielded]; done) | rfl); (case hkind => rfl); (case hrun => intro W hW; simp [go_sem, BigFrame.eval_const, BigFrame.eval_global, BigFrame.eval_func, hkn2]); simp only [Act.put, List.setIfInBounds_toArray, List.set_cons_succ, List.set_cons_zero])
      refine wpKinds_nil ?_
      intro w8 hC
      have om8 := HOM7.out.kept (below_grew hC) (fun q hq => by cases hq)
      obtain ⟨hce8, hfr8, _⟩ := om8.cell hkn2
      obtain ⟨O9, G9⟩ := om8.stored hkn2 hr6.2
      have HOM9 := Lib.hid O9
      have HG9 := Lib.hid (grownBy_trans (grownBy_trans HG7.out ⟨hC.os, hC.tape, hC.output, hC.size, fun q hq _ => hC.block q hq⟩) G9)
      have W9 := Lib.hid (HPUT.out r3 r6 hr3 hr6)
      clear O9 G9 om8 HOM7 HG7 hC y1 y2 lmb lg HPUT
      go_wp2_with fail
      go_roundw
      case rel => exact ⟨j + 1, _, by omega, by go_num, HOM9.out, W9.out, HG9.out⟩
      case measure => simp [intOf] <;> omega
    · obtain rfl : j = r := by omega
      have K1 := Lib.hid k1
      have V1 := Lib.hid v1
      have HO := Lib.hid ho
      obtain ⟨y0, y1, y2⟩ := XM
      clear k1 v1 ho
      go_wp2
      go_end0
      exact ⟨rfl, X, K1.out, V1.out, HO.out⟩
set_option maxRecDepth 20000 in
set_option maxHeartbeats 4000000 in
theorem l04Columns_any (mb r N x y g d B U cc ss : Nat) {C S : Option Nat} (fc : FV .f32 cc C) (fs : FV .f32 ss S) (Z : Nat → Nat) (w : World) (h1 : 1 ≤ r) (h12 : r ≤ 12) (hn : N = r * r) (hxy : x < y) (hy : y < r) (lb : mb < w.heap.size) (hne : mb ≠ g)
    (hb : Box w mb r r (some ⟨g, 0, none⟩) N d) (o : Own 33 .f32 B U w (some ⟨g, 0, none⟩) N d Z) :
    Calls Try.prog 81 #[.pointer (some ⟨mb, 0, none⟩), .int .i64 x, .int .i64 y, .float .f32 cc, .float .f32 ss] w fun e w' => e = .returned (.tuple #[]) ∧ ∃ X, Own 33 .f32 B U w' (some ⟨g, 0, none⟩) N d X ∧ (∀ t, t < N → vals X t = ctS C (fneg .f32 S) r x y (vals Z) r t) ∧ w.grownBy w' (some g) := by
  have HN := Lib.hid hn
  have h144 : N ≤ 144 := by have := sides_le h12 h12; omega
  have hx : x < r := by omega
  have hne' : g ≠ mb := fun e => hne e.symm
  have isS := Lib.hid (isW.of fs)
  have hpos : 0 < N := by rw [hn]; exact Nat.mul_pos h1 h1
  have gg := (o.cell hpos).2.2.2.1
  have gl : g < w.heap.size := by obtain ⟨_, _, _, _, q, _⟩ := o.cell hpos; omega
  clear hn gg
  obtain ⟨x0, x1, x2⟩ := hb
  have hb : Box w mb r r (some ⟨g, 0, none⟩) N d := ⟨x0, x1, x2⟩
  go_enter Try.func81, Try.ntmps81
  go_wp2
  go_loopw [10] (fun i wr => ∃ (j : Nat) (X : Nat → Nat), j ≤ r ∧ i = .int .i64 j ∧ Own 33 .f32 B U wr (some ⟨g, 0, none⟩) N d X ∧ (∀ t, t < N → vals X t = ctS C (fneg .f32 S) r x y (vals Z) j t) ∧ w.grownBy wr (some g)) (fun i _ => r - (intOf i).toNat)
  case atStart => exact ⟨0, Z, Nat.zero_le _, rfl, o, fun t _ => ctS_zero.symm, World.grownBy.refl _ _⟩
  case round =>
    obtain ⟨j, X, hj, rfl, k1, v1, ho⟩ := hrel
    clear o x0 x1 x2
    have XM := hb.grown ho lb (fun q hq => by cases hq; exact hne)
    have sw := ho.size
    by_cases hlt : j < r
    · have hp1 : j * r + x < N := by rw [HN.out]; exact place_lt hlt hx
      have hp2 : j * r + y < N := by rw [HN.out]; exact place_lt hlt hy
      obtain ⟨_, _, _, _, _, wf1⟩ := k1.cell hp1
      obtain ⟨_, _, _, _, _, wf2⟩ := k1.cell hp2
      have fx : FV .f32 (X (j * r + x)) (vals Z (j * r + x)) := ⟨(v1 _ hp1).trans (ctS_next hx), wf1⟩
      have fy : FV .f32 (X (j * r + y)) (vals Z (j * r + y)) := ⟨(v1 _ hp2).trans (ctS_next hy), wf2⟩
      have at1 := Lib.hid (specAt_any mb g 0 r r N d j x X wr h12 h12 HN.out XM k1.fs hlt hx)
      have at2 := Lib.hid (fun m : Nat => specAt_any mb g 0 r r N d j y X (wr.drewN m) h12 h12 HN.out XM.drewN (FS.drewN k1.fs) hlt hy)
      obtain ⟨K1, hK1⟩ : ∃ K, K = j * r + x := ⟨_, rfl⟩
      obtain ⟨K2, hK2⟩ : ∃ K, K = j * r + y := ⟨_, rfl⟩
      obtain ⟨L1, hL1⟩ : ∃ L, L = j * r := ⟨_, rfl⟩
      obtain ⟨L2, hL2⟩ : ∃ L, L = j * r := ⟨_, rfl⟩
      have hM1a : IntKind.i64.wrap ((j : Int) * (r : Int)) = (L1 : Int) := by rw [← Int.natCast_mul, ← hL1]; exact IntWalk.i64_in _ (by omega)
      have hM1b : IntKind.i64.wrap ((L1 : Int) + (x : Int)) = (K1 : Int) := by rw [hK1, ← hL1, ← Int.natCast_add]; exact IntWalk.i64_in _ (by omega)
      have hM2a : IntKind.i64.wrap ((j : Int) * (r : Int)) = (L2 : Int) := by rw [← Int.natCast_mul, ← hL2]; exact IntWalk.i64_in _ (by omega)
      have hM2b : IntKind.i64.wrap ((L2 : Int) + (y : Int)) = (K2 : Int) := by rw [hK2, ← hL2, ← Int.natCast_add]; exact IntWalk.i64_in _ (by omega)
      obtain ⟨xx, hxx⟩ : ∃ v, v = X (j * r + x) := ⟨_, rfl⟩
      obtain ⟨yy, hyy⟩ : ∃ v, v = X (j * r + y) := ⟨_, rfl⟩
      rw [← hxx] at fx at1
      rw [← hyy] at fy at2
      have HPUT : Hid (∀ u v, FV .f32 u (fop .sub .f32 (fop .mul .f32 C (vals Z (j * r + x))) (fop .mul .f32 S (vals Z (j * r + y)))) → FV .f32 v (fop .add .f32 (fop .mul .f32 S (vals Z (j * r + x))) (fop .mul .f32 C (vals Z (j * r + y)))) →
          ∀ t, t < N → vals (fun t => if t = K2 then v else if t = K1 then u else X t) t = ctS C (fneg .f32 S) r x y (vals Z) (j + 1) t) := Lib.hid fun u v hu hv => by
        rw [hK1, hK2]
        exact ctS_put hxy hy v1 (by unfold tnP; rw [turn_x isS.out]; exact hu) (by unfold tnM; rw [turn_y isS.out]; exact hv)
      have hkn1 : K1 < N := by rw [hK1]; exact hp1
      have hkn2 : K2 < N := by rw [hK2]; exact hp2
      have HK1 := Lib.hid k1
      have HO := Lib.hid ho
      obtain ⟨V1, hV1⟩ : ∃ V, V = vals Z (j * r + x) := ⟨_, rfl⟩
      obtain ⟨V2, hV2⟩ : ∃ V, V = vals Z (j * r + y) := ⟨_, rfl⟩
      rw [← hV1, ← hV2] at HPUT
      rw [← hV1] at fx
      rw [← hV2] at fy
      have lmb : mb < wr.heap.size := by omega
      have lg : g < wr.heap.size := by omega
      clear k1 v1 ho hxx hyy wf1 wf2 hp1 hp2 hK1 hK2 hL1 hL2 hV1 hV2
      obtain ⟨y0, y1, y2⟩ := XM
      go_wp2_with fail
      go_at_call 46
      refine at1.out.mono ?_
      rintro e wa ⟨rfl, ma, rfl⟩
      go_wp2_with fail
      go_at_call 46
      refine (at2.out ma).mono ?_
      rintro e wb ⟨rfl, mb2, rfl⟩
      have y1' : (wr.drewN (ma + mb2)).cell? ⟨mb, 1, none⟩ = some (.int .i64 r) := y1
      have y2' : (wr.drewN (ma + mb2)).cell? ⟨mb, 2, none⟩ = some (.slice (some ⟨g, 0, none⟩) N d) := y2
      have HOM : Hid (Own 33 .f32 B U (wr.drewN (ma + mb2)) (some ⟨g, 0, none⟩) N d X) := HK1
      have HG : Hid (w.grownBy (wr.drewN (ma + mb2)) (some g)) := Lib.hid ⟨HO.out.os, HO.out.tape, HO.out.output, HO.out.size, HO.out.block⟩
      have lmb' : mb < (wr.drewN (ma + mb2)).heap.size := lmb
      have lg' : g < (wr.drewN (ma + mb2)).heap.size := lg
      clear y0 y1 y2 at1 at2 HK1 HO lmb lg
      go_upto_region 5 with (fail)
      generalize wr.drewN (ma + mb2) = w0 at y1' y2' HOM HG lmb' lg' ⊢
      have y1 := y1'
      have y2 := y2'
      have lmb := lmb'
      have lg := lg'
      clear y1' y2' lmb' lg'
      (refine wp_region_kinds (fun w' => Below w0.heap.size w0 w') (fun i => if i = 14 then 1 else if i = 17 then 1 else if i = 18 then 1 else 0) 20 (below_drewN (Below.refl _ _) 1) (by kernel_rfl) (by kernel_rfl) (by kernel_rfl) ?_; simp only [List.take_succ_cons, List.take_zero, List.drop_succ_cons, List.drop_zero])
      ((with_reducible refine wpKinds_plain ?hwant ?hkind ?hplain (fun K hK => ?_)); (case hwant => first | (simp [Region.wanted, yielded]; done) | rfl); (case hkind => rfl); (case hplain => rfl); go_big_quiet_op; (first | refine hK _ ?_ | refine ⟨_, fun _ _ => rfl, hK _ ?_⟩); clear hK K)
      ((with_reducible refine wpKinds_run (.pointer (some ⟨mb, 0, none⟩)) ?hwant ?hkind ?hrun ?_); (case hwant => first | (simp [Region.wanted, yielded]; done) | rfl); (case hkind => rfl); (case hrun => intro W hW; simp [go_sem, BigFrame.eval_const, BigFrame.eval_global, BigFrame.eval_func]); simp only [Act.put, List.setIfInBounds_toArray, List.set_cons_succ, List.set_cons_zero])
      ((with_reducible refine wpKinds_run (.pointer (some ⟨mb, 2, none⟩)) ?hwant ?hkind ?hrun ?_); (case hwant => first | (simp [Region.wanted, yielded]; done) | rfl); (case hkind => rfl); (case hrun => intro W hW; simp [go_sem, BigFrame.eval_const, BigFrame.eval_global, BigFrame.eval_func]); simp only [Act.put, List.setIfInBounds_toArray, List.set_cons_succ, List.set_cons_zero])
      ((with_reducible refine wpKinds_run (.slice (some ⟨g, 0, none⟩) N d) ?hwant ?hkind ?hrun ?_); (case hwant => first | (simp [Region.wanted, yielded]; done) | rfl); (case hkind => rfl); (case hrun => intro W hW; have hcell := (hW.cell (p := _) (by assumption)).trans y2; simp [go_sem, BigFrame.eval_const, BigFrame.eval_global, BigFrame.eval_func, hcell]); simp only [Act.put, List.setIfInBounds_toArray, List.set_cons_succ, List.set_cons_zero])
      ((with_reducible refine wpKinds_plain ?hwant ?hkind ?hplain (fun K hK => ?_)); (case hwant => first | (simp [Region.wanted, yielded]; done) | rfl); (case hkind => rfl); (case hplain => rfl); go_big_quiet_op; (first | refine hK _ ?_ | refine ⟨_, fun _ _ => rfl, hK _ ?_⟩); clear hK K)
      ((with_reducible refine wpKinds_plain ?hwant ?hkind ?hplain (fun K hK => ?_)); (case hwant => first | (simp [Region.wanted, yielded]; done) | rfl); (case hkind => rfl); (case hplain => rfl); go_big_quiet_op; (first | refine hK _ ?_ | refine ⟨_, fun _ _ => rfl, hK _ ?_⟩); clear hK K)
      ((with_reducible refine wpKinds_run (.pointer (some ⟨mb, 0, none⟩)) ?hwant ?hkind ?hrun ?_); (case hwant => first | (simp [Region.wanted, yielded]; done) | rfl); (case hkind => rfl); (case hrun => intro W hW; simp [go_sem, BigFrame.eval_const, BigFrame.eval_global, BigFrame.eval_func]); simp only [Act.put, List.setIfInBounds_toArray, List.set_cons_succ, List.set_cons_zero])
      ((with_reducible refine wpKinds_run (.pointer (some ⟨mb, 1, none⟩)) ?hwant ?hkind ?hrun ?_); (case hwant => first | (simp [Region.wanted, yielded]; done) | rfl); (case hkind => rfl); (case hrun => intro W hW; simp [go_sem, BigFrame.eval_const, BigFrame.eval_global, BigFrame.eval_func]); simp only [Act.put, List.setIfInBounds_toArray, List.set_cons_succ, List.set_cons_zero])
      ((with_reducible refine wpKinds_run (.int .i64 r) ?hwant ?hkind ?hrun ?_); (case hwant => first | (simp [Region.wanted, yielded]; done) | rfl); (case hkind => rfl); (case hrun => intro W hW; have hcell := (hW.cell (p := _) (by assumption)).trans y1; simp [go_sem, BigFrame.eval_const, BigFrame.eval_global, BigFrame.eval_func, hcell]); simp only [Act.put, List.setIfInBounds_toArray, List.set_cons_succ, List.set_cons_zero])
      ((with_reducible refine wpKinds_run (.int .i64 L1) ?hwant ?hkind ?hrun ?_); (case hwant => first | (simp [Region.wanted, yielded]; done) | rfl); (case hkind => rfl); (case hrun => intro W hW; simp [go_sem, BigFrame.eval_const, BigFrame.eval_global, BigFrame.eval_func, hM1a]); simp only [Act.put, List.setIfInBounds_toArray, List.set_cons_succ, List.set_cons_zero])
      ((with_reducible refine wpKinds_plain ?hwant ?hkind ?hplain (fun K hK => ?_)); (case hwant => first | (simp [Region.wanted, yielded]; done) | rfl); (case hkind => rfl); (case hplain => rfl); go_big_quiet_op; (first | refine hK _ ?_ | refine ⟨_, fun _ _ => rfl, hK _ ?_⟩); clear hK K)
      ((with_reducible refine wpKinds_run (.int .i64 K1) ?hwant ?hkind ?hrun ?_); (case hwant => first | (simp [Region.wanted, yielded]; done) | rfl); (case hkind => rfl); (case hrun => intro W hW; simp [go_sem, BigFrame.eval_const, BigFrame.eval_global, BigFrame.eval_func, hM1b]); simp only [Act.put, List.setIfInBounds_toArray, List.set_cons_succ, List.set_cons_zero])
      ((with_reducible refine wpKinds_plain ?hwant ?hkind ?hplain (fun K hK => ?_)); (case hwant => first | (simp [Region.wanted, yielded]; done) | rfl); (case hkind => rfl); (case hplain => rfl); go_big_quiet_op; (first | refine hK _ ?_ | refine ⟨_, fun _ _ => rfl, hK _ ?_⟩); clear hK K)
      ((with_reducible refine wpKinds_plain ?hwant ?hkind ?hplain (fun K hK => ?_)); (case hwant => first | (simp [Region.wanted, yielded]; done) | rfl); (case hkind => rfl); (case hplain => rfl); go_big_quiet_op; (first | refine hK _ ?_ | refine ⟨_, fun _ _ => rfl, hK _ ?_⟩); clear hK K)
      refine wpKinds_farith (fun W m hW => below_drewN hW m) rfl rfl _ _ _ _ _ rfl rfl _ _ _ rfl rfl fc fx (fun r1 hr1 => ?_)
      simp only [Act.put, List.setIfInBounds_toArray, List.set_cons_succ, List.set_cons_zero]
      ((with_reducible refine wpKinds_plain ?hwant ?hkind ?hplain (fun K hK => ?_)); (case hwant => first | (simp [Region.wanted, yielded]; done) | rfl); (case hkind => rfl); (case hplain => rfl); go_big_quiet_op; (first | refine hK _ ?_ | refine ⟨_, fun _ _ => rfl, hK _ ?_⟩); clear hK K)
      ((with_reducible refine wpKinds_plain ?hwant ?hkind ?hplain (fun K hK => ?_)); (case hwant => first | (simp [Region.wanted, yielded]; done) | rfl); (case hkind => rfl); (case hplain => rfl); go_big_quiet_op; (first | refine hK _ ?_ | refine ⟨_, fun _ _ => rfl, hK _ ?_⟩); clear hK K)
      refine wpKinds_farith (fun W m hW => below_drewN hW m) rfl rfl _ _ _ _ _ rfl rfl _ _ _ rfl rfl fs fy (fun r2 hr2 => ?_)
      simp only [Act.put, List.setIfInBounds_toArray, List.set_cons_succ, List.set_cons_zero]
      refine wpKinds_farith (fun W m hW => below_drewN hW m) rfl rfl _ _ _ _ _ rfl rfl _ _ _ rfl rfl hr1 hr2 (fun r3 hr3 => ?_)
      simp only [Act.put, List.setIfInBounds_toArray, List.set_cons_succ, List.set_cons_zero]
      ((with_reducible refine wpKinds_run (.pointer (some ⟨g, K1, none⟩)) ?hwant ?hkind ?hrun ?_); (case hwant => first | (simp [Region.wanted, yielded]; done) | rfl); (case hkind => rfl); (case hrun => intro W hW; simp [go_sem, BigFrame.eval_const, BigFrame.eval_global, BigFrame.eval_func, hkn1]); simp only [Act.put, List.setIfInBounds_toArray, List.set_cons_succ, List.set_cons_zero])
      refine wpKinds_nil ?_
      intro w6 hC
      have om6 := HOM.out.kept (below_grew hC) (fun q hq => by cases hq)
      obtain ⟨hce6, hfr6, _⟩ := om6.cell hkn1
      obtain ⟨O7, G7⟩ := om6.stored hkn1 hr3.2
      have y1' := (World.cell?_of_block (a := ⟨mb, 1, none⟩) (G7.block mb (by have := hC.size; show mb < w6.heap.size; omega) (fun e => hne (Option.some.inj e)))).trans ((hC.cell (p := ⟨mb, 1, none⟩) lmb).trans y1)
      have y2' := (World.cell?_of_block (a := ⟨mb, 2, none⟩) (G7.block mb (by have := hC.size; show mb < w6.heap.size; omega) (fun e => hne (Option.some.inj e)))).trans ((hC.cell (p := ⟨mb, 2, none⟩) lmb).trans y2)
      have lmb' := Nat.lt_of_lt_of_le (Nat.lt_of_lt_of_le lmb hC.size) G7.size
      have lg' := Nat.lt_of_lt_of_le (Nat.lt_of_lt_of_le lg hC.size) G7.size
      have HOM7 := Lib.hid O7
      have HG7 := Lib.hid (grownBy_trans (grownBy_trans HG.out ⟨hC.os, hC.tape, hC.output, hC.size, fun q hq _ => hC.block q hq⟩) G7)
      clear O7 G7 om6 HOM HG hC y1 y2 lmb lg
      go_upto_region 6 with (fail)
      generalize w6.setCell ⟨g, K1, none⟩ (.float .f32 r3) = w0 at y1' y2' HOM7 HG7 lmb' lg' ⊢
      have y1 := y1'
      have y2 := y2'
      have lmb := lmb'
      have lg := lg'
      clear y1' y2' lmb' lg' hce6 hfr6 hr1 hr2
      (refine wp_region_kinds (fun w' => Below w0.heap.size w0 w') (fun i => if i = 14 then 1 else if i = 17 then 1 else if i = 18 then 1 else 0) 20 (below_drewN (Below.refl _ _) 1) (by kernel_rfl) (by kernel_rfl) (by kernel_rfl) ?_; simp only [List.take_succ_cons, List.take_zero, List.drop_succ_cons, List.drop_zero])
      ((with_reducible refine wpKinds_plain ?hwant ?hkind ?hplain (fun K hK => ?_)); (case hwant => first | (simp [Region.wanted, yielded]; done) | rfl); (case hkind => rfl); (case hplain => rfl); go_big_quiet_op; (first | refine hK _ ?_ | refine ⟨_, fun _ _ => rfl, hK _ ?_⟩); clear hK K)
      ((with_reducible refine wpKinds_run (.pointer (some ⟨mb, 0, none⟩)) ?hwant ?hkind ?hrun ?_); (case hwant => first | (simp [Region.wanted, yielded]; done) | rfl); (case hkind => rfl); (case hrun => intro W hW; simp [go_sem, BigFrame.eval_const, BigFrame.eval_global, BigFrame.eval_func]); simp only [Act.put, List.setIfInBounds_toArray, List.set_cons_succ, List.set_cons_zero])
      ((with_reducible refine wpKinds_run (.pointer (some ⟨mb, 2, none⟩)) ?hwant ?hkind ?hrun ?_); (case hwant => first | (simp [Region.wanted, yielded]; done) | rfl); (case hkind => rfl); (case hrun => intro W hW; simp [go_sem, BigFrame.eval_const, BigFrame.eval_global, BigFrame.eval_func]); simp only [Act.put, List.setIfInBounds_toArray, List.set_cons_succ, List.set_cons_zero])
      ((with_reducible refine wpKinds_run (.slice (some ⟨g, 0, none⟩) N d) ?hwant ?hkind ?hrun ?_); (case hwant => first | (simp [Region.wanted, yielded]; done) | rfl); (case hkind => rfl); (case hrun => intro W hW; have hcell := (hW.cell (p := _) (by assumption)).trans y2; simp [go_sem, BigFrame.eval_const, BigFrame.eval_global, BigFrame.eval_func, hcell]); simp only [Act.put, List.setIfInBounds_toArray, List.set_cons_succ, List.set_cons_zero])
      ((with_reducible refine wpKinds_plain ?hwant ?hkind ?hplain (fun K hK => ?_)); (case hwant => first | (simp [Region.wanted, yielded]; done) | rfl); (case hkind => rfl); (case hplain => rfl); go_big_quiet_op; (first | refine hK _ ?_ | refine ⟨_, fun _ _ => rfl, hK _ ?_⟩); clear hK K)
      ((with_reducible refine wpKinds_plain ?hwant ?hkind ?hplain (fun K hK => ?_)); (case hwant => first | (simp [Region.wanted, yielded]; done) | rfl); (case hkind => rfl); (case hplain => rfl); go_big_quiet_op; (first | refine hK _ ?_ | refine ⟨_, fun _ _ => rfl, hK _ ?_⟩); clear hK K)
      ((with_reducible refine wpKinds_run (.pointer (some ⟨mb, 0, none⟩)) ?hwant ?hkind ?hrun ?_); (case hwant => first | (simp [Region.wanted, yielded]; done) | rfl); (case hkind => rfl); (case hrun => intro W hW; simp [go_sem, BigFrame.eval_const, BigFrame.eval_global, BigFrame.eval_func]); simp only [Act.put, List.setIfInBounds_toArray, List.set_cons_succ, List.set_cons_zero])
      ((with_reducible refine wpKinds_run (.pointer (some ⟨mb, 1, none⟩)) ?hwant ?hkind ?hrun ?_); (case hwant => first | (simp [Region.wanted, yielded]; done) | rfl); (case hkind => rfl); (case hrun => intro W hW; simp [go_sem, BigFrame.eval_const, BigFrame.eval_global, BigFrame.eval_func]); simp only [Act.put, List.setIfInBounds_toArray, List.set_cons_succ, List.set_cons_zero])
      ((with_reducible refine wpKinds_run (.int .i64 r) ?hwant ?hkind ?hrun ?_); (case hwant => first | (simp [Region.wanted, yielded]; done) | rfl); (case hkind => rfl); (case hrun => intro W hW; have hcell := (hW.cell (p := _) (by assumption)).trans y1; simp [go_sem, BigFrame.eval_const, BigFrame.eval_global, BigFrame.eval_func, hcell]); simp only [Act.put, List.setIfInBounds_toArray, List.set_cons_succ, List.set_cons_zero])
      ((with_reducible refine wpKinds_run (.int .i64 L2) ?hwant ?hkind ?hrun ?_); (case hwant => first | (simp [Region.wanted, yielded]; done) | rfl); (case hkind => rfl); (case hrun => intro W hW; simp [go_sem, BigFrame.eval_const, BigFrame.eval_global, BigFrame.eval_func, hM2a]); simp only [Act.put, List.setIfInBounds_toArray, List.set_cons_succ, List.set_cons_zero])
      ((with_reducible refine wpKinds_plain ?hwant ?hkind ?hplain (fun K hK => ?_)); (case hwant => first | (simp [Region.wanted, yielded]; done) | rfl); (case hkind => rfl); (case hplain => rfl); go_big_quiet_op; (first | refine hK _ ?_ | refine ⟨_, fun _ _ => rfl, hK _ ?_⟩); clear hK K)
      ((with_reducible refine wpKinds_run (.int .i64 K2) ?hwant ?hkind ?hrun ?_); (case hwant => first | (simp [Region.wanted, yielded]; done) | rfl); (case hkind => rfl); (case hrun => intro W hW; simp [go_sem, BigFrame.eval_const, BigFrame.eval_global, BigFrame.eval_func, hM2b]); simp only [Act.put, List.setIfInBounds_toArray, List.set_cons_succ, List.set_cons_zero])
      ((with_reducible refine wpKinds_plain ?hwant ?hkind ?hplain (fun K hK => ?_)); (case hwant => first | (simp [Region.wanted, yielded]; done) | rfl); (case hkind => rfl); (case hplain => rfl); go_big_quiet_op; (first | refine hK _ ?_ | refine ⟨_, fun _ _ => rfl, hK _ ?_⟩); clear hK K)
      ((with_reducible refine wpKinds_plain ?hwant ?hkind ?hplain (fun K hK => ?_)); (case hwant => first | (simp [Region.wanted, yielded]; done) | rfl); (case hkind => rfl); (case hplain => rfl); go_big_quiet_op; (first | refine hK _ ?_ | refine ⟨_, fun _ _ => rfl, hK _ ?_⟩); clear hK K)
      refine wpKinds_farith (fun W m hW => below_drewN hW m) rfl rfl _ _ _ _ _ rfl rfl _ _ _ rfl rfl fs fx (fun r1 hr1 => ?_)
      simp only [Act.put, List.setIfInBounds_toArray, List.set_cons_succ, List.set_cons_zero]
      ((with_reducible refine wpKinds_plain ?hwant ?hkind ?hplain (fun K hK => ?_)); (case hwant => first | (simp [Region.wanted, yielded]; done) | rfl); (case hkind => rfl); (case hplain => rfl); go_big_quiet_op; (first | refine hK _ ?_ | refine ⟨_, fun _ _ => rfl, hK _ ?_⟩); clear hK K)
      ((with_reducible refine wpKinds_plain ?hwant ?hkind ?hplain (fun K hK => ?_)); (case hwant => first | (simp [Region.wanted, yielded]; done) | rfl); (case hkind => rfl); (case hplain => rfl); go_big_quiet_op; (first | refine hK _ ?_ | refine ⟨_, fun _ _ => rfl, hK _ ?_⟩); clear hK K)
      refine wpKinds_farith (fun W m hW => below_drewN hW m) rfl rfl _ _ _ _ _ rfl rfl _ _ _ rfl rfl fc fy (fun r2 hr2 => ?_)
      simp only [Act.put, List.setIfInBounds_toArray, List.set_cons_succ, List.set_cons_zero]
      refine wpKinds_farith (fun W m hW => below_drewN hW m) rfl rfl _ _ _ _ _ rfl rfl _ _ _ rfl rfl hr1 hr2 (fun r6 hr6 => ?_)
      simp only [Act.put, List.setIfInBounds_toArray, List.set_cons_succ, List.set_cons_zero]
      ((with_reducible refine wpKinds_run (.pointer (some ⟨g, K2, none⟩)) ?hwant ?hkind ?hrun ?_); (case hwant => first | (simp [Region.wanted, yielded]; done) | rfl); (case hkind => rfl); (case hrun => intro W hW; simp [go_sem, BigFrame.eval_const, BigFrame.eval_global, BigFrame.eval_func, hkn2]); simp only [Act.put, List.setIfInBounds_toArray, List.set_cons_succ, List.set_cons_zero])
      refine wpKinds_nil ?_
      intro w8 hC
      have om8 := HOM7.out.kept (below_grew hC) (fun q hq => by cases hq)
      obtain ⟨hce8, hfr8, _⟩ := om8.cell hkn2
      obtain ⟨O9, G9⟩ := om8.stored hkn2 hr6.2
      have HOM9 := Lib.hid O9
      have HG9 := Lib.hid (grownBy_trans (grownBy_trans HG7.out ⟨hC.os, hC.tape, hC.output, hC.size, fun q hq _ => hC.block q hq⟩) G9)
      have W9 := Lib.hid (HPUT.out r3 r6 hr3 hr6)
      clear O9 G9 om8 HOM7 HG7 hC y1 y2 lmb lg HPUT
      go_wp2_with fail
      go_roundw
      case rel => exact ⟨j + 1, _, by omega, by go_num, HOM9.out, W9.out, HG9.out⟩
      case measure => simp [intOf] <;> omega
    · obtain rfl : j = r := by omega
      have K1 := Lib.hid k1
      have V1 := Lib.hid v1
      have HO := Lib.hid ho
      obtain ⟨y0, y1, y2⟩ := XM
      clear k1 v1 ho
      go_wp2
      go_end0
      exact ⟨rfl, X, K1.out, V1.out, HO.out⟩
set_option maxRecDepth 20000 in
set_option maxHeartbeats 4000000 in
theorem l04Turned_any (mb r N x y g d B U cc ss : Nat) {C S : Option Nat} (fc : FV .f32 cc C) (fs : FV .f32 ss S) (Z : Nat → Nat) (w : World) (h1 : 1 ≤ r) (h12 : r ≤ 12) (hn : N = r * r) (hxy : x < y) (hy : y < r) (lb : mb < w.heap.size) (hne : mb ≠ g)
    (hb : Box w mb r r (some ⟨g, 0, none⟩) N d) (o : Own 33 .f32 B U w (some ⟨g, 0, none⟩) N d Z) :
    Calls Try.prog 57 #[.pointer (some ⟨mb, 0, none⟩), .int .i64 x, .int .i64 y, .float .f32 cc, .float .f32 ss] w fun e w' => e = .returned (.tuple #[]) ∧ ∃ X, Own 33 .f32 B U w' (some ⟨g, 0, none⟩) N d X ∧ (∀ t, t < N → vals X t = tpV C (fneg .f32 S) r x y (vals Z) t) ∧ w.grownBy w' (some g) := by
  have HN := Lib.hid hn
  have h144 : N ≤ 144 := by have := sides_le h12 h12; omega
  have hx : x < r := by omega
  have hpos : 0 < N := by rw [hn]; exact Nat.mul_pos h1 h1
  have c0 : cn .f32 0 = some 0 := by kernel_rfl
  clear hn
  go_enter Try.func57, Try.ntmps57
  go_wp2_with fail
  go_at_call 80
  refine (l04Rows_any mb r N x y g d B U cc ss fc fs Z _ h1 h12 HN.out hxy hy lb hne hb o).mono ?_
  rintro e w1 ⟨rfl, X1, o1, v1, g1⟩
  have hb1 := hb.grown g1 lb (fun q hq => by cases hq; exact hne)
  have lb1 : mb < w1.heap.size := Nat.lt_of_lt_of_le lb g1.size
  have V1 := Lib.hid v1
  have G1 := Lib.hid g1
  clear hb o v1 g1
  go_wp2_with fail
  go_at_call 81
  refine (l04Columns_any mb r N x y g d B U cc ss fc fs X1 _ h1 h12 HN.out hxy hy lb1 hne hb1 o1).mono ?_
  rintro e w2 ⟨rfl, X2, o2, v2, g2⟩
  obtain ⟨_, y1', y2'⟩ := hb1.grown g2 lb1 (fun q hq => by cases hq; exact hne)
  have lmb' : mb < w2.heap.size := Nat.lt_of_lt_of_le lb1 g2.size
  have V2 := Lib.hid v2
  have HG := Lib.hid (grownBy_trans G1.out g2)
  have HOM := Lib.hid o2
  have lg' : g < w2.heap.size := by obtain ⟨_, _, _, _, q, _⟩ := o2.cell hpos; obtain ⟨_, _, _, q1, _⟩ := o2.cell hpos; omega
  clear hb1 o1 v2 g2 o2 G1 lb lb1
  obtain ⟨K1, hK1⟩ : ∃ K, K = x * r + y := ⟨_, rfl⟩
  obtain ⟨K2, hK2⟩ : ∃ K, K = y * r + x := ⟨_, rfl⟩
  obtain ⟨L1, hL1⟩ : ∃ L, L = x * r := ⟨_, rfl⟩
  obtain ⟨L2, hL2⟩ : ∃ L, L = y * r := ⟨_, rfl⟩
  have hkn1 : K1 < N := by rw [hK1, HN.out]; exact place_lt hx hy
  have hkn2 : K2 < N := by rw [hK2, HN.out]; exact place_lt hy hx
  have hM1a : IntKind.i64.wrap ((x : Int) * (r : Int)) = (L1 : Int) := by rw [← Int.natCast_mul, ← hL1]; exact IntWalk.i64_in _ (by omega)
  have hM1b : IntKind.i64.wrap ((L1 : Int) + (y : Int)) = (K1 : Int) := by rw [hK1, ← hL1, ← Int.natCast_add]; exact IntWalk.i64_in _ (by omega)
  have hM2a : IntKind.i64.wrap ((y : Int) * (r : Int)) = (L2 : Int) := by rw [← Int.natCast_mul, ← hL2]; exact IntWalk.i64_in _ (by omega)
  have hM2b : IntKind.i64.wrap ((L2 : Int) + (x : Int)) = (K2 : Int) := by rw [hK2, ← hL2, ← Int.natCast_add]; exact IntWalk.i64_in _ (by omega)
  have HE : Hid (∀ t, t < N → vals (fun t => if t = K2 then 0 else if t = K1 then 0 else X2 t) t = tpV C (fneg .f32 S) r x y (vals Z) t) := Lib.hid fun t ht => by
    show cn .f32 (if t = K2 then 0 else if t = K1 then 0 else X2 t) = _
    unfold tpV
    rw [← hK1, ← hK2]
    by_cases e2 : t = K2
    · rw [if_pos e2, if_pos (.inr e2)]; exact c0
    · rw [if_neg e2]
      by_cases e1 : t = K1
      · rw [if_pos e1, if_pos (.inl e1)]; exact c0
      · rw [if_neg e1, if_neg (fun q => q.elim e1 e2)]
        exact (V2.out t ht).trans (ctS_congr HN.out hx hy V1.out t ht)
  clear hK1 hK2 hL1 hL2 V1 V2 c0
  go_upto_region 2 with (fail)
  generalize w2 = w0 at y1' y2' HOM HG lmb' lg' ⊢
  have y1 := y1'
  have y2 := y2'
  have lmb := lmb'
  have lg := lg'
  clear y1' y2' lmb' lg'
  (refine wp_region_kinds (fun w' => Below w0.heap.size w0 w') (fun _ => 0) 13 (below_drewN (Below.refl _ _) 1) (by kernel_rfl) (by kernel_rfl) (by kernel_rfl) ?_; simp only [List.take_succ_cons, List.take_zero, List.drop_succ_cons, List.drop_zero])
  ((with_reducible refine wpKinds_plain ?hwant ?hkind ?hplain (fun K hK => ?_)); (case hwant => first | (simp [Region.wanted, yielded]; done) | rfl); (case hkind => rfl); (case hplain => rfl); go_big_quiet_op; (first | refine hK _ ?_ | refine ⟨_, fun _ _ => rfl, hK _ ?_⟩); clear hK K)
  ((with_reducible refine wpKinds_run (.pointer (some ⟨mb, 0, none⟩)) ?hwant ?hkind ?hrun ?_); (case hwant => first | (simp [Region.wanted, yielded]; done) | rfl); (case hkind => rfl); (case hrun => intro W hW; simp [go_sem, BigFrame.eval_const, BigFrame.eval_global, BigFrame.eval_func]); simp only [Act.put, List.setIfInBounds_toArray, List.set_cons_succ, List.set_cons_zero])
  ((with_reducible refine wpKinds_run (.pointer (some ⟨mb, 2, none⟩)) ?hwant ?hkind ?hrun ?_); (case hwant => first | (simp [Region.wanted, yielded]; done) | rfl); (case hkind => rfl); (case hrun => intro W hW; simp [go_sem, BigFrame.eval_const, BigFrame.eval_global, BigFrame.eval_func]); simp only [Act.put, List.setIfInBounds_toArray, List.set_cons_succ, List.set_cons_zero])
  ((with_reducible refine wpKinds_run (.slice (some ⟨g, 0, none⟩) N d) ?hwant ?hkind ?hrun ?_); (case hwant => first | (simp [Region.wanted, yielded]; done) | rfl); (case hkind => rfl); (case hrun => intro W hW; have hcell := (hW.cell (p := _) (by assumption)).trans y2; simp [go_sem, BigFrame.eval_const, BigFrame.eval_global, BigFrame.eval_func, hcell]); simp only [Act.put, List.setIfInBounds_toArray, List.set_cons_succ, List.set_cons_zero])
  ((with_reducible refine wpKinds_plain ?hwant ?hkind ?hplain (fun K hK => ?_)); (case hwant => first | (simp [Region.wanted, yielded]; done) | rfl); (case hkind => rfl); (case hplain => rfl); go_big_quiet_op; (first | refine hK _ ?_ | refine ⟨_, fun _ _ => rfl, hK _ ?_⟩); clear hK K)
  ((with_reducible refine wpKinds_plain ?hwant ?hkind ?hplain (fun K hK => ?_)); (case hwant => first | (simp [Region.wanted, yielded]; done) | rfl); (case hkind => rfl); (case hplain => rfl); go_big_quiet_op; (first | refine hK _ ?_ | refine ⟨_, fun _ _ => rfl, hK _ ?_⟩); clear hK K)
  ((with_reducible refine wpKinds_run (.pointer (some ⟨mb, 0, none⟩)) ?hwant ?hkind ?hrun ?_); (case hwant => first | (simp [Region.wanted, yielded]; done) | rfl); (case hkind => rfl); (case hrun => intro W hW; simp [go_sem, BigFrame.eval_const, BigFrame.eval_global, BigFrame.eval_func]); simp only [Act.put, List.setIfInBounds_toArray, List.set_cons_succ, List.set_cons_zero])
  ((with_reducible refine wpKinds_run (.pointer (some ⟨mb, 1, none⟩)) ?hwant ?hkind ?hrun ?_); (case hwant => first | (simp [Region.wanted, yielded]; done) | rfl); (case hkind => rfl); (case hrun => intro W hW; simp [go_sem, BigFrame.eval_const, BigFrame.eval_global, BigFrame.eval_func]); simp only [Act.put, List.setIfInBounds_toArray, List.set_cons_succ, List.set_cons_zero])
  ((with_reducible refine wpKinds_run (.int .i64 r) ?hwant ?hkind ?hrun ?_); (case hwant => first | (simp [Region.wanted, yielded]; done) | rfl); (case hkind => rfl); (case hrun => intro W hW; have hcell := (hW.cell (p := _) (by assumption)).trans y1; simp [go_sem, BigFrame.eval_const, BigFrame.eval_global, BigFrame.eval_func, hcell]); simp only [Act.put, List.setIfInBounds_toArray, List.set_cons_succ, List.set_cons_zero])
  ((with_reducible refine wpKinds_run (.int .i64 L1) ?hwant ?hkind ?hrun ?_); (case hwant => first | (simp [Region.wanted, yielded]; done) | rfl); (case hkind => rfl); (case hrun => intro W hW; simp [go_sem, BigFrame.eval_const, BigFrame.eval_global, BigFrame.eval_func, hM1a]); simp only [Act.put, List.setIfInBounds_toArray, List.set_cons_succ, List.set_cons_zero])
  ((with_reducible refine wpKinds_plain ?hwant ?hkind ?hplain (fun K hK => ?_)); (case hwant => first | (simp [Region.wanted, yielded]; done) | rfl); (case hkind => rfl); (case hplain => rfl); go_big_quiet_op; (first | refine hK _ ?_ | refine ⟨_, fun _ _ => rfl, hK _ ?_⟩); clear hK K)
  ((with_reducible refine wpKinds_run (.int .i64 K1) ?hwant ?hkind ?hrun ?_); (case hwant => first | (simp [Region.wanted, yielded]; done) | rfl); (case hkind => rfl); (case hrun => intro W hW; simp [go_sem, BigFrame.eval_const, BigFrame.eval_global, BigFrame.eval_func, hM1b]); simp only [Act.put, List.setIfInBounds_toArray, List.set_cons_succ, List.set_cons_zero])
  ((with_reducible refine wpKinds_run (.pointer (some ⟨g, K1, none⟩)) ?hwant ?hkind ?hrun ?_); (case hwant => first | (simp [Region.wanted, yielded]; done) | rfl); (case hkind => rfl); (case hrun => intro W hW; simp [go_sem, BigFrame.eval_const, BigFrame.eval_global, BigFrame.eval_func, hkn1]); simp only [Act.put, List.setIfInBounds_toArray, List.set_cons_succ, List.set_cons_zero])
  refine wpKinds_nil ?_
  intro w6 hC
  have om6 := HOM.out.kept (below_grew hC) (fun q hq => by cases hq)
  obtain ⟨hce6, hfr6, _⟩ := om6.cell hkn1
  obtain ⟨O7, G7⟩ := om6.stored (v := 0) hkn1 (by decide)
  have y1' := (World.cell?_of_block (a := ⟨mb, 1, none⟩) (G7.block mb (by have := hC.size; show mb < w6.heap.size; omega) (fun e => hne (Option.some.inj e)))).trans ((hC.cell (p := ⟨mb, 1, none⟩) lmb).trans y1)
  have y2' := (World.cell?_of_block (a := ⟨mb, 2, none⟩) (G7.block mb (by have := hC.size; show mb < w6.heap.size; omega) (fun e => hne (Option.some.inj e)))).trans ((hC.cell (p := ⟨mb, 2, none⟩) lmb).trans y2)
  have lmb' := Nat.lt_of_lt_of_le (Nat.lt_of_lt_of_le lmb hC.size) G7.size
  have lg' := Nat.lt_of_lt_of_le (Nat.lt_of_lt_of_le lg hC.size) G7.size
  have HOM7 := Lib.hid O7
  have HG7 := Lib.hid (grownBy_trans (grownBy_trans HG.out ⟨hC.os, hC.tape, hC.output, hC.size, fun q hq _ => hC.block q hq⟩) G7)
  clear O7 G7 om6 HOM HG hC y1 y2 lmb lg
  go_upto_region 3 with (fail)
  generalize w6.setCell ⟨g, K1, none⟩ (.float .f32 0) = w0 at y1' y2' HOM7 HG7 lmb' lg' ⊢
  have y1 := y1'
  have y2 := y2'
  have lmb := lmb'
  have lg := lg'
  clear y1' y2' lmb' lg' hce6 hfr6
  (refine wp_region_kinds (fun w' => Below w0.heap.size w0 w') (fun _ => 0) 13 (below_drewN (Below.refl _ _) 1) (by kernel_rfl) (by kernel_rfl) (by kernel_rfl) ?_; simp only [List.take_succ_cons, List.take_zero, List.drop_succ_cons, List.drop_zero])
  ((with_reducible refine wpKinds_plain ?hwant ?hkind ?hplain (fun K hK => ?_)); (case hwant => first | (simp [Region.wanted, yielded]; done) | rfl); (case hkind => rfl); (case hplain => rfl); go_big_quiet_op; (first | refine hK _ ?_ | refine ⟨_, fun _ _ => rfl, hK _ ?_⟩); clear hK K)
  ((with_reducible refine wpKinds_run (.pointer (some ⟨mb, 0, none⟩)) ?hwant ?hkind ?hrun ?_); (case hwant => first | (simp [Region.wanted, yielded]; done) | rfl); (case hkind => rfl); (case hrun => intro W hW; simp [go_sem, BigFrame.eval_const, BigFrame.eval_global, BigFrame.eval_func]); simp only [Act.put, List.setIfInBounds_toArray, List.set_cons_succ, List.set_cons_zero])
  ((with_reducible refine wpKinds_run (.pointer (some ⟨mb, 2, none⟩)) ?hwant ?hkind ?hrun ?_); (case hwant => first | (simp [Region.wanted, yielded]; done) | rfl); (case hkind => rfl); (case hrun => intro W hW; simp [go_sem, BigFrame.eval_const, BigFrame.eval_global, BigFrame.eval_func]); simp only [Act.put, List.setIfInBounds_toArray, List.set_cons_succ, List.set_cons_zero])
  ((with_reducible refine wpKinds_run (.slice (some ⟨g, 0, none⟩) N d) ?hwant ?hkind ?hrun ?_); (case hwant => first | (simp [Region.wanted, yielded]; done) | rfl); (case hkind => rfl); (case hrun => intro W hW; have hcell := (hW.cell (p := _) (by assumption)).trans y2; simp [go_sem, BigFrame.eval_const, BigFrame.eval_global, BigFrame.eval_func, hcell]); simp only [Act.put, List.setIfInBounds_toArray, List.set_cons_succ, List.set_cons_zero])
  ((with_reducible refine wpKinds_plain ?hwant ?hkind ?hplain (fun K hK => ?_)); (case hwant => first | (simp [Region.wanted, yielded]; done) | rfl); (case hkind => rfl); (case hplain => rfl); go_big_quiet_op; (first | refine hK _ ?_ | refine ⟨_, fun _ _ => rfl, hK _ ?_⟩); clear hK K)
  ((with_reducible refine wpKinds_plain ?hwant ?hkind ?hplain (fun K hK => ?_)); (case hwant => first | (simp [Region.wanted, yielded]; done) | rfl); (case hkind => rfl); (case hplain => rfl); go_big_quiet_op; (first | refine hK _ ?_ | refine ⟨_, fun _ _ => rfl, hK _ ?_⟩); clear hK K)
  ((with_reducible refine wpKinds_run (.pointer (some ⟨mb, 0, none⟩)) ?hwant ?hkind ?hrun ?_); (case hwant => first | (simp [Region.wanted, yielded]; done) | rfl); (case hkind => rfl); (case hrun => intro W hW; simp [go_sem, BigFrame.eval_const, BigFrame.eval_global, BigFrame.eval_func]); simp only [Act.put, List.setIfInBounds_toArray, List.set_cons_succ, List.set_cons_zero])
  ((with_reducible refine wpKinds_run (.pointer (some ⟨mb, 1, none⟩)) ?hwant ?hkind ?hrun ?_); (case hwant => first | (simp [Region.wanted, yielded]; done) | rfl); (case hkind => rfl); (case hrun => intro W hW; simp [go_sem, BigFrame.eval_const, BigFrame.eval_global, BigFrame.eval_func]); simp only [Act.put, List.setIfInBounds_toArray, List.set_cons_succ, List.set_cons_zero])
  ((with_reducible refine wpKinds_run (.int .i64 r) ?hwant ?hkind ?hrun ?_); (case hwant => first | (simp [Region.wanted, yielded]; done) | rfl); (case hkind => rfl); (case hrun => intro W hW; have hcell := (hW.cell (p := _) (by assumption)).trans y1; simp [go_sem, BigFrame.eval_const, BigFrame.eval_global, BigFrame.eval_func, hcell]); simp only [Act.put, List.setIfInBounds_toArray, List.set_cons_succ, List.set_cons_zero])
  ((with_reducible refine wpKinds_run (.int .i64 L2) ?hwant ?hkind ?hrun ?_); (case hwant => first | (simp [Region.wanted, yielded]; done) | rfl); (case hkind => rfl); (case hrun => intro W hW; simp [go_sem, BigFrame.eval_const, BigFrame.eval_global, BigFrame.eval_func, hM2a]); simp only [Act.put, List.setIfInBounds_toArray, List.set_cons_succ, List.set_cons_zero])
  ((with_reducible refine wpKinds_plain ?hwant ?hkind ?hplain (fun K hK => ?_)); (case hwant => first | (simp [Region.wanted, yielded]; done) | rfl); (case hkind => rfl); (case hplain => rfl); go_big_quiet_op; (first | refine hK _ ?_ | refine ⟨_, fun _ _ => rfl, hK _ ?_⟩); clear hK K)
  ((with_reducible refine wpKinds_run (.int .i64 K2) ?hwant ?hkind ?hrun ?_); (case hwant => first | (simp [Region.wanted, yielded]; done) | rfl); (case hkind => rfl); (case hrun => intro W hW; simp [go_sem, BigFrame.eval_const, BigFrame.eval_global, BigFrame.eval_func, hM2b]); simp only [Act.put, List.setIfInBounds_toArray, List.set_cons_succ, List.set_cons_zero])
  ((with_reducible refine wpKinds_run (.pointer (some ⟨g, K2, none⟩)) ?hwant ?hkind ?hrun ?_); (case hwant => first | (simp [Region.wanted, yielded]; done) | rfl); (case hkind => rfl); (case hrun => intro W hW; simp [go_sem, BigFrame.eval_const, BigFrame.eval_global, BigFrame.eval_func, hkn2]); simp only [Act.put, List.setIfInBounds_toArray, List.set_cons_succ, List.set_cons_zero])
  refine wpKinds_nil ?_
  intro w8 hC
  have om8 := HOM7.out.kept (below_grew hC) (fun q hq => by cases hq)
  obtain ⟨hce8, hfr8, _⟩ := om8.cell hkn2
  obtain ⟨O9, G9⟩ := om8.stored (v := 0) hkn2 (by decide)
  have HOM9 := Lib.hid O9
  have HG9 := Lib.hid (grownBy_trans (grownBy_trans HG7.out ⟨hC.os, hC.tape, hC.output, hC.size, fun q hq _ => hC.block q hq⟩) G9)
  clear O9 G9 om8 HOM7 HG7 hC y1 y2 lmb lg
  go_wp2_with fail
  go_end0
  exact ⟨rfl, _, HOM9.out, HE.out, HG9.out⟩
end Go.Proofs.Ytmjlhmbnaifhaaa
