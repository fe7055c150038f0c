/- Helper: half of the sum of a square and its flipped one, of the reference. Conditions: none. -/
import Derived.Test.YtffmjfgechdjjaaSymPartImpl
import Derived.Test.YtffmjfgechdjjaaAppend
set_option linter.unusedVariables false
set_option linter.unusedSimpArgs false
namespace Go.Proofs.Ytffmjfgechdjjaa
open Go.RowKit

set_option maxRecDepth 20000 in
set_option maxHeartbeats 4000000 in
theorem specSymPart_yes (s n b off cap : Nat) (Z : Nat → Nat) (w : World) (hr1 : 1 ≤ s) (hr : s ≤ 12) (hn : n = s * s) (hsq : squareB s s n (vals Z) = true) (hfin : allFin (vals Z) n = true) (h : FS .f32 w (some ⟨b, off, none⟩) n cap Z) :
    Calls Try.prog 26 #[.agg #[.int .i64 s, .int .i64 s, .slice (some ⟨b, off, none⟩) n cap]] w (BelIf (allFin (symV s Z) n) s s n (symV s Z) w) := by
  have hN := Lib.hid hn
  have hn144 : n ≤ 144 := by have := sides_le hr hr; omega
  have hpos : 0 < n := by rw [hn]; exact Nat.mul_pos hr1 hr1
  have HSQ := Lib.hid hsq
  have HFIN := Lib.hid hfin
  have he : (s : Int) * (s : Int) = ((n : Nat) : Int) := by rw [hn, Int.natCast_mul]
  obtain ⟨VV, hVV⟩ : ∃ VV, VV = symV s Z := ⟨_, rfl⟩
  rw [← hVV]
  have HVV := Lib.hid hVV
  clear hn hsq hVV hfin
  go_enter Try.func26, Try.ntmps26
  go_wp2_with fail
  generalize hwa : w.alloc (.cells #[.int .i64 s, .int .i64 s, .slice (some ⟨b, off, none⟩) n cap] 35) = wa
  have Ba : Below w.heap.size w wa := by rw [← hwa]; exact (by repeat first | (with_reducible exact Below.refl _ _) | (with_reducible refine Below.setCell ?_ (by first | exact Nat.le_refl _ | (simp; done) | (simp; omega) | omega) _) | (with_reducible refine Below.alloc ?_ (by first | exact Nat.le_refl _ | (simp; done) | (simp; omega) | omega) _) | (with_reducible refine below_drewN ?_ _) | (with_reducible refine Below.drew ?_))
  have sa : wa.heap.size = w.heap.size + 1 := by rw [← hwa]; simp
  have Xa : Box wa w.heap.size s s (some ⟨b, off, none⟩) n cap := by rw [← hwa]; exact Box.new _ _ _ _ _ _ _
  have Fa := h.below Ba (Nat.le_refl _)
  rw [← sa]
  clear hwa h
  have la : w.heap.size < wa.heap.size := by omega
  go_at_call 44
  refine (specSquare_any _ s s _ n cap Z _ (by omega) (Xa.below (by repeat first | (with_reducible exact Below.refl _ _) | (with_reducible refine Below.setCell ?_ (by first | exact Nat.le_refl _ | (simp; done) | (simp; omega) | omega) _) | (with_reducible refine Below.alloc ?_ (by first | exact Nat.le_refl _ | (simp; done) | (simp; omega) | omega) _) | (with_reducible refine below_drewN ?_ _) | (with_reducible refine Below.drew ?_)) la) (Fa.below (by repeat first | (with_reducible exact Below.refl _ _) | (with_reducible refine Below.setCell ?_ (by first | exact Nat.le_refl _ | (simp; done) | (simp; omega) | omega) _) | (with_reducible refine Below.alloc ?_ (by first | exact Nat.le_refl _ | (simp; done) | (simp; omega) | omega) _) | (with_reducible refine below_drewN ?_ _) | (with_reducible refine Below.drew ?_)) (Nat.le_refl _))).mono ?_
  rintro e w2 ⟨rfl, m1, rfl⟩
  rw [HSQ.out]
  obtain ⟨x0, x1, x2⟩ := (Xa.below (show Below wa.heap.size wa (wa.alloc (.cells #[.int .i64 0, .int .i64 0, .slice none 0 0] 35)) from (by repeat first | (with_reducible exact Below.refl _ _) | (with_reducible refine Below.setCell ?_ (by first | exact Nat.le_refl _ | (simp; done) | (simp; omega) | omega) _) | (with_reducible refine Below.alloc ?_ (by first | exact Nat.le_refl _ | (simp; done) | (simp; omega) | omega) _) | (with_reducible refine below_drewN ?_ _) | (with_reducible refine Below.drew ?_))) la).drewN (m := m1)
  go_wp2_with fail
  go_at_call 36
  refine (l02Blank_any _ _ _).mono ?_
  rintro e w3 ⟨g, rfl, o3, b3⟩
  have s3 : wa.heap.size + 1 ≤ w3.heap.size := (by have hh := b3.size; (try simp [World.drewN] at hh); omega)
  have hB : Build wa w3.heap.size wa.heap.size s s 0 VV _ (some ⟨g, 0, none⟩) 0 [] := Build.start1 (T1 := 0) (T2 := 35) (by simp [World.drewN]) b3 (by refine ⟨?_, ?_, ?_⟩ <;> simp [go_sem]) (by intro i; simp [go_sem]) (by repeat first | (with_reducible exact Below.refl _ _) | (with_reducible refine Below.setCell ?_ (by first | exact Nat.le_refl _ | (simp; done) | (simp; omega) | omega) _) | (with_reducible refine Below.alloc ?_ (by first | exact Nat.le_refl _ | (simp; done) | (simp; omega) | omega) _) | (with_reducible refine below_drewN ?_ _) | (with_reducible refine Below.drew ?_)) o3
  generalize hob : w3.heap.size = ob at hB s3
  have hob' := Lib.hid hob
  clear o3 b3 x0 x1 x2
  go_wp2
  clear hob
  go_loopw [5] (fun i wr => ∃ (j : Nat) (a : Option Addr) (cp : Nat) (xs : List Value), j ≤ n ∧ i = .int .i64 j ∧ Build wa ob wa.heap.size s s j VV wr a cp xs) (fun i _ => n - (intOf i).toNat)
  case atStart => exact ⟨0, _, _, _, Nat.zero_le _, rfl, hB⟩
  case round =>
    obtain ⟨j, a, cp, xs, hj, rfl, hk⟩ := hrel
    clear hB
    have XA := Xa.below hk.bel la
    have XA' := XA
    obtain ⟨q0, q1, q2⟩ := XA'
    have hlo := hk.lo
    have hmid := hk.mid
    have htop := hk.top
    have lr : w.heap.size < wr.heap.size := by omega
    by_cases hlt : j < n
    · have hd : decide ((j : Int) < (n : Int)) = true := decide_eq_true (by omega)
      have hmod : j % s < s := Nat.mod_lt _ hr1
      have hdiv : j / s < s := Nat.div_lt_of_lt_mul (by rw [← hN.out]; exact hlt)
      have FZ := Fa.below hk.bel (Nat.le_refl _)
      obtain ⟨b', off', e, hbl, hce, hfv⟩ := Fa.at hlt
      simp only [Option.some.injEq, Addr.mk.injEq, and_true] at e
      obtain ⟨rfl, rfl⟩ := e
      have hpl2 : j % s * s + j / s < n := by rw [hN.out]; exact place_lt hmod hdiv
      obtain ⟨M, hM⟩ : ∃ M, M = j % s := ⟨_, rfl⟩
      obtain ⟨Q, hQ⟩ : ∃ Q, Q = j / s := ⟨_, rfl⟩
      have hfi : flipZ s s Z j = Z (M * s + Q) := by rw [hM, hQ]; rfl
      have hr0 : ¬ (s = 0) := by omega
      have ht1 : Int.tmod (j : Int) (s : Int) = (M : Int) := by rw [hM, Int.natCast_emod]; exact Int.tmod_eq_emod_of_nonneg (by omega)
      have ht2 : Int.tdiv (j : Int) (s : Int) = (Q : Int) := by rw [hQ, Int.natCast_ediv]; exact Int.tdiv_eq_ediv_of_nonneg (by omega)
      have ht3 : IntKind.i64.wrap (Q : Int) = (Q : Int) := IntWalk.i64_in _ (by have h5 := Nat.div_le_self j s; rw [hQ]; generalize j / s = x at h5 ⊢; omega)
      rw [← hM, ← hQ] at hpl2
      rw [← hM] at hmod
      rw [← hQ] at hdiv
      obtain ⟨p1, hadd, hcn, hfa⟩ := add_fin (x := Z j) (y := Z (M * s + Q)) (show finite .f32 (vals Z j) = true from allFin_lt HFIN.out hlt) (show finite .f32 (vals Z (M * s + Q)) = true from allFin_lt HFIN.out hpl2)
      obtain ⟨p2, hmul, hfm⟩ := half_some hcn
      have HP : Hid (FV .f32 p2 (VV j)) := Lib.hid (by
        refine FV.of_eq hfm ?_
        rw [HVV.out]
        show _ = fop .mul .f32 (some 1056964608) (fop .add .f32 (cn .f32 (Z j)) (cn .f32 (flipZ s s Z j)))
        rw [hfi, ← hfa.1, hcn])
      obtain ⟨y0, y1, y2⟩ := hk.box
      obtain ⟨i0, hi, hz0, hz1, hz2⟩ := info_parts info32
      have hice2 := hk.ice2
      have hal : ∀ m o, ((wr.drewN m).alloc o).cell? ⟨ob, 2, none⟩ = some (.slice a j cp) := fun m o => (World.cell?_alloc_lt (wr.drewN m) o ⟨ob, 2, none⟩ (by exact htop)).trans y2
      have hAt2 : ∀ W, Below wa.heap.size wa W → Calls Try.prog 45 #[.pointer (some ⟨w.heap.size, 0, none⟩), .int .i64 M, .int .i64 Q] W fun e w' => e = .returned (.float .f32 (Z (M * s + Q))) ∧ ∃ q, w' = W.drewN q := fun W hW => specAt_any w.heap.size b off s s n cap M Q Z W hr hr hN.out (Xa.below hW la) (Fa.below hW (Nat.le_refl _)) hmod hdiv
      clear hfv hM hQ hfi hfa hfm hcn
      generalize Z (M * s + Q) = x at hadd hAt2
      generalize Z j = z at hce hadd
      have hq1 : ∀ W, (binOp .add 44 (.float .f32 z) (.float .f32 x)).run Try.prog W = .ok (.float .f32 p1) W := fun W => run_float_arith W .add _ .f32 z x p1 hadd
      have hq2 : ∀ W, (binOp .mul 44 (.float .f32 1056964608) (.float .f32 p1)).run Try.prog W = .ok (.float .f32 p2) W := fun W => run_float_arith W .mul _ .f32 1056964608 p1 p2 hmul
      clear hadd hmul
      go_wp2
      have hD0 : ∀ m, Below wa.heap.size wa (wr.drewN m) ∧ (wr.drewN m).cell? ⟨ob, 2, none⟩ = some (.slice a j cp) := fun m => ⟨below_drewN hk.bel m, by rw [← y2]; rfl⟩
      have hD1 : ∀ m k r, Below wa.heap.size wa (((wr.drewN m).alloc (.cells #[.float .f32 r] 44)).drewN k) ∧ (((wr.drewN m).alloc (.cells #[.float .f32 r] 44)).drewN k).cell? ⟨ob, 2, none⟩ = some (.slice a j cp) := fun m k r =>
        ⟨below_drewN (Below.alloc (hD0 m).1 hk.bel.size _) k, hal m _⟩
      refine wp_region_heavy (fun W => Below wa.heap.size wa W ∧ W.cell? ⟨ob, 2, none⟩ = some (.slice a j cp)) (fun s a' W => (fun s l W => AppF wa wr ob a j cp xs (s + 1) (.float .f32 p2 :: l) W) s ([42].map fun d => a'.tmps.getD d undef) W) (fun i => if i = 18 then some 0 else if i = 19 then some 1 else none) 21 2
        (HClass.of (slots := [42]) (F := fun s l W => AppF wa wr ob a j cp xs (s + 1) (.float .f32 p2 :: l) W) (by kernel_rfl) (fun s l W h => h.1) (fun s l W m h => AppF.drew (s + 1) _ W m h)) ⟨hD0 1, 1, rfl⟩ (by kernel_rfl) (by kernel_rfl) (by kernel_rfl) (by kernel_rfl) ?_
      simp only [List.take_succ_cons, List.take_zero, List.drop_succ_cons, List.drop_zero]
      (refine wpHeavy_plain rfl rfl rfl (fun K hK => ?_); go_big_quiet_op; (first | refine hK _ ?_ | refine ⟨_, fun _ _ => rfl, hK _ ?_⟩ | refine ⟨_, fun _ _ _ => rfl, hK _ ?_⟩); clear hK K)
      (refine wpHeavy_run (.slice a j cp) rfl rfl (by rintro W ⟨hW, hO⟩; simp [go_sem, BigFrame.eval_const, BigFrame.eval_global, BigFrame.eval_func, hO]) ?_; simp only [Act.put, List.setIfInBounds_toArray, List.set_cons_succ, List.set_cons_zero])
      (refine wpHeavy_plain rfl rfl rfl (fun K hK => ?_); go_big_quiet_op; (first | refine hK _ ?_ | refine ⟨_, fun _ _ => rfl, hK _ ?_⟩ | refine ⟨_, fun _ _ _ => rfl, hK _ ?_⟩); clear hK K)
      (refine wpHeavy_run (.slice (some ⟨b, off, none⟩) n cap) rfl rfl (by rintro W ⟨hW, hO⟩; have hcell := (hW.cell (p := _) la).trans Xa.2.2; simp [go_sem, BigFrame.eval_const, BigFrame.eval_global, BigFrame.eval_func, hcell]) ?_; simp only [Act.put, List.setIfInBounds_toArray, List.set_cons_succ, List.set_cons_zero])
      (refine wpHeavy_plain rfl rfl rfl (fun K hK => ?_); go_big_quiet_op; (first | refine hK _ ?_ | refine ⟨_, fun _ _ => rfl, hK _ ?_⟩ | refine ⟨_, fun _ _ _ => rfl, hK _ ?_⟩); clear hK K)
      (refine wpHeavy_plain rfl rfl rfl (fun K hK => ?_); go_big_quiet_op; (first | refine hK _ ?_ | refine ⟨_, fun _ _ => rfl, hK _ ?_⟩ | refine ⟨_, fun _ _ _ => rfl, hK _ ?_⟩); clear hK K)
      (refine wpHeavy_run (.float .f32 z) rfl rfl (by rintro W ⟨hW, hO⟩; have hcell := (hW.cell (p := _) hbl).trans hce; simp [go_sem, BigFrame.eval_const, BigFrame.eval_global, BigFrame.eval_func, hcell]) ?_; simp only [Act.put, List.setIfInBounds_toArray, List.set_cons_succ, List.set_cons_zero])
      (refine wpHeavy_plain rfl rfl rfl (fun K hK => ?_); go_big_quiet_op; (first | refine hK _ ?_ | refine ⟨_, fun _ _ => rfl, hK _ ?_⟩ | refine ⟨_, fun _ _ _ => rfl, hK _ ?_⟩); clear hK K)
      (refine wpHeavy_plain rfl rfl rfl (fun K hK => ?_); go_big_quiet_op; (first | refine hK _ ?_ | refine ⟨_, fun _ _ => rfl, hK _ ?_⟩ | refine ⟨_, fun _ _ _ => rfl, hK _ ?_⟩); clear hK K)
      (refine wpHeavy_run (.int .i64 s) rfl rfl (by rintro W ⟨hW, hO⟩; have hcell := (hW.cell (p := _) la).trans Xa.1; simp [go_sem, BigFrame.eval_const, BigFrame.eval_global, BigFrame.eval_func, hcell]) ?_; simp only [Act.put, List.setIfInBounds_toArray, List.set_cons_succ, List.set_cons_zero])
      (refine wpHeavy_run (.int .i64 M) rfl rfl (by rintro W ⟨hW, hO⟩; simp [go_sem, BigFrame.eval_const, BigFrame.eval_global, BigFrame.eval_func, hr0, ht1]) ?_; simp only [Act.put, List.setIfInBounds_toArray, List.set_cons_succ, List.set_cons_zero])
      (refine wpHeavy_plain rfl rfl rfl (fun K hK => ?_); go_big_quiet_op; (first | refine hK _ ?_ | refine ⟨_, fun _ _ => rfl, hK _ ?_⟩ | refine ⟨_, fun _ _ _ => rfl, hK _ ?_⟩); clear hK K)
      (refine wpHeavy_plain rfl rfl rfl (fun K hK => ?_); go_big_quiet_op; (first | refine hK _ ?_ | refine ⟨_, fun _ _ => rfl, hK _ ?_⟩ | refine ⟨_, fun _ _ _ => rfl, hK _ ?_⟩); clear hK K)
      (refine wpHeavy_run (.int .i64 s) rfl rfl (by rintro W ⟨hW, hO⟩; have hcell := (hW.cell (p := _) la).trans Xa.1; simp [go_sem, BigFrame.eval_const, BigFrame.eval_global, BigFrame.eval_func, hcell]) ?_; simp only [Act.put, List.setIfInBounds_toArray, List.set_cons_succ, List.set_cons_zero])
      (refine wpHeavy_run (.int .i64 Q) rfl rfl (by rintro W ⟨hW, hO⟩; simp [go_sem, BigFrame.eval_const, BigFrame.eval_global, BigFrame.eval_func, hr0, ht2, ht3]) ?_; simp only [Act.put, List.setIfInBounds_toArray, List.set_cons_succ, List.set_cons_zero])
      (refine wpHeavy_call (f := 45) (args := #[.pointer (some ⟨w.heap.size, 0, none⟩), .int .i64 M, .int .i64 Q]) (.float .f32 x) rfl rfl (by intro W; simp [go_sem, BigFrame.eval_const, BigFrame.eval_global, BigFrame.eval_func]) (by kernel_rfl) (by rintro W ⟨hW, hO⟩; exact hAt2 W hW) ?_; simp only [Act.put, List.setIfInBounds_toArray, List.set_cons_succ, List.set_cons_zero])
      (refine wpHeavy_run (.float .f32 p1) rfl rfl (by rintro W ⟨hW, hO⟩; simp [go_sem, BigFrame.eval_const, BigFrame.eval_global, BigFrame.eval_func, eqGuard, hq1]) ?_; simp only [Act.put, List.setIfInBounds_toArray, List.set_cons_succ, List.set_cons_zero])
      (refine wpHeavy_run (.float .f32 p2) rfl rfl (by rintro W ⟨hW, hO⟩; simp [go_sem, BigFrame.eval_const, BigFrame.eval_global, BigFrame.eval_func, eqGuard, hq2]) ?_; simp only [Act.put, List.setIfInBounds_toArray, List.set_cons_succ, List.set_cons_zero])
      refine wpHeavy_step rfl rfl ⟨wr.drewN 1, hD0 1, 1, rfl⟩ ?_
      rintro W ⟨hD, m0, rfl⟩
      refine heavyUpon_run (v := .slice (some ⟨wr.heap.size, 0, none⟩) 1 1) (w' := (wr.drewN m0).alloc (.cells #[.float .f32 p2] 44)) (by simp [go_sem, BigFrame.eval_const, BigFrame.eval_global, BigFrame.eval_func]) ⟨hD1 m0 0 p2, m0, 0, p2, rfl, rfl⟩ ?_
      simp only [Act.put, List.setIfInBounds_toArray, List.set_cons_succ, List.set_cons_zero]
      refine wpHeavy_step rfl rfl ⟨_, hD1 0 0 p2, 0, 0, p2, rfl, rfl⟩ ?_
      rintro W ⟨hD, m1', k1, r6, hl0, rfl⟩
      have hr65 : r6 = p2 := by simpa using hl0.symm
      subst hr65
      refine heavy_append_lies _ _ _ _ rfl wa.heap.size 44 i0 _ 1 4 Try.underlying31 hi hz0 hz1 hz2 rfl (by omega) (.slice a j cp) j xs rfl (ownsRow_below hk.own (by repeat first | (with_reducible exact Below.refl _ _) | (with_reducible refine Below.setCell ?_ (by first | exact Nat.le_refl _ | (simp; done) | (simp; omega) | omega) _) | (with_reducible refine Below.alloc ?_ (by first | exact Nat.le_refl _ | (simp; done) | (simp; omega) | omega) _) | (with_reducible refine below_drewN ?_ _) | (with_reducible refine Below.drew ?_))) ⟨wr.heap.size, 0, none⟩ 1 1 [.float .f32 r6] rfl rfl
        (by exact World.news_of_block (cs := #[.float .f32 r6]) (t := 44) (fr := (0, 0)) (heap_alloc_new _ _)) (by simp [Value.oneCell']) (by omega) (by unfold maxLen; omega) (by omega) (by have := hk.bel.size; simp [World.drewN]; omega) (wr.heap.size + 1) (by simp [World.drewN]) ?_
      intro gg c2 W2 hown2 hgrow2 hat2 hlt2
      have hbx : Below wr.heap.size wr (((wr.drewN m1').alloc (.cells #[.float .f32 r6] 44)).drewN k1) := (by repeat first | (with_reducible exact Below.refl _ _) | (with_reducible refine Below.setCell ?_ (by first | exact Nat.le_refl _ | (simp; done) | (simp; omega) | omega) _) | (with_reducible refine Below.alloc ?_ (by first | exact Nat.le_refl _ | (simp; done) | (simp; omega) | omega) _) | (with_reducible refine below_drewN ?_ _) | (with_reducible refine Below.drew ?_))
      refine ⟨⟨⟨hD.1.grown hgrow2 hD.1.size (fun q hq => (hk.own.lt q hq).1), ?_⟩, gg, c2, r6, _, rfl, rfl, hbx, hown2, hgrow2, by simpa [World.drewN] using hat2, hlt2⟩, ?_⟩
      · exact hgrow2.cell (a := ⟨ob, 2, none⟩) (v := .slice a j cp) hD.2 (by intro e; exact (hk.far ob e.symm).1 rfl)
      clear hown2 hgrow2 hat2 hlt2 hbx hD
      simp only [Act.put, List.setIfInBounds_toArray, List.set_cons_succ, List.set_cons_zero]
      (refine wpHeavy_plain rfl rfl rfl (fun K hK => ?_); go_big_quiet_op; (first | refine hK _ ?_ | refine ⟨_, fun _ _ => rfl, hK _ ?_⟩ | refine ⟨_, fun _ _ _ => rfl, hK _ ?_⟩); clear hK K)
      refine wpHeavy_nil ?_
      rintro W ⟨hD, g2, c3, r7, wx2, hl1, hl2, hbx, hown2, hgrow2, hat2, hlt2⟩
      have hr7 : r7 = r6 := by simpa using hl1.symm
      subst hr7
      obtain ⟨rfl, rfl⟩ : gg = g2 ∧ c2 = c3 := by simpa using hl2
      have q3 := hD.2
      have q4 : W.frozen? ⟨ob, 2, none⟩ = false := (World.frozen?_of_block (a := ⟨ob, 2, none⟩) (hgrow2.block ob (Nat.lt_of_lt_of_le htop hbx.size) (fun e => (hk.far ob e.symm).1 rfl))).trans ((hbx.frozen (p := ⟨ob, 2, none⟩) htop).trans (hk.ice2 2))
      have hst := Lib.hid (hk.step hbx hown2 hgrow2 hat2 HP.out)
      clear hk hown2 hgrow2 hat2 hbx hD hD0 hD1 hl1 hl2 hal hAt2 ht1 ht2 ht3 hq1 hq2 hce y0 y1 y2 q0 q1 q2 XA HP
      go_wp2
      go_roundw
      case rel => exact ⟨j + 1, _, _, _, by omega, by go_num, hst.out⟩
      case measure => simp [intOf]; omega
    · obtain rfl : j = n := by omega
      obtain ⟨y0, y1, y2⟩ := hk.box
      obtain ⟨X, hX, hV⟩ := hk.fs
      have hvB : validB s s j (vals X) = allFin VV j := (validB_nat hr1 hr hr1 hr hN.out).trans (allFin_congr hV)
      have hlow : ∀ q off, a = some ⟨q, off, none⟩ → wa.heap.size ≤ q := by rintro q off rfl; exact (hk.own.lt q rfl).1
      have hfar : ∀ q, (∃ off, a = some ⟨q, off, none⟩) → q ≠ w.heap.size + 1 := by rintro q ⟨off, rfl⟩; rw [← sa]; exact (hk.far q rfl).2
      have hd : decide ((j : Int) < (j : Int)) = false := decide_eq_false (by omega)
      cases hf : allFin VV j with
      | true =>
        rw [hf] at hvB
        go_wp2_with fail
        go_at_call 46
        refine (specGive_yes _ _ _ _ _ X _ (by omega) hX hvB).mono ?_
        rintro e w4 ⟨rfl, b4⟩
        have hk2 := hk.below b4
        have hX3 := hX.below b4 (Nat.le_refl _)
        clear hk y0 y1 y2 hX
        obtain ⟨z0, z1, z2⟩ := hk2.res
        have B2 := Ba.trans (hk2.bel.mono (by omega))
        have hice : ∀ i, w4.frozen? ⟨w.heap.size + 1, i, none⟩ = false := fun i => by have hh := hk2.ice i; rwa [sa] at hh
        rw [sa] at z0 z1 z2
        clear hk2
        go_wp2_with fail
        refine bodyPost_ret (v := .tuple #[.agg #[.int .i64 s, .int .i64 s, .slice a j cp], .bool true]) (by simp [results, Try.results26, go_sem, z0, z1, z2]) rfl ?_
        exact BelIf.yes hf ⟨_, _, X, rfl, FS.to hX3 (by simp [World.setCell]) (fun q hq => by have hf := hfar q hq; rw [Below.heap_setCell _ _ _ _ hf, Below.heap_setCell _ _ _ _ hf, Below.heap_setCell _ _ _ _ hf]), hV, (by repeat first | (with_reducible exact B2) | (with_reducible refine Below.setCell ?_ (by first | exact Nat.le_refl _ | (simp; done) | (simp; omega) | omega) _) | (with_reducible refine Below.alloc ?_ (by first | exact Nat.le_refl _ | (simp; done) | (simp; omega) | omega) _) | (with_reducible refine below_drewN ?_ _) | (with_reducible refine Below.drew ?_))⟩
      | false =>
        rw [hf] at hvB
        go_wp2_with fail
        go_at_call 46
        refine (specGive_no _ _ _ _ _ X _ (by omega) hX hvB).mono ?_
        rintro e w4 ⟨rfl, b4⟩
        have hk2 := hk.below b4
        clear hk y0 y1 y2 hX
        obtain ⟨z0, z1, z2⟩ := hk2.res
        have B2 := Ba.trans (hk2.bel.mono (by omega))
        have hice : ∀ i, w4.frozen? ⟨w.heap.size + 1, i, none⟩ = false := fun i => by have hh := hk2.ice i; rwa [sa] at hh
        rw [sa] at z0 z1 z2
        clear hk2
        go_wp2_with fail
        refine bodyPost_ret (v := .tuple #[.agg #[.int .i64 0, .int .i64 0, .slice none 0 0], .bool false]) (by simp [results, Try.results26, go_sem, z0, z1, z2]) rfl ?_
        exact BelIf.no hf ⟨none, 0, fun _ => 0, rfl, ⟨Nat.le_refl _, Nat.zero_le _, fun i hi => absurd hi (Nat.not_lt_zero _)⟩, fun i hi => absurd hi (Nat.not_lt_zero _), (by repeat first | (with_reducible exact B2) | (with_reducible refine Below.setCell ?_ (by first | exact Nat.le_refl _ | (simp; done) | (simp; omega) | omega) _) | (with_reducible refine Below.alloc ?_ (by first | exact Nat.le_refl _ | (simp; done) | (simp; omega) | omega) _) | (with_reducible refine below_drewN ?_ _) | (with_reducible refine Below.drew ?_))⟩
end Go.Proofs.Ytffmjfgechdjjaa
