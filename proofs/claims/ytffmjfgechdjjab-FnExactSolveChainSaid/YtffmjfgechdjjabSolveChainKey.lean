/- Helper: what the square of a chain makes a list of, of the reference, and what program and reference both tell. Conditions: none. -/
import Derived.Test.YtffmjfgechdjjabSolveChainImpl
set_option linter.unusedVariables false
set_option linter.unusedSimpArgs false
namespace Go.Proofs.Ytffmjfgechdjjab
open Go.RowKit

theorem solveList_yes (a : Option Addr) (n c : Nat) (X : Nat → Nat) (w : World) (hn : n ≤ 1048576) (f : FS .f32 w a n c X) (hf : allFin (vals X) n = true) : Calls Try.prog 41 #[.slice a n c] w fun e w' => e = .returned (.tuple #[.slice a n c, .bool true]) ∧ ∃ m, w' = w.drewN m := by
  go_enter Try.func41, Try.ntmps41
  go_wp2_with fail
  go_at_call 65
  refine (specFin_any a n c X _ hn f).mono ?_
  rintro e w4 ⟨rfl, m4, rfl⟩
  go_wp2_with fail
  go_ret2
  exact ⟨rfl, _, rfl⟩
theorem solveList_no (a : Option Addr) (n c : Nat) (X : Nat → Nat) (w : World) (hn : n ≤ 1048576) (f : FS .f32 w a n c X) (hf : allFin (vals X) n = false) : Calls Try.prog 41 #[.slice a n c] w fun e w' => e = .returned (.tuple #[.slice none 0 0, .bool false]) ∧ ∃ m, w' = w.drewN m := by
  go_enter Try.func41, Try.ntmps41
  go_wp2_with fail
  go_at_call 65
  refine (specFin_any a n c X _ hn f).mono ?_
  rintro e w4 ⟨rfl, m4, rfl⟩
  go_wp2_with fail
  go_ret2
  exact ⟨rfl, _, rfl⟩
set_option maxRecDepth 20000 in
set_option maxHeartbeats 8000000 in
theorem specSolve_yes (b off n c n2 c2 p o d : Nat) (a2 : Option Addr) (Z Z2 Y : Nat → Nat) (w : World) (OK : Bool) (VX : Nat → Option Nat) (h1 : 1 ≤ n) (h12 : n ≤ 12) (hn2 : n2 + 1 = n) (hv : chainB n (vals Z) n2 (vals Z2) = true) (hvec : vecB n (vals Y) = true)
    (hVX : VX = scX n (vals Z) (vals Z2) (vals Y)) (hOK : OK = allFin VX n)
    (h : FS .f32 w (some ⟨b, off, none⟩) n c Z) (h2 : FS .f32 w a2 n2 c2 Z2) (h3 : FS .f32 w (some ⟨p, o, none⟩) n d Y) :
    Calls Try.prog 18 #[.agg #[.slice (some ⟨b, off, none⟩) n c, .slice a2 n2 c2], .slice (some ⟨p, o, none⟩) n d] w (NBelIf OK n VX w) := by
  have HVEC := Lib.hid hvec
  have HVX := Lib.hid hVX
  have HOK := Lib.hid hOK
  obtain ⟨i0, hi, hz0, hz1, hz2⟩ := info_parts info32
  have hia := l04Is_any w.heap.size (some ⟨b, off, none⟩) n c Z a2 n2 c2 Z2
  rw [hv] at hia
  clear hv hvec hVX hOK
  have hlen : ((n : Int) != (n : Int)) = false := by simp
  go_enter Try.func18, Try.ntmps18
  go_wp2_with fail
  go_at_call 36
  refine (hia _ (by omega) (by omega) (BoxC.new _ _ _ _ _ _ _ _) (h.below (by repeat first | (with_reducible exact Below.refl _ _) | (with_reducible refine Below.setCell ?_ (by first | exact Nat.le_refl _ | (simp; done) | (simp; omega) | omega) _) | (with_reducible refine Below.alloc ?_ (by first | exact Nat.le_refl _ | (simp; done) | (simp; omega) | omega) _) | (with_reducible refine below_drewN ?_ _) | (with_reducible refine Below.drew ?_)) (Nat.le_refl _)) (h2.below (by repeat first | (with_reducible exact Below.refl _ _) | (with_reducible refine Below.setCell ?_ (by first | exact Nat.le_refl _ | (simp; done) | (simp; omega) | omega) _) | (with_reducible refine Below.alloc ?_ (by first | exact Nat.le_refl _ | (simp; done) | (simp; omega) | omega) _) | (with_reducible refine below_drewN ?_ _) | (with_reducible refine Below.drew ?_)) (Nat.le_refl _))).mono ?_
  rintro e wq ⟨rfl, m1, rfl⟩
  go_wp2_with fail
  go_at_call 40
  refine (specVector_any _ n d Y _ (by omega) (h3.below (by repeat first | (with_reducible exact Below.refl _ _) | (with_reducible refine Below.setCell ?_ (by first | exact Nat.le_refl _ | (simp; done) | (simp; omega) | omega) _) | (with_reducible refine Below.alloc ?_ (by first | exact Nat.le_refl _ | (simp; done) | (simp; omega) | omega) _) | (with_reducible refine below_drewN ?_ _) | (with_reducible refine Below.drew ?_)) (Nat.le_refl _))).mono ?_
  rintro e wq ⟨rfl, m2, rfl⟩
  rw [HVEC.out]
  generalize hw3 : ((w.alloc (.cells #[.slice (some ⟨b, off, none⟩) n c, .slice a2 n2 c2] 28)).drewN m1).drewN m2 = w3
  have B3 : Below w.heap.size w w3 := by rw [← hw3]; exact (by repeat first | (with_reducible exact Below.refl _ _) | (with_reducible refine Below.setCell ?_ (by first | exact Nat.le_refl _ | (simp; done) | (simp; omega) | omega) _) | (with_reducible refine Below.alloc ?_ (by first | exact Nat.le_refl _ | (simp; done) | (simp; omega) | omega) _) | (with_reducible refine below_drewN ?_ _) | (with_reducible refine Below.drew ?_))
  have s3 : w.heap.size < w3.heap.size := by rw [← hw3]; simp [World.drewN]
  have X3 : BoxC w3 w.heap.size (some ⟨b, off, none⟩) n c a2 n2 c2 := by rw [← hw3]; exact BoxC.drewN (BoxC.drewN (BoxC.new _ _ _ _ _ _ _ _))
  have G1 := h.below B3 (Nat.le_refl _)
  have G2 := h2.below B3 (Nat.le_refl _)
  have G3 := h3.below B3 (Nat.le_refl _)
  clear hw3 hia h h2 h3
  obtain ⟨x0, x1⟩ := X3
  have X3 : BoxC w3 w.heap.size (some ⟨b, off, none⟩) n c a2 n2 c2 := ⟨x0, x1⟩
  have hcell := Lib.hid (cells32_cell G1)
  have hwf : Hid (∀ j, j < n → (Lit.float .f32 (Z j)).wf = true) := Lib.hid fun j hj => (G1.at hj).elim fun _ q => q.elim fun _ q => q.2.2.2.2
  clear G1
  go_wp2_with (at_builtin; refine wpList_append_own _ rfl _ _ 22 rfl w3.heap.size 46 i0 (.float .f32 0) 1 4 Try.underlying22 hi hz0 hz1 hz2 rfl (by decide) _ _ _ rfl (World.ownsRow_made w3 #[] 0 (Nat.le_refl _) (Nat.zero_le _) (by simp)) ⟨b, off, none⟩ n c (cellsOf32 Z n) rfl ?qc1 ?qc2 ?qc3 ?qc4 ?qc5 ?qc6 ?_)
  case qc1 => rw [cells32_len]; omega
  case qc2 =>
    intro j u hj
    rw [Addr.add_lit]
    exact Lib.cell?_alloc_some _ (hcell.out j u hj)
  case qc3 => exact cells32_one
  case qc4 => rw [Nat.zero_add]; unfold maxLen; omega
  case qc5 => rw [Nat.zero_add]; omega
  case qc6 => simp
  intro v' w4 hown hgrow hnil
  have hown2 : w4.ownsRow w3.heap.size 46 1 v' n (cellsOf32 Z n) := by simpa using hown
  obtain ⟨gD, dD, rfl, oD, _, _⟩ := own_of_row (Z := Z) hown2 (by omega) (fun j hj => cells32_at hj) hwf.out
  have b34 : Below w3.heap.size w3 w4 := ((Below.refl _ w3).alloc (Nat.le_refl _) _).grown hgrow (by simp) (by intro k hk; simp [Value.ownBlock] at hk; omega)
  have s4 := b34.size
  have oD4 := oD
  have H3 := G3.below b34 (Nat.le_refl _)
  have hcell2 := Lib.hid (cells32_cell H3)
  have hwf2 : Hid (∀ j, j < n → (Lit.float .f32 (Y j)).wf = true) := Lib.hid fun j hj => (H3.at hj).elim fun _ q => q.elim fun _ q => q.2.2.2.2
  clear hown hgrow hnil hown2 oD G3 H3 hcell hwf x0 x1
  go_wp2_with (at_builtin; refine wpList_append_own _ rfl _ _ 22 rfl w4.heap.size 46 i0 (.float .f32 0) 1 4 Try.underlying22 hi hz0 hz1 hz2 rfl (by decide) _ _ _ rfl (World.ownsRow_made w4 #[] 0 (Nat.le_refl _) (Nat.zero_le _) (by simp)) ⟨p, o, none⟩ n d (cellsOf32 Y n) rfl ?qc1 ?qc2 ?qc3 ?qc4 ?qc5 ?qc6 ?_)
  case qc1 => rw [cells32_len]; omega
  case qc2 =>
    intro j u hj
    rw [Addr.add_lit]
    exact Lib.cell?_alloc_some _ (hcell2.out j u hj)
  case qc3 => exact cells32_one
  case qc4 => rw [Nat.zero_add]; unfold maxLen; omega
  case qc5 => rw [Nat.zero_add]; omega
  case qc6 => simp
  intro v' w5 hown hgrow hnil
  have hown2 : w5.ownsRow w4.heap.size 46 1 v' n (cellsOf32 Y n) := by simpa using hown
  obtain ⟨gX, dX, rfl, oX, _, _⟩ := own_of_row (Z := Y) hown2 (by omega) (fun j hj => cells32_at hj) hwf2.out
  have b45 : Below w4.heap.size w4 w5 := ((Below.refl _ w4).alloc (Nat.le_refl _) _).grown hgrow (by simp) (by intro k hk; simp [Value.ownBlock] at hk; omega)
  have s5 := b45.size
  have B35 := b34.trans (b45.mono b34.size)
  have oD5 := oD4.kept (below_grew b45) (fun q hq => by cases hq)
  clear hown hgrow hnil hown2 oD4 b34 b45 hcell2 hwf2
  obtain ⟨SD, hSD⟩ : ∃ SD, SD = scD (vals Z) (vals Z2) := ⟨_, rfl⟩
  obtain ⟨SG, hSG⟩ : ∃ SG, SG = scG (vals Z) (vals Z2) (vals Y) := ⟨_, rfl⟩
  have HSD := Lib.hid hSD
  have HSG := Lib.hid hSG
  clear hSD hSG
  go_wp2
  go_loopw [9] (fun i wr => ∃ (J : Nat) (D X : Nat → Nat), 1 ≤ J ∧ J ≤ n ∧ i = .int .i64 J ∧ (∀ t, t < n → vals D t = scL SD (vals Z) (J - 1) t) ∧ (∀ t, t < n → vals X t = scL SG (vals Y) (J - 1) t) ∧ Own 46 .f32 w3.heap.size w4.heap.size wr (some ⟨gD, 0, none⟩) n dD D ∧ Own 46 .f32 w4.heap.size w5.heap.size wr (some ⟨gX, 0, none⟩) n dX X ∧ Below w3.heap.size w3 wr) (fun i _ => n - (intOf i).toNat)
  case atStart =>
    exact ⟨1, Z, Y, Nat.le_refl _, h1, rfl, fun t ht => (scL_zero (by rw [HSD.out]; rfl) t).symm, fun t ht => (scL_zero (by rw [HSG.out]; rfl) t).symm, oD5, oX, B35⟩
  case round =>
    obtain ⟨J, D, X, hJ1, hJ, rfl, hD, hX, kD, kX, hb⟩ := hrel
    clear oD5 oX B35
    have HD := Lib.hid hD
    have HX := Lib.hid hX
    clear hD hX
    by_cases hlt : J < n
    · obtain ⟨j, hj⟩ : ∃ j, j + 1 = J := ⟨J - 1, by omega⟩
      have hjn : j < n := by omega
      have hj2 : j < n2 := by omega
      have hdl : decide ((J : Int) < (n : Int)) = true := decide_eq_true (by omega)
      have e1 : J - 1 = j := by omega
      rw [e1] at HD HX
      have hm1 : (J : Int) - 1 = (j : Int) := by omega
      obtain ⟨bs, os, e, hbl, hces, hfvs⟩ := (G2.below hb (Nat.le_refl _)).at hj2
      subst e
      obtain ⟨x0, x1⟩ := X3.below hb s3
      have fS : FV .f32 (Z2 j) (vals Z2 j) := FV.mk' hfvs.2
      obtain ⟨cD, rD, gd1, gd2, gd3, wD⟩ := kD.cell (t := j) hjn
      obtain ⟨cD1, rD1, _, _, _, wD1⟩ := kD.cell (t := J) hlt
      have fD : FV .f32 (D j) (SD j) := ⟨(HD.out j hjn).trans (scL_at (Nat.le_refl _)), wD⟩
      have fD1 : FV .f32 (D J) (vals Z J) := ⟨(HD.out J hlt).trans (scL_next (by omega)), wD1⟩
      have kD' := Lib.hid kD
      have kX' := Lib.hid kX
      have hb' := Lib.hid hb
      have HJ := Lib.hid hj
      clear hfvs hbl wD wD1 kD kX hb hj e1
      go_wp2
      (refine wp_region_loose_tail 12 (by kernel_rfl) (by kernel_rfl) ?_; simp only [List.take_succ_cons, List.take_zero, List.drop_succ_cons, List.drop_zero]; (repeat (refine wpLoose_want rfl (fun K hK => ?_); first | (refine loose_farith _ _ _ _ _ rfl rfl _ _ _ rfl rfl (by first | assumption | (with_reducible exact FV.ofInt _ _) | (with_reducible exact FV.neg (by assumption)) | exact FV.lit (by kernel_rfl) (by kernel_rfl)) (by first | assumption | (with_reducible exact FV.ofInt _ _) | (with_reducible exact FV.neg (by assumption)) | exact FV.lit (by kernel_rfl) (by kernel_rfl)) ?_; intro r hr; refine hK _ ?_; clear hK K; simp only [Act.put, List.setIfInBounds_toArray, List.set_cons_succ, List.set_cons_zero]) | (refine loose_of_quiet rfl ?_; go_big_quiet_op; refine hK _ ?_; clear hK K))); refine wpLoose_nil ?_)
      rintro _ ⟨k1, rfl⟩
      have hr1 := hr
      clear hr
      generalize r = f1 at hr1 ⊢
      go_wp2
      (refine wp_region_loose_tail 16 (by kernel_rfl) (by kernel_rfl) ?_; simp only [List.take_succ_cons, List.take_zero, List.drop_succ_cons, List.drop_zero]; (repeat (refine wpLoose_want rfl (fun K hK => ?_); first | (refine loose_farith _ _ _ _ _ rfl rfl _ _ _ rfl rfl (by first | assumption | (with_reducible exact FV.ofInt _ _) | (with_reducible exact FV.neg (by assumption)) | exact FV.lit (by kernel_rfl) (by kernel_rfl)) (by first | assumption | (with_reducible exact FV.ofInt _ _) | (with_reducible exact FV.neg (by assumption)) | exact FV.lit (by kernel_rfl) (by kernel_rfl)) ?_; intro r hr; refine hK _ ?_; clear hK K; simp only [Act.put, List.setIfInBounds_toArray, List.set_cons_succ, List.set_cons_zero]) | (refine loose_of_quiet rfl ?_; go_big_quiet_op; refine hK _ ?_; clear hK K))); refine wpLoose_nil ?_)
      rintro _ ⟨k2, rfl⟩
      have hr3 := hr
      clear hr
      generalize r = f2 at hr3 ⊢
      obtain ⟨wv, hwv⟩ : ∃ wv, wv = (wr.drewN k1).drewN k2 := ⟨_, rfl⟩
      rw [← hwv]
      have cDv : wv.cell? ⟨gD, J, none⟩ = some (.float .f32 (D J)) := by rw [hwv]; exact cD1
      have rDv : wv.frozen? ⟨gD, J, none⟩ = false := by rw [hwv]; exact rD1
      have kDv : Own 46 .f32 w3.heap.size w4.heap.size wv (some ⟨gD, 0, none⟩) n dD D := by rw [hwv]; exact kD'.out
      have kXv : Own 46 .f32 w4.heap.size w5.heap.size wv (some ⟨gX, 0, none⟩) n dX X := by rw [hwv]; exact kX'.out
      have hbv : Below w3.heap.size w3 wv := by rw [hwv]; exact below_drewN (below_drewN hb'.out _) _
      obtain ⟨kD2, gg⟩ := kDv.stored (t := J) hlt hr3.2
      have kX2 := kXv.kept gg (fun q hq => by cases hq; left; omega)
      have hb2 : Below w3.heap.size w3 (wv.setCell ⟨gD, J, none⟩ (.float .f32 f2)) := hbv.setCell (by show w3.heap.size ≤ gD; omega) _
      have HD2 : Hid (∀ t, t < n → vals (fun t => if t = J then f2 else D t) t = scL SD (vals Z) (J + 1 - 1) t) := Lib.hid (by
        have e := HJ.out
        subst e
        exact scL_step HD.out (hr3.1.trans (by rw [HSD.out]; rfl)))
      have kD3 := Lib.hid kD2
      have kX3 := Lib.hid kX2
      have hb3 := Lib.hid hb2
      clear kD2 kX2 hb2 gg kDv kXv hbv hwv cD rD cD1 rD1 hces x0 x1 kD' kX' hb' fS fD fD1 hr3
      go_wp2
      generalize wv.setCell ⟨gD, J, none⟩ (.float .f32 f2) = wA at kD3 kX3 hb3 ⊢
      obtain ⟨cX, rX, gx1, gx2, gx3, wX⟩ := kX3.out.cell (t := j) hjn
      obtain ⟨cX1, rX1, _, _, _, wX1⟩ := kX3.out.cell (t := J) hlt
      have fX : FV .f32 (X j) (SG j) := ⟨(HX.out j hjn).trans (scL_at (Nat.le_refl _)), wX⟩
      have fX1 : FV .f32 (X J) (vals Y J) := ⟨(HX.out J hlt).trans (scL_next (by have := HJ.out; omega)), wX1⟩
      clear cDv rDv wX wX1
      (refine wp_region_loose_tail 15 (by kernel_rfl) (by kernel_rfl) ?_; simp only [List.take_succ_cons, List.take_zero, List.drop_succ_cons, List.drop_zero]; (repeat (refine wpLoose_want rfl (fun K hK => ?_); first | (refine loose_farith _ _ _ _ _ rfl rfl _ _ _ rfl rfl (by first | assumption | (with_reducible exact FV.ofInt _ _) | (with_reducible exact FV.neg (by assumption)) | exact FV.lit (by kernel_rfl) (by kernel_rfl)) (by first | assumption | (with_reducible exact FV.ofInt _ _) | (with_reducible exact FV.neg (by assumption)) | exact FV.lit (by kernel_rfl) (by kernel_rfl)) ?_; intro r hr; refine hK _ ?_; clear hK K; simp only [Act.put, List.setIfInBounds_toArray, List.set_cons_succ, List.set_cons_zero]) | (refine loose_of_quiet rfl ?_; go_big_quiet_op; refine hK _ ?_; clear hK K))); refine wpLoose_nil ?_)
      rintro _ ⟨k3, rfl⟩
      obtain ⟨kX4, gg⟩ := (show Own 46 .f32 w4.heap.size w5.heap.size (wA.drewN k3) (some ⟨gX, 0, none⟩) n dX X from kX3.out).stored (t := J) hlt hr.2
      have kD4 := Lib.hid ((show Own 46 .f32 w3.heap.size w4.heap.size (wA.drewN k3) (some ⟨gD, 0, none⟩) n dD _ from kD3.out).kept gg (fun q hq => by cases hq; right; omega))
      have hb4 : Hid (Below w3.heap.size w3 ((wA.drewN k3).setCell ⟨gX, J, none⟩ (.float .f32 r))) := Lib.hid ((below_drewN hb3.out _).setCell (by show w3.heap.size ≤ gX; omega) _)
      have HX2 : Hid (∀ t, t < n → vals (fun t => if t = J then r else X t) t = scL SG (vals Y) (J + 1 - 1) t) := Lib.hid (by
        have e := HJ.out
        subst e
        exact scL_step HX.out (hr.1.trans (by rw [HSG.out, HSD.out]; rfl)))
      have kX5 := Lib.hid kX4
      clear kX4 gg kD3 kX3 hb3 cX rX fX fX1 hr1 hm1
      go_wp2_with fail
      go_roundw
      case rel => exact ⟨J + 1, _, _, by omega, by omega, by go_num, HD2.out, HX2.out, kD4.out, kX5.out, hb4.out⟩
      case measure => simp [intOf]; omega
    · obtain rfl : n = J := by omega
      have hdl : decide ((n : Int) < (n : Int)) = false := decide_eq_false (by omega)
      obtain ⟨SX, hSX⟩ : ∃ SX, SX = scX n (vals Z) (vals Z2) (vals Y) := ⟨_, rfl⟩
      have HSX := Lib.hid hSX
      have HDD : Hid (∀ t, t < n → vals D t = SD t) := Lib.hid (fun t ht => (HD.out t ht).trans (scL_at (by omega)))
      have HXX : Hid (∀ t, t < n → vals X t = SG t) := Lib.hid (fun t ht => (HX.out t ht).trans (scL_at (by omega)))
      obtain ⟨w6, hw6e⟩ : ∃ w6, w6 = wr := ⟨_, rfl⟩
      subst hw6e
      have h5D := (kD.cell (t := 0) (by omega)).2.2.2.2.1
      have h5 := (kX.cell (t := 0) (by omega)).2.2.2.2.1
      have kD' := Lib.hid kD
      have kX' := Lib.hid kX
      have hb' := Lib.hid hb
      clear kD kX hb hSX
      go_wp2_with (at_make; refine wpList_make_full _ rfl _ _ 22 rfl w6.heap.size 46 i0 (.float .f32 0) 1 Try.underlying22 hi hz0 hz1 _ _ _ _ n rfl rfl rfl rfl ?b2 ?b3 (Nat.le_refl _) ?_)
      case b2 => rw [hz2]; omega
      case b3 => unfold maxLen; omega
      intro w0 hown0 hgrow0
      have hU := (hown0.lt w6.heap.size rfl).2
      have o0 := own_zero (w := w6) (U := w0.heap.size) hown0 (Nat.le_refl _) hU (Nat.le_refl _) (by unfold maxLen; omega)
      have b60 : Below w6.heap.size w6 w0 := (Below.refl _ _).grown hgrow0 (Nat.le_refl _) (fun k h => by cases h)
      have kD7 := kD'.out.kept (below_grew b60) (fun q hq => by cases hq)
      have kX7 := kX'.out.kept (below_grew b60) (fun q hq => by cases hq)
      have hb7 := hb'.out.trans (b60.mono hb'.out.size)
      clear hown0 hgrow0 b60 kD' kX' hb' hdl
      go_wp2
      go_loopw [12] (fun i wr => ∃ (k : Nat) (O : Nat → Nat), k ≤ n ∧ i = .int .i64 ((n : Int) - 1 - k) ∧ (∀ t, t < n → n - k ≤ t → vals O t = SX t) ∧ Own 46 .f32 w3.heap.size w4.heap.size wr (some ⟨gD, 0, none⟩) n dD D ∧ Own 46 .f32 w4.heap.size w5.heap.size wr (some ⟨gX, 0, none⟩) n dX X ∧ Own 46 .f32 w6.heap.size w0.heap.size wr (some ⟨w6.heap.size, 0, none⟩) n n O ∧ Below w3.heap.size w3 wr) (fun i _ => (intOf i + 1).toNat)
      case atStart => exact ⟨0, _, Nat.zero_le _, by simp, fun t ht h => absurd ht (by omega), kD7, kX7, o0, hb7⟩
      case round =>
        obtain ⟨k, O, hk, rfl, hO, lD, lX, lO, hb⟩ := hrel
        have HO := Lib.hid hO
        clear hO kD7 kX7 o0 hb7
        by_cases hlt2 : k < n
        · obtain ⟨q, hq⟩ : ∃ q, q + (k + 1) = n := ⟨n - (k + 1), by omega⟩
          have hqi : (n : Int) - 1 - k = (q : Int) := by omega
          rw [hqi]
          have hqn : q < n := by omega
          have HQ := Lib.hid hq
          obtain ⟨cD, rD, gd1, gd2, gd3, wD⟩ := lD.cell (t := q) hqn
          obtain ⟨cX, rX, gx1, gx2, gx3, wX⟩ := lX.cell (t := q) hqn
          obtain ⟨cO, rO, go1, go2, go3, wO⟩ := lO.cell (t := q) hqn
          have fD : FV .f32 (D q) (SD q) := ⟨HDD.out q hqn, wD⟩
          have fX : FV .f32 (X q) (SG q) := ⟨HXX.out q hqn, wX⟩
          have lD' := Lib.hid lD
          have lX' := Lib.hid lX
          have lO' := Lib.hid lO
          have hb' := Lib.hid hb
          have hne : Hid (Value.int .i64 ((q : Int) - 1) = Value.int .i64 ((n : Int) - 1 - ((k + 1 : Nat) : Int))) := Lib.hid (by rw [show (q : Int) - 1 = (n : Int) - 1 - ((k + 1 : Nat) : Int) by have := HQ.out; omega])
          by_cases hlast : q + 1 < n
          · have hdq : decide ((q : Int) + 1 < (n : Int)) = true := decide_eq_true (by omega)
            have hq3 : q < n2 := by omega
            obtain ⟨bs, os, e, hbl, hces, hfvs⟩ := (G2.below hb (Nat.le_refl _)).at hq3
            subst e
            obtain ⟨x0, x1⟩ := X3.below hb s3
            have fS : FV .f32 (Z2 q) (vals Z2 q) := FV.mk' hfvs.2
            obtain ⟨cO1, rO1, _, _, _, wO1⟩ := lO.cell (t := q + 1) hlast
            have fO1 : FV .f32 (O (q + 1)) (SX (q + 1)) := ⟨HO.out (q + 1) hlast (by omega), wO1⟩
            clear lD lX lO hb wD wX wO wO1 hbl hfvs hqi hq
            go_wp2
            (refine wp_region_loose_tail 13 (by kernel_rfl) (by kernel_rfl) ?_; simp only [List.take_succ_cons, List.take_zero, List.drop_succ_cons, List.drop_zero]; (repeat (refine wpLoose_want rfl (fun K hK => ?_); first | (refine loose_farith _ _ _ _ _ rfl rfl _ _ _ rfl rfl (by first | assumption | (with_reducible exact FV.ofInt _ _) | (with_reducible exact FV.neg (by assumption)) | exact FV.lit (by kernel_rfl) (by kernel_rfl)) (by first | assumption | (with_reducible exact FV.ofInt _ _) | (with_reducible exact FV.neg (by assumption)) | exact FV.lit (by kernel_rfl) (by kernel_rfl)) ?_; intro r hr; refine hK _ ?_; clear hK K; simp only [Act.put, List.setIfInBounds_toArray, List.set_cons_succ, List.set_cons_zero]) | (refine loose_of_quiet rfl ?_; go_big_quiet_op; refine hK _ ?_; clear hK K))); refine wpLoose_nil ?_)
            rintro _ ⟨k3, rfl⟩
            have hr1 := hr
            clear hr
            generalize r = f1 at hr1 ⊢
            go_wp2_with (refine wpList_farith rfl _ _ _ _ _ rfl rfl _ _ _ rfl rfl hr1 fD ?_; intro r4 m4 hr4)
            obtain ⟨O4, gg⟩ := (show Own 46 .f32 w6.heap.size w0.heap.size (wr.drewN (k3 + m4)) (some ⟨w6.heap.size, 0, none⟩) n n O from lO'.out).stored (t := q) hqn hr4.2
            have kD4 := (show Own 46 .f32 w3.heap.size w4.heap.size (wr.drewN (k3 + m4)) (some ⟨gD, 0, none⟩) n dD D from lD'.out).kept gg (fun q hq => by cases hq; right; omega)
            have kX4 := (show Own 46 .f32 w4.heap.size w5.heap.size (wr.drewN (k3 + m4)) (some ⟨gX, 0, none⟩) n dX X from lX'.out).kept gg (fun q hq => by cases hq; right; omega)
            have hb4 : Below w3.heap.size w3 ((wr.drewN (k3 + m4)).setCell ⟨w6.heap.size, q, none⟩ (.float .f32 r4)) := (below_drewN hb'.out _).setCell (by show w3.heap.size ≤ w6.heap.size; omega) _
            have HO4 : ∀ t, t < n → n - (k + 1) ≤ t → vals (fun t => if t = q then r4 else O t) t = SX t := by
              intro t ht h
              show cn .f32 (if t = q then r4 else O t) = SX t
              by_cases e : t = q
              · subst e; rw [if_pos rfl]
                refine hr4.1.trans ?_
                rw [HSX.out, HSD.out, HSG.out]
                exact (scX_step hlast).symm
              · rw [if_neg e]; exact HO.out t ht (by have := HQ.out; omega)
            exact ⟨⟨k + 1, _, by omega, hne.out, HO4, kD4, kX4, O4, hb4⟩, by simp [intOf]⟩
          · have hdq : decide ((q : Int) + 1 < (n : Int)) = false := decide_eq_false (by omega)
            clear lD lX lO hb wD wX wO hqi hq
            go_wp2_with (refine wpList_farith rfl _ _ _ _ _ rfl rfl _ _ _ rfl rfl fX fD ?_; intro r4 m4 hr4)
            obtain ⟨O4, gg⟩ := (show Own 46 .f32 w6.heap.size w0.heap.size (wr.drewN (m4)) (some ⟨w6.heap.size, 0, none⟩) n n O from lO'.out).stored (t := q) hqn hr4.2
            have kD4 := (show Own 46 .f32 w3.heap.size w4.heap.size (wr.drewN (m4)) (some ⟨gD, 0, none⟩) n dD D from lD'.out).kept gg (fun q hq => by cases hq; right; omega)
            have kX4 := (show Own 46 .f32 w4.heap.size w5.heap.size (wr.drewN (m4)) (some ⟨gX, 0, none⟩) n dX X from lX'.out).kept gg (fun q hq => by cases hq; right; omega)
            have hb4 : Below w3.heap.size w3 ((wr.drewN (m4)).setCell ⟨w6.heap.size, q, none⟩ (.float .f32 r4)) := (below_drewN hb'.out _).setCell (by show w3.heap.size ≤ w6.heap.size; omega) _
            have HO4 : ∀ t, t < n → n - (k + 1) ≤ t → vals (fun t => if t = q then r4 else O t) t = SX t := by
              intro t ht h
              show cn .f32 (if t = q then r4 else O t) = SX t
              by_cases e : t = q
              · subst e; rw [if_pos rfl]
                refine hr4.1.trans ?_
                rw [HSX.out, HSD.out, HSG.out]
                exact by have e : t = n - 1 := by omega
                         rw [e]; exact (scX_last h1).symm
              · rw [if_neg e]; exact HO.out t ht (by have := HQ.out; omega)
            exact ⟨⟨k + 1, _, by omega, hne.out, HO4, kD4, kX4, O4, hb4⟩, by simp [intOf]⟩
        · obtain rfl : n = k := by omega
          have hqi : (n : Int) - 1 - n = -1 := by omega
          rw [hqi]
          have hbw := Lib.hid (B3.trans (hb.mono B3.size))
          have FX := lO.fs
          have hVV : ∀ t, t < n → vals O t = VX t := fun t ht => (HO.out t ht (by omega)).trans (by rw [HVX.out, ← HSX.out])
          have hfin : allFin (vals O) n = OK := by rw [HOK.out]; exact allFin_congr hVV
          have HVV := Lib.hid hVV
          have hs3 := B3.size
          clear lD lX lO hb hVV hqi
          cases OK with
          | true =>
            go_wp2_with fail
            go_at_call 41
            refine (solveList_yes _ n n O _ (by omega) FX hfin).mono ?_
            rintro e w9 ⟨rfl, m9, rfl⟩
            go_wp2_with fail
            go_ret2
            exact ⟨_, _, O, rfl, FS.drewN FX, HVV.out, below_drewN hbw.out _⟩
          | false =>
            go_wp2_with fail
            go_at_call 41
            refine (solveList_no _ n n O _ (by omega) FX hfin).mono ?_
            rintro e w9 ⟨rfl, m9, rfl⟩
            go_wp2_with fail
            go_ret2
            exact ⟨none, 0, fun _ => 0, rfl, ⟨Nat.le_refl _, Nat.zero_le _, fun i hi => absurd hi (Nat.not_lt_zero _)⟩, fun i hi => absurd hi (Nat.not_lt_zero _), below_drewN hbw.out _⟩
/-- What is solved. -/
def slOk (n : Nat) (V : Nat → Option Nat) (n2 : Nat) (V2 : Nat → Option Nat) (m : Nat) (U : Nat → Option Nat) : Bool := chainB n V n2 V2 && (vecB m U && decide (m = n))
theorem implSolve_no (a : Option Addr) (n c : Nat) (Z : Nat → Nat) (a2 : Option Addr) (n2 c2 : Nat) (Z2 : Nat → Nat) (a3 : Option Addr) (m d : Nat) (Y : Nat → Nat) (w : World) (hn : n ≤ 1048576) (hn2 : n2 ≤ 1048576) (hm : m ≤ 1048576) (h : FS .f32 w a n c Z) (h2 : FS .f32 w a2 n2 c2 Z2) (h3 : FS .f32 w a3 m d Y) (ho : slOk n (vals Z) n2 (vals Z2) m (vals Y) = false) :
    Calls Try.prog 20 #[.agg #[.slice a n c, .slice a2 n2 c2], .slice a3 m d] w (NumsOwn false 0 (fun _ => none) w) := by
  have hia := fun W q1 q2 => implChain_any a n c Z a2 n2 c2 Z2 W hn hn2 q1 q2
  cases hv : chainB n (vals Z) n2 (vals Z2) with
  | false =>
    rw [hv] at hia
    clear ho hv
    go_enter Try.func20, Try.ntmps20
    go_wp2_with fail
    go_at_call 38
    refine (hia _ (h.below (by repeat first | (with_reducible exact Below.refl _ _) | (with_reducible refine Below.setCell ?_ (by first | exact Nat.le_refl _ | (simp; done) | (simp; omega) | omega) _) | (with_reducible refine Below.alloc ?_ (by first | exact Nat.le_refl _ | (simp; done) | (simp; omega) | omega) _) | (with_reducible refine below_drewN ?_ _) | (with_reducible refine Below.drew ?_)) (Nat.le_refl _)) (h2.below (by repeat first | (with_reducible exact Below.refl _ _) | (with_reducible refine Below.setCell ?_ (by first | exact Nat.le_refl _ | (simp; done) | (simp; omega) | omega) _) | (with_reducible refine Below.alloc ?_ (by first | exact Nat.le_refl _ | (simp; done) | (simp; omega) | omega) _) | (with_reducible refine below_drewN ?_ _) | (with_reducible refine Below.drew ?_)) (Nat.le_refl _))).mono ?_
    rintro e w1 ⟨rfl, b1⟩
    have B1 : Below w.heap.size w w1 := Below.trans (by repeat first | (with_reducible exact Below.refl _ _) | (with_reducible refine Below.setCell ?_ (by first | exact Nat.le_refl _ | (simp; done) | (simp; omega) | omega) _) | (with_reducible refine Below.alloc ?_ (by first | exact Nat.le_refl _ | (simp; done) | (simp; omega) | omega) _) | (with_reducible refine below_drewN ?_ _) | (with_reducible refine Below.drew ?_)) (b1.mono (by simp))
    go_wp2_with fail
    go_ret2
    exact ⟨none, 0, fun _ => 0, rfl, .inl ⟨rfl, rfl, rfl⟩, fun i hi => absurd hi (Nat.not_lt_zero _), B1⟩
  | true =>
    rw [hv] at hia
    cases hvec : vecB m (vals Y) with
    | false =>
      clear ho hv
      go_enter Try.func20, Try.ntmps20
      go_wp2_with fail
      go_at_call 38
      refine (hia _ (h.below (by repeat first | (with_reducible exact Below.refl _ _) | (with_reducible refine Below.setCell ?_ (by first | exact Nat.le_refl _ | (simp; done) | (simp; omega) | omega) _) | (with_reducible refine Below.alloc ?_ (by first | exact Nat.le_refl _ | (simp; done) | (simp; omega) | omega) _) | (with_reducible refine below_drewN ?_ _) | (with_reducible refine Below.drew ?_)) (Nat.le_refl _)) (h2.below (by repeat first | (with_reducible exact Below.refl _ _) | (with_reducible refine Below.setCell ?_ (by first | exact Nat.le_refl _ | (simp; done) | (simp; omega) | omega) _) | (with_reducible refine Below.alloc ?_ (by first | exact Nat.le_refl _ | (simp; done) | (simp; omega) | omega) _) | (with_reducible refine below_drewN ?_ _) | (with_reducible refine Below.drew ?_)) (Nat.le_refl _))).mono ?_
      rintro e w1 ⟨rfl, b1⟩
      have B1 : Below w.heap.size w w1 := Below.trans (by repeat first | (with_reducible exact Below.refl _ _) | (with_reducible refine Below.setCell ?_ (by first | exact Nat.le_refl _ | (simp; done) | (simp; omega) | omega) _) | (with_reducible refine Below.alloc ?_ (by first | exact Nat.le_refl _ | (simp; done) | (simp; omega) | omega) _) | (with_reducible refine below_drewN ?_ _) | (with_reducible refine Below.drew ?_)) (b1.mono (by simp))
      have H3 := h3.below B1 (Nat.le_refl _)
      clear hia b1
      go_wp2_with fail
      go_at_call 42
      refine (implVector_any _ m d Y _ hm H3).mono ?_
      rintro e w3 ⟨rfl, m3, rfl⟩
      rw [hvec]
      go_wp2_with fail
      go_ret2
      exact ⟨none, 0, fun _ => 0, rfl, .inl ⟨rfl, rfl, rfl⟩, fun i hi => absurd hi (Nat.not_lt_zero _), below_drewN B1 _⟩
    | true =>
      have hne : m ≠ n := by
        intro e
        unfold slOk at ho
        rw [hv, hvec, decide_eq_true e] at ho
        cases ho
      have hd : ((m : Int) != (n : Int)) = true := by simp; omega
      clear ho hv hne
      go_enter Try.func20, Try.ntmps20
      go_wp2_with fail
      go_at_call 38
      refine (hia _ (h.below (by repeat first | (with_reducible exact Below.refl _ _) | (with_reducible refine Below.setCell ?_ (by first | exact Nat.le_refl _ | (simp; done) | (simp; omega) | omega) _) | (with_reducible refine Below.alloc ?_ (by first | exact Nat.le_refl _ | (simp; done) | (simp; omega) | omega) _) | (with_reducible refine below_drewN ?_ _) | (with_reducible refine Below.drew ?_)) (Nat.le_refl _)) (h2.below (by repeat first | (with_reducible exact Below.refl _ _) | (with_reducible refine Below.setCell ?_ (by first | exact Nat.le_refl _ | (simp; done) | (simp; omega) | omega) _) | (with_reducible refine Below.alloc ?_ (by first | exact Nat.le_refl _ | (simp; done) | (simp; omega) | omega) _) | (with_reducible refine below_drewN ?_ _) | (with_reducible refine Below.drew ?_)) (Nat.le_refl _))).mono ?_
      rintro e w1 ⟨rfl, b1⟩
      have B1 : Below w.heap.size w w1 := Below.trans (by repeat first | (with_reducible exact Below.refl _ _) | (with_reducible refine Below.setCell ?_ (by first | exact Nat.le_refl _ | (simp; done) | (simp; omega) | omega) _) | (with_reducible refine Below.alloc ?_ (by first | exact Nat.le_refl _ | (simp; done) | (simp; omega) | omega) _) | (with_reducible refine below_drewN ?_ _) | (with_reducible refine Below.drew ?_)) (b1.mono (by simp))
      have H3 := h3.below B1 (Nat.le_refl _)
      have X1 := (BoxC.new _ _ _ _ _ _ _ _).below b1 (by simp)
      obtain ⟨x0, x1⟩ := X1
      clear hia b1
      go_wp2_with fail
      go_at_call 42
      refine (implVector_any _ m d Y _ hm H3).mono ?_
      rintro e w3 ⟨rfl, m3, rfl⟩
      rw [hvec]
      go_wp2_with fail
      go_ret2
      exact ⟨none, 0, fun _ => 0, rfl, .inl ⟨rfl, rfl, rfl⟩, fun i hi => absurd hi (Nat.not_lt_zero _), below_drewN B1 _⟩
theorem specSolve_no (a : Option Addr) (n c : Nat) (Z : Nat → Nat) (a2 : Option Addr) (n2 c2 : Nat) (Z2 : Nat → Nat) (a3 : Option Addr) (m d : Nat) (Y : Nat → Nat) (w : World) (hn : n ≤ 1048576) (hn2 : n2 ≤ 1048576) (hm : m ≤ 1048576) (h : FS .f32 w a n c Z) (h2 : FS .f32 w a2 n2 c2 Z2) (h3 : FS .f32 w a3 m d Y) (ho : slOk n (vals Z) n2 (vals Z2) m (vals Y) = false) :
    Calls Try.prog 18 #[.agg #[.slice a n c, .slice a2 n2 c2], .slice a3 m d] w (NumsBel false 0 (fun _ => none) w) := by
  have hia := l04Is_any w.heap.size a n c Z a2 n2 c2 Z2
  cases hv : chainB n (vals Z) n2 (vals Z2) with
  | false =>
    rw [hv] at hia
    clear ho hv
    go_enter Try.func18, Try.ntmps18
    go_wp2_with fail
    go_at_call 36
    refine (hia _ hn hn2 (BoxC.new _ _ _ _ _ _ _ _) (h.below (by repeat first | (with_reducible exact Below.refl _ _) | (with_reducible refine Below.setCell ?_ (by first | exact Nat.le_refl _ | (simp; done) | (simp; omega) | omega) _) | (with_reducible refine Below.alloc ?_ (by first | exact Nat.le_refl _ | (simp; done) | (simp; omega) | omega) _) | (with_reducible refine below_drewN ?_ _) | (with_reducible refine Below.drew ?_)) (Nat.le_refl _)) (h2.below (by repeat first | (with_reducible exact Below.refl _ _) | (with_reducible refine Below.setCell ?_ (by first | exact Nat.le_refl _ | (simp; done) | (simp; omega) | omega) _) | (with_reducible refine Below.alloc ?_ (by first | exact Nat.le_refl _ | (simp; done) | (simp; omega) | omega) _) | (with_reducible refine below_drewN ?_ _) | (with_reducible refine Below.drew ?_)) (Nat.le_refl _))).mono ?_
    rintro e w1 ⟨rfl, m1, rfl⟩
    go_wp2_with fail
    go_ret2
    exact ⟨none, 0, fun _ => 0, rfl, ⟨Nat.le_refl _, Nat.zero_le _, fun i hi => absurd hi (Nat.not_lt_zero _)⟩, fun i hi => absurd hi (Nat.not_lt_zero _), (by repeat first | (with_reducible exact Below.refl _ _) | (with_reducible refine Below.setCell ?_ (by first | exact Nat.le_refl _ | (simp; done) | (simp; omega) | omega) _) | (with_reducible refine Below.alloc ?_ (by first | exact Nat.le_refl _ | (simp; done) | (simp; omega) | omega) _) | (with_reducible refine below_drewN ?_ _) | (with_reducible refine Below.drew ?_))⟩
  | true =>
    rw [hv] at hia
    cases hvec : vecB m (vals Y) with
    | false =>
      clear ho hv
      go_enter Try.func18, Try.ntmps18
      go_wp2_with fail
      go_at_call 36
      refine (hia _ hn hn2 (BoxC.new _ _ _ _ _ _ _ _) (h.below (by repeat first | (with_reducible exact Below.refl _ _) | (with_reducible refine Below.setCell ?_ (by first | exact Nat.le_refl _ | (simp; done) | (simp; omega) | omega) _) | (with_reducible refine Below.alloc ?_ (by first | exact Nat.le_refl _ | (simp; done) | (simp; omega) | omega) _) | (with_reducible refine below_drewN ?_ _) | (with_reducible refine Below.drew ?_)) (Nat.le_refl _)) (h2.below (by repeat first | (with_reducible exact Below.refl _ _) | (with_reducible refine Below.setCell ?_ (by first | exact Nat.le_refl _ | (simp; done) | (simp; omega) | omega) _) | (with_reducible refine Below.alloc ?_ (by first | exact Nat.le_refl _ | (simp; done) | (simp; omega) | omega) _) | (with_reducible refine below_drewN ?_ _) | (with_reducible refine Below.drew ?_)) (Nat.le_refl _))).mono ?_
      rintro e w1 ⟨rfl, m1, rfl⟩
      clear hia
      go_wp2_with fail
      go_at_call 40
      refine (specVector_any _ m d Y _ hm (h3.below (by repeat first | (with_reducible exact Below.refl _ _) | (with_reducible refine Below.setCell ?_ (by first | exact Nat.le_refl _ | (simp; done) | (simp; omega) | omega) _) | (with_reducible refine Below.alloc ?_ (by first | exact Nat.le_refl _ | (simp; done) | (simp; omega) | omega) _) | (with_reducible refine below_drewN ?_ _) | (with_reducible refine Below.drew ?_)) (Nat.le_refl _))).mono ?_
      rintro e w3 ⟨rfl, m3, rfl⟩
      rw [hvec]
      go_wp2_with fail
      go_ret2
      exact ⟨none, 0, fun _ => 0, rfl, ⟨Nat.le_refl _, Nat.zero_le _, fun i hi => absurd hi (Nat.not_lt_zero _)⟩, fun i hi => absurd hi (Nat.not_lt_zero _), (by repeat first | (with_reducible exact Below.refl _ _) | (with_reducible refine Below.setCell ?_ (by first | exact Nat.le_refl _ | (simp; done) | (simp; omega) | omega) _) | (with_reducible refine Below.alloc ?_ (by first | exact Nat.le_refl _ | (simp; done) | (simp; omega) | omega) _) | (with_reducible refine below_drewN ?_ _) | (with_reducible refine Below.drew ?_))⟩
    | true =>
      have hne : m ≠ n := by
        intro e
        unfold slOk at ho
        rw [hv, hvec, decide_eq_true e] at ho
        cases ho
      have hd : ((m : Int) != (n : Int)) = true := by simp; omega
      clear ho hv hne
      go_enter Try.func18, Try.ntmps18
      go_wp2_with fail
      go_at_call 36
      refine (hia _ hn hn2 (BoxC.new _ _ _ _ _ _ _ _) (h.below (by repeat first | (with_reducible exact Below.refl _ _) | (with_reducible refine Below.setCell ?_ (by first | exact Nat.le_refl _ | (simp; done) | (simp; omega) | omega) _) | (with_reducible refine Below.alloc ?_ (by first | exact Nat.le_refl _ | (simp; done) | (simp; omega) | omega) _) | (with_reducible refine below_drewN ?_ _) | (with_reducible refine Below.drew ?_)) (Nat.le_refl _)) (h2.below (by repeat first | (with_reducible exact Below.refl _ _) | (with_reducible refine Below.setCell ?_ (by first | exact Nat.le_refl _ | (simp; done) | (simp; omega) | omega) _) | (with_reducible refine Below.alloc ?_ (by first | exact Nat.le_refl _ | (simp; done) | (simp; omega) | omega) _) | (with_reducible refine below_drewN ?_ _) | (with_reducible refine Below.drew ?_)) (Nat.le_refl _))).mono ?_
      rintro e w1 ⟨rfl, m1, rfl⟩
      clear hia
      go_wp2_with fail
      go_at_call 40
      refine (specVector_any _ m d Y _ hm (h3.below (by repeat first | (with_reducible exact Below.refl _ _) | (with_reducible refine Below.setCell ?_ (by first | exact Nat.le_refl _ | (simp; done) | (simp; omega) | omega) _) | (with_reducible refine Below.alloc ?_ (by first | exact Nat.le_refl _ | (simp; done) | (simp; omega) | omega) _) | (with_reducible refine below_drewN ?_ _) | (with_reducible refine Below.drew ?_)) (Nat.le_refl _))).mono ?_
      rintro e w3 ⟨rfl, m3, rfl⟩
      rw [hvec]
      go_wp2_with fail
      go_ret2
      exact ⟨none, 0, fun _ => 0, rfl, ⟨Nat.le_refl _, Nat.zero_le _, fun i hi => absurd hi (Nat.not_lt_zero _)⟩, fun i hi => absurd hi (Nat.not_lt_zero _), (by repeat first | (with_reducible exact Below.refl _ _) | (with_reducible refine Below.setCell ?_ (by first | exact Nat.le_refl _ | (simp; done) | (simp; omega) | omega) _) | (with_reducible refine Below.alloc ?_ (by first | exact Nat.le_refl _ | (simp; done) | (simp; omega) | omega) _) | (with_reducible refine below_drewN ?_ _) | (with_reducible refine Below.drew ?_))⟩
theorem keySolveChain (n : Nat) (Z : Nat → Nat) (n2 : Nat) (Z2 : Nat → Nat) (m : Nat) (Y : Nat → Nat) (hn : n ≤ 1048576) (hn2 : n2 ≤ 1048576) (hm : m ≤ 1048576) : ∃ (ok : Bool) (n' : Nat) (V : Nat → Option Nat), n' ≤ 144 ∧
    (∀ a c a2 c2 a3 d W, FS .f32 W a n c Z → FS .f32 W a2 n2 c2 Z2 → FS .f32 W a3 m d Y → Calls Try.prog 18 #[.agg #[.slice a n c, .slice a2 n2 c2], .slice a3 m d] W (NumsBel ok n' V W)) ∧
    (∀ a c a2 c2 a3 d W, FS .f32 W a n c Z → FS .f32 W a2 n2 c2 Z2 → FS .f32 W a3 m d Y → Calls Try.prog 20 #[.agg #[.slice a n c, .slice a2 n2 c2], .slice a3 m d] W (NumsOwn ok n' V W)) := by
  cases ho : slOk n (vals Z) n2 (vals Z2) m (vals Y) with
  | false => exact ⟨false, 0, fun _ => none, by omega, fun a c a2 c2 a3 d W h h2 h3 => specSolve_no a n c Z a2 n2 c2 Z2 a3 m d Y W hn hn2 hm h h2 h3 ho, fun a c a2 c2 a3 d W h h2 h3 => implSolve_no a n c Z a2 n2 c2 Z2 a3 m d Y W hn hn2 hm h h2 h3 ho⟩
  | true =>
    unfold slOk at ho
    simp only [Bool.and_eq_true, decide_eq_true_eq] at ho
    obtain ⟨hv, hvec, rfl⟩ := ho
    obtain ⟨h1, h12, e2, f1, f2⟩ := chain_nat hv
    have k1 : ∀ a c a2 c2 a3 d W, FS .f32 W a m c Z → FS .f32 W a2 n2 c2 Z2 → FS .f32 W a3 m d Y → Calls Try.prog 18 #[.agg #[.slice a m c, .slice a2 n2 c2], .slice a3 m d] W (NBelIf (allFin (scX m (vals Z) (vals Z2) (vals Y)) m) m (scX m (vals Z) (vals Z2) (vals Y)) W) := fun a c a2 c2 a3 d W h h2 h3 => by
      obtain ⟨b, off, rfl, _, _, _⟩ := h.at (show 0 < m by omega)
      obtain ⟨p, o, rfl, _, _, _⟩ := h3.at (show 0 < m by omega)
      exact specSolve_yes b off m c n2 c2 p o d a2 Z Z2 Y W _ _ h1 h12 e2 hv hvec rfl rfl h h2 h3
    have k2 : ∀ a c a2 c2 a3 d W, FS .f32 W a m c Z → FS .f32 W a2 n2 c2 Z2 → FS .f32 W a3 m d Y → Calls Try.prog 20 #[.agg #[.slice a m c, .slice a2 n2 c2], .slice a3 m d] W (NOwnIf (allFin (scX m (vals Z) (vals Z2) (vals Y)) m) m (scX m (vals Z) (vals Z2) (vals Y)) W) := fun a c a2 c2 a3 d W h h2 h3 => by
      obtain ⟨b, off, rfl, _, _, _⟩ := h.at (show 0 < m by omega)
      obtain ⟨p, o, rfl, _, _, _⟩ := h3.at (show 0 < m by omega)
      exact implSolve_yes b off m c n2 c2 p o d a2 Z Z2 Y W _ _ h1 h12 e2 hv hvec rfl rfl h h2 h3
    generalize allFin (scX m (vals Z) (vals Z2) (vals Y)) m = ok at k1 k2
    cases ok
    · exact ⟨false, 0, fun _ => none, by omega, k1, k2⟩
    · exact ⟨true, m, scX m (vals Z) (vals Z2) (vals Y), by omega, k1, k2⟩
end Go.Proofs.Ytffmjfgechdjjab
