/- Helper: what the square of a chain makes a list of, of the program. Conditions: none. -/
import Derived.Test.YtffmjfgechdjjabChainKey
import Derived.Test.YtffmjfgechdjjabMid
import Derived.Test.YtffmjfgechdjjabPivot
import Derived.Test.YtffmjfgechdjjabBoxes
set_option linter.unusedVariables false
set_option linter.unusedSimpArgs false
namespace Go.Proofs.Ytffmjfgechdjjab
open Go.RowKit

/-- The middle behind the steps down, and the list, and what is solved from the last row on. -/
def scD (M S : Nat → Option Nat) : Nat → Option Nat
  | 0 => M 0
  | j + 1 => fop .sub .f32 (M (j + 1)) (fop .mul .f32 (fop .quo .f32 (S j) (scD M S j)) (S j))
def scG (M S V : Nat → Option Nat) : Nat → Option Nat
  | 0 => V 0
  | j + 1 => fop .sub .f32 (V (j + 1)) (fop .mul .f32 (fop .quo .f32 (S j) (scD M S j)) (scG M S V j))
def scE (n : Nat) (M S V : Nat → Option Nat) : Nat → Option Nat
  | 0 => fop .quo .f32 (scG M S V (n - 1)) (scD M S (n - 1))
  | k + 1 => fop .quo .f32 (fop .sub .f32 (scG M S V (n - 1 - (k + 1))) (fop .mul .f32 (S (n - 1 - (k + 1))) (scE n M S V k))) (scD M S (n - 1 - (k + 1)))
def scX (n : Nat) (M S V : Nat → Option Nat) (t : Nat) : Option Nat := scE n M S V (n - 1 - t)
/-- A list of which the numbers up to j are done. -/
def scL (F X : Nat → Option Nat) (j t : Nat) : Option Nat := if t ≤ j then F t else X t
/-- A list of which the numbers from j on are done. -/
def scU (F X : Nat → Option Nat) (j t : Nat) : Option Nat := if j ≤ t then F t else X t
theorem scL_step {F X : Nat → Option Nat} {j n : Nat} {D : Nat → Nat} {r : Nat} (h : ∀ t, t < n → vals D t = scL F X j t) (hr : cn .f32 r = F (j + 1)) : ∀ t, t < n → vals (fun t => if t = j + 1 then r else D t) t = scL F X (j + 1) t := by
  intro t ht
  show cn .f32 (if t = j + 1 then r else D t) = (if t ≤ j + 1 then F t else X t)
  by_cases e : t = j + 1
  · subst e; rw [if_pos rfl, if_pos (Nat.le_refl _)]; exact hr
  · rw [if_neg e]
    have hh := h t ht
    unfold vals scL at hh
    rw [hh]
    by_cases e2 : t ≤ j
    · rw [if_pos e2, if_pos (by omega)]
    · rw [if_neg e2, if_neg (by omega)]
theorem scU_step {F X : Nat → Option Nat} {j n : Nat} {D : Nat → Nat} {r : Nat} (h : ∀ t, t < n → vals D t = scU F X (j + 1) t) (hr : cn .f32 r = F j) : ∀ t, t < n → vals (fun t => if t = j then r else D t) t = scU F X j t := by
  intro t ht
  show cn .f32 (if t = j then r else D t) = (if j ≤ t then F t else X t)
  by_cases e : t = j
  · subst e; rw [if_pos rfl, if_pos (Nat.le_refl _)]; exact hr
  · rw [if_neg e]
    have hh := h t ht
    unfold vals scU at hh
    rw [hh]
    by_cases e2 : j + 1 ≤ t
    · rw [if_pos e2, if_pos (by omega)]
    · rw [if_neg e2, if_neg (by omega)]
theorem scX_last {n : Nat} {M S V : Nat → Option Nat} (h : 1 ≤ n) : scX n M S V (n - 1) = fop .quo .f32 (scG M S V (n - 1)) (scD M S (n - 1)) := by
  unfold scX
  rw [Nat.sub_self]; rfl
theorem scX_step {n j : Nat} {M S V : Nat → Option Nat} (h : j + 1 < n) : scX n M S V j = fop .quo .f32 (fop .sub .f32 (scG M S V j) (fop .mul .f32 (S j) (scX n M S V (j + 1)))) (scD M S j) := by
  unfold scX
  obtain ⟨k, hk⟩ : ∃ k, n - 1 - j = k + 1 := ⟨n - 1 - (j + 1), by omega⟩
  have h1 : n - 1 - (j + 1) = k := by omega
  have h2 : n - 1 - (k + 1) = j := by omega
  rw [hk, h1]
  show fop .quo .f32 (fop .sub .f32 (scG M S V (n - 1 - (k + 1))) (fop .mul .f32 (S (n - 1 - (k + 1))) (scE n M S V k))) (scD M S (n - 1 - (k + 1))) = _
  rw [h2]
theorem scL_zero {F X : Nat → Option Nat} (h : F 0 = X 0) (t : Nat) : scL F X 0 t = X t := by
  unfold scL
  by_cases e : t ≤ 0
  · obtain rfl : t = 0 := by omega
    rw [if_pos e, h]
  · rw [if_neg e]
theorem scL_at {F X : Nat → Option Nat} {j t : Nat} (h : t ≤ j) : scL F X j t = F t := if_pos h
theorem scL_next {F X : Nat → Option Nat} {j t : Nat} (h : j < t) : scL F X j t = X t := if_neg (by omega)
theorem scL_all {F X : Nat → Option Nat} {n : Nat} (h : 1 ≤ n) {t : Nat} (ht : t < n) : scL F X (n - 1) t = F t := by unfold scL; rw [if_pos (by omega)]

theorem vec_solve {n : Nat} {V : Nat → Option Nat} (h1 : 1 ≤ n) (h12 : n ≤ 12) : vecB n V = allFin V n := by
  unfold vecB
  rw [decide_eq_true h1, decide_eq_true (show n ≤ 256 by omega)]
  rfl
set_option maxRecDepth 20000 in
set_option maxHeartbeats 4000000 in
theorem implSolve_yes (b off n c n2 c2 p o d : Nat) (a2 : Option Addr) (Z Z2 Y : Nat → Nat) (w : World) (OK : Bool) (VX : Nat → Option Nat) (h1 : 1 ≤ n) (h12 : n ≤ 12) (hn2 : n2 + 1 = n) (hv : chainB n (vals Z) n2 (vals Z2) = true) (hvec : vecB n (vals Y) = true)
    (hVX : VX = scX n (vals Z) (vals Z2) (vals Y)) (hOK : OK = allFin VX n)
    (h : FS .f32 w (some ⟨b, off, none⟩) n c Z) (h2 : FS .f32 w a2 n2 c2 Z2) (h3 : FS .f32 w (some ⟨p, o, none⟩) n d Y) :
    Calls Try.prog 20 #[.agg #[.slice (some ⟨b, off, none⟩) n c, .slice a2 n2 c2], .slice (some ⟨p, o, none⟩) n d] w (NOwnIf OK n VX w) := by
  have HV := Lib.hid hv
  have HVEC := Lib.hid hvec
  have HVX := Lib.hid hVX
  have HOK := Lib.hid hOK
  clear hv hvec hVX hOK
  have hlen : ((n : Int) != (n : Int)) = false := by simp
  go_enter Try.func20, Try.ntmps20
  go_wp2_with fail
  go_at_call 38
  refine (implChain_any _ n c Z a2 n2 c2 Z2 _ (by omega) (by omega) (h.below (by repeat first | (with_reducible exact Below.refl _ _) | (with_reducible refine Below.setCell ?_ (by first | exact Nat.le_refl _ | (simp; done) | (simp; omega) | omega) _) | (with_reducible refine Below.alloc ?_ (by first | exact Nat.le_refl _ | (simp; done) | (simp; omega) | omega) _) | (with_reducible refine below_drewN ?_ _) | (with_reducible refine Below.drew ?_)) (Nat.le_refl _)) (h2.below (by repeat first | (with_reducible exact Below.refl _ _) | (with_reducible refine Below.setCell ?_ (by first | exact Nat.le_refl _ | (simp; done) | (simp; omega) | omega) _) | (with_reducible refine Below.alloc ?_ (by first | exact Nat.le_refl _ | (simp; done) | (simp; omega) | omega) _) | (with_reducible refine below_drewN ?_ _) | (with_reducible refine Below.drew ?_)) (Nat.le_refl _))).mono ?_
  rintro e w2 ⟨rfl, b1⟩
  have B2 : Below w.heap.size w w2 := Below.trans (by repeat first | (with_reducible exact Below.refl _ _) | (with_reducible refine Below.setCell ?_ (by first | exact Nat.le_refl _ | (simp; done) | (simp; omega) | omega) _) | (with_reducible refine Below.alloc ?_ (by first | exact Nat.le_refl _ | (simp; done) | (simp; omega) | omega) _) | (with_reducible refine below_drewN ?_ _) | (with_reducible refine Below.drew ?_)) (b1.mono (by simp))
  have s2 : w.heap.size < w2.heap.size := by have := b1.size; simp at this; omega
  have X2 := (BoxC.new _ _ _ _ _ _ _ _).below b1 (by simp)
  have F1 := h.below B2 (Nat.le_refl _)
  have F2 := h2.below B2 (Nat.le_refl _)
  have F3 := h3.below B2 (Nat.le_refl _)
  have X2' := X2
  obtain ⟨x0, x1⟩ := X2'
  clear b1 h h2 h3
  rw [HV.out]
  go_wp2_with fail
  go_at_call 42
  refine (implVector_any _ n d Y _ (by omega) F3).mono ?_
  rintro e w3 ⟨rfl, m3, rfl⟩
  rw [HVEC.out]
  generalize hw3 : w2.drewN m3 = w3
  have B3 : Below w.heap.size w w3 := by rw [← hw3]; exact below_drewN B2 m3
  have s3 : w.heap.size < w3.heap.size := by rw [← hw3]; exact s2
  have X3 : BoxC w3 w.heap.size (some ⟨b, off, none⟩) n c a2 n2 c2 := by rw [← hw3]; exact X2.drewN
  have G1 : FS .f32 w3 (some ⟨b, off, none⟩) n c Z := by rw [← hw3]; exact FS.drewN F1
  have G2 : FS .f32 w3 a2 n2 c2 Z2 := by rw [← hw3]; exact FS.drewN F2
  have G3 : FS .f32 w3 (some ⟨p, o, none⟩) n d Y := by rw [← hw3]; exact FS.drewN F3
  clear hw3 B2 X2 F1 F2 F3 x0 x1 s2
  have X3' := X3
  obtain ⟨x0, x1⟩ := X3'
  go_wp2_with fail
  go_at_call 43
  refine (clone_any b off n c Z _ (by omega) (by omega) G1).mono ?_
  rintro e w4 ⟨gD, dD, rfl, oD, b4⟩
  have s4 := b4.size
  have H3 := G3.below b4 (Nat.le_refl _)
  have X4' := X3.below b4 s3
  obtain ⟨y0, y1⟩ := X4'
  have B34 := b4
  clear b4 x0 x1 G1 G3
  go_wp2_with fail
  go_at_call 43
  refine (clone_any p o n d Y _ (by omega) (by omega) H3).mono ?_
  rintro e w5 ⟨gX, dX, rfl, oX, b5⟩
  have s5 := b5.size
  have B35 := B34.trans (b5.mono B34.size)
  have oD5 := oD.kept (below_grew b5) (fun q hq => by cases hq)
  clear b5 H3 B34 oD y0 y1
  have X5' := X3.below B35 s3
  obtain ⟨x0, x1⟩ := X5'
  obtain ⟨SD, hSD⟩ : ∃ SD, SD = scD (vals Z) (vals Z2) := ⟨_, rfl⟩
  obtain ⟨SG, hSG⟩ : ∃ SG, SG = scG (vals Z) (vals Z2) (vals Y) := ⟨_, rfl⟩
  have HSD := Lib.hid hSD
  have HSG := Lib.hid hSG
  clear hSD hSG
  go_wp2
  go_loopw [37] (fun i wr => ∃ (j : Nat) (D X : Nat → Nat), j ≤ n2 ∧ i = .int .i64 j ∧ (∀ t, t < n → vals D t = scL SD (vals Z) j t) ∧ (∀ t, t < n → vals X t = scL SG (vals Y) j t) ∧ Own 46 .f32 w3.heap.size w4.heap.size wr (some ⟨gD, 0, none⟩) n dD D ∧ Own 46 .f32 w4.heap.size w5.heap.size wr (some ⟨gX, 0, none⟩) n dX X ∧ Below w3.heap.size w3 wr) (fun i _ => n2 - (intOf i).toNat)
  case atStart =>
    refine ⟨0, Z, Y, Nat.zero_le _, rfl, fun t ht => (scL_zero (by rw [HSD.out]; rfl) t).symm, fun t ht => (scL_zero (by rw [HSG.out]; rfl) t).symm, oD5, oX, B35⟩
  case round =>
    obtain ⟨j, D, X, hj, rfl, hD, hX, kD, kX, hb⟩ := hrel
    clear oD5 oX B35 x0 x1
    have HD := Lib.hid hD
    have HX := Lib.hid hX
    clear hD hX
    by_cases hlt : j < n2
    · obtain ⟨bs, os, e, hbl, hces, hfvs⟩ := (G2.below hb (Nat.le_refl _)).at hlt
      subst e
      have fS : FV .f32 (Z2 j) (vals Z2 j) := FV.mk' hfvs.2
      obtain ⟨cD, rD, gd1, gd2, gd3, wD⟩ := kD.cell (t := j) (by omega)
      obtain ⟨cD1, rD1, _, _, _, wD1⟩ := kD.cell (t := j + 1) (by omega)
      have fD : FV .f32 (D j) (SD j) := ⟨(HD.out j (by omega)).trans (scL_at (Nat.le_refl _)), wD⟩
      have fD1 : FV .f32 (D (j + 1)) (vals Z (j + 1)) := ⟨(HD.out (j + 1) (by omega)).trans (scL_next (Nat.lt_succ_self _)), wD1⟩
      have kD' := Lib.hid kD
      have kX' := Lib.hid kX
      have hb' := Lib.hid hb
      clear hfvs hbl wD wD1 kD kX hb
      go_wp2_with (first
        | (refine wpList_farith rfl _ _ _ _ _ rfl rfl _ _ _ rfl rfl fS fD ?_; intro r1 m1 hr1)
        | (refine wpList_farith rfl _ _ _ _ _ rfl rfl _ _ _ rfl rfl hr1 fS ?_; intro r2 m2 hr2)
        | (refine wpList_farith rfl _ _ _ _ _ rfl rfl _ _ _ rfl rfl fD1 hr2 ?_; intro r3 m4 hr3))
      obtain ⟨kD2, gg⟩ := (show Own 46 .f32 w3.heap.size w4.heap.size (wr.drewN (m1 + m2 + m4)) (some ⟨gD, 0, none⟩) n dD D from kD'.out).stored (t := j + 1) (by omega) hr3.2
      have kX2 := (show Own 46 .f32 w4.heap.size w5.heap.size (wr.drewN (m1 + m2 + m4)) (some ⟨gX, 0, none⟩) n dX X from kX'.out).kept gg (fun q hq => by cases hq; left; omega)
      have hb2 : Below w3.heap.size w3 ((wr.drewN (m1 + m2 + m4)).setCell ⟨gD, j + 1, none⟩ (.float .f32 r3)) := (below_drewN hb'.out _).setCell (by show w3.heap.size ≤ gD; omega) _
      generalize (wr.drewN (m1 + m2 + m4)).setCell ⟨gD, j + 1, none⟩ (.float .f32 r3) = wA at kD2 gg kX2 hb2 ⊢
      have HD2 : Hid (∀ t, t < n → vals (fun t => if t = j + 1 then r3 else D t) t = scL SD (vals Z) (j + 1) t) := Lib.hid (scL_step HD.out (hr3.1.trans (by rw [HSD.out]; rfl)))
      obtain ⟨cX, rX, gx1, gx2, gx3, wX⟩ := kX2.cell (t := j) (by omega)
      obtain ⟨cX1, rX1, _, _, _, wX1⟩ := kX2.cell (t := j + 1) (by omega)
      have fX : FV .f32 (X j) (SG j) := ⟨(HX.out j (by omega)).trans (scL_at (Nat.le_refl _)), wX⟩
      have fX1 : FV .f32 (X (j + 1)) (vals Y (j + 1)) := ⟨(HX.out (j + 1) (by omega)).trans (scL_next (Nat.lt_succ_self _)), wX1⟩
      have kD3 := Lib.hid kD2
      have kX3 := Lib.hid kX2
      have hb3 := Lib.hid hb2
      clear kD2 kX2 hb2 gg kD' kX' hb' cD rD cD1 rD1 hces fS fD fD1 hr2 hr3 wX wX1
      (refine wp_region_loose_tail 13 (by kernel_rfl) (by kernel_rfl) ?_; simp only [List.take_succ_cons, List.take_zero, List.drop_succ_cons, List.drop_zero]; (repeat (refine wpLoose_want rfl (fun K hK => ?_); first | (refine loose_farith _ _ _ _ _ rfl rfl _ _ _ rfl rfl (by first | assumption | (with_reducible exact FV.ofInt _ _) | (with_reducible exact FV.neg (by assumption)) | exact FV.lit (by kernel_rfl) (by kernel_rfl)) (by first | assumption | (with_reducible exact FV.ofInt _ _) | (with_reducible exact FV.neg (by assumption)) | exact FV.lit (by kernel_rfl) (by kernel_rfl)) ?_; intro r hr; refine hK _ ?_; clear hK K; simp only [Act.put, List.setIfInBounds_toArray, List.set_cons_succ, List.set_cons_zero]) | (refine loose_of_quiet rfl ?_; go_big_quiet_op; refine hK _ ?_; clear hK K))); refine wpLoose_nil ?_)
      rintro _ ⟨k2, rfl⟩
      obtain ⟨kX4, gg⟩ := (show Own 46 .f32 w4.heap.size w5.heap.size (wA.drewN k2) (some ⟨gX, 0, none⟩) n dX X from kX3.out).stored (t := j + 1) (by omega) hr.2
      have kD4 := Lib.hid ((show Own 46 .f32 w3.heap.size w4.heap.size (wA.drewN k2) (some ⟨gD, 0, none⟩) n dD _ from kD3.out).kept gg (fun q hq => by cases hq; right; omega))
      have hb4 : Hid (Below w3.heap.size w3 ((wA.drewN k2).setCell ⟨gX, j + 1, none⟩ (.float .f32 r))) := Lib.hid ((below_drewN hb3.out _).setCell (by show w3.heap.size ≤ gX; omega) _)
      have HX2 : Hid (∀ t, t < n → vals (fun t => if t = j + 1 then r else X t) t = scL SG (vals Y) (j + 1) t) := Lib.hid (scL_step HX.out (hr.1.trans (by rw [HSG.out, HSD.out]; rfl)))
      have kX5 := Lib.hid kX4
      clear kX4 gg kD3 kX3 hb3 cX rX fX fX1 hr1
      go_wp2_with fail
      go_roundw
      case rel => exact ⟨j + 1, _, _, by omega, by go_num, HD2.out, HX2.out, kD4.out, kX5.out, hb4.out⟩
      case measure => simp [intOf]; omega
    · obtain rfl : n2 = j := by omega
      have hn1 : (n : Int) - 1 = (n2 : Int) := by omega
      obtain ⟨SX, hSX⟩ : ∃ SX, SX = scX n (vals Z) (vals Z2) (vals Y) := ⟨_, rfl⟩
      have HSX := Lib.hid hSX
      obtain ⟨cD, rD, gd1, gd2, gd3, wD⟩ := kD.cell (t := n2) (by omega)
      obtain ⟨cX, rX, gx1, gx2, gx3, wX⟩ := kX.cell (t := n2) (by omega)
      have fD : FV .f32 (D n2) (SD n2) := ⟨(HD.out n2 (by omega)).trans (scL_at (Nat.le_refl _)), wD⟩
      have fX : FV .f32 (X n2) (SG n2) := ⟨(HX.out n2 (by omega)).trans (scL_at (Nat.le_refl _)), wX⟩
      have kD' := Lib.hid kD
      have kX' := Lib.hid kX
      have hb' := Lib.hid hb
      clear kD kX hb wD wX hSX
      go_wp2
      (refine wp_region_loose_tail 10 (by kernel_rfl) (by kernel_rfl) ?_; simp only [List.take_succ_cons, List.take_zero, List.drop_succ_cons, List.drop_zero]; (repeat (refine wpLoose_want rfl (fun K hK => ?_); first | (refine loose_farith _ _ _ _ _ rfl rfl _ _ _ rfl rfl (by first | assumption | (with_reducible exact FV.ofInt _ _) | (with_reducible exact FV.neg (by assumption)) | exact FV.lit (by kernel_rfl) (by kernel_rfl)) (by first | assumption | (with_reducible exact FV.ofInt _ _) | (with_reducible exact FV.neg (by assumption)) | exact FV.lit (by kernel_rfl) (by kernel_rfl)) ?_; intro r hr; refine hK _ ?_; clear hK K; simp only [Act.put, List.setIfInBounds_toArray, List.set_cons_succ, List.set_cons_zero]) | (refine loose_of_quiet rfl ?_; go_big_quiet_op; refine hK _ ?_; clear hK K))); refine wpLoose_nil ?_)
      rintro _ ⟨k2, rfl⟩
      obtain ⟨kX4, gg⟩ := (show Own 46 .f32 w4.heap.size w5.heap.size (wr.drewN k2) (some ⟨gX, 0, none⟩) n dX X from kX'.out).stored (t := n2) (by omega) hr.2
      have kD4 := (show Own 46 .f32 w3.heap.size w4.heap.size (wr.drewN k2) (some ⟨gD, 0, none⟩) n dD _ from kD'.out).kept gg (fun q hq => by cases hq; right; omega)
      have hb4 : Below w3.heap.size w3 ((wr.drewN k2).setCell ⟨gX, n2, none⟩ (.float .f32 r)) := (below_drewN hb'.out _).setCell (by show w3.heap.size ≤ gX; omega) _
      have HX2 : Hid (∀ t, t < n → vals (fun t => if t = n2 then r else X t) t = scU SX SG n2 t) := Lib.hid (scU_step (fun t ht => by
          rw [HX.out t ht, scL_at (by omega)]; unfold scU; rw [if_neg (by omega)]) (hr.1.trans (by
          rw [HSX.out, HSD.out, HSG.out]
          have e : n2 = n - 1 := by omega
          rw [e]; exact (scX_last h1).symm)))
      have HDD : Hid (∀ t, t < n → vals D t = SD t) := Lib.hid (fun t ht => (HD.out t ht).trans (scL_at (by omega)))
      have kD5 := Lib.hid kD4
      have kX5 := Lib.hid kX4
      have hb5 := Lib.hid hb4
      clear kX4 gg kD4 hb4 kD' kX' hb' cD rD fD fX
      go_wp2_with fail
      generalize (wr.drewN k2).setCell ⟨gX, n2, none⟩ (.float .f32 r) = w6 at kX5 kD5 hb5 ⊢
      clear cX rX hn1
      go_loopw [12] (fun i wr2 => ∃ (k : Nat) (X2 : Nat → Nat), k ≤ n2 ∧ i = .int .i64 ((n2 : Int) - 1 - k) ∧ (∀ t, t < n → vals X2 t = scU SX SG (n2 - k) t) ∧ Own 46 .f32 w3.heap.size w4.heap.size wr2 (some ⟨gD, 0, none⟩) n dD D ∧ Own 46 .f32 w4.heap.size w5.heap.size wr2 (some ⟨gX, 0, none⟩) n dX X2 ∧ Below w3.heap.size w3 wr2) (fun i _ => (intOf i + 1).toNat)
      case atStart => exact ⟨0, _, Nat.zero_le _, by simp, HX2.out, kD5.out, kX5.out, hb5.out⟩
      case round =>
        obtain ⟨k, X2, hk, rfl, hX2, lD, lX, hb⟩ := hrel
        have HX3 := Lib.hid hX2
        clear hX2 kD5 kX5 hb5
        by_cases hlt2 : k < n2
        · obtain ⟨q, hq⟩ : ∃ q, q + (k + 1) = n2 := ⟨n2 - (k + 1), by omega⟩
          have hqi : (n2 : Int) - 1 - k = (q : Int) := by omega
          rw [hqi]
          have Hqi := Lib.hid hqi
          have e1 : n2 - k = q + 1 := by omega
          have E1 := Lib.hid e1
          obtain ⟨bs, os, e, hbl, hces, hfvs⟩ := (G2.below hb (Nat.le_refl _)).at (show q < n2 by omega)
          subst e
          obtain ⟨x0, x1⟩ := X3.below hb s3
          have fS : FV .f32 (Z2 q) (vals Z2 q) := FV.mk' hfvs.2
          obtain ⟨cD, rD, gd1, gd2, gd3, wD⟩ := lD.cell (t := q) (by omega)
          obtain ⟨cX, rX, gx1, gx2, gx3, wX⟩ := lX.cell (t := q) (by omega)
          obtain ⟨cX1, rX1, _, _, _, wX1⟩ := lX.cell (t := q + 1) (by omega)
          have fD : FV .f32 (D q) (SD q) := ⟨HDD.out q (by omega), wD⟩
          have fX : FV .f32 (X2 q) (SG q) := ⟨(HX3.out q (by omega)).trans (by rw [E1.out]; unfold scU; rw [if_neg (by omega)]), wX⟩
          have fX1 : FV .f32 (X2 (q + 1)) (SX (q + 1)) := ⟨(HX3.out (q + 1) (by omega)).trans (by rw [E1.out]; unfold scU; rw [if_pos (Nat.le_refl _)]), wX1⟩
          have lD' := Lib.hid lD
          have lX' := Lib.hid lX
          have hb' := Lib.hid hb
          have HQ := Lib.hid hq
          have hq1 : q < n := by omega
          have hq2 : q + 1 < n := by omega
          have hq3 : q < n2 := by omega
          clear lD lX hb wD wX wX1 hbl hfvs hqi e1 hq
          go_wp2
          (refine wp_region_loose_tail 24 (by kernel_rfl) (by kernel_rfl) ?_; simp only [List.take_succ_cons, List.take_zero, List.drop_succ_cons, List.drop_zero]; (repeat (refine wpLoose_want rfl (fun K hK => ?_); first | (refine loose_farith _ _ _ _ _ rfl rfl _ _ _ rfl rfl (by first | assumption | (with_reducible exact FV.ofInt _ _) | (with_reducible exact FV.neg (by assumption)) | exact FV.lit (by kernel_rfl) (by kernel_rfl)) (by first | assumption | (with_reducible exact FV.ofInt _ _) | (with_reducible exact FV.neg (by assumption)) | exact FV.lit (by kernel_rfl) (by kernel_rfl)) ?_; intro r hr; refine hK _ ?_; clear hK K; simp only [Act.put, List.setIfInBounds_toArray, List.set_cons_succ, List.set_cons_zero]) | (refine loose_of_quiet rfl ?_; go_big_quiet_op; refine hK _ ?_; clear hK K))); refine wpLoose_nil ?_)
          rintro _ ⟨k3, rfl⟩
          obtain ⟨kX4, gg⟩ := (show Own 46 .f32 w4.heap.size w5.heap.size (wr.drewN k3) (some ⟨gX, 0, none⟩) n dX X2 from lX'.out).stored (t := q) (by have := HQ.out; omega) hr.2
          have kD4 := Lib.hid ((show Own 46 .f32 w3.heap.size w4.heap.size (wr.drewN k3) (some ⟨gD, 0, none⟩) n dD D from lD'.out).kept gg (fun q hq => by cases hq; right; omega))
          have hb4 : Hid (Below w3.heap.size w3 ((wr.drewN k3).setCell ⟨gX, q, none⟩ (.float .f32 r))) := Lib.hid ((below_drewN hb'.out _).setCell (by show w3.heap.size ≤ gX; omega) _)
          have HX4 : Hid (∀ t, t < n → vals (fun t => if t = q then r else X2 t) t = scU SX SG (n2 - (k + 1)) t) := Lib.hid (by
            have e2 : n2 - (k + 1) = q := by have := HQ.out; omega
            rw [e2]
            refine scU_step (fun t ht => by rw [HX3.out t ht, E1.out]) (hr.1.trans ?_)
            rw [HSX.out, HSD.out, HSG.out]
            exact (scX_step (by have := HQ.out; omega)).symm)
          have kX5 := Lib.hid kX4
          have hne : Hid (Value.int .i64 ((q : Int) - 1) = Value.int .i64 ((n2 : Int) - 1 - ((k + 1 : Nat) : Int))) := Lib.hid (by rw [show (q : Int) - 1 = (n2 : Int) - 1 - ((k + 1 : Nat) : Int) by have := HQ.out; omega])
          clear kX4 gg lD' lX' hb' cD rD cX1 rX1 fX fX1 fD fS hces x0 x1
          go_wp2_with fail
          go_roundw
          case rel => exact ⟨k + 1, _, by omega, hne.out, HX4.out, kD4.out, kX5.out, hb4.out⟩
          case measure => simp [intOf]
        · obtain rfl : n2 = k := by omega
          have hqi : (n2 : Int) - 1 - n2 = -1 := by omega
          rw [hqi]
          have hbw := Lib.hid (B3.trans (hb.mono B3.size))
          have FX := lX.fs
          have hVV : ∀ t, t < n → vals X2 t = VX t := fun t ht => (HX3.out t ht).trans (by rw [HVX.out, ← HSX.out]; unfold scU; rw [if_pos (by omega)])
          have hfin : vecB n (vals X2) = OK := by rw [HOK.out]; exact (vec_solve h1 h12).trans (allFin_congr hVV)
          have HVV := Lib.hid hVV
          have lX' := Lib.hid lX
          have hgs := lX.cell (t := 0) (by omega)
          have hsz : w5.heap.size ≤ wr.heap.size := hgs.2.2.2.2.1
          have hs3 := B3.size
          clear lD lX hb hVV hqi hgs
          cases OK with
          | true =>
            go_wp2_with fail
            go_at_call 44
            refine (vectorResult_yes _ n dX X2 _ (by omega) FX hfin).mono ?_
            rintro e w9 ⟨rfl, m9, rfl⟩
            go_wp2_with fail
            go_ret2
            exact ⟨_, _, X2, rfl, Own.mono (U := w5.heap.size) (B := w4.heap.size) lX'.out (by omega) (by show w5.heap.size ≤ wr.heap.size; omega) (Nat.le_refl _), HVV.out, below_drewN hbw.out _⟩
          | false =>
            go_wp2_with fail
            go_at_call 44
            refine (vectorResult_no _ n dX X2 _ (by omega) FX hfin).mono ?_
            rintro e w9 ⟨rfl, m9, rfl⟩
            go_wp2_with fail
            go_ret2
            exact ⟨none, 0, fun _ => 0, rfl, .inl ⟨rfl, rfl, rfl⟩, fun i hi => absurd hi (Nat.not_lt_zero _), below_drewN hbw.out _⟩
end Go.Proofs.Ytffmjfgechdjjab
