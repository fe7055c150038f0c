/- Helper: a square to which a row is added, of the reference. Conditions: none. -/
import Derived.Test.YtmjlhmbnaifhaaaAddDefs
import Derived.Test.YtmjlhmbnaifhaaaUpperOfKey
import Derived.Deep.Cut
set_option linter.unusedVariables false
set_option linter.unusedSimpArgs false
namespace Go.Proofs.Ytmjlhmbnaifhaaa
open Go.RowKit

theorem specAdd_no (R C : Int) (a b : Option Addr) (n c n2 d : Nat) (Z Y : Nat → Nat) (w : World) (hn : n ≤ 1048576) (hm : n2 ≤ 1048576) (h : FS .f32 w a n c Z) (h2 : FS .f32 w b n2 d Y) (hno : (squareB R C n (vals Z) && fitsB R n2 (vals Y)) = false) :
    Calls Try.prog 19 #[.agg #[.int .i64 R, .int .i64 C, .slice a n c], .slice b n2 d] w (MatBel false 0 0 0 (fun _ => none) w) := by
  have HNO := Lib.hid hno
  clear hno
  cases hs : squareB R C n (vals Z) with
  | false =>
    have HS := Lib.hid hs
    clear hs
    go_enter Try.func19, Try.ntmps19
    go_wp2_with fail
    go_at_call 32
    refine (specSquare_any _ R C a n c Z _ hn (by refine ⟨?_, ?_, ?_⟩ <;> simp [go_sem]) (h.below (by repeat first | (with_reducible exact Below.refl _ _) | (with_reducible refine Below.setCell ?_ (by first | exact Nat.le_refl _ | (simp; done) | (simp; omega) | omega) _) | (with_reducible refine Below.alloc ?_ (by first | exact Nat.le_refl _ | (simp; done) | (simp; omega) | omega) _) | (with_reducible refine below_drewN ?_ _) | (with_reducible refine Below.drew ?_)) (Nat.le_refl _))).mono ?_
    rintro e w1 ⟨rfl, m1, rfl⟩
    rw [HS.out]
    go_wp2_with fail
    refine bodyPost_ret (v := .tuple #[.agg #[.int .i64 0, .int .i64 0, .slice none 0 0], .bool false]) (by simp [results, Try.results19, go_sem]) rfl ?_
    exact ⟨none, 0, fun _ => 0, rfl, ⟨Nat.le_refl _, Nat.zero_le _, fun i hi => absurd hi (Nat.not_lt_zero _)⟩, fun i hi => absurd hi (Nat.not_lt_zero _), (by repeat first | (with_reducible exact Below.refl _ _) | (with_reducible refine Below.setCell ?_ (by first | exact Nat.le_refl _ | (simp; done) | (simp; omega) | omega) _) | (with_reducible refine Below.alloc ?_ (by first | exact Nat.le_refl _ | (simp; done) | (simp; omega) | omega) _) | (with_reducible refine below_drewN ?_ _) | (with_reducible refine Below.drew ?_))⟩
  | true =>
    have HF : Hid (fitsB R n2 (vals Y) = false) := Lib.hid (by have := HNO.out; rw [hs, Bool.true_and] at this; exact this)
    have HS := Lib.hid hs
    obtain ⟨r, rfl, rfl, q1, q2, q3, q4⟩ := square_nat hs
    clear q1 q2 q3 q4
    clear hs
    cases hv : vecB n2 (vals Y) with
    | false =>
      have HV := Lib.hid hv
      clear hv
      go_enter Try.func19, Try.ntmps19
      go_wp2_with fail
      go_at_call 32
      refine (specSquare_any _ r r a n c Z _ hn (by refine ⟨?_, ?_, ?_⟩ <;> simp [go_sem]) (h.below (by repeat first | (with_reducible exact Below.refl _ _) | (with_reducible refine Below.setCell ?_ (by first | exact Nat.le_refl _ | (simp; done) | (simp; omega) | omega) _) | (with_reducible refine Below.alloc ?_ (by first | exact Nat.le_refl _ | (simp; done) | (simp; omega) | omega) _) | (with_reducible refine below_drewN ?_ _) | (with_reducible refine Below.drew ?_)) (Nat.le_refl _))).mono ?_
      rintro e w1 ⟨rfl, m1, rfl⟩
      rw [HS.out]
      go_wp2_with fail
      go_at_call 44
      refine (specVector_any b n2 d Y _ hm (h2.below (by repeat first | (with_reducible exact Below.refl _ _) | (with_reducible refine Below.setCell ?_ (by first | exact Nat.le_refl _ | (simp; done) | (simp; omega) | omega) _) | (with_reducible refine Below.alloc ?_ (by first | exact Nat.le_refl _ | (simp; done) | (simp; omega) | omega) _) | (with_reducible refine below_drewN ?_ _) | (with_reducible refine Below.drew ?_)) (Nat.le_refl _))).mono ?_
      rintro e w2 ⟨rfl, m2, rfl⟩
      rw [HV.out]
      go_wp2_with fail
      refine bodyPost_ret (v := .tuple #[.agg #[.int .i64 0, .int .i64 0, .slice none 0 0], .bool false]) (by simp [results, Try.results19, go_sem]) rfl ?_
      exact ⟨none, 0, fun _ => 0, rfl, ⟨Nat.le_refl _, Nat.zero_le _, fun i hi => absurd hi (Nat.not_lt_zero _)⟩, fun i hi => absurd hi (Nat.not_lt_zero _), (by repeat first | (with_reducible exact Below.refl _ _) | (with_reducible refine Below.setCell ?_ (by first | exact Nat.le_refl _ | (simp; done) | (simp; omega) | omega) _) | (with_reducible refine Below.alloc ?_ (by first | exact Nat.le_refl _ | (simp; done) | (simp; omega) | omega) _) | (with_reducible refine below_drewN ?_ _) | (with_reducible refine Below.drew ?_))⟩
    | true =>
      have HV := Lib.hid hv
      have hne : (n2 : Int) ≠ (r : Int) := fun e => by
        have hh := HF.out
        unfold fitsB at hh
        rw [hv, Bool.true_and, decide_eq_true e] at hh
        cases hh
      have hd : ((n2 : Int) != (r : Int)) = true := bne_iff_ne.2 hne
      have hne' := Lib.hid hne
      clear hv hne
      go_enter Try.func19, Try.ntmps19
      go_wp2_with fail
      go_at_call 32
      refine (specSquare_any _ r r a n c Z _ hn (by refine ⟨?_, ?_, ?_⟩ <;> simp [go_sem]) (h.below (by repeat first | (with_reducible exact Below.refl _ _) | (with_reducible refine Below.setCell ?_ (by first | exact Nat.le_refl _ | (simp; done) | (simp; omega) | omega) _) | (with_reducible refine Below.alloc ?_ (by first | exact Nat.le_refl _ | (simp; done) | (simp; omega) | omega) _) | (with_reducible refine below_drewN ?_ _) | (with_reducible refine Below.drew ?_)) (Nat.le_refl _))).mono ?_
      rintro e w1 ⟨rfl, m1, rfl⟩
      rw [HS.out]
      go_wp2_with fail
      go_at_call 44
      refine (specVector_any b n2 d Y _ hm (h2.below (by repeat first | (with_reducible exact Below.refl _ _) | (with_reducible refine Below.setCell ?_ (by first | exact Nat.le_refl _ | (simp; done) | (simp; omega) | omega) _) | (with_reducible refine Below.alloc ?_ (by first | exact Nat.le_refl _ | (simp; done) | (simp; omega) | omega) _) | (with_reducible refine below_drewN ?_ _) | (with_reducible refine Below.drew ?_)) (Nat.le_refl _))).mono ?_
      rintro e w2 ⟨rfl, m2, rfl⟩
      rw [HV.out]
      go_wp2_with fail
      refine bodyPost_ret (v := .tuple #[.agg #[.int .i64 0, .int .i64 0, .slice none 0 0], .bool false]) (by simp [results, Try.results19, go_sem]) rfl ?_
      exact ⟨none, 0, fun _ => 0, rfl, ⟨Nat.le_refl _, Nat.zero_le _, fun i hi => absurd hi (Nat.not_lt_zero _)⟩, fun i hi => absurd hi (Nat.not_lt_zero _), (by repeat first | (with_reducible exact Below.refl _ _) | (with_reducible refine Below.setCell ?_ (by first | exact Nat.le_refl _ | (simp; done) | (simp; omega) | omega) _) | (with_reducible refine Below.alloc ?_ (by first | exact Nat.le_refl _ | (simp; done) | (simp; omega) | omega) _) | (with_reducible refine below_drewN ?_ _) | (with_reducible refine Below.drew ?_))⟩
set_option maxRecDepth 20000 in
set_option maxHeartbeats 4000000 in
theorem specAdd_yes (r N p1 o1 d1 p2 o2 d2 : Nat) (Z Y : Nat → Nat) (w : World) (h1 : 1 ≤ r) (h12 : r ≤ 12) (hn : N = r * r) (hsq : squareB r r N (vals Z) = true) (hft : vecB r (vals Y) = true) (h : FS .f32 w (some ⟨p1, o1, none⟩) N d1 Z) (h2 : FS .f32 w (some ⟨p2, o2, none⟩) r d2 Y) :
    Calls Try.prog 19 #[.agg #[.int .i64 r, .int .i64 r, .slice (some ⟨p1, o1, none⟩) N d1], .slice (some ⟨p2, o2, none⟩) r d2] w (BelIf (allFin (adT r (vals (clearZ r isBe Z r 0), vals Y) r).1 N) r r N (adT r (vals (clearZ r isBe Z r 0), vals Y) r).1 w) := by
  obtain ⟨i0, hi, hz0, hz1, hz2⟩ := info_parts info32
  have HN := Lib.hid hn
  have h144 : N ≤ 144 := by have := sides_le h12 h12; omega
  have hpos : 0 < N := by rw [hn]; exact Nat.mul_pos h1 h1
  have HSQ := Lib.hid hsq
  have HFT := Lib.hid hft
  have c0 : cn .f32 0 = some 0 := by kernel_rfl
  have hd : ((r : Int) != (r : Int)) = false := by simp
  obtain ⟨P, hP⟩ : ∃ P, P = (vals (clearZ r isBe Z r 0), vals Y) := ⟨_, rfl⟩
  rw [← hP]
  have HP := Lib.hid hP
  clear hn hsq hft hP
  go_enter Try.func19, Try.ntmps19
  go_wp2_with fail
  go_at_call 32
  refine (specSquare_any _ r r _ N d1 Z _ (by omega) (by refine ⟨?_, ?_, ?_⟩ <;> simp [go_sem]) (h.below (by repeat first | (with_reducible exact Below.refl _ _) | (with_reducible refine Below.setCell ?_ (by first | exact Nat.le_refl _ | (simp; done) | (simp; omega) | omega) _) | (with_reducible refine Below.alloc ?_ (by first | exact Nat.le_refl _ | (simp; done) | (simp; omega) | omega) _) | (with_reducible refine below_drewN ?_ _) | (with_reducible refine Below.drew ?_)) (Nat.le_refl _))).mono ?_
  rintro e w1 ⟨rfl, m1, rfl⟩
  rw [HSQ.out]
  go_wp2_with fail
  go_at_call 44
  refine (specVector_any _ r d2 Y _ (by omega) (h2.below (by repeat first | (with_reducible exact Below.refl _ _) | (with_reducible refine Below.setCell ?_ (by first | exact Nat.le_refl _ | (simp; done) | (simp; omega) | omega) _) | (with_reducible refine Below.alloc ?_ (by first | exact Nat.le_refl _ | (simp; done) | (simp; omega) | omega) _) | (with_reducible refine below_drewN ?_ _) | (with_reducible refine Below.drew ?_)) (Nat.le_refl _))).mono ?_
  rintro e w2 ⟨rfl, m2, rfl⟩
  rw [HFT.out]
  go_wp2_with fail
  go_at_call 45
  refine (l03Upper_any w.heap.size r N p1 o1 d1 Z _ h1 h12 HN.out (by simp [World.drewN]; omega) (by refine ⟨?_, ?_, ?_⟩ <;> simp [go_sem]) (h.below (by repeat first | (with_reducible exact Below.refl _ _) | (with_reducible refine Below.setCell ?_ (by first | exact Nat.le_refl _ | (simp; done) | (simp; omega) | omega) _) | (with_reducible refine Below.alloc ?_ (by first | exact Nat.le_refl _ | (simp; done) | (simp; omega) | omega) _) | (with_reducible refine below_drewN ?_ _) | (with_reducible refine Below.drew ?_)) (Nat.le_refl _))).mono ?_
  rintro e w3 ⟨gs, ds, rfl, os, b3⟩
  have s3 : w.heap.size + 1 + 1 ≤ w3.heap.size := by have := b3.size; simp [World.drewN] at this; omega
  have B3 : Below w.heap.size w w3 := Below.trans (by repeat first | (with_reducible exact Below.refl _ _) | (with_reducible refine Below.setCell ?_ (by first | exact Nat.le_refl _ | (simp; done) | (simp; omega) | omega) _) | (with_reducible refine Below.alloc ?_ (by first | exact Nat.le_refl _ | (simp; done) | (simp; omega) | omega) _) | (with_reducible refine below_drewN ?_ _) | (with_reducible refine Below.drew ?_)) (b3.mono (by simp [World.drewN]; omega))
  have XR3 : Box w3 (w.heap.size + 1) 0 0 none 0 0 := Box.below (by refine ⟨?_, ?_, ?_⟩ <;> simp [go_sem]) b3 (by simp [World.drewN])
  have IR3 : ∀ i, w3.frozen? ⟨w.heap.size + 1, i, none⟩ = false := fun i => (b3.frozen (p := ⟨w.heap.size + 1, i, none⟩) (by simp [World.drewN])).trans (by simp [go_sem])
  obtain ⟨_, _, t1', t2, _, _⟩ := os.cell hpos
  have t1 : w.heap.size + 1 + 1 ≤ gs := by simp [World.drewN] at t1'; omega
  have os3 := os.alone hpos
  clear b3 os t1'
  go_upto_region 4 with (fail)
  have XM4 := Box.new w3 26 r r (some ⟨gs, 0, none⟩) N ds
  have b4 : Below w3.heap.size w3 (w3.alloc (.cells #[.int .i64 r, .int .i64 r, .slice (some ⟨gs, 0, none⟩) N ds] 26)) := (by repeat first | (with_reducible exact Below.refl _ _) | (with_reducible refine Below.setCell ?_ (by first | exact Nat.le_refl _ | (simp; done) | (simp; omega) | omega) _) | (with_reducible refine Below.alloc ?_ (by first | exact Nat.le_refl _ | (simp; done) | (simp; omega) | omega) _) | (with_reducible refine below_drewN ?_ _) | (with_reducible refine Below.drew ?_))
  have s4 : (w3.alloc (.cells #[.int .i64 r, .int .i64 r, .slice (some ⟨gs, 0, none⟩) N ds] 26)).heap.size = w3.heap.size + 1 := by simp
  generalize w3.alloc (.cells #[.int .i64 r, .int .i64 r, .slice (some ⟨gs, 0, none⟩) N ds] 26) = w4 at XM4 b4 s4 ⊢
  have B4 := B3.trans (b4.mono B3.size)
  have XR4 := XR3.below b4 (by omega)
  have IR4 : ∀ i, w4.frozen? ⟨w.heap.size + 1, i, none⟩ = false := fun i => (b4.frozen (p := ⟨w.heap.size + 1, i, none⟩) (by show w.heap.size + 1 < w3.heap.size; omega)).trans (IR3 i)
  have os4 := os3.kept (below_grew b4) (fun q hq => by cases hq)
  obtain ⟨mb, hmb⟩ : ∃ mb, mb = w3.heap.size := ⟨_, rfl⟩
  rw [← hmb] at XM4 s4 t2 ⊢
  have hmb2 : w.heap.size + 1 + 1 ≤ mb := by omega
  have H4 := h2.below B4 (Nat.le_refl _)
  have hcell := Lib.hid (cells32_cell H4)
  have hwf : Hid (∀ j, j < r → (Lit.float .f32 (Y j)).wf = true) := Lib.hid fun j hj => (H4.at hj).elim fun _ q => q.elim fun _ q => q.2.2.2.2
  have HS4 : mb < w4.heap.size := by omega
  clear b4 B3 XR3 IR3 os3 hmb s3 s4
  go_wp2_with (at_builtin; refine wpList_append_own _ rfl _ _ 22 rfl w4.heap.size 33 i0 (.float .f32 0) 1 4 Try.underlying22 hi hz0 hz1 hz2 rfl (by decide) _ _ _ rfl (World.ownsRow_made w4 #[] 0 (Nat.le_refl _) (Nat.zero_le _) (by simp)) ⟨p2, o2, none⟩ r d2 (cellsOf32 Y r) rfl ?qc1 ?qc2 ?qc3 ?qc4 ?qc5 ?qc6 ?_)
  case qc1 => rw [cells32_len]; omega
  case qc2 =>
    intro j u hj
    rw [Addr.add_lit]
    exact Lib.cell?_alloc_some _ (hcell.out j u hj)
  case qc3 => exact cells32_one
  case qc4 => rw [Nat.zero_add]; unfold maxLen; omega
  case qc5 => rw [Nat.zero_add]; omega
  case qc6 => simp
  intro v' w5 hown hgrow hnil
  have hown2 : w5.ownsRow w4.heap.size 33 1 v' r (cellsOf32 Y r) := by simpa using hown
  obtain ⟨ga, da, rfl, oa, t3, t4⟩ := own_of_row (Z := Y) hown2 (by omega) (fun j hj => cells32_at hj) hwf.out
  have b5 : Below w4.heap.size w4 w5 := ((Below.refl _ w4).alloc (Nat.le_refl _) _).grown hgrow (by simp) (by intro k hk; simp [Value.ownBlock] at hk; omega)
  have B5 := B4.trans (b5.mono B4.size)
  have s5 := b5.size
  have XR5 := XR4.below b5 (by omega)
  have IR5 : ∀ i, w5.frozen? ⟨w.heap.size + 1, i, none⟩ = false := fun i => (b5.frozen (p := ⟨w.heap.size + 1, i, none⟩) (by show w.heap.size + 1 < w4.heap.size; omega)).trans (IR4 i)
  have os5 := os4.kept (below_grew b5) (fun q hq => by cases hq)
  have XM5 := XM4.below b5 (by omega)
  have oa5 := oa.alone (by omega)
  have n1 : gs ≠ ga := by omega
  have n1' : ga ≠ gs := by omega
  have n2 : mb ≠ gs := by omega
  have n3 : mb ≠ ga := by omega
  have n4 : w.heap.size + 1 ≠ gs := by omega
  have n5 : w.heap.size + 1 ≠ ga := by omega
  have l1 : mb < w5.heap.size := by omega
  have l2 : w.heap.size + 1 < w5.heap.size := by omega
  have l3 : w.heap.size ≤ gs := by omega
  have l4 : w.heap.size ≤ ga := by omega
  clear b5 B4 XR4 IR4 os4 XM4 oa hown hgrow hnil hown2 H4
  have hcs := (Own.fs os5).1
  have hms : ds ≤ 9223372036854775807 := by have hh := (Own.fs os5).2.1; unfold maxLen at hh; omega
  have hca := (Own.fs oa5).1
  have hma : da ≤ 9223372036854775807 := by have hh := (Own.fs oa5).2.1; unfold maxLen at hh; omega
  obtain ⟨x0, x1, x2⟩ := XM5
  have XM5 : Box w5 mb r r (some ⟨gs, 0, none⟩) N ds := ⟨x0, x1, x2⟩
  go_wp2
  go_loopw [9] (fun i wr => ∃ (k : Nat) (X A : Nat → Nat), k ≤ r ∧ i = .int .i64 k ∧ Own 33 .f32 gs (gs + 1) wr (some ⟨gs, 0, none⟩) N ds X ∧ Own 33 .f32 ga (ga + 1) wr (some ⟨ga, 0, none⟩) r da A ∧ (∀ t, t < N → vals X t = (adT r P k).1 t) ∧ (∀ t, t < r → vals A t = (adT r P k).2 t) ∧ Out2 w5 wr gs ga) (fun i _ => r - (intOf i).toNat)
  case atStart => exact ⟨0, _, _, Nat.zero_le _, rfl, os5, oa5, fun t ht => by rw [HP.out]; rfl, fun t ht => by rw [HP.out]; rfl, Out2.refl _ _ _⟩
  case round =>
    obtain ⟨k, X, A, hk, rfl, k1, k2, v1, v2, ho⟩ := hrel
    clear x0 x1 x2 os5 oa5
    have XM := ho.box XM5 l1 n2 n3
    by_cases hlt : k < r
    · have hkk : k * r + k < N := by rw [HN.out]; exact place_lt hlt hlt
      have hsum : k * r + k + (r - k) ≤ N := by
        have e1 : (k + 1) * r ≤ r * r := Nat.mul_le_mul_right r hlt
        rw [Nat.succ_mul] at e1
        have e2 := HN.out
        omega
      obtain ⟨ce2, fr2, _, _, _, wf2⟩ := k2.cell hlt
      obtain ⟨_, _, _, _, _, wf1⟩ := k1.cell hkk
      have fx : FV .f32 (X (k * r + k)) ((adT r P k).1 (k * r + k)) := ⟨v1 _ hkk, wf1⟩
      have fy : FV .f32 (A k) ((adT r P k).2 k) := ⟨v2 _ hlt, wf2⟩
      obtain ⟨x, hx⟩ : ∃ x, x = X (k * r + k) := ⟨_, rfl⟩
      obtain ⟨y, hy⟩ : ∃ y, y = A k := ⟨_, rfl⟩
      rw [← hx] at fx
      rw [← hy] at ce2 fy
      obtain ⟨Q, hQ⟩ : ∃ Q, Q = adT r P k := ⟨_, rfl⟩
      rw [← hQ] at fx fy v1 v2
      obtain ⟨H, hH⟩ : ∃ H, H = adH (Q.1 (k * r + k)) (Q.2 k) := ⟨_, rfl⟩
      have hat := specAt_any mb gs 0 r r N ds k k X wr h12 h12 HN.out XM k1.fs hlt hlt
      rw [← hx] at hat
      have K1 := Lib.hid k1
      have K2 := Lib.hid k2
      have V1 := Lib.hid v1
      have V2 := Lib.hid v2
      have HO := Lib.hid ho
      have HQ := Lib.hid hQ
      have HH := Lib.hid hH
      have HSUM := Lib.hid hsum
      have hkr : k ≤ r := by omega
      have hat' := Lib.hid hat
      clear k1 k2 v1 v2 ho hx hy wf1 wf2 hQ hH hsum XM hat
      cases hgt : (ford .f32 H (some 0) == some .gt) with
      | true =>
        have HT : Hid (adT r P (k + 1) = (tnV (adC r k Q) (adS r k Q) (k * r + k) k Q.1 Q.2 (r - k), tnW (adC r k Q) (adS r k Q) (k * r + k) k Q.1 Q.2 (r - k))) := Lib.hid (by
          have := adT_yes (n := r) (k := k) (P := P) (by rw [← HQ.out, ← HH.out]; exact hgt)
          rwa [← HQ.out] at this)
        go_wp2_with fail
        go_at_call 46
        refine hat'.out.mono ?_
        rintro e w6 ⟨rfl, m6, rfl⟩
        go_wp2_with (first
          | (refine wpList_farith rfl _ _ _ _ _ rfl rfl _ _ _ rfl rfl fx fx ?_; intro r1 m1 hr1)
          | (refine wpList_farith rfl _ _ _ _ _ rfl rfl _ _ _ rfl rfl fy fy ?_; intro r2 m2 hr2)
          | (refine wpList_farith rfl _ _ _ _ _ rfl rfl _ _ _ rfl rfl hr1 hr2 ?_; intro r3 m3 hr3)
          | (go_at_call 47; refine (specRoot_any _ hr3 _).mono ?_; rintro e w' ⟨rh, rfl, hrh0, mh, rfl⟩; have hrh : FV .f32 rh H := FV.of_eq hrh0 HH.out.symm; have hrh1 := hrh.1)
          | (refine wpList_farith rfl _ _ _ _ _ rfl rfl _ _ _ rfl rfl fx hrh ?_; intro rc mc hrc)
          | (refine wpList_farith rfl _ _ _ _ _ rfl rfl _ _ _ rfl rfl fy hrh ?_; intro rs ms hrs))
        obtain ⟨C, hC⟩ : ∃ C, C = fop .quo .f32 (Q.1 (k * r + k)) H := ⟨_, rfl⟩
        obtain ⟨S, hS⟩ : ∃ S, S = fop .quo .f32 (Q.2 k) H := ⟨_, rfl⟩
        rw [← hC] at hrc
        rw [← hS] at hrs
        have HC1 : Hid (C = adC r k Q) := Lib.hid (by rw [hC]; unfold adC; rw [← HH.out])
        have HC2 : Hid (S = adS r k Q) := Lib.hid (by rw [hS]; unfold adS; rw [← HH.out])
        clear hC hS fx fy hr1 hr2 hr3 hrh hrh0 hrh1 ce2 fr2 hat' hgt
        go_loopw [15] (fun i wr2 => ∃ (j : Nat) (X2 A2 : Nat → Nat), k ≤ j ∧ j ≤ r ∧ i = .int .i64 j ∧ Own 33 .f32 gs (gs + 1) wr2 (some ⟨gs, 0, none⟩) N ds X2 ∧ Own 33 .f32 ga (ga + 1) wr2 (some ⟨ga, 0, none⟩) r da A2 ∧ (∀ t, t < N → vals X2 t = tnV C S (k * r + k) k Q.1 Q.2 (j - k) t) ∧ (∀ t, t < r → vals A2 t = tnW C S (k * r + k) k Q.1 Q.2 (j - k) t) ∧ Out2 w5 wr2 gs ga) (fun i _ => r - (intOf i).toNat)
        case atStart => exact ⟨k, X, A, Nat.le_refl _, hkr, rfl, K1.out, K2.out, fun t ht => (V1.out t ht).trans (by rw [Nat.sub_self]; exact tnV_zero.symm), fun t ht => (V2.out t ht).trans (by rw [Nat.sub_self]; exact tnW_zero.symm), ⟨HO.out.os, HO.out.tape, HO.out.output, HO.out.size, HO.out.block⟩⟩
        case round =>
          obtain ⟨j, X2, A2, hkj, hjr, rfl, k1, k2, v1, v2, ho⟩ := hrel
          by_cases hlt2 : j < r
          · have XM := ho.box XM5 l1 n2 n3
            have hpl : k * r + j < N := by rw [HN.out]; exact place_lt hlt hlt2
            obtain ⟨q, hq⟩ : ∃ q, q = j - k := ⟨_, rfl⟩
            rw [← hq] at v1 v2
            have e1 : k * r + k + q = k * r + j := by omega
            have e2 : k + q = j := by omega
            obtain ⟨ce1, fr1, _, _, _, wf1⟩ := k1.cell hpl
            obtain ⟨ce2, fr2, _, _, _, wf2⟩ := k2.cell hlt2
            have gx : FV .f32 (X2 (k * r + j)) (Q.1 (k * r + j)) := ⟨(v1 _ hpl).trans (by rw [← e1]; exact tnV_next), wf1⟩
            have gy : FV .f32 (A2 j) (Q.2 j) := ⟨(v2 _ hlt2).trans (by rw [← e2]; exact tnW_next), wf2⟩
            obtain ⟨x2, hx2⟩ : ∃ x2, x2 = X2 (k * r + j) := ⟨_, rfl⟩
            obtain ⟨y2, hy2⟩ : ∃ y2, y2 = A2 j := ⟨_, rfl⟩
            have hat := specAt_any mb gs 0 r r N ds k j X2 wr h12 h12 HN.out XM k1.fs hlt hlt2
            rw [← hx2] at ce1 gx hat
            rw [← hy2] at ce2 gy
            obtain ⟨b0, b1, b2⟩ := XM
            have he : ((k : Int) * (r : Int) + (j : Int)) = ((k * r + j : Nat) : Int) := by rw [Int.natCast_add, Int.natCast_mul]
            have ht : ((k : Int) * (r : Int) + (j : Int)).toNat = k * r + j := by rw [he]; exact Int.toNat_natCast _
            have hl1 : (k : Int) * (r : Int) + (j : Int) < (N : Int) := by rw [he]; omega
            have h0 : (0 : Int) ≤ (k : Int) * (r : Int) := by rw [← Int.natCast_mul]; omega
            have L1 := Lib.hid k1
            have L2 := Lib.hid k2
            have U1 := Lib.hid v1
            have U2 := Lib.hid v2
            have O1 := Lib.hid ho
            have E1 := Lib.hid e1
            have E2 := Lib.hid e2
            have EQ := Lib.hid hq
            have HPL := Lib.hid hpl
            have hat' := Lib.hid hat
            clear k1 k2 v1 v2 ho e1 e2 hx2 hy2 wf1 wf2 he hat hq hpl
            go_wp2_with fail
            go_at_call 46
            refine hat'.out.mono ?_
            rintro e w7 ⟨rfl, m7, rfl⟩
            go_wp2_with (first
              | (refine wpList_farith rfl _ _ _ _ _ rfl rfl _ _ _ rfl rfl hrc gx ?_; intro r1 q1 hr1)
              | (refine wpList_farith rfl _ _ _ _ _ rfl rfl _ _ _ rfl rfl hrs gy ?_; intro r2 q2 hr2)
              | (refine wpList_farith rfl _ _ _ _ _ rfl rfl _ _ _ rfl rfl hr1 hr2 ?_; intro r3 q3 hr3)
              | (refine wpList_farith rfl _ _ _ _ _ rfl rfl _ _ _ rfl rfl hrc gy ?_; intro r4 q4 hr4)
              | (refine wpList_farith rfl _ _ _ _ _ rfl rfl _ _ _ rfl rfl hrs gx ?_; intro r5 q5 hr5)
              | (refine wpList_farith rfl _ _ _ _ _ rfl rfl _ _ _ rfl rfl hr4 hr5 ?_; intro r6 q6 hr6))
            obtain ⟨P1, G1⟩ := (show Own 33 .f32 gs (gs + 1) (wr.drewN (m7 + q1 + q2 + q3)) (some ⟨gs, 0, none⟩) N ds X2 from L1.out).stored (t := k * r + j) (v := r3) HPL.out hr3.2
            have P2 := (show Own 33 .f32 ga (ga + 1) (wr.drewN (m7 + q1 + q2 + q3)) (some ⟨ga, 0, none⟩) r da A2 from L2.out).kept G1 (fun t ht => by cases ht; omega)
            have O2 := (show Out2 w5 (wr.drewN (m7 + q1 + q2 + q3)) gs ga from ⟨O1.out.os, O1.out.tape, O1.out.output, O1.out.size, O1.out.block⟩).left G1
            generalize (wr.drewN (m7 + q1 + q2 + q3)).setCell ⟨gs, k * r + j, none⟩ (.float .f32 r3) = wA at P1 P2 O2 ⊢
            obtain ⟨P3, G3⟩ := (show Own 33 .f32 ga (ga + 1) (wA.drewN (q4 + q5 + q6)) (some ⟨ga, 0, none⟩) r da A2 from P2).stored (t := j) (v := r6) hlt2 hr6.2
            have P4 := (show Own 33 .f32 gs (gs + 1) (wA.drewN (q4 + q5 + q6)) (some ⟨gs, 0, none⟩) N ds _ from P1).kept G3 (fun t ht => by cases ht; omega)
            have O3 := (show Out2 w5 (wA.drewN (q4 + q5 + q6)) gs ga from ⟨O2.os, O2.tape, O2.output, O2.size, O2.block⟩).right G3
            have W1 := tnV_put (j := q) U1.out (by rw [E1.out, E2.out]; exact hr3)
            have W2 := tnW_put (j := q) U2.out (by rw [E1.out, E2.out]; exact hr6)
            rw [E1.out] at W1
            rw [E2.out] at W2
            have hq1 : j + 1 - k = q + 1 := by have := EQ.out; omega
            go_roundw
            case rel => exact ⟨j + 1, _, _, by omega, by omega, by go_num, P4, P3, by rw [hq1]; exact W1, by rw [hq1]; exact W2, O3⟩
            case measure => simp [intOf] <;> omega
          · obtain rfl : j = r := by omega
            have U1 : Hid (∀ t, t < N → vals X2 t = (adT j P (k + 1)).1 t) := Lib.hid fun t ht => by rw [HT.out, ← HC1.out, ← HC2.out]; exact v1 t ht
            have U2 : Hid (∀ t, t < j → vals A2 t = (adT j P (k + 1)).2 t) := Lib.hid fun t ht => by rw [HT.out, ← HC1.out, ← HC2.out]; exact v2 t ht
            have L1 := Lib.hid k1
            have L2 := Lib.hid k2
            have O1 := Lib.hid ho
            clear k1 k2 v1 v2 ho
            go_wp2_with fail
            go_roundw
            case rel => exact ⟨k + 1, X2, A2, by omega, by go_num, L1.out, L2.out, U1.out, U2.out, O1.out⟩
            case measure => simp [intOf] <;> omega
      | false =>
        have HT : Hid (adT r P (k + 1) = Q) := Lib.hid (by
          have := adT_no (n := r) (k := k) (P := P) (by rw [← HQ.out, ← HH.out]; exact hgt)
          rwa [← HQ.out] at this)
        go_wp2_with fail
        go_at_call 46
        refine hat'.out.mono ?_
        rintro e w6 ⟨rfl, m6, rfl⟩
        go_wp2_with (first
          | (refine wpList_farith rfl _ _ _ _ _ rfl rfl _ _ _ rfl rfl fx fx ?_; intro r1 m1 hr1)
          | (refine wpList_farith rfl _ _ _ _ _ rfl rfl _ _ _ rfl rfl fy fy ?_; intro r2 m2 hr2)
          | (refine wpList_farith rfl _ _ _ _ _ rfl rfl _ _ _ rfl rfl hr1 hr2 ?_; intro r3 m3 hr3)
          | (go_at_call 47; refine (specRoot_any _ hr3 _).mono ?_; rintro e w' ⟨rh, rfl, hrh0, mh, rfl⟩; have hrh : FV .f32 rh H := FV.of_eq hrh0 HH.out.symm; have hrh1 := hrh.1)
          | (refine wpList_farith rfl _ _ _ _ _ rfl rfl _ _ _ rfl rfl fx hrh ?_; intro rc mc hrc)
          | (refine wpList_farith rfl _ _ _ _ _ rfl rfl _ _ _ rfl rfl fy hrh ?_; intro rs ms hrs))
        go_roundw
        case rel => exact ⟨k + 1, X, A, by omega, by go_num, K1.out, K2.out, by rw [HT.out]; exact V1.out, by rw [HT.out]; exact V2.out, ⟨HO.out.os, HO.out.tape, HO.out.output, HO.out.size, HO.out.block⟩⟩
        case measure => simp [intOf] <;> omega
    · obtain rfl : k = r := by omega
      have XRk := ho.box XR5 l2 n4 n5
      have IRk := ho.ice IR5 l2 n4 n5
      have Bk := B5.trans (ho.bel l3 l4 B5.size)
      have sk := ho.size
      obtain ⟨_, _, _, _, gk, _⟩ := k1.cell hpos
      obtain ⟨y0, y1, y2⟩ := XM
      have hvB : validB k k N (vals X) = allFin (adT k P k).1 N := (validB_nat h1 h12 h1 h12 HN.out).trans (allFin_congr v1)
      have hfs := k1.fs
      have HV := Lib.hid v1
      have K1 := Lib.hid k1
      clear v1 v2 k1 k2 ho XM5 XR5 IR5
      cases hf : allFin (adT k P k).1 N with
      | true =>
        rw [hf] at hvB
        go_wp2_with fail
        go_at_call 48
        refine (specGive_yes _ _ _ _ _ X _ (by omega) hfs hvB).mono ?_
        rintro e w9 ⟨rfl, b9⟩
        have o9 := K1.out.kept (below_grew b9) (fun q hq => by cases hq)
        have B9 := Bk.trans (b9.mono Bk.size)
        have s9 := b9.size
        obtain ⟨z0, z1, z2⟩ := XRk.below b9 (by omega)
        have hice : ∀ i, w9.frozen? ⟨w.heap.size + 1, i, none⟩ = false := fun i => (b9.frozen (p := ⟨w.heap.size + 1, i, none⟩) (by show w.heap.size + 1 < wr.heap.size; omega)).trans (IRk i)
        clear b9 y0 y1 y2 XRk IRk hfs K1
        go_wp2_with fail
        refine bodyPost_ret (v := .tuple #[.agg #[.int .i64 k, .int .i64 k, .slice (some ⟨gs, 0, none⟩) N ds], .bool true]) (by simp [results, Try.results19, go_sem, z0, z1, z2]) rfl ?_
        have hne : ∀ q, (∃ off, (some ⟨gs, 0, none⟩ : Option Addr) = some ⟨q, off, none⟩) → q ≠ w.heap.size + 1 := by rintro q ⟨off, hq⟩; cases hq; omega
        exact BelIf.yes hf ⟨_, _, X, rfl, FS.to o9.fs (by simp [World.setCell]) (fun q hq => by have hf := hne q hq; rw [Below.heap_setCell _ _ _ _ hf, Below.heap_setCell _ _ _ _ hf, Below.heap_setCell _ _ _ _ hf]), fun i hi => HV.out i hi, (by repeat first | (with_reducible exact B9) | (with_reducible refine Below.setCell ?_ (by first | exact Nat.le_refl _ | (simp; done) | (simp; omega) | omega) _) | (with_reducible refine Below.alloc ?_ (by first | exact Nat.le_refl _ | (simp; done) | (simp; omega) | omega) _) | (with_reducible refine below_drewN ?_ _) | (with_reducible refine Below.drew ?_))⟩
      | false =>
        rw [hf] at hvB
        go_wp2_with fail
        go_at_call 48
        refine (specGive_no _ _ _ _ _ X _ (by omega) hfs hvB).mono ?_
        rintro e w9 ⟨rfl, b9⟩
        have B9 := Bk.trans (b9.mono Bk.size)
        have s9 := b9.size
        obtain ⟨z0, z1, z2⟩ := XRk.below b9 (by omega)
        have hice : ∀ i, w9.frozen? ⟨w.heap.size + 1, i, none⟩ = false := fun i => (b9.frozen (p := ⟨w.heap.size + 1, i, none⟩) (by show w.heap.size + 1 < wr.heap.size; omega)).trans (IRk i)
        clear b9 y0 y1 y2 XRk IRk hfs K1
        go_wp2_with fail
        refine bodyPost_ret (v := .tuple #[.agg #[.int .i64 0, .int .i64 0, .slice none 0 0], .bool false]) (by simp [results, Try.results19, go_sem, z0, z1, z2]) rfl ?_
        exact BelIf.no hf ⟨none, 0, fun _ => 0, rfl, ⟨Nat.le_refl _, Nat.zero_le _, fun i hi => absurd hi (Nat.not_lt_zero _)⟩, fun i hi => absurd hi (Nat.not_lt_zero _), (by repeat first | (with_reducible exact B9) | (with_reducible refine Below.setCell ?_ (by first | exact Nat.le_refl _ | (simp; done) | (simp; omega) | omega) _) | (with_reducible refine Below.alloc ?_ (by first | exact Nat.le_refl _ | (simp; done) | (simp; omega) | omega) _) | (with_reducible refine below_drewN ?_ _) | (with_reducible refine Below.drew ?_))⟩
end Go.Proofs.Ytmjlhmbnaifhaaa
