/- Helper: a square to which a row is added, of the program. Conditions: none. -/
import Derived.Test.YtmjlhmbnaifhaaaClearKey
import Derived.Test.YtmjlhmbnaifhaaaAddDefs
import Derived.WalkMore
set_option linter.unusedVariables false
set_option linter.unusedSimpArgs false
namespace Go.Proofs.Ytmjlhmbnaifhaaa
open Go.RowKit

theorem fits_add {r n2 : Nat} {V : Nat → Option Nat} (h : fitsB (r : Int) n2 V = true) : n2 = r := by
  unfold fitsB at h
  simp only [Bool.and_eq_true, decide_eq_true_eq] at h
  omega
set_option maxHeartbeats 1000000 in
theorem implAdd_no (R C : Int) (a b : Option Addr) (n c n2 d : Nat) (Z Y : Nat → Nat) (w : World) (hn : n ≤ 1048576) (hm : n2 ≤ 1048576) (h : FS .f32 w a n c Z) (h2 : FS .f32 w b n2 d Y) (hno : (squareB R C n (vals Z) && fitsB R n2 (vals Y)) = false) :
    Calls Try.prog 21 #[.agg #[.int .i64 R, .int .i64 C, .slice a n c], .slice b n2 d] w (MatOwn false 0 0 0 (fun _ => none) w) := by
  have HNO := Lib.hid hno
  clear hno
  cases hs : squareB R C n (vals Z) with
  | false =>
    have HS := Lib.hid hs
    clear hs
    go_enter Try.func21, Try.ntmps21
    go_wp2
    go_step3
    go_wp2_with fail
    go_at_call 34
    refine (implSquare_any R C a n c Z _ hn (h.below (by repeat first | (with_reducible exact Below.refl _ _) | (with_reducible refine Below.setCell ?_ (by first | exact Nat.le_refl _ | (simp; done) | (simp; omega) | omega) _) | (with_reducible refine Below.alloc ?_ (by first | exact Nat.le_refl _ | (simp; done) | (simp; omega) | omega) _) | (with_reducible refine below_drewN ?_ _) | (with_reducible refine Below.drew ?_)) (Nat.le_refl _))).mono ?_
    rintro e w1 ⟨rfl, b1⟩
    rw [HS.out]
    have B1 : Below w.heap.size w w1 := Below.trans (by repeat first | (with_reducible exact Below.refl _ _) | (with_reducible refine Below.setCell ?_ (by first | exact Nat.le_refl _ | (simp; done) | (simp; omega) | omega) _) | (with_reducible refine Below.alloc ?_ (by first | exact Nat.le_refl _ | (simp; done) | (simp; omega) | omega) _) | (with_reducible refine below_drewN ?_ _) | (with_reducible refine Below.drew ?_)) (b1.mono (by simp; omega))
    have s1 : w.heap.size + 1 + 1 ≤ w1.heap.size := by have := b1.size; simp at this; omega
    obtain ⟨hc, hf⟩ := bcell b1
    go_wp2_with fail
    (try rw [Exit.noGoto_ret])
    refine bodyPost_ret (v := .tuple #[.agg #[.int .i64 0, .int .i64 0, .slice none 0 0], .bool false]) (by simp [results, Try.results21, go_sem, hc]) rfl ?_
    exact ⟨none, 0, fun _ => 0, rfl, .inl ⟨rfl, rfl, rfl⟩, fun i hi => absurd hi (Nat.not_lt_zero _), (by repeat first | (with_reducible exact B1) | (with_reducible refine Below.setCell ?_ (by first | exact Nat.le_refl _ | (simp; done) | (simp; omega) | omega) _) | (with_reducible refine Below.alloc ?_ (by first | exact Nat.le_refl _ | (simp; done) | (simp; omega) | omega) _) | (with_reducible refine below_drewN ?_ _) | (with_reducible refine Below.drew ?_))⟩
  | true =>
    have HF : Hid (fitsB R n2 (vals Y) = false) := Lib.hid (by have := HNO.out; rw [hs, Bool.true_and] at this; exact this)
    have HS := Lib.hid hs
    clear hs
    go_enter Try.func21, Try.ntmps21
    go_wp2
    go_step3
    go_wp2_with fail
    go_at_call 34
    refine (implSquare_any R C a n c Z _ hn (h.below (by repeat first | (with_reducible exact Below.refl _ _) | (with_reducible refine Below.setCell ?_ (by first | exact Nat.le_refl _ | (simp; done) | (simp; omega) | omega) _) | (with_reducible refine Below.alloc ?_ (by first | exact Nat.le_refl _ | (simp; done) | (simp; omega) | omega) _) | (with_reducible refine below_drewN ?_ _) | (with_reducible refine Below.drew ?_)) (Nat.le_refl _))).mono ?_
    rintro e w1 ⟨rfl, b1⟩
    rw [HS.out]
    have B1 : Below w.heap.size w w1 := Below.trans (by repeat first | (with_reducible exact Below.refl _ _) | (with_reducible refine Below.setCell ?_ (by first | exact Nat.le_refl _ | (simp; done) | (simp; omega) | omega) _) | (with_reducible refine Below.alloc ?_ (by first | exact Nat.le_refl _ | (simp; done) | (simp; omega) | omega) _) | (with_reducible refine below_drewN ?_ _) | (with_reducible refine Below.drew ?_)) (b1.mono (by simp; omega))
    have s1 : w.heap.size + 1 + 1 ≤ w1.heap.size := by have := b1.size; simp at this; omega
    obtain ⟨x0, x1, x2⟩ : Box w1 w.heap.size R C a n c := Box.below (by refine ⟨?_, ?_, ?_⟩ <;> simp [go_sem]) b1 (by simp <;> omega)
    have XR1 : Box w1 (w.heap.size + 1) 0 0 none 0 0 := Box.below (by refine ⟨?_, ?_, ?_⟩ <;> simp [go_sem]) b1 (by simp)
    have IR1 : ∀ i, w1.frozen? ⟨w.heap.size + 1, i, none⟩ = false := fun i => (b1.frozen (p := ⟨w.heap.size + 1, i, none⟩) (by simp)).trans (by simp [go_sem])
    clear b1
    go_wp2_with fail
    go_at_call 49
    refine (fitsRows_any R C a b n c n2 d Y _ hm (h2.below B1 (Nat.le_refl _))).mono ?_
    rintro e w2 ⟨rfl, b2⟩
    rw [HF.out]
    have B2 := B1.trans (b2.mono B1.size)
    have s2 := b2.size
    obtain ⟨z0, z1, z2⟩ := XR1.below b2 (by omega)
    have IR : ∀ i, w2.frozen? ⟨w.heap.size + 1, i, none⟩ = false := fun i => (b2.frozen (p := ⟨w.heap.size + 1, i, none⟩) (by show w.heap.size + 1 < w1.heap.size; omega)).trans (IR1 i)
    clear b2 x0 x1 x2 XR1 IR1 B1
    go_wp2_with fail
    (try rw [Exit.noGoto_ret])
    refine bodyPost_ret (v := .tuple #[.agg #[.int .i64 0, .int .i64 0, .slice none 0 0], .bool false]) (by simp [results, Try.results21, go_sem, z0, z1, z2]) rfl ?_
    exact ⟨none, 0, fun _ => 0, rfl, .inl ⟨rfl, rfl, rfl⟩, fun i hi => absurd hi (Nat.not_lt_zero _), (by repeat first | (with_reducible exact B2) | (with_reducible refine Below.setCell ?_ (by first | exact Nat.le_refl _ | (simp; done) | (simp; omega) | omega) _) | (with_reducible refine Below.alloc ?_ (by first | exact Nat.le_refl _ | (simp; done) | (simp; omega) | omega) _) | (with_reducible refine below_drewN ?_ _) | (with_reducible refine Below.drew ?_))⟩
set_option maxRecDepth 20000 in
set_option maxHeartbeats 4000000 in
theorem implAdd_yes (r N p1 o1 d1 p2 o2 d2 : Nat) (Z Y : Nat → Nat) (w : World) (h1 : 1 ≤ r) (h12 : r ≤ 12) (hn : N = r * r) (hsq : squareB r r N (vals Z) = true) (hft : fitsB r r (vals Y) = true) (h : FS .f32 w (some ⟨p1, o1, none⟩) N d1 Z) (h2 : FS .f32 w (some ⟨p2, o2, none⟩) r d2 Y) :
    Calls Try.prog 21 #[.agg #[.int .i64 r, .int .i64 r, .slice (some ⟨p1, o1, none⟩) N d1], .slice (some ⟨p2, o2, none⟩) r d2] w (OwnIf (allFin (adT r (vals (clearZ r isBe Z r 0), vals Y) r).1 N) r r N (adT r (vals (clearZ r isBe Z r 0), vals Y) r).1 w) := by
  have HN := Lib.hid hn
  have h144 : N ≤ 144 := by have := sides_le h12 h12; omega
  have hpos : 0 < N := by rw [hn]; exact Nat.mul_pos h1 h1
  have HSQ := Lib.hid hsq
  have HFT := Lib.hid hft
  have c0 : cn .f32 0 = some 0 := by kernel_rfl
  obtain ⟨P, hP⟩ : ∃ P, P = (vals (clearZ r isBe Z r 0), vals Y) := ⟨_, rfl⟩
  rw [← hP]
  have HP := Lib.hid hP
  clear hn hsq hft hP
  go_enter Try.func21, Try.ntmps21
  go_wp2
  go_step3
  go_wp2_with fail
  go_at_call 34
  refine (implSquare_any r r _ N d1 Z _ (by omega) (h.below (by repeat first | (with_reducible exact Below.refl _ _) | (with_reducible refine Below.setCell ?_ (by first | exact Nat.le_refl _ | (simp; done) | (simp; omega) | omega) _) | (with_reducible refine Below.alloc ?_ (by first | exact Nat.le_refl _ | (simp; done) | (simp; omega) | omega) _) | (with_reducible refine below_drewN ?_ _) | (with_reducible refine Below.drew ?_)) (Nat.le_refl _))).mono ?_
  rintro e w1 ⟨rfl, b1⟩
  rw [HSQ.out]
  have B1 : Below w.heap.size w w1 := Below.trans (by repeat first | (with_reducible exact Below.refl _ _) | (with_reducible refine Below.setCell ?_ (by first | exact Nat.le_refl _ | (simp; done) | (simp; omega) | omega) _) | (with_reducible refine Below.alloc ?_ (by first | exact Nat.le_refl _ | (simp; done) | (simp; omega) | omega) _) | (with_reducible refine below_drewN ?_ _) | (with_reducible refine Below.drew ?_)) (b1.mono (by simp; omega))
  have s1 : w.heap.size + 1 + 1 ≤ w1.heap.size := by have := b1.size; simp at this; omega
  have XA1 : Box w1 w.heap.size r r (some ⟨p1, o1, none⟩) N d1 := Box.below (by refine ⟨?_, ?_, ?_⟩ <;> simp [go_sem]) b1 (by simp <;> omega)
  have XR1 : Box w1 (w.heap.size + 1) 0 0 none 0 0 := Box.below (by refine ⟨?_, ?_, ?_⟩ <;> simp [go_sem]) b1 (by simp)
  have IR1 : ∀ i, w1.frozen? ⟨w.heap.size + 1, i, none⟩ = false := fun i => (b1.frozen (p := ⟨w.heap.size + 1, i, none⟩) (by simp)).trans (by simp [go_sem])
  obtain ⟨x0, x1, x2⟩ := XA1
  have XA1 : Box w1 w.heap.size r r (some ⟨p1, o1, none⟩) N d1 := ⟨x0, x1, x2⟩
  clear b1
  go_wp2_with fail
  go_at_call 49
  refine (fitsRows_any r r _ _ N d1 r d2 Y _ (by omega) (h2.below B1 (Nat.le_refl _))).mono ?_
  rintro e w2 ⟨rfl, b2⟩
  rw [HFT.out]
  have B2 := B1.trans (b2.mono B1.size)
  have s2 := b2.size
  have XR2 := XR1.below b2 (by omega)
  have IR2 : ∀ i, w2.frozen? ⟨w.heap.size + 1, i, none⟩ = false := fun i => (b2.frozen (p := ⟨w.heap.size + 1, i, none⟩) (by show w.heap.size + 1 < w1.heap.size; omega)).trans (IR1 i)
  have XA2 := XA1.below b2 (by omega)
  clear b2 x0 x1 x2 XR1 IR1 B1 XA1
  obtain ⟨x0, x1, x2⟩ := XA2
  go_wp2_with fail
  go_at_call 50
  refine (clearedBelow_any r N p1 o1 d1 Z _ h1 h12 HN.out (h.below B2 (Nat.le_refl _))).mono ?_
  rintro e w3 ⟨gs, ds, rfl, os, b3⟩
  have B3 := B2.trans (b3.mono B2.size)
  have s3 := b3.size
  have XR3 := XR2.below b3 (by omega)
  have IR3 : ∀ i, w3.frozen? ⟨w.heap.size + 1, i, none⟩ = false := fun i => (b3.frozen (p := ⟨w.heap.size + 1, i, none⟩) (by show w.heap.size + 1 < w2.heap.size; omega)).trans (IR2 i)
  obtain ⟨_, _, t1, t2, _, _⟩ := os.cell hpos
  have os3 := os.alone hpos
  clear b3 x0 x1 x2 XR2 IR2 B2 os
  go_wp2_with fail
  have XM4 := Box.new w3 26 r r (some ⟨gs, 0, none⟩) N ds
  have b4 : Below w3.heap.size w3 (w3.alloc (.cells #[.int .i64 r, .int .i64 r, .slice (some ⟨gs, 0, none⟩) N ds] 26)) := (by repeat first | (with_reducible exact Below.refl _ _) | (with_reducible refine Below.setCell ?_ (by first | exact Nat.le_refl _ | (simp; done) | (simp; omega) | omega) _) | (with_reducible refine Below.alloc ?_ (by first | exact Nat.le_refl _ | (simp; done) | (simp; omega) | omega) _) | (with_reducible refine below_drewN ?_ _) | (with_reducible refine Below.drew ?_))
  have s4 : (w3.alloc (.cells #[.int .i64 r, .int .i64 r, .slice (some ⟨gs, 0, none⟩) N ds] 26)).heap.size = w3.heap.size + 1 := by simp
  generalize w3.alloc (.cells #[.int .i64 r, .int .i64 r, .slice (some ⟨gs, 0, none⟩) N ds] 26) = w4 at XM4 b4 s4 ⊢
  have B4 := B3.trans (b4.mono B3.size)
  have XR4 := XR3.below b4 (by omega)
  have IR4 : ∀ i, w4.frozen? ⟨w.heap.size + 1, i, none⟩ = false := fun i => (b4.frozen (p := ⟨w.heap.size + 1, i, none⟩) (by show w.heap.size + 1 < w3.heap.size; omega)).trans (IR3 i)
  have os4 := os3.kept (below_grew b4) (fun q hq => by cases hq)
  obtain ⟨mb, hmb⟩ : ∃ mb, mb = w3.heap.size := ⟨_, rfl⟩
  rw [← hmb] at XM4 s4 t2 ⊢
  have hmb2 : w.heap.size + 1 + 1 ≤ mb := by omega
  clear b4 B3 XR3 IR3 os3 hmb s3
  go_at_call 52
  refine (clone_any p2 o2 r d2 Y _ (by omega) (by omega) (h2.below B4 (Nat.le_refl _))).mono ?_
  rintro e w5 ⟨ga, da, rfl, oa, b5⟩
  have B5 := B4.trans (b5.mono B4.size)
  have s5 := b5.size
  have XR5 := XR4.below b5 (by omega)
  have IR5 : ∀ i, w5.frozen? ⟨w.heap.size + 1, i, none⟩ = false := fun i => (b5.frozen (p := ⟨w.heap.size + 1, i, none⟩) (by show w.heap.size + 1 < w4.heap.size; omega)).trans (IR4 i)
  have os5 := os4.kept (below_grew b5) (fun q hq => by cases hq)
  have XM5 := XM4.below b5 (by omega)
  obtain ⟨_, _, t3, t4, _, _⟩ := oa.cell (t := 0) (by omega)
  have oa5 := oa.alone (by omega)
  have n1 : gs ≠ ga := by omega
  have n2 : mb ≠ gs := by omega
  have n3 : mb ≠ ga := by omega
  have n4 : w.heap.size + 1 ≠ gs := by omega
  have n5 : w.heap.size + 1 ≠ ga := by omega
  have l1 : mb < w5.heap.size := by omega
  have l2 : w.heap.size + 1 < w5.heap.size := by omega
  have l3 : w.heap.size ≤ gs := by omega
  have l4 : w.heap.size ≤ ga := by omega
  clear b5 B4 XR4 IR4 os4 XM4 oa
  have hcs := (Own.fs os5).1
  have hms : ds ≤ 9223372036854775807 := by have hh := (Own.fs os5).2.1; unfold maxLen at hh; omega
  have hca := (Own.fs oa5).1
  have hma : da ≤ 9223372036854775807 := by have hh := (Own.fs oa5).2.1; unfold maxLen at hh; omega
  obtain ⟨x0, x1, x2⟩ := XM5
  have XM5 : Box w5 mb r r (some ⟨gs, 0, none⟩) N ds := ⟨x0, x1, x2⟩
  go_wp2
  go_step3
  go_wp2
  go_loopw [30] (fun i wr => ∃ (k : Nat) (X A : Nat → Nat), k ≤ r ∧ i = .int .i64 k ∧ Own 33 .f32 gs (gs + 1) wr (some ⟨gs, 0, none⟩) N ds X ∧ Own 33 .f32 ga (ga + 1) wr (some ⟨ga, 0, none⟩) r da A ∧ (∀ t, t < N → vals X t = (adT r P k).1 t) ∧ (∀ t, t < r → vals A t = (adT r P k).2 t) ∧ Out2 w5 wr gs ga) (fun i _ => r - (intOf i).toNat)
  case atStart => exact ⟨0, _, _, Nat.zero_le _, rfl, os5, oa5, fun t ht => by rw [HP.out]; rfl, fun t ht => by rw [HP.out]; rfl, Out2.refl _ _ _⟩
  case round =>
    obtain ⟨k, X, A, hk, rfl, k1, k2, v1, v2, ho⟩ := hrel
    clear x0 x1 x2 os5 oa5
    have XM := ho.box XM5 l1 n2 n3
    by_cases hlt : k < r
    · have hkk : k * r + k < N := by rw [HN.out]; exact place_lt hlt hlt
      have hsum : k * r + k + (r - k) ≤ N := by
        have e1 : (k + 1) * r ≤ r * r := Nat.mul_le_mul_right r hlt
        rw [Nat.succ_mul] at e1
        have e2 := HN.out
        omega
      obtain ⟨ce1, fr1, _, _, _, wf1⟩ := k1.cell hkk
      obtain ⟨ce2, fr2, _, _, _, wf2⟩ := k2.cell hlt
      have fx : FV .f32 (X (k * r + k)) ((adT r P k).1 (k * r + k)) := ⟨v1 _ hkk, wf1⟩
      have fy : FV .f32 (A k) ((adT r P k).2 k) := ⟨v2 _ hlt, wf2⟩
      have rowA := fun W => by have hh := rowOf_any gs 0 r r N ds k W h12 h1 h12 HN.out hcs hms hlt; rwa [Nat.zero_add] at hh
      have lmb : mb < wr.heap.size := Nat.lt_of_lt_of_le l1 ho.size
      have lgs : gs < wr.heap.size := by obtain ⟨_, _, _, _, q, _⟩ := k1.cell hkk; omega
      have lga : ga < wr.heap.size := by obtain ⟨_, _, _, _, q, _⟩ := k2.cell hlt; omega
      obtain ⟨x, hx⟩ : ∃ x, x = X (k * r + k) := ⟨_, rfl⟩
      obtain ⟨y, hy⟩ : ∃ y, y = A k := ⟨_, rfl⟩
      rw [← hx] at ce1 fx
      rw [← hy] at ce2 fy
      obtain ⟨Q, hQ⟩ : ∃ Q, Q = adT r P k := ⟨_, rfl⟩
      rw [← hQ] at fx fy v1 v2
      obtain ⟨H, hH⟩ : ∃ H, H = adH (Q.1 (k * r + k)) (Q.2 k) := ⟨_, rfl⟩
      have K1 := Lib.hid k1
      have K2 := Lib.hid k2
      have V1 := Lib.hid v1
      have V2 := Lib.hid v2
      have HO := Lib.hid ho
      have HQ := Lib.hid hQ
      have HH := Lib.hid hH
      have HSUM := Lib.hid hsum
      have hkr : k ≤ r := by omega
      have hne1 : ¬ r = k := by omega
      have hne2 : ¬ da = k := by omega
      clear k1 k2 v1 v2 ho hx hy wf1 wf2 hQ hH hsum
      cases hgt : (ford .f32 H (some 0) == some .gt) with
      | true =>
        have HT : Hid (adT r P (k + 1) = (tnV (adC r k Q) (adS r k Q) (k * r + k) k Q.1 Q.2 (r - k), tnW (adC r k Q) (adS r k Q) (k * r + k) k Q.1 Q.2 (r - k))) := Lib.hid (by
          have := adT_yes (n := r) (k := k) (P := P) (by rw [← HQ.out, ← HH.out]; exact hgt)
          rwa [← HQ.out] at this)
        go_wp2
        generalize hw0 : wr = w0 at XM ce1 ce2 fr1 fr2 lmb lgs lga K1 K2 HO ⊢
        (refine wp_region_kinds (fun w' => Below w0.heap.size w0 w') (fun _ => 0) 9 (below_drewN (Below.refl _ _) 1) (by kernel_rfl) (by kernel_rfl) (by kernel_rfl) ?_; simp only [List.take_succ_cons, List.take_zero, List.drop_succ_cons, List.drop_zero])
        ((with_reducible refine wpKinds_run (.agg #[.int .i64 r, .int .i64 r, .slice (some ⟨gs, 0, none⟩) N ds]) ?hwant ?hkind ?hrun ?_); (case hwant => first | (simp [Region.wanted, yielded]; done) | rfl); (case hkind => rfl); (case hrun => intro W hW; obtain ⟨u0, u1, u2⟩ := Box.below XM hW (by omega); simp [go_sem, BigFrame.eval_const, BigFrame.eval_global, BigFrame.eval_func, u0, u1, u2]); simp only [Act.put, List.setIfInBounds_toArray, List.set_cons_succ, List.set_cons_zero])
        ((with_reducible refine wpKinds_plain ?hwant ?hkind ?hplain (fun K hK => ?_)); (case hwant => first | (simp [Region.wanted, yielded]; done) | rfl); (case hkind => rfl); (case hplain => rfl); go_big_quiet_op; (first | refine hK _ ?_ | refine ⟨_, fun _ _ => rfl, hK _ ?_⟩); clear hK K)
        ((with_reducible refine wpKinds_call (f := 36) (args := #[.agg #[.int .i64 r, .int .i64 r, .slice (some ⟨gs, 0, none⟩) N ds], .int .i64 k]) (.slice (some ⟨gs, k * r, none⟩) r r) ?hwant ?hkind ?hrun ?hinit ?hcall ?_); (case hwant => first | (simp [Region.wanted, yielded]; done) | rfl); (case hkind => rfl); (case hrun => intro W; simp [go_sem, BigFrame.eval_const, BigFrame.eval_global, BigFrame.eval_func]); (case hinit => kernel_rfl); (case hcall => intro W hW; (refine (rowA W).mono ?_; rintro e w' ⟨rfl, hb⟩; exact ⟨rfl, hW.trans (hb.mono hW.size)⟩)); simp only [Act.put, List.setIfInBounds_toArray, List.set_cons_succ, List.set_cons_zero])
        ((with_reducible refine wpKinds_plain ?hwant ?hkind ?hplain (fun K hK => ?_)); (case hwant => first | (simp [Region.wanted, yielded]; done) | rfl); (case hkind => rfl); (case hplain => rfl); go_big_quiet_op; (first | refine hK _ ?_ | refine ⟨_, fun _ _ => rfl, hK _ ?_⟩); clear hK K)
        ((with_reducible refine wpKinds_run (.slice (some ⟨gs, k * r + k, none⟩) (r - k) (r - k)) ?hwant ?hkind ?hrun ?_); (case hwant => first | (simp [Region.wanted, yielded]; done) | rfl); (case hkind => rfl); (case hrun => intro W hW; simp [go_sem, BigFrame.eval_const, BigFrame.eval_global, BigFrame.eval_func, hkr, hne1]); simp only [Act.put, List.setIfInBounds_toArray, List.set_cons_succ, List.set_cons_zero])
        ((with_reducible refine wpKinds_plain ?hwant ?hkind ?hplain (fun K hK => ?_)); (case hwant => first | (simp [Region.wanted, yielded]; done) | rfl); (case hkind => rfl); (case hplain => rfl); go_big_quiet_op; (first | refine hK _ ?_ | refine ⟨_, fun _ _ => rfl, hK _ ?_⟩); clear hK K)
        ((with_reducible refine wpKinds_plain ?hwant ?hkind ?hplain (fun K hK => ?_)); (case hwant => first | (simp [Region.wanted, yielded]; done) | rfl); (case hkind => rfl); (case hplain => rfl); go_big_quiet_op; (first | refine hK _ ?_ | refine ⟨_, fun _ _ => rfl, hK _ ?_⟩); clear hK K)
        ((with_reducible refine wpKinds_run (.slice (some ⟨ga, k, none⟩) (r - k) (da - k)) ?hwant ?hkind ?hrun ?_); (case hwant => first | (simp [Region.wanted, yielded]; done) | rfl); (case hkind => rfl); (case hrun => intro W hW; simp [go_sem, BigFrame.eval_const, BigFrame.eval_global, BigFrame.eval_func, hkr, hca, hne2]); simp only [Act.put, List.setIfInBounds_toArray, List.set_cons_succ, List.set_cons_zero])
        ((with_reducible refine wpKinds_plain ?hwant ?hkind ?hplain (fun K hK => ?_)); (case hwant => first | (simp [Region.wanted, yielded]; done) | rfl); (case hkind => rfl); (case hplain => rfl); go_big_quiet_op; (first | refine hK _ ?_ | refine ⟨_, fun _ _ => rfl, hK _ ?_⟩); clear hK K)
        refine wpKinds_nil ?_
        intro w6 hC
        have hce1 := (hC.cell (p := ⟨gs, k * r + k, none⟩) lgs).trans ce1
        have hce2 := (hC.cell (p := ⟨ga, k, none⟩) lga).trans ce2
        have K16 := Lib.hid (K1.out.kept (below_grew hC) (fun q hq => by cases hq))
        have K26 := Lib.hid (K2.out.kept (below_grew hC) (fun q hq => by cases hq))
        have HO6 := Lib.hid (HO.out.more hC)
        clear XM ce1 ce2 fr1 fr2 K1 K2 HO hw0 hC rowA lmb lgs lga
        have hpos9 : 0 < r - k := by omega
        go_wp2
        (refine wp_region_loose_tail 7 (by kernel_rfl) (by kernel_rfl) ?_; simp only [List.take_succ_cons, List.take_zero, List.drop_succ_cons, List.drop_zero]; (repeat (refine wpLoose_want rfl (fun K hK => ?_); first | (refine loose_farith _ _ _ _ _ rfl rfl _ _ _ rfl rfl (by first | assumption | (with_reducible exact FV.ofInt _ _) | (with_reducible exact FV.neg (by assumption)) | exact FV.lit (by kernel_rfl) (by kernel_rfl)) (by first | assumption | (with_reducible exact FV.ofInt _ _) | (with_reducible exact FV.neg (by assumption)) | exact FV.lit (by kernel_rfl) (by kernel_rfl)) ?_; intro r hr; refine hK _ ?_; clear hK K; simp only [Act.put, List.setIfInBounds_toArray, List.set_cons_succ, List.set_cons_zero]) | (refine loose_of_quiet rfl ?_; go_big_quiet_op; refine hK _ ?_; clear hK K))); refine wpLoose_nil ?_)
        rintro _ ⟨k2, rfl⟩
        go_wp2_with (first
          | (refine wpList_farith rfl _ _ _ _ _ rfl rfl _ _ _ rfl rfl fx fx ?_; intro r1 m1 hr1)
          | (refine wpList_farith rfl _ _ _ _ _ rfl rfl _ _ _ rfl rfl fy fy ?_; intro r2 m2 hr2)
          | (refine wpList_farith rfl _ _ _ _ _ rfl rfl _ _ _ rfl rfl hr1 hr2 ?_; intro r3 m3 hr3)
          | (go_at_call 38; refine (implRoot_any _ hr3 _).mono ?_; rintro e w' ⟨rh, rfl, hrh0, mh, rfl⟩; have hrh : FV .f32 rh H := FV.of_eq hrh0 HH.out.symm; have hrh1 := hrh.1)
          | (refine wpList_farith rfl _ _ _ _ _ rfl rfl _ _ _ rfl rfl fx hrh ?_; intro rc mc hrc)
          | (refine wpList_farith rfl _ _ _ _ _ rfl rfl _ _ _ rfl rfl fy hrh ?_; intro rs ms hrs))
        go_at_call 53
        refine (turn_any gs (k * r + k) (r - k) N ds ga k (da - k) r da (r - k) rc rs hrc hrs X A _ (by omega) HSUM.out (by omega) (Nat.le_refl _) (by omega) (by omega) (by omega) n1 (by exact K16.out) (by exact K26.out)).mono ?_
        rintro e w8 ⟨rfl, X2, A2, P1, P2, W1, W2, O8⟩
        have O9 : Hid (Out2 w5 w8 gs ga) := Lib.hid (by refine Out2.trans ?_ O8; exact ⟨HO6.out.os, HO6.out.tape, HO6.out.output, HO6.out.size, HO6.out.block⟩)
        have HC1 : fop .quo .f32 (Q.1 (k * r + k)) H = adC r k Q := by unfold adC; rw [← HH.out]
        have HC2 : fop .quo .f32 (Q.2 k) H = adS r k Q := by unfold adS; rw [← HH.out]
        have U1 : Hid (∀ t, t < N → vals X2 t = (adT r P (k + 1)).1 t) := Lib.hid fun t ht => by rw [HT.out]; exact (W1 t ht).trans (tnV_congr HC1 HC2 V1.out V2.out (by omega) t ht)
        have U2 : Hid (∀ t, t < r → vals A2 t = (adT r P (k + 1)).2 t) := Lib.hid fun t ht => by rw [HT.out]; exact (W2 t ht).trans (tnW_congr HC1 HC2 V1.out V2.out HSUM.out t ht)
        have Q1 := Lib.hid P1
        have Q2 := Lib.hid P2
        clear P1 P2 W1 W2 O8 HC1 HC2
        go_wp2_with fail
        go_roundw
        case rel => exact ⟨k + 1, X2, A2, by omega, by go_num, Q1.out, Q2.out, U1.out, U2.out, O9.out⟩
        case measure => simp [intOf] <;> omega
      | false =>
        have HT : Hid (adT r P (k + 1) = Q) := Lib.hid (by
          have := adT_no (n := r) (k := k) (P := P) (by rw [← HQ.out, ← HH.out]; exact hgt)
          rwa [← HQ.out] at this)
        go_wp2
        generalize hw0 : wr = w0 at XM ce1 ce2 fr1 fr2 lmb lgs lga K1 K2 HO ⊢
        (refine wp_region_kinds (fun w' => Below w0.heap.size w0 w') (fun _ => 0) 9 (below_drewN (Below.refl _ _) 1) (by kernel_rfl) (by kernel_rfl) (by kernel_rfl) ?_; simp only [List.take_succ_cons, List.take_zero, List.drop_succ_cons, List.drop_zero])
        ((with_reducible refine wpKinds_run (.agg #[.int .i64 r, .int .i64 r, .slice (some ⟨gs, 0, none⟩) N ds]) ?hwant ?hkind ?hrun ?_); (case hwant => first | (simp [Region.wanted, yielded]; done) | rfl); (case hkind => rfl); (case hrun => intro W hW; obtain ⟨u0, u1, u2⟩ := Box.below XM hW (by omega); simp [go_sem, BigFrame.eval_const, BigFrame.eval_global, BigFrame.eval_func, u0, u1, u2]); simp only [Act.put, List.setIfInBounds_toArray, List.set_cons_succ, List.set_cons_zero])
        ((with_reducible refine wpKinds_plain ?hwant ?hkind ?hplain (fun K hK => ?_)); (case hwant => first | (simp [Region.wanted, yielded]; done) | rfl); (case hkind => rfl); (case hplain => rfl); go_big_quiet_op; (first | refine hK _ ?_ | refine ⟨_, fun _ _ => rfl, hK _ ?_⟩); clear hK K)
        ((with_reducible refine wpKinds_call (f := 36) (args := #[.agg #[.int .i64 r, .int .i64 r, .slice (some ⟨gs, 0, none⟩) N ds], .int .i64 k]) (.slice (some ⟨gs, k * r, none⟩) r r) ?hwant ?hkind ?hrun ?hinit ?hcall ?_); (case hwant => first | (simp [Region.wanted, yielded]; done) | rfl); (case hkind => rfl); (case hrun => intro W; simp [go_sem, BigFrame.eval_const, BigFrame.eval_global, BigFrame.eval_func]); (case hinit => kernel_rfl); (case hcall => intro W hW; (refine (rowA W).mono ?_; rintro e w' ⟨rfl, hb⟩; exact ⟨rfl, hW.trans (hb.mono hW.size)⟩)); simp only [Act.put, List.setIfInBounds_toArray, List.set_cons_succ, List.set_cons_zero])
        ((with_reducible refine wpKinds_plain ?hwant ?hkind ?hplain (fun K hK => ?_)); (case hwant => first | (simp [Region.wanted, yielded]; done) | rfl); (case hkind => rfl); (case hplain => rfl); go_big_quiet_op; (first | refine hK _ ?_ | refine ⟨_, fun _ _ => rfl, hK _ ?_⟩); clear hK K)
        ((with_reducible refine wpKinds_run (.slice (some ⟨gs, k * r + k, none⟩) (r - k) (r - k)) ?hwant ?hkind ?hrun ?_); (case hwant => first | (simp [Region.wanted, yielded]; done) | rfl); (case hkind => rfl); (case hrun => intro W hW; simp [go_sem, BigFrame.eval_const, BigFrame.eval_global, BigFrame.eval_func, hkr, hne1]); simp only [Act.put, List.setIfInBounds_toArray, List.set_cons_succ, List.set_cons_zero])
        ((with_reducible refine wpKinds_plain ?hwant ?hkind ?hplain (fun K hK => ?_)); (case hwant => first | (simp [Region.wanted, yielded]; done) | rfl); (case hkind => rfl); (case hplain => rfl); go_big_quiet_op; (first | refine hK _ ?_ | refine ⟨_, fun _ _ => rfl, hK _ ?_⟩); clear hK K)
        ((with_reducible refine wpKinds_plain ?hwant ?hkind ?hplain (fun K hK => ?_)); (case hwant => first | (simp [Region.wanted, yielded]; done) | rfl); (case hkind => rfl); (case hplain => rfl); go_big_quiet_op; (first | refine hK _ ?_ | refine ⟨_, fun _ _ => rfl, hK _ ?_⟩); clear hK K)
        ((with_reducible refine wpKinds_run (.slice (some ⟨ga, k, none⟩) (r - k) (da - k)) ?hwant ?hkind ?hrun ?_); (case hwant => first | (simp [Region.wanted, yielded]; done) | rfl); (case hkind => rfl); (case hrun => intro W hW; simp [go_sem, BigFrame.eval_const, BigFrame.eval_global, BigFrame.eval_func, hkr, hca, hne2]); simp only [Act.put, List.setIfInBounds_toArray, List.set_cons_succ, List.set_cons_zero])
        ((with_reducible refine wpKinds_plain ?hwant ?hkind ?hplain (fun K hK => ?_)); (case hwant => first | (simp [Region.wanted, yielded]; done) | rfl); (case hkind => rfl); (case hplain => rfl); go_big_quiet_op; (first | refine hK _ ?_ | refine ⟨_, fun _ _ => rfl, hK _ ?_⟩); clear hK K)
        refine wpKinds_nil ?_
        intro w6 hC
        have hce1 := (hC.cell (p := ⟨gs, k * r + k, none⟩) lgs).trans ce1
        have hce2 := (hC.cell (p := ⟨ga, k, none⟩) lga).trans ce2
        have K16 := Lib.hid (K1.out.kept (below_grew hC) (fun q hq => by cases hq))
        have K26 := Lib.hid (K2.out.kept (below_grew hC) (fun q hq => by cases hq))
        have HO6 := Lib.hid (HO.out.more hC)
        clear XM ce1 ce2 fr1 fr2 K1 K2 HO hw0 hC rowA lmb lgs lga
        have hpos9 : 0 < r - k := by omega
        go_wp2
        (refine wp_region_loose_tail 7 (by kernel_rfl) (by kernel_rfl) ?_; simp only [List.take_succ_cons, List.take_zero, List.drop_succ_cons, List.drop_zero]; (repeat (refine wpLoose_want rfl (fun K hK => ?_); first | (refine loose_farith _ _ _ _ _ rfl rfl _ _ _ rfl rfl (by first | assumption | (with_reducible exact FV.ofInt _ _) | (with_reducible exact FV.neg (by assumption)) | exact FV.lit (by kernel_rfl) (by kernel_rfl)) (by first | assumption | (with_reducible exact FV.ofInt _ _) | (with_reducible exact FV.neg (by assumption)) | exact FV.lit (by kernel_rfl) (by kernel_rfl)) ?_; intro r hr; refine hK _ ?_; clear hK K; simp only [Act.put, List.setIfInBounds_toArray, List.set_cons_succ, List.set_cons_zero]) | (refine loose_of_quiet rfl ?_; go_big_quiet_op; refine hK _ ?_; clear hK K))); refine wpLoose_nil ?_)
        rintro _ ⟨k2, rfl⟩
        go_wp2_with (first
          | (refine wpList_farith rfl _ _ _ _ _ rfl rfl _ _ _ rfl rfl fx fx ?_; intro r1 m1 hr1)
          | (refine wpList_farith rfl _ _ _ _ _ rfl rfl _ _ _ rfl rfl fy fy ?_; intro r2 m2 hr2)
          | (refine wpList_farith rfl _ _ _ _ _ rfl rfl _ _ _ rfl rfl hr1 hr2 ?_; intro r3 m3 hr3)
          | (go_at_call 38; refine (implRoot_any _ hr3 _).mono ?_; rintro e w' ⟨rh, rfl, hrh0, mh, rfl⟩; have hrh : FV .f32 rh H := FV.of_eq hrh0 HH.out.symm; have hrh1 := hrh.1)
          | (refine wpList_farith rfl _ _ _ _ _ rfl rfl _ _ _ rfl rfl fx hrh ?_; intro rc mc hrc)
          | (refine wpList_farith rfl _ _ _ _ _ rfl rfl _ _ _ rfl rfl fy hrh ?_; intro rs ms hrs))
        go_roundw
        case rel => exact ⟨k + 1, X, A, by omega, by go_num, K16.out, K26.out, by rw [HT.out]; exact V1.out, by rw [HT.out]; exact V2.out, ⟨HO6.out.os, HO6.out.tape, HO6.out.output, HO6.out.size, HO6.out.block⟩⟩
        case measure => simp [intOf] <;> omega
    · obtain rfl : k = r := by omega
      have XRk := ho.box XR5 l2 n4 n5
      have IRk := ho.ice IR5 l2 n4 n5
      have Bk := B5.trans (ho.bel l3 l4 B5.size)
      have sk := ho.size
      obtain ⟨_, _, _, _, gk, _⟩ := k1.cell hpos
      obtain ⟨y0, y1, y2⟩ := XM
      have hvB : validB k k N (vals X) = allFin (adT k P k).1 N := (validB_nat h1 h12 h1 h12 HN.out).trans (allFin_congr v1)
      have hfs := k1.fs
      have HV := Lib.hid v1
      have K1 := Lib.hid k1
      clear v1 v2 k1 k2 ho XM5 XR5 IR5
      cases hf : allFin (adT k P k).1 N with
      | true =>
        rw [hf] at hvB
        go_wp2_with fail
        go_at_call 39
        refine (implGive_yes _ _ _ _ _ X _ (by omega) hfs hvB).mono ?_
        rintro e w9 ⟨rfl, b9⟩
        have o9 := K1.out.kept (below_grew b9) (fun q hq => by cases hq)
        have B9 := Bk.trans (b9.mono Bk.size)
        have s9 := b9.size
        obtain ⟨z0, z1, z2⟩ := XRk.below b9 (by omega)
        have hice : ∀ i, w9.frozen? ⟨w.heap.size + 1, i, none⟩ = false := fun i => (b9.frozen (p := ⟨w.heap.size + 1, i, none⟩) (by show w.heap.size + 1 < wr.heap.size; omega)).trans (IRk i)
        clear b9 y0 y1 y2 XRk IRk hfs K1
        go_wp2_with fail
        (try rw [Exit.noGoto_ret])
        refine bodyPost_ret (v := .tuple #[.agg #[.int .i64 k, .int .i64 k, .slice (some ⟨gs, 0, none⟩) N ds], .bool true]) (by simp [results, Try.results21, go_sem, z0, z1, z2]) rfl ?_
        exact OwnIf.yes hf ⟨_, _, _, rfl, (by refine Own.to o9 (hk := fun g hg1 hg2 => by (try simp at hg1 hg2); repeat (first | rw [Below.heap_setCell _ _ _ _ (by simp; omega)] | rw [Below.heap_alloc _ _ _ (by simp [World.setCell]; omega)])) ?_ ?_ ?_ ?_ <;> (first | exact Nat.le_refl _ | omega | (simp [World.setCell]; done) | (simp [World.setCell]; omega))), fun i hi => HV.out i hi, (by repeat first | (with_reducible exact B9) | (with_reducible refine Below.setCell ?_ (by first | exact Nat.le_refl _ | (simp; done) | (simp; omega) | omega) _) | (with_reducible refine Below.alloc ?_ (by first | exact Nat.le_refl _ | (simp; done) | (simp; omega) | omega) _) | (with_reducible refine below_drewN ?_ _) | (with_reducible refine Below.drew ?_))⟩
      | false =>
        rw [hf] at hvB
        go_wp2_with fail
        go_at_call 39
        refine (implGive_no _ _ _ _ _ X _ (by omega) hfs hvB).mono ?_
        rintro e w9 ⟨rfl, b9⟩
        have B9 := Bk.trans (b9.mono Bk.size)
        have s9 := b9.size
        obtain ⟨z0, z1, z2⟩ := XRk.below b9 (by omega)
        have hice : ∀ i, w9.frozen? ⟨w.heap.size + 1, i, none⟩ = false := fun i => (b9.frozen (p := ⟨w.heap.size + 1, i, none⟩) (by show w.heap.size + 1 < wr.heap.size; omega)).trans (IRk i)
        clear b9 y0 y1 y2 XRk IRk hfs K1
        go_wp2_with fail
        (try rw [Exit.noGoto_ret])
        refine bodyPost_ret (v := .tuple #[.agg #[.int .i64 0, .int .i64 0, .slice none 0 0], .bool false]) (by simp [results, Try.results21, go_sem, z0, z1, z2]) rfl ?_
        exact OwnIf.no hf ⟨none, 0, fun _ => 0, rfl, .inl ⟨rfl, rfl, rfl⟩, fun i hi => absurd hi (Nat.not_lt_zero _), (by repeat first | (with_reducible exact B9) | (with_reducible refine Below.setCell ?_ (by first | exact Nat.le_refl _ | (simp; done) | (simp; omega) | omega) _) | (with_reducible refine Below.alloc ?_ (by first | exact Nat.le_refl _ | (simp; done) | (simp; omega) | omega) _) | (with_reducible refine below_drewN ?_ _) | (with_reducible refine Below.drew ?_))⟩
end Go.Proofs.Ytmjlhmbnaifhaaa
