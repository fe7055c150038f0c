/- Helper: a square taken apart into a lower square and its middle, of the reference, and of both. Conditions: none. -/
import Derived.Test.YtcibjkadlndejaaMdDefs
import Derived.Test.YtcibjkadlndejaaKindSteps
import Derived.Test.YtcibjkadlndejaaTwoRet
import Derived.Test.YtcibjkadlndejaaSquare
import Derived.Test.YtcibjkadlndejaaMatWalks
import Derived.Deep.Cut
import Derived.Test.YtcibjkadlndejaaGrowY
import Derived.Test.YtcibjkadlndejaaUnitKey
set_option linter.unusedVariables false
set_option linter.unusedSimpArgs false
namespace Go.Proofs.Ytcibjkadlndejaa
open Go.RowKit

theorem specMd_no (R C : Int) (a : Option Addr) (n c : Nat) (Z : Nat → Nat) (w : World) (hn : n ≤ 1048576) (h : FS .f32 w a n c Z) (hsq : squareB R C n (vals Z) = false) :
    Calls Try.prog 29 #[.agg #[.int .i64 R, .int .i64 C, .slice a n c]] w (MdBel false 0 0 0 (fun _ => none) 0 (fun _ => none) w) := by
  have HSQ := Lib.hid hsq
  clear hsq
  go_enter Try.func29, Try.ntmps29
  go_wp2_with fail
  go_at_call 69
  refine (specSquare_any _ R C a n c Z _ hn (by refine ⟨?_, ?_, ?_⟩ <;> simp [go_sem]) (h.below (by repeat first | (with_reducible exact Below.refl _ _) | (with_reducible refine Below.setCell ?_ (by first | exact Nat.le_refl _ | (simp; done) | (simp; omega) | omega) _) | (with_reducible refine Below.alloc ?_ (by first | exact Nat.le_refl _ | (simp; done) | (simp; omega) | omega) _) | (with_reducible refine below_drewN ?_ _) | (with_reducible refine Below.drew ?_)) (Nat.le_refl _))).mono ?_
  rintro e w1 ⟨rfl, m1, hw1⟩
  rw [HSQ.out]
  have B1 : Below w.heap.size w w1 := by rw [hw1]; exact (by repeat first | (with_reducible exact Below.refl _ _) | (with_reducible refine Below.setCell ?_ (by first | exact Nat.le_refl _ | (simp; done) | (simp; omega) | omega) _) | (with_reducible refine Below.alloc ?_ (by first | exact Nat.le_refl _ | (simp; done) | (simp; omega) | omega) _) | (with_reducible refine below_drewN ?_ _) | (with_reducible refine Below.drew ?_))
  have s1 : w.heap.size + 1 + 1 ≤ w1.heap.size := by rw [hw1]; simp [World.drewN]
  have XR1 : Box w1 (w.heap.size + 1) 0 0 none 0 0 := by rw [hw1]; refine ⟨?_, ?_, ?_⟩ <;> simp [go_sem]
  have IR1 : ∀ i, w1.frozen? ⟨w.heap.size + 1, i, none⟩ = false := fun i => by rw [hw1]; simp [go_sem]
  clear hw1
  obtain ⟨y0, y1, y2⟩ := XR1
  go_wp2_with fail
  refine bodyPost_ret (v := .tuple #[.agg #[.int .i64 0, .int .i64 0, .slice none 0 0], .slice none 0 0, .bool false]) (by simp [results, Try.results29, go_sem, y0, y1, y2]) rfl ?_
  exact MdBel.no (by repeat first | (with_reducible exact B1) | (with_reducible refine Below.setCell ?_ (by first | exact Nat.le_refl _ | (simp; done) | (simp; omega) | omega) _) | (with_reducible refine Below.alloc ?_ (by first | exact Nat.le_refl _ | (simp; done) | (simp; omega) | omega) _) | (with_reducible refine below_drewN ?_ _) | (with_reducible refine Below.drew ?_))
set_option maxRecDepth 20000 in
set_option maxHeartbeats 4000000 in
theorem specMd_yes (r N p1 o1 d1 : Nat) (Z : Nat → Nat) (w : World) (h1 : 1 ≤ r) (h12 : r ≤ 12) (hn : N = r * r) (hsq : squareB r r N (vals Z) = true) (h : FS .f32 w (some ⟨p1, o1, none⟩) N d1 Z) :
    Calls Try.prog 29 #[.agg #[.int .i64 r, .int .i64 r, .slice (some ⟨p1, o1, none⟩) N d1]] w (MdBelIf (mdOk r N (vals Z)) r r N (mdT r (vals Z) r).1 r (mdT r (vals Z) r).2 w) := by
  obtain ⟨i0, hi, hz0, hz1, hz2⟩ := info_parts info32
  have HN := Lib.hid hn
  have h144 : N ≤ 144 := by have := sides_le h12 h12; omega
  have hpos : 0 < N := by rw [hn]; exact Nat.mul_pos h1 h1
  have HSQ := Lib.hid hsq
  have c0 : cn .f32 0 = some 0 := by kernel_rfl
  have c1' : cn .f32 1065353216 = some 1065353216 := by kernel_rfl
  have C0 := Lib.hid c0
  have C1 := Lib.hid c1'
  obtain ⟨VV, hVV⟩ : ∃ VV, VV = vals Z := ⟨_, rfl⟩
  rw [← hVV]
  have HVV := Lib.hid hVV
  clear hn hsq hVV c1'
  go_enter Try.func29, Try.ntmps29
  go_wp2_with fail
  go_at_call 69
  refine (specSquare_any _ r r _ N d1 Z _ (by omega) (by refine ⟨?_, ?_, ?_⟩ <;> simp [go_sem]) (h.below (by repeat first | (with_reducible exact Below.refl _ _) | (with_reducible refine Below.setCell ?_ (by first | exact Nat.le_refl _ | (simp; done) | (simp; omega) | omega) _) | (with_reducible refine Below.alloc ?_ (by first | exact Nat.le_refl _ | (simp; done) | (simp; omega) | omega) _) | (with_reducible refine below_drewN ?_ _) | (with_reducible refine Below.drew ?_)) (Nat.le_refl _))).mono ?_
  rintro e w2 ⟨rfl, m1, hw1⟩
  rw [HSQ.out]
  have B2 : Below w.heap.size w w2 := by rw [hw1]; exact (by repeat first | (with_reducible exact Below.refl _ _) | (with_reducible refine Below.setCell ?_ (by first | exact Nat.le_refl _ | (simp; done) | (simp; omega) | omega) _) | (with_reducible refine Below.alloc ?_ (by first | exact Nat.le_refl _ | (simp; done) | (simp; omega) | omega) _) | (with_reducible refine below_drewN ?_ _) | (with_reducible refine Below.drew ?_))
  have s2 : w.heap.size + 1 + 1 ≤ w2.heap.size := by rw [hw1]; simp [World.drewN]
  have XA2 : Box w2 w.heap.size r r (some ⟨p1, o1, none⟩) N d1 := by rw [hw1]; refine ⟨?_, ?_, ?_⟩ <;> simp [go_sem]
  have XR2 : Box w2 (w.heap.size + 1) 0 0 none 0 0 := by rw [hw1]; refine ⟨?_, ?_, ?_⟩ <;> simp [go_sem]
  have IR2 : ∀ i, w2.frozen? ⟨w.heap.size + 1, i, none⟩ = false := fun i => by rw [hw1]; simp [go_sem]
  clear hw1
  obtain ⟨x0, x1, x2⟩ := XA2
  have XA2 : Box w2 w.heap.size r r (some ⟨p1, o1, none⟩) N d1 := ⟨x0, x1, x2⟩
  go_wp2_with fail
  go_at_call 70
  refine (l02Unit_any r N _ h1 h12 HN.out).mono ?_
  rintro e w3 ⟨g1, rfl, o3, b3⟩
  have B3 := B2.trans (b3.mono B2.size)
  have s3 := b3.size
  have XA3 := XA2.below b3 (by omega)
  have XR3 := XR2.below b3 (by omega)
  have IR3 : ∀ i, w3.frozen? ⟨w.heap.size + 1, i, none⟩ = false := fun i => (b3.frozen (p := ⟨w.heap.size + 1, i, none⟩) (by show w.heap.size + 1 < w2.heap.size; omega)).trans (IR2 i)
  obtain ⟨_, _, t1, t2, _, _⟩ := o3.cell hpos
  have oA := o3.alone hpos
  have b4 : Below w3.heap.size w3 (w3.alloc (.cells #[.int .i64 r, .int .i64 r, .slice (some ⟨g1, 0, none⟩) N N] 26)) := (by repeat first | (with_reducible exact Below.refl _ _) | (with_reducible refine Below.setCell ?_ (by first | exact Nat.le_refl _ | (simp; done) | (simp; omega) | omega) _) | (with_reducible refine Below.alloc ?_ (by first | exact Nat.le_refl _ | (simp; done) | (simp; omega) | omega) _) | (with_reducible refine below_drewN ?_ _) | (with_reducible refine Below.drew ?_))
  have XM := Box.new w3 26 r r (some ⟨g1, 0, none⟩) N N
  have s4 : (w3.alloc (.cells #[.int .i64 r, .int .i64 r, .slice (some ⟨g1, 0, none⟩) N N] 26)).heap.size = w3.heap.size + 1 := by simp
  clear x0 x1 x2 XA2 XR2 IR2 b3 o3
  go_upto_region 5 with (fail)
  generalize (w3.alloc (.cells #[.int .i64 r, .int .i64 r, .slice (some ⟨g1, 0, none⟩) N N] 26)) = w5 at b4 XM s4 ⊢
  have B5 := B3.trans (b4.mono B3.size)
  have XA5 := XA3.below b4 (by omega)
  have XR5 := XR3.below b4 (by omega)
  have IR5 : ∀ i, w5.frozen? ⟨w.heap.size + 1, i, none⟩ = false := fun i => (b4.frozen (p := ⟨w.heap.size + 1, i, none⟩) (by show w.heap.size + 1 < w3.heap.size; omega)).trans (IR3 i)
  have oA5 := oA.kept (below_grew b4) (fun q hq => by cases hq)
  obtain ⟨mb, hmb⟩ : ∃ mb, mb = w3.heap.size := ⟨_, rfl⟩
  rw [← hmb] at XM ⊢
  have XM5 := XM
  have ng : mb ≠ g1 := by omega
  have na1 : w.heap.size ≠ g1 := by omega
  have nr1 : w.heap.size + 1 ≠ g1 := by omega
  have lw1 : w.heap.size ≤ g1 := by omega
  have ll1 : g1 < w5.heap.size := by omega
  have lm5 : mb < w5.heap.size := by omega
  have la5 : w.heap.size < w5.heap.size := by omega
  have lr5 : w.heap.size + 1 < w5.heap.size := by omega
  clear hmb s4 b4 B3 XA3 XR3 IR3 oA t1 t2 s3 s2 B2 XM
  have hL := World.ownsRow_lit (base := w5.heap.size) (e := 41) (size := 1) w5 #[] 0 (by simp) (Nat.zero_le _) rfl
  have oL : Out2 w5 (w5.alloc (.cells #[] 41)) g1 g1 := (Out2.refl _ _ _).more (by repeat first | (with_reducible exact Below.refl _ _) | (with_reducible refine Below.setCell ?_ (by first | exact Nat.le_refl _ | (simp; done) | (simp; omega) | omega) _) | (with_reducible refine Below.alloc ?_ (by first | exact Nat.le_refl _ | (simp; done) | (simp; omega) | omega) _) | (with_reducible refine below_drewN ?_ _) | (with_reducible refine Below.drew ?_))
  have oA6 := oA5.kept (below_grew (show Below w5.heap.size w5 (w5.alloc (.cells #[] 41)) from (by repeat first | (with_reducible exact Below.refl _ _) | (with_reducible refine Below.setCell ?_ (by first | exact Nat.le_refl _ | (simp; done) | (simp; omega) | omega) _) | (with_reducible refine Below.alloc ?_ (by first | exact Nat.le_refl _ | (simp; done) | (simp; omega) | omega) _) | (with_reducible refine below_drewN ?_ _) | (with_reducible refine Below.drew ?_)))) (fun q hq => by cases hq)
  have HV1 : Hid (∀ t, t < N → vals (unitZ r r) t = uN r t ((mdT r VV 0).1 t)) := Lib.hid fun t ht => by
    have ht2 : t / r < r := Nat.div_lt_of_lt_mul (by rw [← HN.out]; exact ht)
    show cn .f32 (unitZ r r t) = uN r t (some 0)
    unfold unitZ uN
    by_cases e : t / r = t % r
    · rw [if_pos ⟨e, ht2⟩, if_pos e]; exact C1.out
    · rw [if_neg (fun q => e q.1), if_neg e]; exact C0.out
  go_wp2
  go_loopw [7, 8] (fun v i wr => ∃ (k : Nat) (X : Nat → Nat) (xs : List Value), k ≤ r ∧ i = .int .i64 k ∧ GrowY w5 k (fun t => mdS r VV t (mdT r VV t)) wr v xs ∧ Own 41 .f32 g1 (g1 + 1) wr (some ⟨g1, 0, none⟩) N N X ∧ (∀ t, t < N → vals X t = uN r t ((mdT r VV k).1 t)) ∧ Hid (∀ j, j < k → isZero (mdS r VV j (mdT r VV j)) = false ∧ finite .f32 (mdS r VV j (mdT r VV j)) = true) ∧ Out2 w5 wr g1 g1) (fun _ i _ => r - (intOf i).toNat)
  case atStart => exact ⟨0, unitZ r r, [], Nat.zero_le _, rfl, ⟨by simpa using hL, fun t ht => absurd ht (Nat.not_lt_zero _), _, _, rfl, Nat.le_refl _⟩, oA6, HV1.out, Lib.hid (fun j hj => absurd hj (Nat.not_lt_zero _)), oL⟩
  case round =>
    obtain ⟨k, X, xs, hk, rfl, hg, k1, v1, hnz, ho⟩ := hrel
    clear hL oL oA5 oA6 HV1
    obtain ⟨gr, cp, rfl, hgr⟩ := hg.shape
    by_cases hlt : k < r
    · have hdk : decide ((k : Int) < (r : Int)) = true := decide_eq_true (by omega)
      obtain ⟨P, hP⟩ : ∃ P, P = mdT r VV k := ⟨_, rfl⟩
      rw [← hP] at v1
      have HP := Lib.hid hP
      have XAr := ho.box XA5 la5 na1 na1
      have Br := B5.trans (ho.bel (B := w.heap.size) lw1 lw1 B5.size)
      have FAr := h.below Br (Nat.le_refl _)
      have hsr := ho.size
      have hkk : k * r + k < N := by rw [HN.out]; exact place_lt hlt hlt
      have fZ : FV .f32 (Z (k * r + k)) (VV (k * r + k)) := by rw [HVV.out]; exact fsY_fv FAr hkk
      have hAt := specAt_any w.heap.size p1 o1 r r N d1 k k Z wr h12 h12 HN.out XAr FAr hlt hlt
      obtain ⟨S, hS⟩ : ∃ S, S = mdS r VV k P := ⟨_, rfl⟩
      have HS := Lib.hid hS
      have HO := Lib.hid ho
      have HK1 := Lib.hid k1
      have HG := Lib.hid hg
      have V1 := Lib.hid v1
      clear hP hS ho k1 hg v1 FAr
      generalize Z (k * r + k) = za at hAt fZ
      go_wp2_with fail
      go_at_call 71
      refine hAt.mono ?_
      rintro e w6' ⟨rfl, m6, rfl⟩
      have XM6 : Box (wr.drewN m6) mb r r (some ⟨g1, 0, none⟩) N N := HO.out.box XM5 lm5 ng ng
      have K6 : Hid (Own 41 .f32 g1 (g1 + 1) (wr.drewN m6) (some ⟨g1, 0, none⟩) N N X) := HK1
      have HG6 : Hid (GrowY w5 k (fun t => mdS r VV t (mdT r VV t)) (wr.drewN m6) (.slice (some ⟨gr, 0, none⟩) k cp) xs) := Lib.hid (HG.out.below (below_drewN (Below.refl _ _) m6))
      have HO6 : Hid (Out2 w5 (wr.drewN m6) g1 g1) := Lib.hid (HO.out.more (below_drewN (Below.refl _ _) m6))
      clear hAt XAr HK1 HG HO
      generalize wr.drewN m6 = w6 at XM6 K6 HG6 HO6 ⊢
      obtain ⟨X6, hX6⟩ : ∃ X6, X6 = X := ⟨_, rfl⟩
      rw [← hX6] at K6 V1
      have HX6 : Hid (∀ q j, q < r → k ≤ q → j < k → vals X6 (q * r + j) = P.1 (q * r + j)) := Lib.hid fun q j hq hkq hj => by
        rw [V1.out _ (by rw [HN.out]; exact place_lt hq (by omega)), uN_off (by omega) (by omega)]
      clear hX6
      go_wp2
      go_loopw [9, 10] (fun s i wr2 => ∃ j m r0 : Nat, j ≤ k ∧ i = .int .i64 j ∧ s = .float .f32 r0 ∧ FV .f32 r0 (trG (VV (k * r + k)) (fun t => mdS r VV t (mdT r VV t)) (fun t => P.1 (k * r + t)) (fun t => P.1 (k * r + t)) j) ∧ wr2 = w6.drewN m) (fun _ i _ => k - (intOf i).toNat)
      case atStart => exact ⟨0, 0, _, Nat.zero_le _, rfl, rfl, fZ, rfl⟩
      case round =>
        obtain ⟨j, m0, r0, hj, rfl, rfl, hr0, rfl⟩ := hrel
        by_cases hjl : j < k
        · have hdj : decide ((j : Int) < (k : Int)) = true := decide_eq_true (by omega)
          obtain ⟨YD, fD, vD⟩ := GrowY.fs (by omega) HG6.out
          obtain ⟨b', off', e, _, hcd, hfd⟩ := fD.at hjl
          simp only [Option.some.injEq, Addr.mk.injEq, and_true] at e
          obtain ⟨rfl, rfl⟩ := e
          rw [Nat.zero_add] at hcd
          have fd : FV .f32 (YD j) (mdS r VV j (mdT r VV j)) := FV.of_eq hfd (vD j hjl)
          have hA1 := fun m => specAt_any mb g1 0 r r N N k j X6 (w6.drewN m) h12 h12 HN.out (Box.drewN XM6) (FS.drewN K6.out.fs) hlt (show j < r by omega)
          have hA2 := fun m => specAt_any mb g1 0 r r N N k j X6 (w6.drewN m) h12 h12 HN.out (Box.drewN XM6) (FS.drewN K6.out.fs) hlt (show j < r by omega)
          have hq1 : k * r + j < N := by rw [HN.out]; exact place_lt hlt (by omega)
          have hq2 : k * r + j < N := by rw [HN.out]; exact place_lt hlt (by omega)
          have fe1 : FV .f32 (X6 (k * r + j)) (P.1 (k * r + j)) := ⟨HX6.out k j hlt (Nat.le_refl _) hjl, (K6.out.cell hq1).2.2.2.2.2⟩
          have fe2 : FV .f32 (X6 (k * r + j)) (P.1 (k * r + j)) := ⟨HX6.out k j hlt (Nat.le_refl _) hjl, (K6.out.cell hq2).2.2.2.2.2⟩
          have hTR : Hid (∀ x, FV .f32 x (fop .sub .f32 (trG (VV (k * r + k)) (fun t => mdS r VV t (mdT r VV t)) (fun t => P.1 (k * r + t)) (fun t => P.1 (k * r + t)) j) (fop .mul .f32 (fop .mul .f32 (mdS r VV j (mdT r VV j)) (P.1 (k * r + j))) (P.1 (k * r + j)))) → FV .f32 x (trG (VV (k * r + k)) (fun t => mdS r VV t (mdT r VV t)) (fun t => P.1 (k * r + t)) (fun t => P.1 (k * r + t)) (j + 1))) := Lib.hid fun x hx => hx
          generalize YD j = xd at hcd fd
          generalize X6 (k * r + j) = xa at hA1 fe1
          generalize P.1 (k * r + j) = va at fe1 hTR
          generalize mdS r VV j (mdT r VV j) = vd at fd hTR
          generalize trG (VV (k * r + k)) (fun t => mdS r VV t (mdT r VV t)) (fun t => P.1 (k * r + t)) (fun t => P.1 (k * r + t)) j = T0 at hr0 hTR
          clear hfd fD vD hq1 hq2
          go_wp2
          refine wp_region_kinds (fun w' => ∃ m, w' = w6.drewN m) (fun i => if i = 8 then 1 else if i = 12 then 1 else if i = 13 then 1 else 0) 14 ⟨m0 + 1, by rw [World.drewN_drewN]⟩ (by kernel_rfl) (by kernel_rfl) (by kernel_rfl) ?_
          simp only [List.take_succ_cons, List.take_zero, List.drop_succ_cons, List.drop_zero]
          ((with_reducible refine wpKinds_plain ?hwant ?hkind ?hplain (fun K hK => ?_)); (case hwant => first | (simp [Region.wanted, yielded]; done) | rfl); (case hkind => rfl); (case hplain => rfl); go_big_quiet_op; (first | refine hK _ ?_ | refine ⟨_, fun _ _ => rfl, hK _ ?_⟩); clear hK K)
          ((with_reducible refine wpKinds_plain ?hwant ?hkind ?hplain (fun K hK => ?_)); (case hwant => first | (simp [Region.wanted, yielded]; done) | rfl); (case hkind => rfl); (case hplain => rfl); go_big_quiet_op; (first | refine hK _ ?_ | refine ⟨_, fun _ _ => rfl, hK _ ?_⟩); clear hK K)
          ((with_reducible refine wpKinds_plain ?hwant ?hkind ?hplain (fun K hK => ?_)); (case hwant => first | (simp [Region.wanted, yielded]; done) | rfl); (case hkind => rfl); (case hplain => rfl); go_big_quiet_op; (first | refine hK _ ?_ | refine ⟨_, fun _ _ => rfl, hK _ ?_⟩); clear hK K)
          (refine wpKinds_run (.pointer (some ⟨gr, j, none⟩)) rfl rfl (by rintro W ⟨m, rfl⟩; simp [go_sem, hjl]) ?_; simp only [Act.put, List.setIfInBounds_toArray, List.set_cons_succ, List.set_cons_zero])
          (refine wpKinds_run (.float .f32 xd) rfl rfl (by rintro W ⟨m, rfl⟩; simp [go_sem, hcd]) ?_; simp only [Act.put, List.setIfInBounds_toArray, List.set_cons_succ, List.set_cons_zero])
          ((with_reducible refine wpKinds_plain ?hwant ?hkind ?hplain (fun K hK => ?_)); (case hwant => first | (simp [Region.wanted, yielded]; done) | rfl); (case hkind => rfl); (case hplain => rfl); go_big_quiet_op; (first | refine hK _ ?_ | refine ⟨_, fun _ _ => rfl, hK _ ?_⟩); clear hK K)
          ((with_reducible refine wpKinds_plain ?hwant ?hkind ?hplain (fun K hK => ?_)); (case hwant => first | (simp [Region.wanted, yielded]; done) | rfl); (case hkind => rfl); (case hplain => rfl); go_big_quiet_op; (first | refine hK _ ?_ | refine ⟨_, fun _ _ => rfl, hK _ ?_⟩); clear hK K)
          (refine wpKinds_call (f := 71) (args := #[.pointer (some ⟨mb, 0, none⟩), .int .i64 k, .int .i64 j]) (.float .f32 xa) rfl rfl (by intro W; simp [go_sem, BigFrame.eval_const, BigFrame.eval_global, BigFrame.eval_func]) (by kernel_rfl) (by rintro W ⟨m, rfl⟩; exact (hA1 m).mono fun e w' hh => ⟨hh.1, by obtain ⟨_, x, hx⟩ := hh; exact ⟨m + x, hx.trans drewN_two⟩⟩) ?_; simp only [Act.put, List.setIfInBounds_toArray, List.set_cons_succ, List.set_cons_zero])
          refine wpKinds_farith (fun W m hW => by obtain ⟨x, rfl⟩ := hW; exact ⟨x + m, drewN_two⟩) rfl rfl _ _ _ _ _ rfl rfl _ _ _ rfl rfl fd fe1 (fun r1 hr1 => ?_)
          simp only [Act.put, List.setIfInBounds_toArray, List.set_cons_succ, List.set_cons_zero]
          ((with_reducible refine wpKinds_plain ?hwant ?hkind ?hplain (fun K hK => ?_)); (case hwant => first | (simp [Region.wanted, yielded]; done) | rfl); (case hkind => rfl); (case hplain => rfl); go_big_quiet_op; (first | refine hK _ ?_ | refine ⟨_, fun _ _ => rfl, hK _ ?_⟩); clear hK K)
          ((with_reducible refine wpKinds_plain ?hwant ?hkind ?hplain (fun K hK => ?_)); (case hwant => first | (simp [Region.wanted, yielded]; done) | rfl); (case hkind => rfl); (case hplain => rfl); go_big_quiet_op; (first | refine hK _ ?_ | refine ⟨_, fun _ _ => rfl, hK _ ?_⟩); clear hK K)
          (refine wpKinds_call (f := 71) (args := #[.pointer (some ⟨mb, 0, none⟩), .int .i64 k, .int .i64 j]) (.float .f32 xa) rfl rfl (by intro W; simp [go_sem, BigFrame.eval_const, BigFrame.eval_global, BigFrame.eval_func]) (by kernel_rfl) (by rintro W ⟨m, rfl⟩; exact (hA1 m).mono fun e w' hh => ⟨hh.1, by obtain ⟨_, x, hx⟩ := hh; exact ⟨m + x, hx.trans drewN_two⟩⟩) ?_; simp only [Act.put, List.setIfInBounds_toArray, List.set_cons_succ, List.set_cons_zero])
          refine wpKinds_farith (fun W m hW => by obtain ⟨x, rfl⟩ := hW; exact ⟨x + m, drewN_two⟩) rfl rfl _ _ _ _ _ rfl rfl _ _ _ rfl rfl hr1 fe1 (fun r2 hr2 => ?_)
          simp only [Act.put, List.setIfInBounds_toArray, List.set_cons_succ, List.set_cons_zero]
          refine wpKinds_farith (fun W m hW => by obtain ⟨x, rfl⟩ := hW; exact ⟨x + m, drewN_two⟩) rfl rfl _ _ _ _ _ rfl rfl _ _ _ rfl rfl hr0 hr2 (fun r3 hr3 => ?_)
          simp only [Act.put, List.setIfInBounds_toArray, List.set_cons_succ, List.set_cons_zero]
          refine wpKinds_nil ?_
          rintro w9 ⟨m9, rfl⟩
          have HRR := Lib.hid (hTR.out _ hr3)
          clear hTR hr1 hr2 hr3
          go_wp2
          go_roundw
          case rel => exact ⟨j + 1, m9, _, by omega, by go_num, rfl, HRR.out, rfl⟩
          case measure => simp [intOf]; omega
        · obtain rfl : j = k := by omega
          have HSv : FV .f32 r0 S := by rw [HS.out]; exact FV.of_eq hr0 (trG_congr rfl fun t ht => ⟨by rw [HP.out, md_D ht], rfl, rfl⟩)
          have XM7 : Box (w6.drewN m0) mb r r (some ⟨g1, 0, none⟩) N N := XM6
          have K7 : Hid (Own 41 .f32 g1 (g1 + 1) (w6.drewN m0) (some ⟨g1, 0, none⟩) N N X6) := K6
          have HG7 : Hid (GrowY w5 j (fun t => mdS r VV t (mdT r VV t)) (w6.drewN m0) (.slice (some ⟨gr, 0, none⟩) j cp) xs) := Lib.hid (HG6.out.below (below_drewN (Below.refl _ _) m0))
          have HO7 : Hid (Out2 w5 (w6.drewN m0) g1 g1) := Lib.hid (HO6.out.more (below_drewN (Below.refl _ _) m0))
          have hdj : decide ((j : Int) < (j : Int)) = false := decide_eq_false (by omega)
          have hrsS : cn .f32 r0 = S := HSv.1
          clear K6 HG6 HO6 hr0
          generalize w6.drewN m0 = w7 at XM7 K7 HG7 HO7 ⊢
          have B7 := B5.trans (HO7.out.bel (B := w.heap.size) lw1 lw1 B5.size)
          cases hz : isZero S with
          | true =>
            have hz2 : (ford .f32 S (some 0) == some .eq) = true := hz
            have hno : mdOk r N VV = false := mdOk_zero hlt (by rw [← HP.out, ← HS.out]; exact hz)
            have HNO := Lib.hid hno
            obtain ⟨y0, y1, y2⟩ := HO7.out.box XR5 lr5 nr1 nr1
            have IR9 := HO7.out.ice IR5 lr5 nr1 nr1
            clear hz hno
            go_wp2_with fail
            (try rw [Exit.noGoto_ret])
            refine bodyPost_ret (v := .tuple #[.agg #[.int .i64 0, .int .i64 0, .slice none 0 0], .slice none 0 0, .bool false]) (by simp [results, Try.results29, go_sem, y0, y1, y2]) rfl ?_
            exact MdBelIf.no HNO.out (MdBel.no (by repeat first | (with_reducible exact B7) | (with_reducible refine Below.setCell ?_ (by first | exact Nat.le_refl _ | (simp; done) | (simp; omega) | omega) _) | (with_reducible refine Below.alloc ?_ (by first | exact Nat.le_refl _ | (simp; done) | (simp; omega) | omega) _) | (with_reducible refine below_drewN ?_ _) | (with_reducible refine Below.drew ?_)))
          | false =>
            have hz2 : (ford .f32 S (some 0) == some .eq) = false := hz
            have HZ := Lib.hid hz
            clear hz
            go_wp2_with fail
            go_at_call 62
            refine (specFinite_any _ HSv _).mono ?_
            rintro e w8' ⟨rfl, m8, rfl⟩
            have XM8 : Box (w7.drewN m8) mb r r (some ⟨g1, 0, none⟩) N N := XM7
            have K8 : Hid (Own 41 .f32 g1 (g1 + 1) (w7.drewN m8) (some ⟨g1, 0, none⟩) N N X6) := K7
            have HG8 : Hid (GrowY w5 j (fun t => mdS r VV t (mdT r VV t)) (w7.drewN m8) (.slice (some ⟨gr, 0, none⟩) j cp) xs) := Lib.hid (HG7.out.below (below_drewN (Below.refl _ _) m8))
            have HO8 : Hid (Out2 w5 (w7.drewN m8) g1 g1) := Lib.hid (HO7.out.more (below_drewN (Below.refl _ _) m8))
            have B8 := below_drewN B7 m8
            clear XM7 K7 HG7 HO7 B7
            generalize w7.drewN m8 = w8 at XM8 K8 HG8 HO8 B8 ⊢
            cases hf : finite .f32 S with
            | false =>
              have hno : mdOk r N VV = false := mdOk_inf hlt (by rw [← HP.out, ← HS.out]; exact hf)
              have HNO := Lib.hid hno
              obtain ⟨y0, y1, y2⟩ := HO8.out.box XR5 lr5 nr1 nr1
              have IR9 := HO8.out.ice IR5 lr5 nr1 nr1
              clear hf hno
              go_wp2_with fail
              (try rw [Exit.noGoto_ret])
              refine bodyPost_ret (v := .tuple #[.agg #[.int .i64 0, .int .i64 0, .slice none 0 0], .slice none 0 0, .bool false]) (by simp [results, Try.results29, go_sem, y0, y1, y2]) rfl ?_
              exact MdBelIf.no HNO.out (MdBel.no (by repeat first | (with_reducible exact B8) | (with_reducible refine Below.setCell ?_ (by first | exact Nat.le_refl _ | (simp; done) | (simp; omega) | omega) _) | (with_reducible refine Below.alloc ?_ (by first | exact Nat.le_refl _ | (simp; done) | (simp; omega) | omega) _) | (with_reducible refine below_drewN ?_ _) | (with_reducible refine Below.drew ?_)))
            | true =>
              have HNZ : Hid (∀ q, q < j + 1 → isZero (mdS r VV q (mdT r VV q)) = false ∧ finite .f32 (mdS r VV q (mdT r VV q)) = true) := Lib.hid fun q hq => by
                rcases Nat.lt_or_ge q j with t | t
                · exact hnz.out q t
                · obtain rfl : q = j := by omega
                  rw [← HP.out, ← HS.out]; exact ⟨HZ.out, hf⟩
              have fSd : FV .f32 r0 (mdS r VV j (mdT r VV j)) := by rw [← HP.out, ← HS.out]; exact HSv
              have hrow := HG8.out.own
              have hs8 := HO8.out.size
              clear hf hnz
              go_wp2_with (first
                | (at_builtin
                   refine wpList_append_lies _ rfl _ _ _ rfl w5.heap.size 41 i0 _ 1 4 Try.underlying22 hi hz0 hz1 (by assumption) rfl (by omega) (.slice (some ⟨gr, 0, none⟩) j cp) j xs rfl (by exact ownsRow_below hrow (by repeat first | (with_reducible exact Below.refl _ _) | (with_reducible refine Below.setCell ?_ (by first | exact Nat.le_refl _ | (simp; done) | (simp; omega) | omega) _) | (with_reducible refine Below.alloc ?_ (by first | exact Nat.le_refl _ | (simp; done) | (simp; omega) | omega) _) | (with_reducible refine below_drewN ?_ _) | (with_reducible refine Below.drew ?_))) ⟨w8.heap.size, 0, none⟩ 1 1 [.float .f32 r0] rfl rfl
                          (by exact World.news_of_block (cs := #[.float .f32 r0]) (t := 41) (fr := (0, 0)) (heap_alloc_new _ _)) (by simp [Value.oneCell']) (by omega) (by unfold maxLen; omega) (by omega) (by simp; omega) (w8.heap.size + 1) (by simp) ?_
                   intro gg cp2 w9 hown2 hgrow2 hat2 hlt3
                   have hneg : gr ≠ g1 := by omega
                   have D9 : Out2 w5 w9 g1 g1 := HO8.out.appendY (by repeat first | (with_reducible exact Below.refl _ _) | (with_reducible refine Below.setCell ?_ (by first | exact Nat.le_refl _ | (simp; done) | (simp; omega) | omega) _) | (with_reducible refine Below.alloc ?_ (by first | exact Nat.le_refl _ | (simp; done) | (simp; omega) | omega) _) | (with_reducible refine below_drewN ?_ _) | (with_reducible refine Below.drew ?_)) hgrow2 (gb := gr) rfl hgr
                   have K19 : Own 41 .f32 g1 (g1 + 1) w9 (some ⟨g1, 0, none⟩) N N X6 := (K8.out.kept (below_grew (show Below w8.heap.size w8 _ from (by repeat first | (with_reducible exact Below.refl _ _) | (with_reducible refine Below.setCell ?_ (by first | exact Nat.le_refl _ | (simp; done) | (simp; omega) | omega) _) | (with_reducible refine Below.alloc ?_ (by first | exact Nat.le_refl _ | (simp; done) | (simp; omega) | omega) _) | (with_reducible refine below_drewN ?_ _) | (with_reducible refine Below.drew ?_)))) (fun q hq => by cases hq)).kept hgrow2 (fun q hq => by simp only [Value.ownBlock, Option.some.injEq] at hq; omega)
                   have G9 := HG8.out.step hown2 fSd
                   clear hown2 hgrow2 hat2 hlt3))
              have HD9 := Lib.hid D9
              have HG9 := Lib.hid G9
              have VI : Hid (∀ t, t < N → vals X6 t = uN r t (mdI r VV j P S (j + 1) t)) := Lib.hid fun t ht => (V1.out t ht).trans (mdu_start hlt)
              obtain ⟨gr2, cp3, hsh, hgr2⟩ := G9.shape
              simp only [Value.slice.injEq, Option.some.injEq, Addr.mk.injEq, and_true, true_and] at hsh
              obtain ⟨rfl, rfl⟩ := hsh
              clear hrow hs8 XM8 K8 HG8 HO8 B8 D9 G9 V1 HX6 hgr
              obtain ⟨k, rfl⟩ : ∃ k, k = j := ⟨_, rfl⟩
              obtain ⟨gr, rfl⟩ : ∃ g, g = gg := ⟨_, rfl⟩
              obtain ⟨cp, rfl⟩ : ∃ c, c = cp2 := ⟨_, rfl⟩
              obtain ⟨rS, rfl⟩ : ∃ x, x = r0 := ⟨_, rfl⟩
              go_wp2
              go_loopw [11] (fun i wr => ∃ (i' : Nat) (X' : Nat → Nat), k + 1 ≤ i' ∧ i' ≤ r ∧ i = .int .i64 i' ∧ Own 41 .f32 g1 (g1 + 1) wr (some ⟨g1, 0, none⟩) N N X' ∧ GrowY w5 (k + 1) (fun t => mdS r VV t (mdT r VV t)) wr (.slice (some ⟨gr, 0, none⟩) (k + 1) cp) (xs ++ [.float .f32 rS]) ∧ (∀ t, t < N → vals X' t = uN r t (mdI r VV k P S i' t)) ∧ Out2 w5 wr g1 g1) (fun i _ => r - (intOf i).toNat)
              case atStart => exact ⟨k + 1, X6, Nat.le_refl _, hlt, by go_num, K19, HG9.out, VI.out, HD9.out⟩
              case round =>
                obtain ⟨i', X', hi1, hi2, rfl, k3, hg3, v3, ho3⟩ := hrel
                clear K19 HG9 VI HD9
                by_cases hli : i' < r
                · have hdi : decide ((i' : Int) < (r : Int)) = true := decide_eq_true (by omega)
                  have XAr := ho3.box XA5 la5 na1 na1
                  have Br := B5.trans (ho3.bel (B := w.heap.size) lw1 lw1 B5.size)
                  have FAr := h.below Br (Nat.le_refl _)
                  have hik : i' * r + k < N := by rw [HN.out]; exact place_lt hli hlt
                  have fZ : FV .f32 (Z (i' * r + k)) (VV (i' * r + k)) := by rw [HVV.out]; exact fsY_fv FAr hik
                  have hAt := specAt_any w.heap.size p1 o1 r r N d1 i' k Z wr h12 h12 HN.out XAr FAr hli hlt
                  have HO3 := Lib.hid ho3
                  have K3 := Lib.hid k3
                  have HG3 := Lib.hid hg3
                  have V3 := Lib.hid v3
                  clear FAr ho3 k3 hg3 v3
                  generalize Z (i' * r + k) = zb at hAt fZ
                  go_wp2_with fail
                  go_at_call 71
                  refine hAt.mono ?_
                  rintro e w6' ⟨rfl, m6, rfl⟩
                  have XM6 : Box (wr.drewN m6) mb r r (some ⟨g1, 0, none⟩) N N := HO3.out.box XM5 lm5 ng ng
                  have K6 : Hid (Own 41 .f32 g1 (g1 + 1) (wr.drewN m6) (some ⟨g1, 0, none⟩) N N X') := K3
                  have HG6 : Hid (GrowY w5 (k + 1) (fun t => mdS r VV t (mdT r VV t)) (wr.drewN m6) (.slice (some ⟨gr, 0, none⟩) (k + 1) cp) (xs ++ [.float .f32 rS])) := Lib.hid (HG3.out.below (below_drewN (Below.refl _ _) m6))
                  have HO6 : Hid (Out2 w5 (wr.drewN m6) g1 g1) := Lib.hid (HO3.out.more (below_drewN (Below.refl _ _) m6))
                  clear hAt XAr K3 HG3 HO3
                  generalize wr.drewN m6 = w6 at XM6 K6 HG6 HO6 ⊢
                  obtain ⟨X6, hX6⟩ : ∃ X6, X6 = X' := ⟨_, rfl⟩
                  rw [← hX6] at K6 V3
                  have HX6 : Hid (∀ q j, q < r → k ≤ q → j < k → vals X6 (q * r + j) = P.1 (q * r + j)) := Lib.hid fun q j hq hkq hj => by
                    rw [V3.out _ (by rw [HN.out]; exact place_lt hq (by omega)), uN_off (by omega) (by omega), mdI_row hj hlt]
                  clear hX6
                  go_wp2
                  go_loopw [12, 13] (fun s i wr2 => ∃ j m r0 : Nat, j ≤ k ∧ i = .int .i64 j ∧ s = .float .f32 r0 ∧ FV .f32 r0 (trG (VV (i' * r + k)) (fun t => mdS r VV t (mdT r VV t)) (fun t => P.1 (i' * r + t)) (fun t => P.1 (k * r + t)) j) ∧ wr2 = w6.drewN m) (fun _ i _ => k - (intOf i).toNat)
                  case atStart => exact ⟨0, 0, _, Nat.zero_le _, rfl, rfl, fZ, rfl⟩
                  case round =>
                    obtain ⟨j, m0, r0, hj, rfl, rfl, hr0, rfl⟩ := hrel
                    by_cases hjl : j < k
                    · have hdj : decide ((j : Int) < (k : Int)) = true := decide_eq_true (by omega)
                      have hjl1 : j < k + 1 := by omega
                      have hjl3 : ¬ ((k : Int) + 1 ≤ (j : Int)) := by omega
                      obtain ⟨YD, fD, vD⟩ := GrowY.fs (by omega) HG6.out
                      obtain ⟨b', off', e, _, hcd, hfd⟩ := fD.at hjl1
                      simp only [Option.some.injEq, Addr.mk.injEq, and_true] at e
                      obtain ⟨rfl, rfl⟩ := e
                      rw [Nat.zero_add] at hcd
                      have fd : FV .f32 (YD j) (mdS r VV j (mdT r VV j)) := FV.of_eq hfd (vD j hjl1)
                      have hA1 := fun m => specAt_any mb g1 0 r r N N i' j X6 (w6.drewN m) h12 h12 HN.out (Box.drewN XM6) (FS.drewN K6.out.fs) hli (show j < r by omega)
                      have hA2 := fun m => specAt_any mb g1 0 r r N N k j X6 (w6.drewN m) h12 h12 HN.out (Box.drewN XM6) (FS.drewN K6.out.fs) hlt (show j < r by omega)
                      have hq1 : i' * r + j < N := by rw [HN.out]; exact place_lt hli (by omega)
                      have hq2 : k * r + j < N := by rw [HN.out]; exact place_lt hlt (by omega)
                      have fe1 : FV .f32 (X6 (i' * r + j)) (P.1 (i' * r + j)) := ⟨HX6.out i' j hli (by omega) hjl, (K6.out.cell hq1).2.2.2.2.2⟩
                      have fe2 : FV .f32 (X6 (k * r + j)) (P.1 (k * r + j)) := ⟨HX6.out k j hlt (Nat.le_refl _) hjl, (K6.out.cell hq2).2.2.2.2.2⟩
                      have hTR : Hid (∀ x, FV .f32 x (fop .sub .f32 (trG (VV (i' * r + k)) (fun t => mdS r VV t (mdT r VV t)) (fun t => P.1 (i' * r + t)) (fun t => P.1 (k * r + t)) j) (fop .mul .f32 (fop .mul .f32 (mdS r VV j (mdT r VV j)) (P.1 (i' * r + j))) (P.1 (k * r + j)))) → FV .f32 x (trG (VV (i' * r + k)) (fun t => mdS r VV t (mdT r VV t)) (fun t => P.1 (i' * r + t)) (fun t => P.1 (k * r + t)) (j + 1))) := Lib.hid fun x hx => hx
                      generalize YD j = xd at hcd fd
                      generalize X6 (i' * r + j) = xa at hA1 fe1
                      generalize X6 (k * r + j) = xb at hA2 fe2
                      generalize P.1 (i' * r + j) = va at fe1 hTR
                      generalize P.1 (k * r + j) = vb at fe2 hTR
                      generalize mdS r VV j (mdT r VV j) = vd at fd hTR
                      generalize trG (VV (i' * r + k)) (fun t => mdS r VV t (mdT r VV t)) (fun t => P.1 (i' * r + t)) (fun t => P.1 (k * r + t)) j = T0 at hr0 hTR
                      clear hfd fD vD hq1 hq2
                      go_wp2
                      refine wp_region_kinds (fun w' => ∃ m, w' = w6.drewN m) (fun i => if i = 8 then 1 else if i = 12 then 1 else if i = 13 then 1 else 0) 14 ⟨m0 + 1, by rw [World.drewN_drewN]⟩ (by kernel_rfl) (by kernel_rfl) (by kernel_rfl) ?_
                      simp only [List.take_succ_cons, List.take_zero, List.drop_succ_cons, List.drop_zero]
                      ((with_reducible refine wpKinds_plain ?hwant ?hkind ?hplain (fun K hK => ?_)); (case hwant => first | (simp [Region.wanted, yielded]; done) | rfl); (case hkind => rfl); (case hplain => rfl); go_big_quiet_op; (first | refine hK _ ?_ | refine ⟨_, fun _ _ => rfl, hK _ ?_⟩); clear hK K)
                      ((with_reducible refine wpKinds_plain ?hwant ?hkind ?hplain (fun K hK => ?_)); (case hwant => first | (simp [Region.wanted, yielded]; done) | rfl); (case hkind => rfl); (case hplain => rfl); go_big_quiet_op; (first | refine hK _ ?_ | refine ⟨_, fun _ _ => rfl, hK _ ?_⟩); clear hK K)
                      ((with_reducible refine wpKinds_plain ?hwant ?hkind ?hplain (fun K hK => ?_)); (case hwant => first | (simp [Region.wanted, yielded]; done) | rfl); (case hkind => rfl); (case hplain => rfl); go_big_quiet_op; (first | refine hK _ ?_ | refine ⟨_, fun _ _ => rfl, hK _ ?_⟩); clear hK K)
                      (refine wpKinds_run (.pointer (some ⟨gr, j, none⟩)) rfl rfl (by rintro W ⟨m, rfl⟩; simp [go_sem, hjl1, hjl3]) ?_; simp only [Act.put, List.setIfInBounds_toArray, List.set_cons_succ, List.set_cons_zero])
                      (refine wpKinds_run (.float .f32 xd) rfl rfl (by rintro W ⟨m, rfl⟩; simp [go_sem, hcd]) ?_; simp only [Act.put, List.setIfInBounds_toArray, List.set_cons_succ, List.set_cons_zero])
                      ((with_reducible refine wpKinds_plain ?hwant ?hkind ?hplain (fun K hK => ?_)); (case hwant => first | (simp [Region.wanted, yielded]; done) | rfl); (case hkind => rfl); (case hplain => rfl); go_big_quiet_op; (first | refine hK _ ?_ | refine ⟨_, fun _ _ => rfl, hK _ ?_⟩); clear hK K)
                      ((with_reducible refine wpKinds_plain ?hwant ?hkind ?hplain (fun K hK => ?_)); (case hwant => first | (simp [Region.wanted, yielded]; done) | rfl); (case hkind => rfl); (case hplain => rfl); go_big_quiet_op; (first | refine hK _ ?_ | refine ⟨_, fun _ _ => rfl, hK _ ?_⟩); clear hK K)
                      (refine wpKinds_call (f := 71) (args := #[.pointer (some ⟨mb, 0, none⟩), .int .i64 i', .int .i64 j]) (.float .f32 xa) rfl rfl (by intro W; simp [go_sem, BigFrame.eval_const, BigFrame.eval_global, BigFrame.eval_func]) (by kernel_rfl) (by rintro W ⟨m, rfl⟩; exact (hA1 m).mono fun e w' hh => ⟨hh.1, by obtain ⟨_, x, hx⟩ := hh; exact ⟨m + x, hx.trans drewN_two⟩⟩) ?_; simp only [Act.put, List.setIfInBounds_toArray, List.set_cons_succ, List.set_cons_zero])
                      refine wpKinds_farith (fun W m hW => by obtain ⟨x, rfl⟩ := hW; exact ⟨x + m, drewN_two⟩) rfl rfl _ _ _ _ _ rfl rfl _ _ _ rfl rfl fd fe1 (fun r1 hr1 => ?_)
                      simp only [Act.put, List.setIfInBounds_toArray, List.set_cons_succ, List.set_cons_zero]
                      ((with_reducible refine wpKinds_plain ?hwant ?hkind ?hplain (fun K hK => ?_)); (case hwant => first | (simp [Region.wanted, yielded]; done) | rfl); (case hkind => rfl); (case hplain => rfl); go_big_quiet_op; (first | refine hK _ ?_ | refine ⟨_, fun _ _ => rfl, hK _ ?_⟩); clear hK K)
                      ((with_reducible refine wpKinds_plain ?hwant ?hkind ?hplain (fun K hK => ?_)); (case hwant => first | (simp [Region.wanted, yielded]; done) | rfl); (case hkind => rfl); (case hplain => rfl); go_big_quiet_op; (first | refine hK _ ?_ | refine ⟨_, fun _ _ => rfl, hK _ ?_⟩); clear hK K)
                      (refine wpKinds_call (f := 71) (args := #[.pointer (some ⟨mb, 0, none⟩), .int .i64 k, .int .i64 j]) (.float .f32 xb) rfl rfl (by intro W; simp [go_sem, BigFrame.eval_const, BigFrame.eval_global, BigFrame.eval_func]) (by kernel_rfl) (by rintro W ⟨m, rfl⟩; exact (hA2 m).mono fun e w' hh => ⟨hh.1, by obtain ⟨_, x, hx⟩ := hh; exact ⟨m + x, hx.trans drewN_two⟩⟩) ?_; simp only [Act.put, List.setIfInBounds_toArray, List.set_cons_succ, List.set_cons_zero])
                      refine wpKinds_farith (fun W m hW => by obtain ⟨x, rfl⟩ := hW; exact ⟨x + m, drewN_two⟩) rfl rfl _ _ _ _ _ rfl rfl _ _ _ rfl rfl hr1 fe2 (fun r2 hr2 => ?_)
                      simp only [Act.put, List.setIfInBounds_toArray, List.set_cons_succ, List.set_cons_zero]
                      refine wpKinds_farith (fun W m hW => by obtain ⟨x, rfl⟩ := hW; exact ⟨x + m, drewN_two⟩) rfl rfl _ _ _ _ _ rfl rfl _ _ _ rfl rfl hr0 hr2 (fun r3 hr3 => ?_)
                      simp only [Act.put, List.setIfInBounds_toArray, List.set_cons_succ, List.set_cons_zero]
                      refine wpKinds_nil ?_
                      rintro w9 ⟨m9, rfl⟩
                      have HRR := Lib.hid (hTR.out _ hr3)
                      clear hTR hr1 hr2 hr3
                      go_wp2
                      go_roundw
                      case rel => exact ⟨j + 1, m9, _, by omega, by go_num, rfl, HRR.out, rfl⟩
                      case measure => simp [intOf]; omega
                    · obtain rfl : j = k := by omega
                      have fx : FV .f32 r0 (mdR r VV j P i') := FV.of_eq hr0 (trG_congr rfl fun t ht => ⟨by rw [HP.out, md_D ht], rfl, rfl⟩)
                      obtain ⟨z0, z1, z2⟩ : Box (w6.drewN m0) mb r r (some ⟨g1, 0, none⟩) N N := XM6
                      have K7 : Hid (Own 41 .f32 g1 (g1 + 1) (w6.drewN m0) (some ⟨g1, 0, none⟩) N N X6) := K6
                      have HG7 : Hid (GrowY w5 (j + 1) (fun t => mdS r VV t (mdT r VV t)) (w6.drewN m0) (.slice (some ⟨gr, 0, none⟩) (j + 1) cp) (xs ++ [.float .f32 rS])) := Lib.hid (HG6.out.below (below_drewN (Below.refl _ _) m0))
                      have HO7 : Hid (Out2 w5 (w6.drewN m0) g1 g1) := Lib.hid (HO6.out.more (below_drewN (Below.refl _ _) m0))
                      have hdj : decide ((j : Int) < (j : Int)) = false := decide_eq_false (by omega)
                      clear K6 HG6 HO6 hr0
                      generalize w6.drewN m0 = w7 at z0 z1 z2 K7 HG7 HO7 ⊢
                      obtain ⟨ir, hir⟩ : ∃ ir, ir = i' * r := ⟨_, rfl⟩
                      have hw1 : IntKind.i64.wrap ((i' : Int) * (r : Int)) = (ir : Int) := by rw [hir, ← Int.natCast_mul]; exact IntWalk.i64_in _ (by omega)
                      have hw2 : IntKind.i64.wrap ((ir : Int) + (j : Int)) = ((i' * r + j : Nat) : Int) := by rw [hir, ← Int.natCast_add]; exact IntWalk.i64_in _ (by omega)
                      have HPUT : Hid (∀ u, FV .f32 u (fop .quo .f32 (mdR r VV j P i') S) → ∀ t, t < N → vals (fun t => if t = i' * r + j then u else X6 t) t = uN r t (mdI r VV j P S (i' + 1) t)) := Lib.hid fun u hu => mdu_put (by omega) hlt V3.out hu
                      obtain ⟨hce, hfr, _, _, _, _⟩ := K7.out.cell hik
                      generalize X6 (i' * r + j) = old at hce
                      generalize mdR r VV j P i' = RR at fx HPUT
                      generalize i' * r + j = J at hik hce hfr hw2 HPUT
                      clear hir V3 HX6
                      go_wp2_with (refine wpList_farith rfl _ _ _ _ _ rfl rfl _ _ _ rfl rfl fx HSv ?_; intro r7 m7 hr7)
                      obtain ⟨O7, G7⟩ := (show Own 41 .f32 g1 (g1 + 1) (w7.drewN m7) (some ⟨g1, 0, none⟩) N N X6 from K7.out).stored hik hr7.2
                      have K8 := Lib.hid O7
                      have HG8 := Lib.hid (GrowY.kept (HG7.out.below (below_drewN (Below.refl _ _) m7)) G7 ll1)
                      have HO8 := Lib.hid (Out2.left (HO7.out.more (below_drewN (Below.refl _ _) m7)) G7)
                      have V8 := Lib.hid (HPUT.out r7 hr7)
                      clear O7 G7 HPUT hr7 K7 HG7 HO7
                      try go_wp2
                      go_roundw
                      case rel => exact ⟨i' + 1, _, by omega, by omega, by go_num, K8.out, HG8.out, V8.out, HO8.out⟩
                      case measure => simp [intOf]; omega
                · obtain rfl : i' = r := by omega
                  have hdi : decide ((i' : Int) < (i' : Int)) = false := decide_eq_false (by omega)
                  have K3 := Lib.hid k3
                  have HG3 := Lib.hid hg3
                  have HO3 := Lib.hid ho3
                  have V3 : Hid (∀ t, t < N → vals X' t = uN i' t ((mdT i' VV (k + 1)).1 t)) := Lib.hid fun t ht => by
                    rw [v3 t ht, HS.out, HP.out]; rfl
                  clear k3 hg3 v3 ho3
                  go_wp2
                  go_roundw
                  case rel => exact ⟨k + 1, X', _, by omega, by go_num, HG3.out, K3.out, V3.out, HNZ, HO3.out⟩
                  case measure => simp [intOf]; omega
    · obtain rfl : k = r := by omega
      have hdk : decide ((k : Int) < (k : Int)) = false := decide_eq_false (by omega)
      have vE : ∀ t, t < N → vals X t = (mdT k VV k).1 t := fun t ht => by rw [v1 t ht, mdu_end (Nat.div_lt_of_lt_mul (by rw [← HN.out]; exact ht))]
      have hvL : validB k k N (vals X) = allFin (mdT k VV k).1 N := (validB_nat h1 h12 h1 h12 HN.out).trans (allFin_congr vE)
      have HOK : Hid (mdOk k N VV = allFin (mdT k VV k).1 N) := Lib.hid (by
        have hD : allFin (mdT k VV k).2 k = true := by
          have fin_all : ∀ {V : Nat → Option Nat} {n : Nat}, (∀ i, i < n → finite .f32 (V i) = true) → allFin V n = true := by
            intro V n
            induction n with
            | zero => intro _; rfl
            | succ n ih => intro hh; exact allFin_succ (ih fun i hi => hh i (by omega)) (hh n (by omega))
          exact fin_all fun i hi => by rw [md_D hi]; exact (hnz.out i hi).2
        unfold mdOk
        rw [anyZ_no (fun i hi => by rw [md_D hi]; exact (hnz.out i hi).1), hD, Bool.and_true]
        rfl)
      have XM := ho.box XM5 lm5 ng ng
      have XR := ho.box XR5 lr5 nr1 nr1
      have IR := ho.ice IR5 lr5 nr1 nr1
      have BK := B5.trans (ho.bel (B := w.heap.size) lw1 lw1 B5.size)
      have hsr := ho.size
      have VE := Lib.hid vE
      have HK1 := Lib.hid k1
      have HG := Lib.hid hg
      have fX := k1.fs
      clear v1 vE k1 hg ho hnz
      go_wp2_with fail
      go_at_call 37
      refine (specIs_any mb k k _ N N X _ (by omega) XM fX).mono ?_
      rw [hvL]
      rintro e w6' ⟨rfl, m6, rfl⟩
      have XR6 : Box (wr.drewN m6) (w.heap.size + 1) 0 0 none 0 0 := XR
      have IR6 : ∀ i, (wr.drewN m6).frozen? ⟨w.heap.size + 1, i, none⟩ = false := IR
      have XM6 : Box (wr.drewN m6) mb k k (some ⟨g1, 0, none⟩) N N := XM
      have K6 : Hid (Own 41 .f32 g1 (g1 + 1) (wr.drewN m6) (some ⟨g1, 0, none⟩) N N X) := HK1
      have HG6 : Hid (GrowY w5 k (fun t => mdS k VV t (mdT k VV t)) (wr.drewN m6) (.slice (some ⟨gr, 0, none⟩) k cp) xs) := Lib.hid (HG.out.below (below_drewN (Below.refl _ _) m6))
      have B6 := below_drewN BK m6
      clear XR IR XM HK1 HG fX BK
      generalize wr.drewN m6 = w6 at XR6 IR6 XM6 K6 HG6 B6 ⊢
      obtain ⟨z0, z1, z2⟩ := XR6
      cases hf1 : allFin (mdT k VV k).1 N with
      | false =>
        have hno : mdOk k N VV = false := HOK.out.trans hf1
        clear hf1
        go_wp2_with fail
        refine bodyPost_ret (v := .tuple #[.agg #[.int .i64 0, .int .i64 0, .slice none 0 0], .slice none 0 0, .bool false]) (by simp [results, Try.results29, go_sem, z0, z1, z2]) rfl ?_
        exact MdBelIf.no hno (MdBel.no (by repeat first | (with_reducible exact B6) | (with_reducible refine Below.setCell ?_ (by first | exact Nat.le_refl _ | (simp; done) | (simp; omega) | omega) _) | (with_reducible refine Below.alloc ?_ (by first | exact Nat.le_refl _ | (simp; done) | (simp; omega) | omega) _) | (with_reducible refine below_drewN ?_ _) | (with_reducible refine Below.drew ?_)))
      | true =>
        have hyes : mdOk k N VV = true := HOK.out.trans hf1
        obtain ⟨y0, y1, y2⟩ := XM6
        have GS3 := Lib.hid (set3_grown w6 (w.heap.size + 1) (k : Int) (k : Int) (some ⟨g1, 0, none⟩) N N)
        clear hf1
        go_wp2_with fail
        refine bodyPost_ret (v := .tuple #[.agg #[.int .i64 k, .int .i64 k, .slice (some ⟨g1, 0, none⟩) N N], .slice (some ⟨gr, 0, none⟩) k cp, .bool true]) (by simp [results, Try.results29, go_sem, z0, z1, z2]) rfl ?_
        have GG := GS3.out
        obtain ⟨YD, fD, vD⟩ := GrowY.fs (by omega) (GrowY.kept HG6.out GG lr5)
        exact MdBelIf.yes hyes ⟨some ⟨g1, 0, none⟩, N, X, some ⟨gr, 0, none⟩, cp, YD, rfl, (K6.out.kept GG (fun q hq => by cases hq; omega)).fs, VE.out, fD, fun i hi => by rw [vD i hi, md_D hi], B6.grown GG B6.size (fun q hq => by cases hq; omega)⟩
end Go.Proofs.Ytcibjkadlndejaa
