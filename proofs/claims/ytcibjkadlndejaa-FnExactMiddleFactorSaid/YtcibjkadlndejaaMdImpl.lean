/- Helper: a square taken apart into a lower square and its middle, of the program. Conditions: none. -/
import Derived.Test.YtcibjkadlndejaaMdDefs
import Derived.Test.YtcibjkadlndejaaKindSteps
import Derived.Test.YtcibjkadlndejaaTwoRet
import Derived.Test.YtcibjkadlndejaaSquare
import Derived.Test.YtcibjkadlndejaaFlipWalks
import Derived.Deep.Cut
set_option linter.unusedVariables false
set_option linter.unusedSimpArgs false
namespace Go.Proofs.Ytcibjkadlndejaa
open Go.RowKit

theorem implMd_no (R C : Int) (a : Option Addr) (n c : Nat) (Z : Nat → Nat) (w : World) (hn : n ≤ 1048576) (h : FS .f32 w a n c Z) (hsq : squareB R C n (vals Z) = false) :
    Calls Try.prog 30 #[.agg #[.int .i64 R, .int .i64 C, .slice a n c]] w (MdOwn false 0 0 0 (fun _ => none) 0 (fun _ => none) w) := by
  have HSQ := Lib.hid hsq
  clear hsq
  go_enter Try.func30, Try.ntmps30
  go_wp2_with fail
  go_at_call 72
  refine (implSquare_any R C a n c Z _ hn (h.below (by repeat first | (with_reducible exact Below.refl _ _) | (with_reducible refine Below.setCell ?_ (by first | exact Nat.le_refl _ | (simp; done) | (simp; omega) | omega) _) | (with_reducible refine Below.alloc ?_ (by first | exact Nat.le_refl _ | (simp; done) | (simp; omega) | omega) _) | (with_reducible refine below_drewN ?_ _) | (with_reducible refine Below.drew ?_)) (Nat.le_refl _))).mono ?_
  rintro e w1 ⟨rfl, b1⟩
  rw [HSQ.out]
  have B1 : Below w.heap.size w w1 := Below.trans (by repeat first | (with_reducible exact Below.refl _ _) | (with_reducible refine Below.setCell ?_ (by first | exact Nat.le_refl _ | (simp; done) | (simp; omega) | omega) _) | (with_reducible refine Below.alloc ?_ (by first | exact Nat.le_refl _ | (simp; done) | (simp; omega) | omega) _) | (with_reducible refine below_drewN ?_ _) | (with_reducible refine Below.drew ?_)) (b1.mono (by simp; omega))
  have s1 : w.heap.size + 1 + 1 ≤ w1.heap.size := by have := b1.size; simp at this; omega
  obtain ⟨hc, hf⟩ := bcell b1
  go_wp2_with fail
  refine bodyPost_ret (v := .tuple #[.agg #[.int .i64 0, .int .i64 0, .slice none 0 0], .slice none 0 0, .bool false]) (by simp [results, Try.results30, go_sem, hc]) rfl ?_
  exact MdOwn.no (by repeat first | (with_reducible exact B1) | (with_reducible refine Below.setCell ?_ (by first | exact Nat.le_refl _ | (simp; done) | (simp; omega) | omega) _) | (with_reducible refine Below.alloc ?_ (by first | exact Nat.le_refl _ | (simp; done) | (simp; omega) | omega) _) | (with_reducible refine below_drewN ?_ _) | (with_reducible refine Below.drew ?_))
set_option maxRecDepth 20000 in
set_option maxHeartbeats 4000000 in
theorem implMd_yes (r N p1 o1 d1 : Nat) (Z : Nat → Nat) (w : World) (h1 : 1 ≤ r) (h12 : r ≤ 12) (hn : N = r * r) (hsq : squareB r r N (vals Z) = true) (h : FS .f32 w (some ⟨p1, o1, none⟩) N d1 Z) :
    Calls Try.prog 30 #[.agg #[.int .i64 r, .int .i64 r, .slice (some ⟨p1, o1, none⟩) N d1]] w (MdOwnIf (mdOk r N (vals Z)) r r N (mdT r (vals Z) r).1 r (mdT r (vals Z) r).2 w) := by
  obtain ⟨i0, hi, hz0, hz1, hz2⟩ := info_parts info32
  have HN := Lib.hid hn
  have h144 : N ≤ 144 := by have := sides_le h12 h12; omega
  have hpos : 0 < N := by rw [hn]; exact Nat.mul_pos h1 h1
  have HSQ := Lib.hid hsq
  have hcap := h.1
  have hmx := h.2.1
  have hmax : d1 ≤ 9223372036854775807 := by unfold maxLen at hmx; omega
  have c0 : cn .f32 0 = some 0 := by kernel_rfl
  have c1' : cn .f32 1065353216 = some 1065353216 := by kernel_rfl
  have C0 := Lib.hid c0
  have C1 := Lib.hid c1'
  obtain ⟨VV, hVV⟩ : ∃ VV, VV = vals Z := ⟨_, rfl⟩
  rw [← hVV]
  have HVV := Lib.hid hVV
  clear hn hsq hVV c1'
  go_enter Try.func30, Try.ntmps30
  go_wp2_with fail
  go_at_call 72
  refine (implSquare_any r r _ N d1 Z _ (by omega) (h.below (by repeat first | (with_reducible exact Below.refl _ _) | (with_reducible refine Below.setCell ?_ (by first | exact Nat.le_refl _ | (simp; done) | (simp; omega) | omega) _) | (with_reducible refine Below.alloc ?_ (by first | exact Nat.le_refl _ | (simp; done) | (simp; omega) | omega) _) | (with_reducible refine below_drewN ?_ _) | (with_reducible refine Below.drew ?_)) (Nat.le_refl _))).mono ?_
  rintro e w2 ⟨rfl, b1⟩
  rw [HSQ.out]
  have B2 : Below w.heap.size w w2 := Below.trans (by repeat first | (with_reducible exact Below.refl _ _) | (with_reducible refine Below.setCell ?_ (by first | exact Nat.le_refl _ | (simp; done) | (simp; omega) | omega) _) | (with_reducible refine Below.alloc ?_ (by first | exact Nat.le_refl _ | (simp; done) | (simp; omega) | omega) _) | (with_reducible refine below_drewN ?_ _) | (with_reducible refine Below.drew ?_)) (b1.mono (by simp; omega))
  have s2 : w.heap.size + 1 + 1 ≤ w2.heap.size := by have := b1.size; simp at this; omega
  have XA2 : Box w2 w.heap.size r r (some ⟨p1, o1, none⟩) N d1 := Box.below (by refine ⟨?_, ?_, ?_⟩ <;> simp [go_sem]) b1 (by simp <;> omega)
  have XR2 : Box w2 (w.heap.size + 1) 0 0 none 0 0 := Box.below (by refine ⟨?_, ?_, ?_⟩ <;> simp [go_sem]) b1 (by simp <;> omega)
  have IR2 : ∀ i, w2.frozen? ⟨w.heap.size + 1, i, none⟩ = false := fun i => (b1.frozen (p := ⟨w.heap.size + 1, i, none⟩) (by simp <;> omega)).trans (by simp [go_sem])
  clear b1
  obtain ⟨x0, x1, x2⟩ := XA2
  have XA2 : Box w2 w.heap.size r r (some ⟨p1, o1, none⟩) N d1 := ⟨x0, x1, x2⟩
  go_wp2_with fail
  go_at_call 41
  refine (newMatrix_any r r N _ h12 h12 HN.out).mono ?_
  rintro e w3 ⟨g1, rfl, o3', b3'⟩
  have b3 : Below w2.heap.size w2 w3 := Below.trans (by repeat first | (with_reducible exact Below.refl _ _) | (with_reducible refine Below.setCell ?_ (by first | exact Nat.le_refl _ | (simp; done) | (simp; omega) | omega) _) | (with_reducible refine Below.alloc ?_ (by first | exact Nat.le_refl _ | (simp; done) | (simp; omega) | omega) _) | (with_reducible refine below_drewN ?_ _) | (with_reducible refine Below.drew ?_)) (b3'.mono (by simp [World.drewN]))
  have o3 : Own 41 .f32 w2.heap.size w3.heap.size w3 (some ⟨g1, 0, none⟩) N N (fun _ => 0) := by simpa [World.drewN] using o3'
  have B3 := B2.trans (b3.mono B2.size)
  have s3 := b3.size
  have XA3 := XA2.below b3 (by omega)
  have XR3 := XR2.below b3 (by omega)
  have IR3 : ∀ i, w3.frozen? ⟨w.heap.size + 1, i, none⟩ = false := fun i => (b3.frozen (p := ⟨w.heap.size + 1, i, none⟩) (by show w.heap.size + 1 < w2.heap.size; omega)).trans (IR2 i)
  obtain ⟨_, _, t1, t2, _, _⟩ := o3.cell hpos
  have oA := o3.alone hpos
  have b4 : Below w3.heap.size w3 (w3.alloc (.cells #[.int .i64 r, .int .i64 r, .slice (some ⟨g1, 0, none⟩) N N] 26)) := (by repeat first | (with_reducible exact Below.refl _ _) | (with_reducible refine Below.setCell ?_ (by first | exact Nat.le_refl _ | (simp; done) | (simp; omega) | omega) _) | (with_reducible refine Below.alloc ?_ (by first | exact Nat.le_refl _ | (simp; done) | (simp; omega) | omega) _) | (with_reducible refine below_drewN ?_ _) | (with_reducible refine Below.drew ?_))
  have XM := Box.new w3 26 r r (some ⟨g1, 0, none⟩) N N
  have s4 : (w3.alloc (.cells #[.int .i64 r, .int .i64 r, .slice (some ⟨g1, 0, none⟩) N N] 26)).heap.size = w3.heap.size + 1 := by simp
  clear x0 x1 x2 XA2 XR2 IR2 b3' o3' b3 o3
  go_upto_region 4 with (fail)
  generalize (w3.alloc (.cells #[.int .i64 r, .int .i64 r, .slice (some ⟨g1, 0, none⟩) N N] 26)) = w4 at b4 XM s4 ⊢
  have B4 := B3.trans (b4.mono B3.size)
  have XA4 := XA3.below b4 (by omega)
  have XR4 := XR3.below b4 (by omega)
  have IR4 : ∀ i, w4.frozen? ⟨w.heap.size + 1, i, none⟩ = false := fun i => (b4.frozen (p := ⟨w.heap.size + 1, i, none⟩) (by show w.heap.size + 1 < w3.heap.size; omega)).trans (IR3 i)
  have oA4 := oA.kept (below_grew b4) (fun q hq => by cases hq)
  obtain ⟨mb, hmb⟩ : ∃ mb, mb = w3.heap.size := ⟨_, rfl⟩
  rw [← hmb] at XM ⊢
  have lmb : mb < w4.heap.size := by omega
  have ng : mb ≠ g1 := by omega
  have lg1 : g1 < mb := by omega
  have lw1 : w.heap.size + 1 < g1 := by omega
  have lr : w.heap.size + 1 < w4.heap.size := by omega
  clear hmb s4 b4 B3 XA3 XR3 IR3 oA t1 t2 s3 s2 B2
  obtain ⟨x0, x1, x2⟩ := XA4
  go_wp2_with (at_make; refine wpList_make_full _ rfl _ _ 22 rfl w4.heap.size 41 i0 (.float .f32 0) 1 Try.underlying22 hi hz0 hz1 _ _ _ _ r rfl rfl rfl rfl ?b2 ?b3 (Nat.le_refl _) ?_)
  case b2 => rw [hz2]; omega
  case b3 => unfold maxLen; omega
  intro w5 hown0 hgrow0
  have hU := (hown0.lt w4.heap.size rfl).2
  have oB := (own_zero (w := w4) (U := w5.heap.size) hown0 (Nat.le_refl _) hU (Nat.le_refl _) (by unfold maxLen; omega)).alone h1
  have b5 : Below w4.heap.size w4 w5 := (Below.refl _ _).grown hgrow0 (Nat.le_refl _) (fun k h => by cases h)
  have B5 := B4.trans (b5.mono B4.size)
  have XA5 := (show Box w4 w.heap.size r r (some ⟨p1, o1, none⟩) N d1 from ⟨x0, x1, x2⟩).below b5 (by omega)
  have XR5 := XR4.below b5 lr
  have XM5 := XM.below b5 lmb
  have IR5 : ∀ i, w5.frozen? ⟨w.heap.size + 1, i, none⟩ = false := fun i => (b5.frozen (p := ⟨w.heap.size + 1, i, none⟩) lr).trans (IR4 i)
  have oA5 := oA4.kept (below_grew b5) (fun q hq => by cases hq)
  have s5 := b5.size
  obtain ⟨g2, hg2⟩ : ∃ g2, g2 = w4.heap.size := ⟨_, rfl⟩
  rw [← hg2] at oB hU lmb lr s5 ⊢
  have n12 : g1 ≠ g2 := by omega
  have n21 : g2 ≠ g1 := by omega
  have nm2 : mb ≠ g2 := by omega
  have na1 : w.heap.size ≠ g1 := by omega
  have na2 : w.heap.size ≠ g2 := by omega
  have nr1 : w.heap.size + 1 ≠ g1 := by omega
  have nr2 : w.heap.size + 1 ≠ g2 := by omega
  have ll1 : g1 < w5.heap.size := by omega
  have ll2 : g2 < w5.heap.size := by omega
  have lm5 : mb < w5.heap.size := by omega
  have la5 : w.heap.size < w5.heap.size := by omega
  have lr5 : w.heap.size + 1 < w5.heap.size := by omega
  clear hg2 hown0 hgrow0 b5 B4 x0 x1 x2 XR4 XM IR4 oA4 hU s5
  obtain ⟨x0, x1, x2⟩ := XA5
  have XA5 : Box w5 w.heap.size r r (some ⟨p1, o1, none⟩) N d1 := ⟨x0, x1, x2⟩
  have HV1 : Hid (∀ t, t < N → vals (fun _ => 0) t = (mdT r VV 0).1 t) := Lib.hid fun t _ => C0.out
  have HV2 : Hid (∀ t, t < r → vals (fun _ => 0) t = (mdT r VV 0).2 t) := Lib.hid fun t _ => C0.out
  go_wp2
  go_loopw [25] (fun i wr => ∃ (k : Nat) (X Y : Nat → Nat), k ≤ r ∧ i = .int .i64 k ∧ Own 41 .f32 g1 (g1 + 1) wr (some ⟨g1, 0, none⟩) N N X ∧ Own 41 .f32 g2 (g2 + 1) wr (some ⟨g2, 0, none⟩) r r Y ∧ (∀ t, t < N → vals X t = (mdT r VV k).1 t) ∧ (∀ t, t < r → vals Y t = (mdT r VV k).2 t) ∧ Hid (∀ j, j < k → isZero (mdS r VV j (mdT r VV j)) = false) ∧ Out2 w5 wr g1 g2) (fun i _ => r - (intOf i).toNat)
  case atStart => exact ⟨0, _, _, Nat.zero_le _, rfl, oA5, oB, HV1.out, HV2.out, Lib.hid (fun j hj => absurd hj (Nat.not_lt_zero _)), Out2.refl _ _ _⟩
  case round =>
    obtain ⟨k, X, Y, hk, rfl, k1, k2, v1, v2, hnz, ho⟩ := hrel
    clear oA5 oB HV1 HV2 x0 x1 x2
    by_cases hlt : k < r
    · have hdk : decide ((k : Int) < (r : Int)) = true := decide_eq_true (by omega)
      have hle : k ≤ r := by omega
      obtain ⟨P, hP⟩ : ∃ P, P = mdT r VV k := ⟨_, rfl⟩
      rw [← hP] at v1 v2
      have HP := Lib.hid hP
      have XMr := ho.box XM5 lm5 ng nm2
      have XAr := ho.box XA5 la5 na1 na2
      have Br := B5.trans (ho.bel (B := w.heap.size) (by omega) (by omega) B5.size)
      have hsr := ho.size
      have FAr := (h.below Br (Nat.le_refl _)).row HN.out hlt r (Nat.le_refl _) (by unfold maxLen; omega)
      have rowL := fun (i : Nat) (hi : i < r) W => by have hh := rowOf_any g1 0 r r N N i W h12 h1 h12 HN.out (Nat.le_refl _) (by omega) hi; rwa [Nat.zero_add] at hh
      have rowA := fun (i : Nat) (hi : i < r) W => rowOf_any p1 o1 r r N d1 i W h12 h1 h12 HN.out hcap hmax hi
      have FL := k1.fs.row HN.out hlt r (Nat.le_refl _) (by unfold maxLen; omega)
      rw [Nat.zero_add] at FL
      have FT := FL.take hle hle (by unfold maxLen; omega)
      obtain ⟨b', off', e, hla, hca, hwa⟩ := FAr.at hlt
      simp only [Option.some.injEq, Addr.mk.injEq, and_true] at e
      obtain ⟨rfl, rfl⟩ := e
      obtain ⟨S, hS⟩ : ∃ S, S = mdS r VV k P := ⟨_, rfl⟩
      have fZ : FV .f32 (Z (k * r + k)) (VV (k * r + k)) := by rw [HVV.out]; exact hwa
      have htr : ∀ W, Below wr.heap.size wr W → Calls Try.prog 73 #[.float .f32 (Z (k * r + k)), .slice (some ⟨g2, 0, none⟩) r r, .slice (some ⟨g1, k * r, none⟩) k r, .slice (some ⟨g1, k * r, none⟩) k r] W fun e w' => ∃ q, e = .returned (.float .f32 q) ∧ FV .f32 q S ∧ ∃ m, w' = W.drewN m := fun W hW =>
        (implTrip_any (Z (k * r + k)) fZ _ _ _ r r k r k r _ _ _ W (by omega) (by omega) (by omega) (by omega) (k2.fs.below hW (Nat.le_refl _)) (FT.below hW (Nat.le_refl _)) (FT.below hW (Nat.le_refl _))).mono fun e w' ⟨q, he, hq, hm⟩ =>
          ⟨q, he, FV.of_eq hq (by
            rw [hS]
            refine trG_congr rfl fun j hj => ⟨v2 j (by omega), ?_, ?_⟩ <;> exact v1 _ (by have := place_lt hlt (show j < r by omega); rw [HN.out]; exact this)), hm⟩
      have hkk : k * r + k < N := by rw [HN.out]; exact place_lt hlt hlt
      have HS := Lib.hid hS
      have HR := Lib.hid rowL
      have HRA := Lib.hid rowA
      have V1 := Lib.hid v1
      have V2 := Lib.hid v2
      have HK1 := Lib.hid k1
      have HK2 := Lib.hid k2
      have HO := Lib.hid ho
      have HTR := Lib.hid htr
      obtain ⟨y0, y1, y2⟩ := XMr
      obtain ⟨za, hza⟩ : ∃ za, za = Z (k * r + k) := ⟨_, rfl⟩
      rw [← hza] at hca htr HTR
      clear hP hS k1 k2 v1 v2 ho rowL rowA FL FT FAr hwa fZ hla htr hza
      go_wp2_with fail
      go_at_call 42
      refine (HR.out k hlt _).mono ?_
      rintro e w6 ⟨rfl, b6⟩
      have XA6 := XAr.below b6 (by omega)
      have hca6 := (b6.cell (p := ⟨p1, o1 + k * r + k, none⟩) (by have := Br.size; have := (h.at hkk); obtain ⟨_, _, e, hl, _⟩ := this; simp only [Option.some.injEq, Addr.mk.injEq, and_true] at e; obtain ⟨rfl, rfl⟩ := e; show p1 < wr.heap.size; omega)).trans hca
      obtain ⟨x0, x1, x2⟩ := XA6
      clear y0 y1 y2 hca XAr
      go_wp2_with fail
      go_at_call 42
      refine (HRA.out k hlt _).mono ?_
      rintro e w7 ⟨rfl, b7⟩
      have lp : p1 < w6.heap.size := by have := Br.size; have := b6.size; obtain ⟨_, _, e, hl, _⟩ := (h.at hkk); simp only [Option.some.injEq, Addr.mk.injEq, and_true] at e; obtain ⟨rfl, rfl⟩ := e; omega
      have hca7 := (b7.cell (p := ⟨p1, o1 + k * r + k, none⟩) lp).trans hca6
      have b67 := b6.trans (b7.mono b6.size)
      have s7 := b67.size
      clear x0 x1 x2 hca6 b6 b7 lp
      go_wp2_with fail
      go_at_call 73
      refine (HTR.out _ b67).mono ?_
      rintro e w8' ⟨rs, rfl, frs, m8, rfl⟩
      have b8 : Below wr.heap.size wr (w7.drewN m8) := below_drewN b67 m8
      clear HTR hca7 b67 s7
      generalize w7.drewN m8 = w8 at b8 ⊢
      have K18 := HK1.out.kept (below_grew b8) (fun q hq => by cases hq)
      have K28 := HK2.out.kept (below_grew b8) (fun q hq => by cases hq)
      have HO8 := HO.out.more b8
      obtain ⟨cs, fs, _, _, _, _⟩ := K28.cell hlt
      obtain ⟨O2, G2⟩ := K28.stored hlt frs.2
      have HO9 := Lib.hid (HO8.right G2)
      have K19 := Lib.hid (K18.kept G2 (fun q hq => by cases hq; omega))
      have K29 := Lib.hid O2
      have V29 : Hid (∀ t, t < r → vals (fun t => if t = k then rs else Y t) t = (mdT r VV (k + 1)).2 t) := Lib.hid fun t ht => by
        show cn .f32 (if t = k then rs else Y t) = (if t = k then mdS r VV k (mdT r VV k) else (mdT r VV k).2 t)
        by_cases e : t = k
        · rw [if_pos e, if_pos e, ← HP.out, ← HS.out]; exact frs.1
        · rw [if_neg e, if_neg e, ← HP.out]; exact V2.out t ht
      have hrsS : cn .f32 rs = S := frs.1
      clear b8 K18 K28 HO8 O2 G2 HK1 HK2 HO
      cases hz : isZero S with
      | true =>
        have hz2 : (ford .f32 S (some 0) == some .eq) = true := hz
        have hno : mdOk r N VV = false := mdOk_zero hlt (by rw [← HP.out, ← HS.out]; exact hz)
        have HNO := Lib.hid hno
        clear hz hno
        go_upto_region 10 with (fail)
        generalize (w8.setCell ⟨g2, k, none⟩ (.float .f32 rs)) = w9 at HO9 K19 K29 ⊢
        clear cs fs
        obtain ⟨cs, fs, _, _, _, _⟩ := K29.out.cell hlt
        rw [if_pos rfl] at cs
        have B9 := B5.trans (HO9.out.bel (B := w.heap.size) (by omega) (by omega) B5.size)
        obtain ⟨y0, y1, y2⟩ := HO9.out.box XR5 lr5 nr1 nr2
        have IR9 := HO9.out.ice IR5 lr5 nr1 nr2
        go_wp2_with fail
        (try rw [Exit.noGoto_ret])
        refine bodyPost_ret (v := .tuple #[.agg #[.int .i64 0, .int .i64 0, .slice none 0 0], .slice none 0 0, .bool false]) (by simp [results, Try.results30, go_sem, y0, y1, y2]) rfl ?_
        exact MdOwnIf.no HNO.out (MdOwn.no (by repeat first | (with_reducible exact B9) | (with_reducible refine Below.setCell ?_ (by first | exact Nat.le_refl _ | (simp; done) | (simp; omega) | omega) _) | (with_reducible refine Below.alloc ?_ (by first | exact Nat.le_refl _ | (simp; done) | (simp; omega) | omega) _) | (with_reducible refine below_drewN ?_ _) | (with_reducible refine Below.drew ?_)))
      | false =>
        have hz2 : (ford .f32 S (some 0) == some .eq) = false := hz
        have HNZ : Hid (∀ j, j < k + 1 → isZero (mdS r VV j (mdT r VV j)) = false) := Lib.hid fun j hj => by
          rcases Nat.lt_or_ge j k with q | q
          · exact hnz.out j q
          · obtain rfl : j = k := by omega
            rw [← HP.out, ← HS.out]; exact hz
        clear hz hnz
        go_upto_region 10 with (fail)
        generalize (w8.setCell ⟨g2, k, none⟩ (.float .f32 rs)) = w9 at HO9 K19 K29 ⊢
        clear cs fs
        obtain ⟨cs, fs, _, _, _, _⟩ := K29.out.cell hlt
        rw [if_pos rfl] at cs
        obtain ⟨y0, y1, y2⟩ := HO9.out.box XM5 lm5 ng nm2
        have hs9 := HO9.out.size
        go_wp2_with fail
        go_at_call 42
        refine (HR.out k hlt _).mono ?_
        rintro e w10 ⟨rfl, b10⟩
        have HO10 := HO9.out.more b10
        have K110 := K19.out.kept (below_grew b10) (fun q hq => by cases hq)
        have K210 := Lib.hid (K29.out.kept (below_grew b10) (fun q hq => by cases hq))
        obtain ⟨ca1, fa1, _, _, _, _⟩ := K110.cell hkk
        obtain ⟨O1, G1⟩ := K110.stored (v := 1065353216) hkk (by decide)
        have HO11 := Lib.hid (HO10.left G1)
        have K111 := Lib.hid O1
        have K211 := Lib.hid (K210.out.kept G1 (fun q hq => by cases hq; omega))
        have VI : Hid (∀ t, t < N → vals (fun t => if t = k * r + k then 1065353216 else X t) t = mdI r VV k P S (k + 1) t) := Lib.hid fun t ht => by
          rw [mdI_start]
          show cn .f32 (if t = k * r + k then 1065353216 else X t) = _
          by_cases e : t = k * r + k
          · rw [if_pos e, if_pos e]; exact C1.out
          · rw [if_neg e, if_neg e]; exact V1.out t ht
        have hyk : Hid ((fun t => if t = k then rs else Y t) k = rs) := Lib.hid (if_pos rfl)
        generalize (fun t => if t = k then rs else Y t) = Y2 at K211 V29 hyk
        generalize X (k * r + k) = oldx at ca1
        generalize (fun t => if t = k * r + k then 1065353216 else X t) = X1 at K111 VI
        clear y0 y1 y2 cs fs b10 HO9 K19 K29 HO10 K110 K210 O1 G1 V1 V2
        go_upto_region 13 with (fail)
        generalize (w10.setCell ⟨g1, k * r + k, none⟩ (.float .f32 1065353216)) = w11 at HO11 K111 K211 ⊢
        clear ca1 fa1
        go_wp2
        go_loopw [9] (fun i wr => ∃ (i' : Nat) (X' : Nat → Nat), k + 1 ≤ i' ∧ i' ≤ r ∧ i = .int .i64 i' ∧ Own 41 .f32 g1 (g1 + 1) wr (some ⟨g1, 0, none⟩) N N X' ∧ Own 41 .f32 g2 (g2 + 1) wr (some ⟨g2, 0, none⟩) r r Y2 ∧ (∀ t, t < N → vals X' t = mdI r VV k P S i' t) ∧ Out2 w5 wr g1 g2) (fun i _ => r - (intOf i).toNat)
        case atStart => exact ⟨k + 1, _, Nat.le_refl _, hlt, by go_num, K111.out, K211.out, VI.out, HO11.out⟩
        case round =>
          obtain ⟨i', X', hi1, hi2, rfl, k3, k4, v3, ho3⟩ := hrel
          clear K111 K211 VI HO11
          obtain ⟨x0, x1, x2⟩ := ho3.box XA5 la5 na1 na2
          by_cases hli : i' < r
          · have hdi : decide ((i' : Int) < (r : Int)) = true := decide_eq_true (by omega)
            obtain ⟨y0, y1, y2⟩ := ho3.box XM5 lm5 ng nm2
            have HO3 := Lib.hid ho3
            have K3 := Lib.hid k3
            have K4 := Lib.hid k4
            have V3 := Lib.hid v3
            have HX0 := Lib.hid (show Box wr w.heap.size r r (some ⟨p1, o1, none⟩) N d1 from ⟨x0, x1, x2⟩)
            clear k3 k4 v3 ho3 x1 x2
            go_wp2_with fail
            go_at_call 42
            refine (HR.out i' hli _).mono ?_
            rintro e w0 ⟨rfl, b0⟩
            have s0 := b0.size
            have sr3 := HO3.out.size
            have XA0 := HX0.out.below b0 (by omega)
            have lw : w.heap.size < w0.heap.size := by omega
            have HO0 := Lib.hid (HO3.out.more b0)
            have k5 := K3.out.kept (below_grew b0) (fun q hq => by cases hq)
            have k6 := K4.out.kept (below_grew b0) (fun q hq => by cases hq)
            have B0 := B5.trans (HO0.out.bel (B := w.heap.size) (by omega) (by omega) B5.size)
            clear y0 y1 y2 x0 HX0 b0 K3 K4 HO3
            have hik : i' * r + k < N := by rw [HN.out]; exact place_lt hli hlt
            have FA0 := (h.below B0 (Nat.le_refl _)).row HN.out hli r (Nat.le_refl _) (by unfold maxLen; omega)
            obtain ⟨b', off', e, hla, hca, hwa⟩ := FA0.at hlt
            simp only [Option.some.injEq, Addr.mk.injEq, and_true] at e
            obtain ⟨rfl, rfl⟩ := e
            have fZ : FV .f32 (Z (i' * r + k)) (VV (i' * r + k)) := by rw [HVV.out]; exact hwa
            have FLi := k5.fs.row HN.out hli r (Nat.le_refl _) (by unfold maxLen; omega)
            have FLk := (k5.fs.row HN.out hlt r (Nat.le_refl _) (by unfold maxLen; omega)).take hle hle (by unfold maxLen; omega)
            rw [Nat.zero_add] at FLi FLk
            obtain ⟨RR, hRR⟩ : ∃ RR, RR = mdR r VV k P i' := ⟨_, rfl⟩
            have htr : ∀ W, Below w0.heap.size w0 W → Calls Try.prog 73 #[.float .f32 (Z (i' * r + k)), .slice (some ⟨g2, 0, none⟩) r r, .slice (some ⟨g1, i' * r, none⟩) r r, .slice (some ⟨g1, k * r, none⟩) k r] W fun e w' => ∃ q, e = .returned (.float .f32 q) ∧ FV .f32 q RR ∧ ∃ m, w' = W.drewN m := fun W hW =>
              (implTrip_any (Z (i' * r + k)) fZ _ _ _ r r r r k r _ _ _ W (by omega) (by omega) (by omega) (by omega) (k6.fs.below hW (Nat.le_refl _)) (FLi.below hW (Nat.le_refl _)) (FLk.below hW (Nat.le_refl _))).mono fun e w' ⟨q, he, hq, hm⟩ =>
                ⟨q, he, FV.of_eq hq (by
                  rw [hRR]
                  refine trG_congr rfl fun j hj => ⟨?_, ?_, ?_⟩
                  · rw [V29.out j (by omega)]
                    show (if j = k then mdS r VV k (mdT r VV k) else (mdT r VV k).2 j) = P.2 j
                    rw [if_neg (by omega), HP.out]
                  · exact (V3.out _ (by have := place_lt hli (show j < r by omega); rw [HN.out]; exact this)).trans (mdI_row hj hlt)
                  · exact (V3.out _ (by have := place_lt hlt (show j < r by omega); rw [HN.out]; exact this)).trans (mdI_row hj hlt)), hm⟩
            obtain ⟨hcb, _, _, _, _, _⟩ := k6.cell hlt
            rw [hyk.out] at hcb
            have rowA := fun W => HRA.out i' hli W
            have HRR := Lib.hid hRR
            have K5 := Lib.hid k5
            have K6 := Lib.hid k6
            have lg20 : g2 < w0.heap.size := by omega
            clear FA0 FLi FLk hwa fZ hRR k5 k6 B0
            obtain ⟨za, hza⟩ : ∃ za, za = Z (i' * r + k) := ⟨_, rfl⟩
            rw [← hza] at hca htr
            clear hza
            have hle2 : k ≤ r := by omega
            go_wp2
            (refine wp_region_kinds (fun w' => Below w0.heap.size w0 w') (fun i => if i = 11 then 2 else if i = 16 then 1 else 0) 18 (below_drewN (Below.refl _ _) 1) (by kernel_rfl) (by kernel_rfl) (by kernel_rfl) ?_; simp only [List.take_succ_cons, List.take_zero, List.drop_succ_cons, List.drop_zero])
            ((with_reducible refine wpKinds_plain ?hwant ?hkind ?hplain (fun K hK => ?_)); (case hwant => first | (simp [Region.wanted, yielded]; done) | rfl); (case hkind => rfl); (case hplain => rfl); go_big_quiet_op; (first | refine hK _ ?_ | refine ⟨_, fun _ _ => rfl, hK _ ?_⟩); clear hK K)
            ((with_reducible refine wpKinds_plain ?hwant ?hkind ?hplain (fun K hK => ?_)); (case hwant => first | (simp [Region.wanted, yielded]; done) | rfl); (case hkind => rfl); (case hplain => rfl); go_big_quiet_op; (first | refine hK _ ?_ | refine ⟨_, fun _ _ => rfl, hK _ ?_⟩); clear hK K)
            ((with_reducible refine wpKinds_run (.agg #[.int .i64 r, .int .i64 r, .slice (some ⟨p1, o1, none⟩) N d1]) ?hwant ?hkind ?hrun ?_); (case hwant => first | (simp [Region.wanted, yielded]; done) | rfl); (case hkind => rfl); (case hrun => intro W hW; obtain ⟨u0, u1, u2⟩ := Box.below XA0 hW (by omega); simp [go_sem, BigFrame.eval_const, BigFrame.eval_global, BigFrame.eval_func, u0, u1, u2]); simp only [Act.put, List.setIfInBounds_toArray, List.set_cons_succ, List.set_cons_zero])
            ((with_reducible refine wpKinds_plain ?hwant ?hkind ?hplain (fun K hK => ?_)); (case hwant => first | (simp [Region.wanted, yielded]; done) | rfl); (case hkind => rfl); (case hplain => rfl); go_big_quiet_op; (first | refine hK _ ?_ | refine ⟨_, fun _ _ => rfl, hK _ ?_⟩); clear hK K)
            ((with_reducible refine wpKinds_call (f := 42) (args := #[.agg #[.int .i64 r, .int .i64 r, .slice (some ⟨p1, o1, none⟩) N d1], .int .i64 i']) (.slice (some ⟨p1, o1 + i' * r, none⟩) r r) ?hwant ?hkind ?hrun ?hinit ?hcall ?_); (case hwant => first | (simp [Region.wanted, yielded]; done) | rfl); (case hkind => rfl); (case hrun => intro W; simp [go_sem, BigFrame.eval_const, BigFrame.eval_global, BigFrame.eval_func]); (case hinit => kernel_rfl); (case hcall => intro W hW; (refine (rowA W).mono ?_; rintro e w' ⟨rfl, hb⟩; exact ⟨rfl, hW.trans (hb.mono hW.size)⟩)); simp only [Act.put, List.setIfInBounds_toArray, List.set_cons_succ, List.set_cons_zero])
            ((with_reducible refine wpKinds_plain ?hwant ?hkind ?hplain (fun K hK => ?_)); (case hwant => first | (simp [Region.wanted, yielded]; done) | rfl); (case hkind => rfl); (case hplain => rfl); go_big_quiet_op; (first | refine hK _ ?_ | refine ⟨_, fun _ _ => rfl, hK _ ?_⟩); clear hK K)
            ((with_reducible refine wpKinds_run (.pointer (some ⟨p1, o1 + i' * r + k, none⟩)) ?hwant ?hkind ?hrun ?_); (case hwant => first | (simp [Region.wanted, yielded]; done) | rfl); (case hkind => rfl); (case hrun => intro W hW; simp [go_sem, BigFrame.eval_const, BigFrame.eval_global, BigFrame.eval_func, hlt]); simp only [Act.put, List.setIfInBounds_toArray, List.set_cons_succ, List.set_cons_zero])
            ((with_reducible refine wpKinds_run (.float .f32 za) ?hwant ?hkind ?hrun ?_); (case hwant => first | (simp [Region.wanted, yielded]; done) | rfl); (case hkind => rfl); (case hrun => intro W hW; have hcell := (hW.cell (p := _) (by assumption)).trans hca; simp [go_sem, BigFrame.eval_const, BigFrame.eval_global, BigFrame.eval_func, hcell]); simp only [Act.put, List.setIfInBounds_toArray, List.set_cons_succ, List.set_cons_zero])
            ((with_reducible refine wpKinds_plain ?hwant ?hkind ?hplain (fun K hK => ?_)); (case hwant => first | (simp [Region.wanted, yielded]; done) | rfl); (case hkind => rfl); (case hplain => rfl); go_big_quiet_op; (first | refine hK _ ?_ | refine ⟨_, fun _ _ => rfl, hK _ ?_⟩); clear hK K)
            ((with_reducible refine wpKinds_plain ?hwant ?hkind ?hplain (fun K hK => ?_)); (case hwant => first | (simp [Region.wanted, yielded]; done) | rfl); (case hkind => rfl); (case hplain => rfl); go_big_quiet_op; (first | refine hK _ ?_ | refine ⟨_, fun _ _ => rfl, hK _ ?_⟩); clear hK K)
            ((with_reducible refine wpKinds_plain ?hwant ?hkind ?hplain (fun K hK => ?_)); (case hwant => first | (simp [Region.wanted, yielded]; done) | rfl); (case hkind => rfl); (case hplain => rfl); go_big_quiet_op; (first | refine hK _ ?_ | refine ⟨_, fun _ _ => rfl, hK _ ?_⟩); clear hK K)
            (refine wpKinds_noisy (f := 73) (args := #[.float .f32 za, .slice (some ⟨g2, 0, none⟩) r r, .slice (some ⟨g1, i' * r, none⟩) r r, .slice (some ⟨g1, k * r, none⟩) k r]) (fun u => ∃ y, u = .float .f32 y ∧ FV .f32 y RR) rfl rfl (by intro W; simp [go_sem, BigFrame.eval_const, BigFrame.eval_global, BigFrame.eval_func]) (by
              intro W hW
              refine (htr W hW).mono ?_
              rintro e w' ⟨y, rfl, hy, z2, rfl⟩
              exact ⟨_, rfl, below_drewN hW z2, y, rfl, hy⟩) ?_)
            rintro _ ⟨y, rfl, hy⟩
            simp only [Act.put, List.setIfInBounds_toArray, List.set_cons_succ, List.set_cons_zero]
            ((with_reducible refine wpKinds_plain ?hwant ?hkind ?hplain (fun K hK => ?_)); (case hwant => first | (simp [Region.wanted, yielded]; done) | rfl); (case hkind => rfl); (case hplain => rfl); go_big_quiet_op; (first | refine hK _ ?_ | refine ⟨_, fun _ _ => rfl, hK _ ?_⟩); clear hK K)
            ((with_reducible refine wpKinds_plain ?hwant ?hkind ?hplain (fun K hK => ?_)); (case hwant => first | (simp [Region.wanted, yielded]; done) | rfl); (case hkind => rfl); (case hplain => rfl); go_big_quiet_op; (first | refine hK _ ?_ | refine ⟨_, fun _ _ => rfl, hK _ ?_⟩); clear hK K)
            ((with_reducible refine wpKinds_run (.pointer (some ⟨g2, k, none⟩)) ?hwant ?hkind ?hrun ?_); (case hwant => first | (simp [Region.wanted, yielded]; done) | rfl); (case hkind => rfl); (case hrun => intro W hW; simp [go_sem, BigFrame.eval_const, BigFrame.eval_global, BigFrame.eval_func, hlt]); simp only [Act.put, List.setIfInBounds_toArray, List.set_cons_succ, List.set_cons_zero])
            ((with_reducible refine wpKinds_run (.float .f32 rs) ?hwant ?hkind ?hrun ?_); (case hwant => first | (simp [Region.wanted, yielded]; done) | rfl); (case hkind => rfl); (case hrun => intro W hW; have hcell := (hW.cell (p := _) (by assumption)).trans hcb; simp [go_sem, BigFrame.eval_const, BigFrame.eval_global, BigFrame.eval_func, hcell]); simp only [Act.put, List.setIfInBounds_toArray, List.set_cons_succ, List.set_cons_zero])
            refine wpKinds_farith (fun W m hW => below_drewN hW m) rfl rfl _ _ _ _ _ rfl rfl _ _ _ rfl rfl hy frs (fun r5 hr5 => ?_)
            simp only [Act.put, List.setIfInBounds_toArray, List.set_cons_succ, List.set_cons_zero]
            ((with_reducible refine wpKinds_run (.pointer (some ⟨g1, i' * r + k, none⟩)) ?hwant ?hkind ?hrun ?_); (case hwant => first | (simp [Region.wanted, yielded]; done) | rfl); (case hkind => rfl); (case hrun => intro W hW; simp [go_sem, BigFrame.eval_const, BigFrame.eval_global, BigFrame.eval_func, hlt]); simp only [Act.put, List.setIfInBounds_toArray, List.set_cons_succ, List.set_cons_zero])
            refine wpKinds_nil ?_
            intro w6 hC
            have k7 := K5.out.kept (below_grew hC) (fun q hq => by cases hq)
            have k8 := K6.out.kept (below_grew hC) (fun q hq => by cases hq)
            have HO7 := HO0.out.more hC
            have hr6 : FV .f32 r5 (fop .quo .f32 (mdR r VV k P i') S) := by rw [HRR.out] at hr5; exact hr5
            obtain ⟨hce, hfr, _, _, _, _⟩ := k7.cell hik
            obtain ⟨O7, G7⟩ := k7.stored hik hr6.2
            have HO8 := Lib.hid (HO7.left G7)
            have K7 := Lib.hid O7
            have K8 := Lib.hid (k8.kept G7 (fun q hq => by cases hq; omega))
            have V7 := Lib.hid (md_put (show k < i' by omega) hlt V3.out hr6)
            generalize X' (i' * r + k) = old at hce
            clear k7 k8 HO7 O7 G7 hC htr rowA XA0 hca hcb hr5 hy K5 K6 HO0 V3
            go_wp2_with fail
            go_roundw
            case rel => exact ⟨i' + 1, _, by omega, by omega, by go_num, K7.out, K8.out, V7.out, HO8.out⟩
            case measure => simp [intOf]; omega
          · obtain rfl : i' = r := by omega
            have hdi : decide ((i' : Int) < (i' : Int)) = false := decide_eq_false (by omega)
            have K3 := Lib.hid k3
            have K4 := Lib.hid k4
            have HO3 := Lib.hid ho3
            have V3 : Hid (∀ t, t < N → vals X' t = (mdT i' VV (k + 1)).1 t) := Lib.hid fun t ht => by
              rw [v3 t ht, HS.out, HP.out]; rfl
            clear k3 k4 v3 ho3
            go_wp2
            go_roundw
            case rel => exact ⟨k + 1, X', Y2, by omega, by go_num, K3.out, K4.out, V3.out, V29.out, HNZ, HO3.out⟩
            case measure => simp [intOf]; omega
    · obtain rfl : k = r := by omega
      have hdk : decide ((k : Int) < (k : Int)) = false := decide_eq_false (by omega)
      have hvL : validB k k N (vals X) = allFin (mdT k VV k).1 N := (validB_nat h1 h12 h1 h12 HN.out).trans (allFin_congr v1)
      have hvD : vecB k (vals Y) = allFin (mdT k VV k).2 k := by
        unfold vecB
        rw [decide_eq_true h1, decide_eq_true (show k ≤ 256 by omega), allFin_congr v2]
        rfl
      have HOK : Hid (mdOk k N VV = (allFin (mdT k VV k).1 N && allFin (mdT k VV k).2 k)) := Lib.hid (by
        unfold mdOk
        rw [anyZ_no (fun i hi => by rw [md_D hi]; exact hnz.out i hi)]
        rfl)
      have XM := ho.box XM5 lm5 ng nm2
      have XR := ho.box XR5 lr5 nr1 nr2
      have IR := ho.ice IR5 lr5 nr1 nr2
      have BK := B5.trans (ho.bel (B := w.heap.size) (by omega) (by omega) B5.size)
      have hsr := ho.size
      have V1 := Lib.hid v1
      have V2 := Lib.hid v2
      have HK1 := Lib.hid k1
      have HK2 := Lib.hid k2
      have fX := k1.fs
      have fY := k2.fs
      obtain ⟨y0, y1, y2⟩ := XM
      have XM : Box wr mb k k (some ⟨g1, 0, none⟩) N N := ⟨y0, y1, y2⟩
      clear v1 v2 k1 k2 ho hnz
      go_wp2_with fail
      go_at_call 39
      refine (implValid_any k k _ N N X _ (by omega) fX).mono ?_
      rw [hvL]
      rintro e w6 ⟨rfl, b6⟩
      have B6 := BK.trans (b6.mono BK.size)
      have s6 := b6.size
      have XR6 := XR.below b6 (by omega)
      have XM6 := XM.below b6 (by omega)
      have IR6 : ∀ i, w6.frozen? ⟨w.heap.size + 1, i, none⟩ = false := fun i => (b6.frozen (p := ⟨w.heap.size + 1, i, none⟩) (by show w.heap.size + 1 < wr.heap.size; omega)).trans (IR i)
      have K16 := Lib.hid (HK1.out.kept (below_grew b6) (fun q hq => by cases hq))
      have K26 := Lib.hid (HK2.out.kept (below_grew b6) (fun q hq => by cases hq))
      have fY6 := fY.below b6 (Nat.le_refl _)
      clear y0 y1 y2 XM XR IR b6 HK1 HK2 fX fY
      cases hf1 : allFin (mdT k VV k).1 N with
      | false =>
        have hno : mdOk k N VV = false := by rw [HOK.out, hf1]; rfl
        obtain ⟨z0, z1, z2⟩ := XR6
        clear hf1
        go_wp2_with fail
        refine bodyPost_ret (v := .tuple #[.agg #[.int .i64 0, .int .i64 0, .slice none 0 0], .slice none 0 0, .bool false]) (by simp [results, Try.results30, go_sem, z0, z1, z2]) rfl ?_
        exact MdOwnIf.no hno (MdOwn.no (by repeat first | (with_reducible exact B6) | (with_reducible refine Below.setCell ?_ (by first | exact Nat.le_refl _ | (simp; done) | (simp; omega) | omega) _) | (with_reducible refine Below.alloc ?_ (by first | exact Nat.le_refl _ | (simp; done) | (simp; omega) | omega) _) | (with_reducible refine below_drewN ?_ _) | (with_reducible refine Below.drew ?_)))
      | true =>
        have HF1 := Lib.hid hf1
        clear hf1
        go_wp2_with fail
        go_at_call 74
        refine (implVector_any _ k k Y _ (by omega) fY6).mono ?_
        rw [hvD]
        rintro e w7' ⟨rfl, m7, rfl⟩
        have XR7 : Box (w6.drewN m7) (w.heap.size + 1) 0 0 none 0 0 := XR6
        have XM7 : Box (w6.drewN m7) mb k k (some ⟨g1, 0, none⟩) N N := XM6
        have IR7 : ∀ i, (w6.drewN m7).frozen? ⟨w.heap.size + 1, i, none⟩ = false := IR6
        have K17 : Hid (Own 41 .f32 g1 (g1 + 1) (w6.drewN m7) (some ⟨g1, 0, none⟩) N N X) := K16
        have K27 : Hid (Own 41 .f32 g2 (g2 + 1) (w6.drewN m7) (some ⟨g2, 0, none⟩) k k Y) := K26
        have B7 := below_drewN B6 m7
        have s7 : wr.heap.size ≤ (w6.drewN m7).heap.size := s6
        clear XR6 XM6 IR6 K16 K26 fY6
        generalize w6.drewN m7 = w7 at XR7 XM7 IR7 K17 K27 B7 s7 ⊢
        obtain ⟨z0, z1, z2⟩ := XR7
        cases hf2 : allFin (mdT k VV k).2 k with
        | false =>
          have hno : mdOk k N VV = false := by rw [HOK.out, hf2, Bool.and_false]
          clear hf2
          go_wp2_with fail
          refine bodyPost_ret (v := .tuple #[.agg #[.int .i64 0, .int .i64 0, .slice none 0 0], .slice none 0 0, .bool false]) (by simp [results, Try.results30, go_sem, z0, z1, z2]) rfl ?_
          exact MdOwnIf.no hno (MdOwn.no (by repeat first | (with_reducible exact B7) | (with_reducible refine Below.setCell ?_ (by first | exact Nat.le_refl _ | (simp; done) | (simp; omega) | omega) _) | (with_reducible refine Below.alloc ?_ (by first | exact Nat.le_refl _ | (simp; done) | (simp; omega) | omega) _) | (with_reducible refine below_drewN ?_ _) | (with_reducible refine Below.drew ?_)))
        | true =>
          have hyes : mdOk k N VV = true := by rw [HOK.out, HF1.out, hf2]; rfl
          obtain ⟨y0, y1, y2⟩ := XM7
          have lgg : g1 + 1 ≤ g2 := by omega
          have lg7 : g2 + 1 ≤ w7.heap.size := by omega
          have GS3 := Lib.hid (set3_grown w7 (w.heap.size + 1) (k : Int) (k : Int) (some ⟨g1, 0, none⟩) N N)
          clear hf2
          go_wp2_with fail
          refine bodyPost_ret (v := .tuple #[.agg #[.int .i64 k, .int .i64 k, .slice (some ⟨g1, 0, none⟩) N N], .slice (some ⟨g2, 0, none⟩) k k, .bool true]) (by simp [results, Try.results30, go_sem, z0, z1, z2]) rfl ?_
          have GG := GS3.out
          refine MdOwnIf.yes hyes ⟨g2, some ⟨g1, 0, none⟩, N, X, some ⟨g2, 0, none⟩, k, Y, by omega, Nat.le_trans (by omega) GG.size, rfl, Own.mono (K17.out.kept GG (fun q hq => by cases hq; omega)) (by omega) lgg (Nat.le_trans (by omega) GG.size), V1.out, Own.mono (K27.out.kept GG (fun q hq => by cases hq; omega)) (Nat.le_refl _) (Nat.le_trans lg7 GG.size) (Nat.le_refl _), V2.out, B7.grown GG B7.size (fun q hq => by cases hq; omega)⟩
end Go.Proofs.Ytcibjkadlndejaa
