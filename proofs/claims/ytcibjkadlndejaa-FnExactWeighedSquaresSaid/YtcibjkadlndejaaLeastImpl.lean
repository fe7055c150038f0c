/- Helper: what misses least, of the program. Conditions: none. -/
import Derived.Test.YtcibjkadlndejaaLeastDefs
import Derived.Test.YtcibjkadlndejaaMirImpl
import Derived.Test.YtcibjkadlndejaaUpperKey
import Derived.Deep.Cut
import Derived.Deep.CutRange
set_option linter.unusedVariables false
set_option linter.unusedSimpArgs false
namespace Go.Proofs.Ytcibjkadlndejaa
open Go.RowKit

theorem implLs_no (R C : Int) (a b : Option Addr) (n d n2 d2 : Nat) (Z Y : Nat → Nat) (w : World) (hn : n ≤ 1048576) (h : FS .f32 w a n d Z) (hno : mirB R C n (vals Z) = false) :
    Calls Try.prog 18 #[.agg #[.int .i64 R, .int .i64 C, .slice a n d], .slice b n2 d2] w (NumsOwn false 0 (fun _ => none) w) := by
  go_enter Try.func18, Try.ntmps18
  go_wp2_with fail
  go_at_call 12
  refine (implMir_no R C a n d Z _ hn (h.below (by repeat first | (with_reducible exact Below.refl _ _) | (with_reducible refine Below.setCell ?_ (by first | exact Nat.le_refl _ | (simp; done) | (simp; omega) | omega) _) | (with_reducible refine Below.alloc ?_ (by first | exact Nat.le_refl _ | (simp; done) | (simp; omega) | omega) _) | (with_reducible refine below_drewN ?_ _) | (with_reducible refine Below.drew ?_)) (Nat.le_refl _)) hno).mono ?_
  rintro e w1 ⟨m, g1, d1, Y1, g2, d2, Y2, hm1, hm2, rfl, o1, v1, o2, v2, b1⟩
  have B1 : Below w.heap.size w w1 := Below.trans (by repeat first | (with_reducible exact Below.refl _ _) | (with_reducible refine Below.setCell ?_ (by first | exact Nat.le_refl _ | (simp; done) | (simp; omega) | omega) _) | (with_reducible refine Below.alloc ?_ (by first | exact Nat.le_refl _ | (simp; done) | (simp; omega) | omega) _) | (with_reducible refine below_drewN ?_ _) | (with_reducible refine Below.drew ?_)) (b1.mono (by simp))
  have s1 := B1.size
  clear b1 o1 v1 o2 v2 hm1 hm2
  go_wp2_with fail
  go_ret2
  exact NumsNo.own ⟨rfl, (by repeat first | (with_reducible exact B1) | (with_reducible refine Below.setCell ?_ (by first | exact Nat.le_refl _ | (simp; done) | (simp; omega) | omega) _) | (with_reducible refine Below.alloc ?_ (by first | exact Nat.le_refl _ | (simp; done) | (simp; omega) | omega) _) | (with_reducible refine below_drewN ?_ _) | (with_reducible refine Below.drew ?_))⟩
set_option maxRecDepth 20000 in
set_option maxHeartbeats 2000000 in
theorem implLs_yes (r c N M p1 o1 d1 n2 e2 : Nat) (b : Option Addr) (Z Yb : Nat → Nat) (w : World) (h1 : 1 ≤ r) (h12 : r ≤ 12) (c1 : 1 ≤ c) (c12 : c ≤ 12) (hcr : c ≤ r) (hn : N = r * c) (hM : M = c * c) (hn2 : n2 ≤ 1048576) (hv : validB r c N (vals Z) = true)
    (h : FS .f32 w (some ⟨p1, o1, none⟩) N d1 Z) (h2 : FS .f32 w b n2 e2 Yb) :
    Calls Try.prog 18 #[.agg #[.int .i64 r, .int .i64 c, .slice (some ⟨p1, o1, none⟩) N d1], .slice b n2 e2] w (NOwnIf (lqOk r c n2 Z (vals Yb)) c (lqV r c (gsC r c (mirP r c Z) c) (vals Yb)) w) := by
  obtain ⟨i0, hi, hz0, hz1, hz2⟩ := info_parts info32
  have HN := Lib.hid hn
  have HM := Lib.hid hM
  have HV := Lib.hid hv
  have h144 : N ≤ 144 := by have := sides_le h12 c12; omega
  have m144 : M ≤ 144 := by have := sides_le c12 c12; omega
  have hN2 : N = c * r := by rw [hn, Nat.mul_comm]
  have HN2 := Lib.hid hN2
  have hpos : 0 < N := by rw [hn]; exact Nat.mul_pos h1 c1
  have mpos : 0 < M := by rw [hM]; exact Nat.mul_pos c1 c1
  obtain ⟨G, hG⟩ : ∃ G, G = gsC r c (mirP r c Z) c := ⟨_, rfl⟩
  obtain ⟨OK, hOK⟩ : ∃ OK, OK = mirOk r c (mirP r c Z) := ⟨_, rfl⟩
  have hL : lqOk r c n2 Z (vals Yb) = (OK && (fitsB r n2 (vals Yb) && lqU r c G (vals Yb))) := by rw [hG, hOK]; rfl
  have hfin : OK = true → allFin G.2 M = true := by
    intro e
    rw [hOK] at e
    unfold mirOk at e
    simp only [Bool.and_eq_true] at e
    rw [hG, hM]
    exact e.2.2
  have HFI := Lib.hid hfin
  have hmir := fun W hW => implMir_yes r c N M p1 o1 d1 Z W h1 h12 c1 c12 hcr hn hM hv hW
  rw [← hOK, ← hG] at hmir
  rw [hL, ← hG]
  obtain ⟨ok, hok⟩ : ∃ ok, ok = (OK && (fitsB r n2 (vals Yb) && lqU r c G (vals Yb))) := ⟨_, rfl⟩
  rw [← hok]
  have HK := Lib.hid hok
  clear hn hM hv hN2 hG hOK hL hfin hok
  go_enter Try.func18, Try.ntmps18
  go_wp2_with fail
  go_at_call 12
  refine (hmir _ (h.below (by repeat first | (with_reducible exact Below.refl _ _) | (with_reducible refine Below.setCell ?_ (by first | exact Nat.le_refl _ | (simp; done) | (simp; omega) | omega) _) | (with_reducible refine Below.alloc ?_ (by first | exact Nat.le_refl _ | (simp; done) | (simp; omega) | omega) _) | (with_reducible refine below_drewN ?_ _) | (with_reducible refine Below.drew ?_)) (Nat.le_refl _))).mono ?_
  intro e w1 hh
  clear hmir
  cases OK with
  | false =>
    obtain ⟨m, g1, d1, Y1, g2, d2, Y2, hm1, hm2, rfl, o1, v1, o2, v2, b1⟩ := hh
    have B1 : Below w.heap.size w w1 := Below.trans (by repeat first | (with_reducible exact Below.refl _ _) | (with_reducible refine Below.setCell ?_ (by first | exact Nat.le_refl _ | (simp; done) | (simp; omega) | omega) _) | (with_reducible refine Below.alloc ?_ (by first | exact Nat.le_refl _ | (simp; done) | (simp; omega) | omega) _) | (with_reducible refine below_drewN ?_ _) | (with_reducible refine Below.drew ?_)) (b1.mono (by simp))
    have s1 := B1.size
    clear b1 o1 v1 o2 v2 hm1 hm2
    go_wp2_with fail
    go_ret2
    exact NOwnIf.no HK.out (NumsNo.own ⟨rfl, (by repeat first | (with_reducible exact B1) | (with_reducible refine Below.setCell ?_ (by first | exact Nat.le_refl _ | (simp; done) | (simp; omega) | omega) _) | (with_reducible refine Below.alloc ?_ (by first | exact Nat.le_refl _ | (simp; done) | (simp; omega) | omega) _) | (with_reducible refine below_drewN ?_ _) | (with_reducible refine Below.drew ?_))⟩)
  | true =>
    have hf2 : allFin G.2 M = true := HFI.out rfl
    obtain ⟨m, a1, d3, Y1, a2, d4, Y2, hm1, hm2, rfl, o3, v1, o4, v2, b1⟩ := hh
    obtain ⟨g1, q1, ea, _⟩ := o3.fs.at hpos
    subst ea
    obtain ⟨g2, q2, ea, _⟩ := o4.fs.at mpos
    subst ea
    have B1 : Below w.heap.size w w1 := Below.trans (by repeat first | (with_reducible exact Below.refl _ _) | (with_reducible refine Below.setCell ?_ (by first | exact Nat.le_refl _ | (simp; done) | (simp; omega) | omega) _) | (with_reducible refine Below.alloc ?_ (by first | exact Nat.le_refl _ | (simp; done) | (simp; omega) | omega) _) | (with_reducible refine below_drewN ?_ _) | (with_reducible refine Below.drew ?_)) (b1.mono (by simp))
    have s1 : w.heap.size + 1 ≤ w1.heap.size := by have := b1.size; simp at this; omega
    have F3 := o3.fs
    have F4 := o4.fs.sameL (same_datL o4.fs v2 hf2)
    have HD2 : Hid (∀ t, t < M → vals (datL G.2) t = G.2 t) := Lib.hid (vals_datL o4.fs v2 hf2)
    have XA : Box w1 w.heap.size r c (some ⟨p1, o1, none⟩) N d1 := Box.below (by refine ⟨?_, ?_, ?_⟩ <;> simp [go_sem]) b1 (by simp)
    have V1 := Lib.hid v1
    have hl : w.heap.size < w1.heap.size := by omega
    clear b1 o3 o4 v1 v2 hm1 hm2
    obtain ⟨x0, x1, x2⟩ := XA
    cases hft : fitsB r n2 (vals Yb) with
    | false =>
      go_wp2_with fail
      go_at_call 49
      refine (fitsRows_any r c _ b N d1 n2 e2 Yb _ hn2 ((h2.below B1 (Nat.le_refl _)).below (by repeat first | (with_reducible exact Below.refl _ _) | (with_reducible refine Below.setCell ?_ (by first | exact Nat.le_refl _ | (simp; done) | (simp; omega) | omega) _) | (with_reducible refine Below.alloc ?_ (by first | exact Nat.le_refl _ | (simp; done) | (simp; omega) | omega) _) | (with_reducible refine below_drewN ?_ _) | (with_reducible refine Below.drew ?_)) (Nat.le_refl _))).mono ?_
      rw [hft]
      rintro e w2 ⟨rfl, b2⟩
      have B2 : Below w.heap.size w w2 := B1.trans (Below.trans (by repeat first | (with_reducible exact Below.refl _ _) | (with_reducible refine Below.setCell ?_ (by first | exact Nat.le_refl _ | (simp; done) | (simp; omega) | omega) _) | (with_reducible refine Below.alloc ?_ (by first | exact Nat.le_refl _ | (simp; done) | (simp; omega) | omega) _) | (with_reducible refine below_drewN ?_ _) | (with_reducible refine Below.drew ?_)) (b2.mono (by simp; omega)))
      clear b2
      go_wp2_with fail
      go_ret2
      exact NOwnIf.no (by rw [HK.out, hft]; rfl) (NumsNo.own ⟨rfl, (by repeat first | (with_reducible exact B2) | (with_reducible refine Below.setCell ?_ (by first | exact Nat.le_refl _ | (simp; done) | (simp; omega) | omega) _) | (with_reducible refine Below.alloc ?_ (by first | exact Nat.le_refl _ | (simp; done) | (simp; omega) | omega) _) | (with_reducible refine below_drewN ?_ _) | (with_reducible refine Below.drew ?_))⟩)
    | true =>
      obtain ⟨hnr, hvec⟩ := fits_nat hft
      have HFT := Lib.hid hft
      obtain ⟨p2, o2, eb, _⟩ := h2.at (show 0 < n2 by omega)
      subst eb hnr
      go_wp2_with fail
      go_at_call 49
      refine (fitsRows_any n2 c _ _ N d1 n2 e2 Yb _ hn2 ((h2.below B1 (Nat.le_refl _)).below (by repeat first | (with_reducible exact Below.refl _ _) | (with_reducible refine Below.setCell ?_ (by first | exact Nat.le_refl _ | (simp; done) | (simp; omega) | omega) _) | (with_reducible refine Below.alloc ?_ (by first | exact Nat.le_refl _ | (simp; done) | (simp; omega) | omega) _) | (with_reducible refine below_drewN ?_ _) | (with_reducible refine Below.drew ?_)) (Nat.le_refl _))).mono ?_
      rw [hft]
      rintro e w2 ⟨rfl, b2⟩
      have D2 : Below w1.heap.size w1 w2 := Below.trans (by repeat first | (with_reducible exact Below.refl _ _) | (with_reducible refine Below.setCell ?_ (by first | exact Nat.le_refl _ | (simp; done) | (simp; omega) | omega) _) | (with_reducible refine Below.alloc ?_ (by first | exact Nat.le_refl _ | (simp; done) | (simp; omega) | omega) _) | (with_reducible refine below_drewN ?_ _) | (with_reducible refine Below.drew ?_)) (b2.mono (by simp; omega))
      have B2 : Below w.heap.size w w2 := B1.trans (D2.mono B1.size)
      have s2 : w1.heap.size + 1 + 1 ≤ w2.heap.size := by have := b2.size; simp at this; omega
      have XQ : Box w2 w1.heap.size n2 c (some ⟨g1, q1, none⟩) N d3 := Box.below (by refine ⟨?_, ?_, ?_⟩ <;> simp [go_sem]) b2 (by simp; omega)
      have XU : Box w2 (w1.heap.size + 1) c c (some ⟨g2, q2, none⟩) M d4 := Box.below (by refine ⟨?_, ?_, ?_⟩ <;> simp [go_sem]) b2 (by simp)
      replace F3 := F3.below D2 (Nat.le_refl _)
      replace F4 := F4.below D2 (Nat.le_refl _)
      have H2 := h2.below B2 (Nat.le_refl _)
      clear b2 x0 x1 x2 D2
      obtain ⟨x0, x1, x2⟩ := XQ
      go_wp2_with fail
      go_at_call 40
      refine (flipped_any n2 c N g1 q1 d3 Y1 _ h1 h12 c1 c12 HN.out F3).mono ?_
      rintro e w3 ⟨g3, rfl, oc, b3⟩
      have B3 := B2.trans (b3.mono B2.size)
      have s3 := b3.size
      have XU3 := XU.below b3 (by omega)
      have b4 : Below w3.heap.size w3 (w3.alloc (.cells #[.int .i64 c, .int .i64 n2, .slice (some ⟨g3, 0, none⟩) N N] 26)) := (by repeat first | (with_reducible exact Below.refl _ _) | (with_reducible refine Below.setCell ?_ (by first | exact Nat.le_refl _ | (simp; done) | (simp; omega) | omega) _) | (with_reducible refine Below.alloc ?_ (by first | exact Nat.le_refl _ | (simp; done) | (simp; omega) | omega) _) | (with_reducible refine below_drewN ?_ _) | (with_reducible refine Below.drew ?_))
      have b3' : Below w2.heap.size w2 (w3.alloc (.cells #[.int .i64 c, .int .i64 n2, .slice (some ⟨g3, 0, none⟩) N N] 26)) := b3.trans (b4.mono s3)
      have XC4 := Box.new w3 26 c n2 (some ⟨g3, 0, none⟩) N N
      have XU4 := XU3.below b4 (by omega)
      have s4 : (w3.alloc (.cells #[.int .i64 c, .int .i64 n2, .slice (some ⟨g3, 0, none⟩) N N] 26)).heap.size = w3.heap.size + 1 := by simp
      replace F4 := F4.below b3' (Nat.le_refl _)
      replace H2 := H2.below b3' (Nat.le_refl _)
      have FC := oc.fs.below b4 (Nat.le_refl _)
      have B4 := B3.trans (b4.mono B3.size)
      clear x0 x1 x2 F3 oc b3 b3' XU XU3 B1 B2 h h2
      go_upto_region 5 with (fail)
      generalize (w3.alloc (.cells #[.int .i64 c, .int .i64 n2, .slice (some ⟨g3, 0, none⟩) N N] 26)) = w4 at XC4 XU4 s4 F4 H2 FC B4 b4 ⊢
      have l3 : w3.heap.size < w4.heap.size := by omega
      have lu : w1.heap.size + 1 < w4.heap.size := by omega
      clear b4 s4
      obtain ⟨y0, y1, y2⟩ := XC4
      go_wp2_with (at_make; refine wpList_make_full _ rfl _ _ 22 rfl w4.heap.size 41 i0 (.float .f32 0) 1 Try.underlying22 hi hz0 hz1 _ _ _ _ c rfl rfl rfl rfl ?b2 ?b3 (Nat.le_refl _) ?_)
      case b2 => rw [hz2]; omega
      case b3 => unfold maxLen; omega
      intro w0 hown0 hgrow0
      have hU := (hown0.lt w4.heap.size rfl).2
      have o0 := own_zero (w := w4) (U := w0.heap.size) hown0 (Nat.le_refl _) hU (Nat.le_refl _) (by unfold maxLen; omega)
      have b0 : Below w4.heap.size w4 w0 := (Below.refl _ _).grown hgrow0 (Nat.le_refl _) (fun k h => by cases h)
      have XC := (show Box w4 w3.heap.size c n2 (some ⟨g3, 0, none⟩) N N from ⟨y0, y1, y2⟩)
      clear hown0 hgrow0 y0 y1 y2
      go_wp2
      go_loopw [33] (fun i wr => ∃ (j : Nat) (X : Nat → Nat), j ≤ c ∧ i = .int .i64 j ∧ (∀ t, t < j → FV .f32 (X t) (lqS n2 G (vals Yb) t)) ∧ Own 41 .f32 w4.heap.size w0.heap.size wr (some ⟨w4.heap.size, 0, none⟩) c c X ∧ Below w4.heap.size w4 wr) (fun i _ => c - (intOf i).toNat)
      case atStart => exact ⟨0, _, Nat.zero_le _, rfl, fun t ht => absurd ht (Nat.not_lt_zero _), o0, b0⟩
      case round =>
        obtain ⟨j, X, hj, rfl, hVV, hk, hb⟩ := hrel
        have hV' := Lib.hid hVV
        clear o0 b0 hVV
        by_cases hlt : j < c
        · obtain ⟨y0, y1, y2⟩ := XC.below hb l3
          obtain ⟨hce, hfr, _⟩ := hk.cell hlt
          have hk' := Lib.hid hk
          have hb' := Lib.hid hb
          clear hk hb
          generalize X j = old at hce
          go_wp2_with fail
          go_at_call 42
          have hrw := rowOf_any g3 0 c n2 N N j wr c12 h1 h12 HN2.out (Nat.le_refl _) (by omega) hlt
          rw [Nat.zero_add] at hrw
          refine hrw.mono ?_
          rintro e w6 ⟨rfl, b6⟩
          have B6 := hb'.out.trans (b6.mono hb'.out.size)
          have hk3 := hk'.out.kept (below_grew b6) (fun q hq => by cases hq)
          have f3 := (FC.below B6 (Nat.le_refl _)).row HN2.out hlt n2 (Nat.le_refl _) (by unfold maxLen; omega)
          rw [Nat.zero_add] at f3
          have f4 := H2.below B6 (Nat.le_refl _)
          clear y0 y1 y2 hce hfr b6
          go_wp2_with fail
          go_at_call 43
          refine (implDot_any _ _ n2 n2 n2 e2 _ Yb _ (by omega) (Nat.le_refl _) (by omega) f3 f4).mono ?_
          rintro e w7 ⟨rr, rfl, hrr0, m4, rfl⟩
          have hrr : FV .f32 rr (lqS n2 G (vals Yb) j) := FV.of_eq hrr0 (dotG_congr fun i hi => ⟨by
            obtain ⟨d1', d2'⟩ := place_div (j := j) hi
            obtain ⟨d3', d4'⟩ := place_div (j := i) hlt
            have e := V1.out (i * c + j) (by rw [HN.out]; exact place_lt hi hlt)
            rw [d3', d4'] at e
            show cn .f32 (flipZ n2 c Y1 (j * n2 + i)) = G.1 (j * n2 + i)
            unfold flipZ
            rw [d1', d2']
            exact e, rfl⟩)
          obtain ⟨hce, hfr, _⟩ := hk3.cell hlt
          obtain ⟨hst, hgr⟩ := hk3.stored (t := j) (v := rr) hlt hrr.2
          have hst' : Hid (Own 41 .f32 w4.heap.size w0.heap.size ((w6.drewN m4).setCell ⟨w4.heap.size, j, none⟩ (.float .f32 rr)) (some ⟨w4.heap.size, 0, none⟩) c c (fun t => if t = j then rr else X t)) := Lib.hid hst
          have hb4 : Hid (Below w4.heap.size w4 ((w6.drewN m4).setCell ⟨w4.heap.size, j, none⟩ (.float .f32 rr))) := Lib.hid ((below_drewN B6 m4).setCell (Nat.le_refl _) _)
          have hvn : Hid (∀ t, t < j + 1 → FV .f32 (if t = j then rr else X t) (lqS n2 G (vals Yb) t)) := by
            refine Lib.hid fun t ht => ?_
            by_cases e : t = j
            · subst e; rw [if_pos rfl]; exact hrr
            · rw [if_neg e]; exact hV'.out t (by omega)
          clear hst hgr hk3 B6 f3 f4 hk' hb' hrr0
          go_wp2
          go_roundw
          case rel => exact ⟨j + 1, _, by omega, by go_num, hvn.out, hst'.out, hb4.out⟩
          case measure => simp [intOf]; omega
        · obtain rfl : j = c := by omega
          obtain ⟨u0, u1, u2⟩ := XU4.below hb lu
          have fX := hk.fs
          have F5 := F4.below hb (Nat.le_refl _)
          have BW := Lib.hid (B4.trans (hb.mono B4.size))
          have hsq : squareB j j M (vals (datL G.2)) = true := by
            have e := validB_nat (V := vals (datL G.2)) c1 c12 c1 c12 HM.out
            unfold squareB
            rw [e, decide_eq_true rfl, Bool.and_true]
            rw [allFin_congr HD2.out]
            exact hf2
          clear hk hb
          cases hf : allFin (lqS n2 G (vals Yb)) j with
          | true =>
            have hvv : ∀ t, t < j → vals X t = lqS n2 G (vals Yb) t := fun t ht => (hV'.out t ht).1
            have fX' := fX.sameL (same_datL fX hvv hf)
            have hup : upOk (j : Int) (j : Int) M j (datL G.2) (datL (lqS n2 G (vals Yb))) = ok := by
              have e1 : fitsB (j : Int) j (vals (datL (lqS n2 G (vals Yb)))) = true := by
                unfold fitsB
                rw [decide_eq_true rfl, vec_of c1 c12, allFin_congr (vals_datL fX hvv hf), hf]
                rfl
              rw [HK.out, HFT.out]
              unfold upOk lqU lqV
              rw [hsq, e1, hf]
              rfl
            have HUP := Lib.hid hup
            clear hup hsq hvv
            go_wp2_with fail
            go_at_call 50
            refine (implUpper_any j j _ _ M d4 j j (datL G.2) (datL (lqS n2 G (vals Yb))) _ (by omega) (by omega) F5 fX').mono ?_
            rw [HUP.out]
            intro e w8 hh8
            obtain ⟨g', n', d', rfl⟩ := hh8.shape
            have HH := Lib.hid (hh8.lift BW.out)
            clear hh8
            go_wp2_with fail
            go_ret2
            exact HH.out
          | false =>
            have hup : upOk (j : Int) (j : Int) M j (datL G.2) X = false := by
              unfold upOk fitsB
              rw [vec_of c1 c12, allFin_congr (V := vals X) (fun t ht => (hV'.out t ht).1), hf]
              simp
            have hlq : ok = false := by rw [HK.out, HFT.out]; unfold lqU; rw [hf]; rfl
            have HUP := Lib.hid hup
            have HLQ := Lib.hid hlq
            clear hup hsq hlq
            go_wp2_with fail
            go_at_call 50
            refine (implUpper_any j j _ _ M d4 j j (datL G.2) X _ (by omega) (by omega) F5 fX).mono ?_
            rw [HUP.out]
            intro e w8 hh8
            obtain ⟨g', n', d', rfl⟩ := hh8.shape
            have HH := Lib.hid (((hh8.lift BW.out).cast HLQ.out.symm).none_of (V' := lqV n2 j G (vals Yb)) HLQ.out)
            clear hh8
            go_wp2_with fail
            go_ret2
            exact HH.out
end Go.Proofs.Ytcibjkadlndejaa
