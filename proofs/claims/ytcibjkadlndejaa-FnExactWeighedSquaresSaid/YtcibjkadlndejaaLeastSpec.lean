/- Helper: what misses least, of the reference. Conditions: none. -/
import Derived.Test.YtcibjkadlndejaaLeastDefs
import Derived.Test.YtcibjkadlndejaaMirSpec
import Derived.Test.YtcibjkadlndejaaUpperKey
import Derived.Deep.AppendLies
import Derived.Deep.Cut
import Derived.Deep.CutRange
set_option linter.unusedVariables false
set_option linter.unusedSimpArgs false
namespace Go.Proofs.Ytcibjkadlndejaa
open Go.RowKit

set_option maxRecDepth 20000 in
set_option maxHeartbeats 2000000 in
theorem l03Least_any (p r c N M b off cap p2 o2 e2 : Nat) (Z Yb : Nat → Nat) (w : World) (h1 : 1 ≤ r) (h12 : r ≤ 12) (c1 : 1 ≤ c) (c12 : c ≤ 12) (hn : N = r * c) (hM : M = c * c) (hp : p < w.heap.size) (hb : Box w p r c (some ⟨b, off, none⟩) N cap)
    (h : FS .f32 w (some ⟨b, off, none⟩) N cap Z) (h2 : FS .f32 w (some ⟨p2, o2, none⟩) r e2 Yb) :
    Calls Try.prog 48 #[.pointer (some ⟨p, 0, none⟩), .slice (some ⟨p2, o2, none⟩) r e2] w (NBelIf (mirOk r c (mirP r c Z) && lqU r c (gsC r c (mirP r c Z) c) (vals Yb)) c (lqV r c (gsC r c (mirP r c Z) c) (vals Yb)) w) := by
  obtain ⟨i0, hi, hz0, hz1, hz2⟩ := info_parts info32
  have HN := Lib.hid hn
  have HM := Lib.hid hM
  have m144 : M ≤ 144 := by have := sides_le c12 c12; omega
  obtain ⟨x0, x1, x2⟩ := hb
  have hbx : Box w p r c (some ⟨b, off, none⟩) N cap := ⟨x0, x1, x2⟩
  obtain ⟨P, hP⟩ : ∃ P, P = mirP r c Z := ⟨_, rfl⟩
  have HP := Lib.hid hP
  have hmir := l03Mirror_any p r c N M b off cap Z w h1 h12 c1 c12 hn hM hp hbx h
  rw [← hP] at hmir ⊢
  obtain ⟨ok, hok0⟩ : ∃ ok, ok = (mirOk r c P && lqU r c (gsC r c P c) (vals Yb)) := ⟨_, rfl⟩
  rw [← hok0]
  have HK := Lib.hid hok0
  obtain ⟨G, hG⟩ : ∃ G, G = gsC r c P c := ⟨_, rfl⟩
  rw [← hG]
  have HGG := Lib.hid hG
  clear hG
  clear hn hM hP hok0
  go_enter Try.func48, Try.ntmps48
  go_wp2_with fail
  go_at_call 38
  refine hmir.mono ?_
  intro e w1 hh
  clear hmir
  unfold MirRead at hh
  cases hg : gsOk r c P c with
  | false =>
    rw [hg] at hh
    obtain ⟨rfl, b1⟩ := hh
    have B1 := Lib.hid b1
    have s1 := b1.size
    have hno : ok = false := by rw [HK.out]; unfold mirOk; rw [hg]; rfl
    have HNO := Lib.hid hno
    clear b1 hg hno x0 x1 x2
    go_wp2_with fail
    go_ret2
    exact NBelIf.no HNO.out (NumsNo.bel ⟨rfl, (by repeat first | (with_reducible exact B1.out) | (with_reducible refine Below.setCell ?_ (by first | exact Nat.le_refl _ | (simp; done) | (simp; omega) | omega) _) | (with_reducible refine Below.alloc ?_ (by first | exact Nat.le_refl _ | (simp; done) | (simp; omega) | omega) _) | (with_reducible refine below_drewN ?_ _) | (with_reducible refine Below.drew ?_))⟩)
  | true =>
    rw [hg] at hh
    obtain ⟨g1, g2, X, Y, rfl, f1, v1, f2, v2, b1⟩ := hh
    have hok : mirOk r c P = (allFin (vals X) N && allFin (vals Y) M) := by
      unfold mirOk
      rw [hg, Bool.true_and, allFin_flipM h1 c1 HN.out v1, HM.out, allFin_congr (n := c * c) (fun t ht => v2 t (by rw [HM.out]; exact ht))]
    cases hb : (allFin (vals X) N && allFin (vals Y) M) with
    | false =>
      have B1 := Lib.hid b1
      have s1 := b1.size
      have hno : ok = false := by rw [HK.out, hok, hb]; rfl
      have HNO := Lib.hid hno
      clear b1 hg hno x0 x1 x2 hok hb f1 f2 v1 v2
      go_wp2_with fail
      go_ret2
      exact NBelIf.no HNO.out (NumsNo.bel ⟨rfl, (by repeat first | (with_reducible exact B1.out) | (with_reducible refine Below.setCell ?_ (by first | exact Nat.le_refl _ | (simp; done) | (simp; omega) | omega) _) | (with_reducible refine Below.alloc ?_ (by first | exact Nat.le_refl _ | (simp; done) | (simp; omega) | omega) _) | (with_reducible refine below_drewN ?_ _) | (with_reducible refine Below.drew ?_))⟩)
    | true =>
      have hyes : mirOk r c P = true := hok.trans hb
      rw [← HGG.out] at v1 v2
      have HK2 : Hid (ok = lqU r c G (vals Yb)) := Lib.hid (by rw [HK.out, hyes, HGG.out]; rfl)
      have hf2 : allFin G.2 M = true := by
        have e : allFin (vals Y) M = true := by simp only [Bool.and_eq_true] at hb; exact hb.2
        rw [← allFin_congr v2]; exact e
      have HD2 : Hid (∀ t, t < M → vals (datL G.2) t = G.2 t) := Lib.hid (vals_datL f2 v2 hf2)
      replace f2 := f2.sameL (same_datL f2 v2 hf2)
      have V1 := Lib.hid v1
      have HF2 := Lib.hid hf2
      have H2 := h2.below b1 (Nat.le_refl _)
      have hbx1 := hbx.below b1 hp
      have s1 := b1.size
      clear hok hb hyes v1 v2 hf2 hg h h2 x0 x1 x2 hbx
      obtain ⟨x0, x1, x2⟩ := hbx1
      have hp1 : p < w1.heap.size := Nat.lt_of_lt_of_le hp s1
      go_upto_region 4 with (fail)
      have b2 : Below w1.heap.size w1 ((w1.alloc (.cells #[.int .i64 r, .int .i64 c, .slice (some ⟨g1, 0, none⟩) N N] 26)).alloc (.cells #[.int .i64 c, .int .i64 c, .slice (some ⟨g2, 0, none⟩) M M] 26)) := (by repeat first | (with_reducible exact Below.refl _ _) | (with_reducible refine Below.setCell ?_ (by first | exact Nat.le_refl _ | (simp; done) | (simp; omega) | omega) _) | (with_reducible refine Below.alloc ?_ (by first | exact Nat.le_refl _ | (simp; done) | (simp; omega) | omega) _) | (with_reducible refine below_drewN ?_ _) | (with_reducible refine Below.drew ?_))
      have s2 : ((w1.alloc (.cells #[.int .i64 r, .int .i64 c, .slice (some ⟨g1, 0, none⟩) N N] 26)).alloc (.cells #[.int .i64 c, .int .i64 c, .slice (some ⟨g2, 0, none⟩) M M] 26)).heap.size = w1.heap.size + 1 + 1 := by simp
      have XQ : Box ((w1.alloc (.cells #[.int .i64 r, .int .i64 c, .slice (some ⟨g1, 0, none⟩) N N] 26)).alloc (.cells #[.int .i64 c, .int .i64 c, .slice (some ⟨g2, 0, none⟩) M M] 26)) w1.heap.size r c (some ⟨g1, 0, none⟩) N N := by refine ⟨?_, ?_, ?_⟩ <;> simp [go_sem]
      have XU : Box ((w1.alloc (.cells #[.int .i64 r, .int .i64 c, .slice (some ⟨g1, 0, none⟩) N N] 26)).alloc (.cells #[.int .i64 c, .int .i64 c, .slice (some ⟨g2, 0, none⟩) M M] 26)) (w1.heap.size + 1) c c (some ⟨g2, 0, none⟩) M M := by refine ⟨?_, ?_, ?_⟩ <;> simp [go_sem]
      generalize ((w1.alloc (.cells #[.int .i64 r, .int .i64 c, .slice (some ⟨g1, 0, none⟩) N N] 26)).alloc (.cells #[.int .i64 c, .int .i64 c, .slice (some ⟨g2, 0, none⟩) M M] 26)) = w2 at b2 s2 XQ XU ⊢
      have x1' := (b2.cell (p := ⟨p, 1, none⟩) hp1).trans x1
      have B2 := b1.trans (b2.mono s1)
      replace f1 := f1.below b2 (Nat.le_refl _)
      replace f2 := f2.below b2 (Nat.le_refl _)
      replace H2 := H2.below b2 (Nat.le_refl _)
      have lq : w1.heap.size < w2.heap.size := by omega
      have lu : w1.heap.size + 1 < w2.heap.size := by omega
      have hp2 : p < w2.heap.size := by omega
      clear b1 b2 s2 x0 x1 x2
      have hL := World.ownsRow_lit (base := w2.heap.size) (e := 41) (size := 1) w2 #[] 0 (by simp) (Nat.zero_le _) rfl
      go_wp2
      go_loopw [9, 10] (fun v i wr => ∃ (j : Nat) (xs : List Value), j ≤ c ∧ i = .int .i64 j ∧ Grow w2 j (lqS r G (vals Yb)) wr v xs) (fun _ i _ => c - (intOf i).toNat)
      case atStart => exact ⟨0, [], Nat.zero_le _, rfl, by simpa using hL, fun t ht => absurd ht (Nat.not_lt_zero _), (by repeat first | (with_reducible exact Below.refl _ _) | (with_reducible refine Below.setCell ?_ (by first | exact Nat.le_refl _ | (simp; done) | (simp; omega) | omega) _) | (with_reducible refine Below.alloc ?_ (by first | exact Nat.le_refl _ | (simp; done) | (simp; omega) | omega) _) | (with_reducible refine below_drewN ?_ _) | (with_reducible refine Below.drew ?_)), _, _, rfl⟩
      case round =>
        obtain ⟨j, xs, hj, rfl, hg⟩ := hrel
        clear hL
        have x1r := (hg.bel.cell (p := ⟨p, 1, none⟩) hp2).trans x1'
        obtain ⟨g, cp, rfl⟩ := hg.shape
        by_cases hlt : j < c
        · have hd : decide ((j : Int) < (c : Int)) = true := decide_eq_true (by omega)
          have HG := Lib.hid hg
          have hrow := hg.own
          have hbs := hg.bel.size
          have XQr := XQ.below hg.bel lq
          have f1r := f1.below hg.bel (Nat.le_refl _)
          have H2r := H2.below hg.bel (Nat.le_refl _)
          clear hg
          go_wp2_with fail
          go_at_call 59
          refine (l03Column_any w1.heap.size r c N g1 0 N j X _ h1 h12 c12 HN.out hlt (by omega) XQr f1r).mono ?_
          rintro e w7 ⟨gw, dw, W, rfl, ow, vw, b7⟩
          have H27 := H2r.below b7 (Nat.le_refl _)
          go_wp2_with fail
          go_at_call 61
          refine (specDot_any _ _ r dw r e2 W Yb _ (by omega) (Nat.le_refl _) (by omega) ow.fs H27).mono ?_
          rintro e w8' ⟨rs, rfl, frs, m8, rfl⟩
          have fS : FV .f32 rs (lqS r G (vals Yb) j) := FV.of_eq frs (dotG_congr fun i hi' => ⟨by rw [vw i hi']; exact V1.out i j hi' hlt, rfl⟩)
          have D8 : Below wr.heap.size wr (w7.drewN m8) := below_drewN b7 m8
          have s8 : wr.heap.size ≤ (w7.drewN m8).heap.size := D8.size
          clear frs XQr f1r H2r H27 ow vw b7 x1r
          generalize w7.drewN m8 = w8 at D8 s8 ⊢
          go_wp2_with (first
            | (at_builtin
               refine wpList_append_lies _ rfl _ _ _ rfl w2.heap.size 41 i0 _ 1 4 Try.underlying22 hi hz0 hz1 hz2 rfl (by omega) (.slice (some ⟨g, 0, none⟩) j cp) j xs rfl (by exact ownsRow_below hrow (by repeat first | (with_reducible exact D8) | (with_reducible refine Below.setCell ?_ (by first | exact Nat.le_refl _ | (simp; done) | (simp; omega) | omega) _) | (with_reducible refine Below.alloc ?_ (by first | exact Nat.le_refl _ | (simp; done) | (simp; omega) | omega) _) | (with_reducible refine below_drewN ?_ _) | (with_reducible refine Below.drew ?_))) ⟨w8.heap.size, 0, none⟩ 1 1 [.float .f32 rs] rfl rfl
                    (by exact World.news_of_block (cs := #[.float .f32 rs]) (t := 41) (fr := (0, 0)) (heap_alloc_new _ _)) (by simp [Value.oneCell']) (by omega) (by unfold maxLen; omega) (by omega) (by simp; omega) (w8.heap.size + 1) (by simp) ?_
               intro gg cp2 w9 hown2 hgrow2 hat2 hlt3
               have hst := Lib.hid (HG.out.step (by repeat first | (with_reducible exact D8) | (with_reducible refine Below.setCell ?_ (by first | exact Nat.le_refl _ | (simp; done) | (simp; omega) | omega) _) | (with_reducible refine Below.alloc ?_ (by first | exact Nat.le_refl _ | (simp; done) | (simp; omega) | omega) _) | (with_reducible refine below_drewN ?_ _) | (with_reducible refine Below.drew ?_)) hown2 hgrow2 fS)
               clear hown2 hgrow2 hat2 hlt3 D8 s8))
          go_roundw
          case rel => exact ⟨j + 1, _, by omega, by go_num, hst.out⟩
          case measure => simp [intOf]; omega
        · obtain rfl : j = c := by omega
          have hd : decide ((j : Int) < (j : Int)) = false := decide_eq_false (by omega)
          obtain ⟨S, fX, hvv⟩ := hg.fs
          have XUr := XU.below hg.bel lu
          have F5 := f2.below hg.bel (Nat.le_refl _)
          have BW := Lib.hid (B2.trans (hg.bel.mono B2.size))
          have hsw := hg.bel.size
          clear hg
          cases hf : allFin (lqS r G (vals Yb)) j with
          | true =>
            have hfs : allFin (vals S) j = true := (allFin_congr hvv).trans hf
            have fX' := fX.sameL (same_datL fX hvv hf)
            have hvd := vals_datL fX hvv hf
            have hup : (!anyZ (fun i => sq j (datL G.2) i i) j && allFin (upY (sq j (datL G.2)) true j (vals (datL (lqS r G (vals Yb)))) j) j) = ok := by
              rw [HK2.out]
              unfold lqU lqV
              rw [hf]
              rfl
            have HUP := Lib.hid hup
            have HFX := Lib.hid fX'
            clear hup hvv hvd fX'
            go_wp2_with fail
            go_at_call 54
            refine (specFin_any _ j cp S _ (by omega) fX).mono ?_
            rw [hfs]
            rintro e w8 ⟨rfl, m8, rfl⟩
            have B8 := Lib.hid (below_drewN BW.out m8)
            have XU8 : Box (wr.drewN m8) (w1.heap.size + 1) j j (some ⟨g2, 0, none⟩) M M := Box.drewN XUr
            have F58 := FS.drewN (m := m8) F5
            have FX8 := FS.drewN (m := m8) HFX.out
            have s8 : w1.heap.size + 1 < (wr.drewN m8).heap.size := Nat.lt_of_lt_of_le lu hsw
            clear fX hfs XUr F5 BW hsw
            generalize wr.drewN m8 = w8 at B8 XU8 F58 FX8 s8 ⊢
            go_wp2_with fail
            go_at_call 86
            refine (l03Upper_any (w1.heap.size + 1) j M g2 0 M g 0 cp (datL G.2) (datL (lqS r G (vals Yb))) _ c1 c12 HM.out s8 XU8 F58 FX8).mono ?_
            rw [HUP.out]
            intro e w9 hh8
            obtain ⟨g', n', d', rfl⟩ := hh8.shape
            have HH := Lib.hid (hh8.lift B8.out)
            clear hh8
            go_wp2_with fail
            go_ret2
            exact HH.out
          | false =>
            have hfs : allFin (vals S) j = false := (allFin_congr hvv).trans hf
            have hlq : ok = false := by rw [HK2.out]; unfold lqU; rw [hf]; rfl
            have HLQ := Lib.hid hlq
            clear hlq
            go_wp2_with fail
            go_at_call 54
            refine (specFin_any _ j cp S _ (by omega) fX).mono ?_
            rw [hfs]
            rintro e w8 ⟨rfl, m8, rfl⟩
            go_wp2_with fail
            go_ret2
            exact NBelIf.no HLQ.out (NumsNo.bel ⟨rfl, below_drewN BW.out _⟩)
end Go.Proofs.Ytcibjkadlndejaa
