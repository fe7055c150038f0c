/- Helper: the numbers of the characteristic sums of a square, of the reference, and of both. Conditions: none. -/
import Derived.Test.YtmjlhmbnaifhaacSignsImpl
import Derived.Test.YtmjlhmbnaifhaacMulOwn
import Derived.Test.YtmjlhmbnaifhaacPutOwn
set_option linter.unusedVariables false
set_option linter.unusedSimpArgs false
namespace Go.Proofs.Ytmjlhmbnaifhaac
open Go.RowKit

theorem NumsBel.noG {w w' : World} {V : Nat → Option Nat} (h : Below w.heap.size w w') : NumsBel false 0 V w (.returned (.tuple #[.slice none 0 0, .bool false])) w' :=
  ⟨none, 0, fun _ => 0, rfl, ⟨Nat.le_refl _, Nat.zero_le _, fun i hi => absurd hi (Nat.not_lt_zero _)⟩, fun i hi => absurd hi (Nat.not_lt_zero _), h⟩
def SgIfB (st : Option ((Nat → Nat) × (Nat → Nat))) (r : Nat) (w : World) (e : Ending) (w' : World) : Prop :=
  match st with | some s => NumsBel true r (vals s.2) w e w' | none => NumsBel false 0 (fun _ => none) w e w'
theorem Own.tight {T : TypeId} {k : FloatKind} {B U g : Nat} {w : World} {n c : Nat} {Z : Nat → Nat} (h : Own T k B U w (some ⟨g, 0, none⟩) n c Z) (h0 : 0 < n) : Own T k g (g + 1) w (some ⟨g, 0, none⟩) n c Z := by
  have h' := Own.raise (B' := g) h h0 (Nat.le_refl _)
  rcases h' with ⟨h, _⟩ | ⟨g', xs, e, h1, hm, h2, h3, h4, ho, hx, hw⟩
  · cases h
  · simp only [Option.some.injEq, Addr.mk.injEq, and_true] at e
    subst e
    exact .inr ⟨g, xs, rfl, h1, hm, Nat.le_refl _, Nat.lt_succ_self _, by omega, ho, hx, hw⟩
/-- A square of its own, or none. -/
def SqS (r N : Nat) (o : Option (Nat → Nat)) (w : World) (e : Ending) (w' : World) : Prop :=
  ∃ g d, e = .returned (.tuple #[.agg #[.int .i64 (sR r o), .int .i64 (sR r o), .slice g (sNn N o) d], .bool o.isSome]) ∧ (∀ D, o = some D → Own 38 .f32 w.heap.size w'.heap.size w' g N d D ∧ allFin (vals D) N = true) ∧ Below w.heap.size w w'
theorem allFin_allS {V : Nat → Option Nat} : ∀ {n : Nat}, (∀ i, i < n → finite .f32 (V i) = true) → allFin V n = true
  | 0, _ => rfl
  | n + 1, h => by
    have h1 := allFin_allS (V := V) (n := n) fun i hi => h i (by omega)
    simp only [allFin, h1, h n (by omega), Bool.and_self]
theorem l02List_yesG (a : Option Addr) (n c : Nat) (X : Nat → Nat) (w : World) (hn : n ≤ 1048576) (f : FS .f32 w a n c X) (hf : allFin (vals X) n = true) : Calls Try.prog 62 #[.slice a n c] w fun e w' => e = .returned (.tuple #[.slice a n c, .bool true]) ∧ ∃ m, w' = w.drewN m := by
  go_enter Try.func62, Try.ntmps62
  go_wp2_with fail
  go_at_call 106
  refine (specFin_any a n c X _ hn f).mono ?_
  rintro e w4 ⟨rfl, m4, rfl⟩
  go_wp2_with fail
  go_ret2
  exact ⟨rfl, _, rfl⟩
variable {r N : Nat}
theorem mulG_S (h1 : 1 ≤ r) (h12 : r ≤ 12) (hn : N = r * r) (Z D Y : Nat → Nat) (l : Nat) (hZ : allFin (vals Z) N = true) (p1 o1 c g d : Nat) (W : World) (h : FS .f32 W (some ⟨p1, o1, none⟩) N c Z) (h2 : FS .f32 W (some ⟨g, 0, none⟩) N d Y) (hY : ∀ t, t < N → vals Y t = sgW r D l t) :
    Calls Try.prog 52 #[.agg #[.int .i64 r, .int .i64 r, .slice (some ⟨p1, o1, none⟩) N c], .agg #[.int .i64 r, .int .i64 r, .slice (some ⟨g, 0, none⟩) N d]] W (SqS r N (sgP r N Z D l) W) := by
  have h144 : N ≤ 144 := by have := sides_le h12 h12; omega
  unfold sgP
  have hva : validB r r N (vals Z) = true := by rw [validB_nat h1 h12 h1 h12 hn]; exact hZ
  cases hf : allFin (sgW r D l) N with
  | false =>
    have hvb : validB r r N (vals Y) = false := by rw [validB_nat h1 h12 h1 h12 hn, allFin_congr hY]; exact hf
    refine (specMul_no _ _ _ _ _ _ _ _ _ _ _ _ W (by omega) (by omega) h h2 (by unfold mulB; rw [hvb]; simp)).mono ?_
    rintro e w' ⟨g, d, Y, e1, o, v, b⟩
    exact ⟨g, d, e1, fun D hD => (by cases hD), b⟩
  | true =>
    have hvb : validB r r N (vals Y) = true := by rw [validB_nat h1 h12 h1 h12 hn, allFin_congr hY]; exact hf
    have h3 := FS.sameG h2 (same_datG h2 hY hf)
    have hfc := fsG_dat h2 hY hf
    have hvc : validB r r N (vals (datG (sgW r D l))) = true := by rw [validB_nat h1 h12 h1 h12 hn]; exact hfc
    rw [Bool.true_and]
    refine (specMulO_yes r r r N N N p1 o1 c g 0 d Z (datG (sgW r D l)) W h1 h12 h1 h12 h1 h12 hn hn hn (by unfold mulB; rw [hva, hvc, decide_eq_true rfl]; rfl) hZ hfc h h3).mono ?_
    intro e w' hh
    obtain ⟨g, d, e1, o, gd, b⟩ := SqG.of hh
    refine ⟨g, d, e1, fun D' hD' => ?_, b⟩
    have hg := gd D' hD'
    rw [hD'] at o
    exact ⟨o, hg⟩
theorem specSigns_no (R C : Int) (a : Option Addr) (n c : Nat) (Z : Nat → Nat) (w : World) (hn : n ≤ 1048576) (h : FS .f32 w a n c Z) (hsq : squareB R C n (vals Z) = false) :
    Calls Try.prog 16 #[.agg #[.int .i64 R, .int .i64 C, .slice a n c]] w (NumsBel false 0 (fun _ => none) w) := by
  have HSQ := Lib.hid hsq
  clear hsq
  go_enter Try.func16, Try.ntmps16
  go_wp2_with fail
  go_at_call 46
  refine (specSquare_any _ R C a n c Z _ hn (by refine ⟨?_, ?_, ?_⟩ <;> simp [go_sem]) (h.below (by repeat first | (with_reducible exact Below.refl _ _) | (with_reducible refine Below.setCell ?_ (by first | exact Nat.le_refl _ | (simp; done) | (simp; omega) | omega) _) | (with_reducible refine Below.alloc ?_ (by first | exact Nat.le_refl _ | (simp; done) | (simp; omega) | omega) _) | (with_reducible refine below_drewN ?_ _) | (with_reducible refine Below.drew ?_)) (Nat.le_refl _))).mono ?_
  rintro e w1 ⟨rfl, m1, rfl⟩
  rw [HSQ.out]
  go_wp2_with fail
  go_ret2
  exact NumsBel.noG (by repeat first | (with_reducible exact Below.refl _ _) | (with_reducible refine Below.setCell ?_ (by first | exact Nat.le_refl _ | (simp; done) | (simp; omega) | omega) _) | (with_reducible refine Below.alloc ?_ (by first | exact Nat.le_refl _ | (simp; done) | (simp; omega) | omega) _) | (with_reducible refine below_drewN ?_ _) | (with_reducible refine Below.drew ?_))
set_option maxRecDepth 20000 in
set_option maxHeartbeats 4000000 in
theorem specSigns_yes (r N p1 o1 d1 : Nat) (Z : Nat → Nat) (w : World) (h1 : 1 ≤ r) (h12 : r ≤ 12) (hn : N = r * r) (hsq : squareB r r N (vals Z) = true) (hfz : allFin (vals Z) N = true) (h : FS .f32 w (some ⟨p1, o1, none⟩) N d1 Z) :
    Calls Try.prog 16 #[.agg #[.int .i64 r, .int .i64 r, .slice (some ⟨p1, o1, none⟩) N d1]] w (SgIfB (sgS r N Z r) r w) := by
  have HN := Lib.hid hn
  have h144 : N ≤ 144 := by have := sides_le h12 h12; omega
  have hpos : 0 < N := by rw [hn]; exact Nat.mul_pos h1 h1
  have HSQ := Lib.hid hsq
  have HFZ := Lib.hid hfz
  clear hn hsq hfz
  go_enter Try.func16, Try.ntmps16
  go_wp2_with fail
  generalize hwa : w.alloc (.cells #[.int .i64 r, .int .i64 r, .slice (some ⟨p1, o1, none⟩) N d1] 26) = wa
  have Ba : Below w.heap.size w wa := by rw [← hwa]; exact (by repeat first | (with_reducible exact Below.refl _ _) | (with_reducible refine Below.setCell ?_ (by first | exact Nat.le_refl _ | (simp; done) | (simp; omega) | omega) _) | (with_reducible refine Below.alloc ?_ (by first | exact Nat.le_refl _ | (simp; done) | (simp; omega) | omega) _) | (with_reducible refine below_drewN ?_ _) | (with_reducible refine Below.drew ?_))
  have sa : wa.heap.size = w.heap.size + 1 := by rw [← hwa]; simp
  have Xa : Box wa w.heap.size r r (some ⟨p1, o1, none⟩) N d1 := by rw [← hwa]; exact Box.new _ _ _ _ _ _ _
  have Fa := h.below Ba (Nat.le_refl _)
  clear hwa
  go_at_call 46
  refine (specSquare_any w.heap.size r r _ N d1 Z _ (by omega) Xa Fa).mono ?_
  rintro e w1 ⟨rfl, m1, rfl⟩
  rw [HSQ.out]
  go_wp2_with fail
  go_at_call 48
  refine (l02Own_any w.heap.size p1 o1 N d1 r r Z _ hpos h144 (by show w.heap.size < wa.heap.size; omega) Xa.drewN (FS.drewN Fa)).mono ?_
  rintro e w3 ⟨gm, dm, rfl, o3', b3'⟩
  have b3 : Below wa.heap.size wa w3 := Below.trans (by repeat first | (with_reducible exact Below.refl _ _) | (with_reducible refine Below.setCell ?_ (by first | exact Nat.le_refl _ | (simp; done) | (simp; omega) | omega) _) | (with_reducible refine Below.alloc ?_ (by first | exact Nat.le_refl _ | (simp; done) | (simp; omega) | omega) _) | (with_reducible refine below_drewN ?_ _) | (with_reducible refine Below.drew ?_)) (b3'.mono (by simp [World.drewN]))
  have o3 : Own 38 .f32 wa.heap.size w3.heap.size w3 (some ⟨gm, 0, none⟩) N dm Z := by simpa [World.drewN] using o3'
  have s3 := b3.size
  have B3 := Ba.trans (b3.mono Ba.size)
  have XA3 := Xa.below b3 (by omega)
  obtain ⟨_, _, k1', k2', k3', _⟩ := o3.cell hpos
  have OM3 := Own.tight o3 hpos
  clear o3 o3' b3 b3' Fa Xa
  have b4 : Below w3.heap.size w3 (w3.alloc (.cells #[.int .i64 r, .int .i64 r, .slice (some ⟨gm, 0, none⟩) N dm] 26)) := (by repeat first | (with_reducible exact Below.refl _ _) | (with_reducible refine Below.setCell ?_ (by first | exact Nat.le_refl _ | (simp; done) | (simp; omega) | omega) _) | (with_reducible refine Below.alloc ?_ (by first | exact Nat.le_refl _ | (simp; done) | (simp; omega) | omega) _) | (with_reducible refine below_drewN ?_ _) | (with_reducible refine Below.drew ?_))
  have XM4 := Box.new w3 26 r r (some ⟨gm, 0, none⟩) N dm
  have IX4 : ∀ i, (w3.alloc (.cells #[.int .i64 r, .int .i64 r, .slice (some ⟨gm, 0, none⟩) N dm] 26)).frozen? ⟨w3.heap.size, i, none⟩ = false := fun i => by simp [go_sem]
  have s4 : (w3.alloc (.cells #[.int .i64 r, .int .i64 r, .slice (some ⟨gm, 0, none⟩) N dm] 26)).heap.size = w3.heap.size + 1 := by simp
  have hL := World.ownsRow_lit (base := w.heap.size) (e := 38) (size := 1) (w3.alloc (.cells #[.int .i64 r, .int .i64 r, .slice (some ⟨gm, 0, none⟩) N dm] 26)) #[] 0 (by simp; omega) (by simp) rfl
  go_wp2
  generalize hw4 : w3.alloc (.cells #[.int .i64 r, .int .i64 r, .slice (some ⟨gm, 0, none⟩) N dm] 26) = w4 at b4 XM4 IX4 s4 hL ⊢
  have XA4 := XA3.below b4 (by omega)
  have B4 := B3.trans (b4.mono B3.size)
  have OM4 := OM3.kept (below_grew b4) (fun q hq => by cases hq)
  have b5 : Below w4.heap.size w4 (w4.alloc (.cells #[] 38)) := (by repeat first | (with_reducible exact Below.refl _ _) | (with_reducible refine Below.setCell ?_ (by first | exact Nat.le_refl _ | (simp; done) | (simp; omega) | omega) _) | (with_reducible refine Below.alloc ?_ (by first | exact Nat.le_refl _ | (simp; done) | (simp; omega) | omega) _) | (with_reducible refine below_drewN ?_ _) | (with_reducible refine Below.drew ?_))
  have XM5 := XM4.below b5 (by omega)
  have XA5 := XA4.below b5 (by omega)
  have OM5 := OM4.kept (below_grew b5) (fun q hq => by cases hq)
  have B5 := B4.trans (b5.mono B4.size)
  have IX5 : ∀ i, (w4.alloc (.cells #[] 38)).frozen? ⟨w3.heap.size, i, none⟩ = false := fun i => (b5.frozen (p := ⟨w3.heap.size, i, none⟩) (by show w3.heap.size < w4.heap.size; omega)).trans (IX4 i)
  obtain ⟨mb, hmb⟩ : ∃ mb, mb = w3.heap.size := ⟨_, rfl⟩
  have s4' : w4.heap.size = mb + 1 := by rw [hmb]; exact s4
  rw [s4'] at hL
  rw [← hmb] at XM5 IX5 ⊢
  have s5 : mb < (w4.alloc (.cells #[] 38)).heap.size := by have := b5.size; omega
  have hgl : mb + 1 ≠ mb := by omega
  have hgm4 : gm ≠ mb + 1 := by omega
  have hgmb : gm ≠ mb := by omega
  have hwmb : w.heap.size < mb := by omega
  have hgml : w.heap.size < gm := by omega
  clear b4 b5 XA3 XA4 OM3 OM4 B3 B4 IX4 XM4 hw4 hmb s4'
  go_loopw [5, 6] (fun v i wr => ∃ (k k1 : Nat) (s : (Nat → Nat) × (Nat → Nat)) (xs : List Value) (g cp gm dm : Nat), k ≤ r ∧ k1 = k + 1 ∧ v = .slice (some ⟨g, 0, none⟩) k cp ∧ i = .int .i64 k1 ∧ sgS r N Z k = some s ∧ wr.ownsRow w.heap.size 38 1 (.slice (some ⟨g, 0, none⟩) k cp) k xs ∧ (∀ t, t < k → xs[t]? = some (.float .f32 (s.2 t))) ∧ (∀ t, t < k → FV .f32 (s.2 t) (some (s.2 t))) ∧ (∀ t, t < k → finite .f32 (some (s.2 t)) = true) ∧ Box wr mb r r (some ⟨gm, 0, none⟩) N dm ∧ Own 38 .f32 gm (gm + 1) wr (some ⟨gm, 0, none⟩) N dm s.1 ∧ allFin (vals s.1) N = true ∧ gm ≠ g ∧ g ≠ mb ∧ gm ≠ mb ∧ w.heap.size < gm ∧ w.heap.size < g ∧ (∀ i, wr.frozen? ⟨mb, i, none⟩ = false) ∧ Box wr w.heap.size r r (some ⟨p1, o1, none⟩) N d1 ∧ Below w.heap.size w wr ∧ mb < wr.heap.size) (fun _ i _ => r + 1 - (intOf i).toNat)
  case atStart => exact ⟨0, 1, (Z, fun _ => 0), [], mb + 1, 0, gm, dm, Nat.zero_le _, rfl, rfl, rfl, rfl, by simpa using hL, fun t ht => absurd ht (Nat.not_lt_zero _), fun t ht => absurd ht (Nat.not_lt_zero _), fun t ht => absurd ht (Nat.not_lt_zero _), XM5, OM5, HFZ.out, hgm4, hgl, hgmb, hgml, by omega, IX5, XA5, B5, s5⟩
  case round =>
    obtain ⟨k, k1, s, xs, g, cp, gm, dm, hk, hk1, rfl, rfl, hst, OL, hxs, hnum, hfin, XM, OM, hgs, ne1, ne2, ne3, lwm, lwg, IX, XA, Br, sr⟩ := hrel
    clear XM5 XA5 OM5 B5 IX5 hL s5 hgl hgm4 hgmb hgml s4
    obtain ⟨x0, x1, x2⟩ := XA
    have XA : Box wr w.heap.size r r (some ⟨p1, o1, none⟩) N d1 := ⟨x0, x1, x2⟩
    by_cases hlt : k < r
    · obtain ⟨o, ho⟩ : ∃ o, o = (if k = 0 then some s.1 else sgP r N Z s.1 (s.2 (k - 1))) := ⟨_, rfl⟩
      have HS0 := Lib.hid (sg_step hst ho)
      have hle : (k1 : Int) ≤ (r : Int) := by omega
      by_cases hk0 : k = 0
      · have HS : Hid (sgS r N Z (k + 1) = sgN r k s (some s.1)) := Lib.hid (by rw [HS0.out, ho, if_pos hk0])
        have hk00 : Hid (k = 0) := Lib.hid hk0
        obtain ⟨wx, rfl⟩ : ∃ wx, wx = wr := ⟨_, rfl⟩
        obtain ⟨D, hDe⟩ : ∃ D, D = s.1 := ⟨_, rfl⟩
        rw [← hDe] at HS OM hgs
        have hD := hgs
        have Bx := Br
        have sx := sr
        have hkl : k1 < 2 := by omega
        have HK1 := Lib.hid hk1
        clear hk1 hst ho HS0 hDe hgs Br sr hk0 x1 x2
        obtain ⟨v0, v1, v2⟩ := XM
        go_wp2_with fail
        go_at_call 61
        refine (specTrace_any _ _ (some ⟨gm, 0, none⟩) N dm D _ (by omega) OM.fs).mono ?_
        rintro e wt ⟨rq, rfl, frq, bt⟩
        have Bt := Bx.trans (bt.mono Bx.size)
        have htk : traceOk (r : Int) (r : Int) N D = finite .f32 (sgT r D) := trace_some h1 h12 HN.out hD
        have htv : finite .f32 (sgT r D) = true → traceV (r : Int) (r : Int) N D = sgT r D := fun hh => by unfold traceV; rw [htk, hh]; rfl
        rw [htk]
        cases hf : finite .f32 (sgT r D) with
        | false =>
          have hnone : Hid (sgS r N Z r = none) := Lib.hid (by have := sg_none (j := k + 1) (by rw [HS.out]; show (if finite .f32 (sgT r D) = true then _ else none) = none; rw [hf]; rfl) (r - (k + 1)); rwa [show k + 1 + (r - (k + 1)) = r by omega] at this)
          clear v0 v1 v2 frq bt OM IX XA htk htv hf OL
          go_wp2_with fail
          go_ret2
          show SgIfB (sgS r N Z r) r w _ _
          rw [hnone.out]
          exact NumsBel.noG (by repeat first | (with_reducible exact Bt) | (with_reducible refine Below.setCell ?_ (by first | exact Nat.le_refl _ | (simp; done) | (simp; omega) | omega) _) | (with_reducible refine Below.alloc ?_ (by first | exact Nat.le_refl _ | (simp; done) | (simp; omega) | omega) _) | (with_reducible refine below_drewN ?_ _) | (with_reducible refine Below.drew ?_))
        | true =>
          rw [htv hf] at frq
          have hwx : ∀ x, sgT r D = some x → x < 4294967296 := fun x hx => by rw [hx] at frq; have := lt32 frq.2; have := frq.eq; omega
          have hsf := sgV_fin (k := k) (by omega) hf hwx
          have hz0' : sgV k (sgT r D) = fneg .f32 (sgT r D) := by rw [hk00.out]; exact sgV_zero hf hwx
          obtain ⟨TT, hTT⟩ : ∃ TT, TT = sgV k (sgT r D) := ⟨_, rfl⟩
          have HSN : Hid (sgS r N Z (k + 1) = some (D, fun t => if t = k then datG (fun _ => TT) 0 else s.2 t)) := Lib.hid (by rw [HS.out]; show (if finite .f32 (sgT r D) = true then _ else none) = _; rw [if_pos hf, hTT])
          have st := bt.size
          have XM2 : Box wt mb r r (some ⟨gm, 0, none⟩) N dm := Box.below (show Box wx mb r r (some ⟨gm, 0, none⟩) N dm from ⟨v0, v1, v2⟩) bt sx
          have OM2 := OM.kept (below_grew bt) (fun q hq => by cases hq)
          have OL2 := ownsRow_below OL bt
          have IX2 : ∀ i, wt.frozen? ⟨mb, i, none⟩ = false := fun i => (bt.frozen (p := ⟨mb, i, none⟩) (by show mb < wx.heap.size; omega)).trans (IX i)
          have XA2 := XA.below bt (by omega)
          have HFV : Hid (∀ r5, FV .f32 r5 TT → r5 = datG (fun _ => TT) 0 ∧ FV .f32 r5 (some r5) ∧ finite .f32 (some r5) = true) := Lib.hid fun r5 h5 => by
            have h6 : FV .f32 r5 ((fun _ => TT) 0) := h5
            have h7 : finite .f32 ((fun _ => TT) 0) = true := by rw [hTT]; exact hsf
            refine ⟨datG_of (V := fun _ => TT) h6 h7, ?_⟩
            have h8 := h6.1
            have h9 : finite .f32 (cn .f32 r5) = true := by rw [h8]; exact h7
            have h10 := (cn_fin h9).1
            exact ⟨⟨h10, h5.2⟩, by rw [← h10]; exact h9⟩
          obtain ⟨i0, hi, hz0, hz1, hz2⟩ := info_parts info32
          have HXM := Lib.hid XM2
          have HOM := Lib.hid OM2
          have HIX := Lib.hid IX2
          have HXA := Lib.hid XA2
          have HNU := Lib.hid hnum
          have HXS := Lib.hid hxs
          have HFI := Lib.hid hfin
          have HGD := Lib.hid hD
          have hlw : w.heap.size < wt.heap.size := by omega
          have hgw : g < wt.heap.size := (OL2.lt g rfl).2
          obtain ⟨_, _, m1', m2', m3', _⟩ := OM2.cell hpos
          have xa0 := XA2.1
          have frn : FV .f32 (Op.negFloat .f32 rq) TT := by rw [hTT, hz0']; exact FV.neg frq
          have hk11 : ¬ ((1 : Int) < (k1 : Int)) := by omega
          clear v0 v1 v2 OM OM2 XM2 IX2 XA2 IX XA htk htv hsf hwx hD hnum hfin hxs Bx OL
          go_wp2_with (first
            | (at_builtin
               refine wpList_append_lies _ rfl _ _ _ rfl w.heap.size 38 i0 _ 1 4 Try.underlying22 hi hz0 hz1 hz2 rfl (by omega) (.slice (some ⟨g, 0, none⟩) k cp) k xs rfl (by exact ownsRow_below OL2 (by repeat first | (with_reducible exact Below.refl _ _) | (with_reducible refine Below.setCell ?_ (by first | exact Nat.le_refl _ | (simp; done) | (simp; omega) | omega) _) | (with_reducible refine Below.alloc ?_ (by first | exact Nat.le_refl _ | (simp; done) | (simp; omega) | omega) _) | (with_reducible refine below_drewN ?_ _) | (with_reducible refine Below.drew ?_))) ⟨wt.heap.size, 0, none⟩ 1 1 [.float .f32 (Op.negFloat .f32 rq)] rfl rfl
                 (by exact World.news_of_block (cs := #[.float .f32 (Op.negFloat .f32 rq)]) (t := 38) (fr := (0, 0)) (heap_alloc_new _ _)) (by simp [Value.oneCell']) (by omega) (by unfold maxLen; omega) (by omega) (by simp [World.drewN]; omega) (wt.heap.size + 1) (by simp [World.drewN]) ?_
               intro gg cp2 w9 hown9 hgrow9 hat9 hlt9))
          obtain ⟨e5, f5, fi5⟩ := HFV.out _ frn
          have hgg : gg = g ∨ wt.heap.size ≤ gg := by
            rcases hat9 with e | e
            · left; simpa [Value.ownBlock] using e.symm
            · right; (try simp [World.drewN] at e); omega
          have hrow : ∀ q, (Value.slice (some ⟨g, 0, none⟩) k cp).ownBlock = some q → q = g := fun q hq => by simpa [Value.ownBlock] using hq.symm
          have ba : Below wt.heap.size wt ((wt.alloc (.cells #[.float .f32 (Op.negFloat .f32 rq)] 38))) := (by repeat first | (with_reducible exact Below.refl _ _) | (with_reducible refine Below.setCell ?_ (by first | exact Nat.le_refl _ | (simp; done) | (simp; omega) | omega) _) | (with_reducible refine Below.alloc ?_ (by first | exact Nat.le_refl _ | (simp; done) | (simp; omega) | omega) _) | (with_reducible refine below_drewN ?_ _) | (with_reducible refine Below.drew ?_))
          have X9 := Lib.hid ((HXM.out.below ba (by omega)).grown hgrow9 (by have := ba.size; omega) (fun q hq => by have := hrow q hq; omega))
          have A9 := Lib.hid ((HXA.out.below ba (by omega)).grown hgrow9 (by have := ba.size; omega) (fun q hq => by have := hrow q hq; have := (OL2.lt g rfl).1; omega))
          have O9 := Lib.hid ((HOM.out.kept (below_grew ba) (fun q hq => by cases hq)).kept hgrow9 (fun q hq => by have := hrow q hq; omega))
          have I9 : Hid (∀ i, w9.frozen? ⟨mb, i, none⟩ = false) := Lib.hid fun i => (World.frozen?_of_block (a := ⟨mb, i, none⟩) (hgrow9.block mb (by have := ba.size; show mb < _; omega) (fun e => by have := hrow mb e.symm; omega))).trans ((ba.frozen (p := ⟨mb, i, none⟩) (by show mb < wt.heap.size; omega)).trans (HIX.out i))
          have B9 := Lib.hid ((Bt.trans (ba.mono Bt.size)).grown hgrow9 (Bt.trans (ba.mono Bt.size)).size (fun q hq => by have := hrow q hq; have := (OL2.lt g rfl).1; omega))
          have S9 := Lib.hid (show mb < w9.heap.size by have := ba.size; have := hgrow9.size; omega)
          have hlen : xs.length = k := by simpa using OL2.1
          have HX9 : Hid (∀ t, t < k + 1 → (xs ++ [Value.float .f32 (Op.negFloat .f32 rq)])[t]? = some (.float .f32 (if t = k then datG (fun _ => TT) 0 else s.2 t))) := Lib.hid fun t ht => by
            by_cases e : t = k
            · subst e
              rw [List.getElem?_append_right (by omega), hlen, if_pos rfl, ← e5]; simp
            · rw [List.getElem?_append_left (by omega), if_neg e]; exact HXS.out t (by omega)
          have HN9 : Hid (∀ t, t < k + 1 → FV .f32 (if t = k then datG (fun _ => TT) 0 else s.2 t) (some (if t = k then datG (fun _ => TT) 0 else s.2 t))) := Lib.hid fun t ht => by
            by_cases e : t = k
            · rw [if_pos e, ← e5]; exact f5
            · rw [if_neg e]; exact HNU.out t (by omega)
          have HF9 : Hid (∀ t, t < k + 1 → finite .f32 (some (if t = k then datG (fun _ => TT) 0 else s.2 t)) = true) := Lib.hid fun t ht => by
            by_cases e : t = k
            · rw [if_pos e, ← e5]; exact fi5
            · rw [if_neg e]; exact HFI.out t (by omega)
          have HO9 := Lib.hid hown9
          have hgm9 : gm ≠ gg := by rcases hgg with e | e <;> omega
          have hmb9 : gg ≠ mb := by rcases hgg with e | e <;> omega
          have hwg9 : w.heap.size < gg := by rcases hgg with e | e <;> omega
          clear hown9 hgrow9 hat9 hlt9 ba hrow hgg OL2 xa0
          go_wp2
          go_roundw
          case rel => exact ⟨k + 1, k1 + 1, (D, fun t => if t = k then datG (fun _ => TT) 0 else s.2 t), _, gg, cp2, gm, dm, by omega, by have := HK1.out; omega, rfl, by go_num, HSN.out, HO9.out, HX9.out, HN9.out, HF9.out, X9.out, O9.out, HGD.out, hgm9, hmb9, ne3, lwm, hwg9, I9.out, A9.out, B9.out, S9.out⟩
          case measure => simp [intOf] <;> omega
      · have HK0 := Lib.hid hk0
        obtain ⟨j, hj⟩ : ∃ j, k = j + 1 := ⟨k - 1, by omega⟩
        have ho' : o = sgP r N Z s.1 (s.2 j) := by rw [ho, if_neg hk0, hj]; rfl
        have fl := hnum j (by omega)
        have hcl : wr.cell? ⟨g, j, none⟩ = some (.float .f32 (s.2 j)) := by rw [OL.cellAt j (by omega)]; exact hxs j (by omega)
        have hgw := (OL.lt g rfl).2
        have hw2 : IntKind.i64.wrap ((k1 : Int) - 2) = (j : Int) := by rw [IntWalk.i64_in _ (by omega)]; omega
        have hkl : 2 ≤ k1 := by omega
        have hjk : j < k := by omega
        obtain ⟨ll, hll⟩ : ∃ ll, ll = s.2 j := ⟨_, rfl⟩
        rw [← hll] at hcl fl ho'
        have HJ := Lib.hid hj
        have HK1 := Lib.hid hk1
        clear ho hj hk0 hst hll hk1
        obtain ⟨wo, rfl⟩ : ∃ wo, wo = wr := ⟨_, rfl⟩
        go_wp2
        go_loopw [7] (fun i wr2 => ∃ (q : Nat) (X : Nat → Nat), q ≤ r ∧ i = .int .i64 q ∧ (∀ t, t < N → vals X t = diagJ r (vals s.1) (some ll) q t) ∧ Own 38 .f32 gm (gm + 1) wr2 (some ⟨gm, 0, none⟩) N dm X ∧ wo.grownBy wr2 (some gm)) (fun i _ => r - (intOf i).toNat)
        case atStart => exact ⟨0, s.1, Nat.zero_le _, rfl, fun t ht => diagJ_zero, OM, World.grownBy.refl _ _⟩
        case round =>
          obtain ⟨q, X, hq, rfl, hv, om, hg⟩ := hrel
          have sg := hg.size
          have hgma : w.heap.size < gm := by omega
          have XM2 := XM.grown hg sr (fun q hq => by cases hq; omega)
          have XA2 := XA.grown hg (by omega) (fun q hq => by cases hq; omega)
          by_cases hlt2 : q < r
          · have hpl : q * r + q < N := by rw [HN.out]; exact place_lt hlt2 hlt2
            obtain ⟨hce, hfr, _, _, q3, hw⟩ := om.cell hpl
            have fx : FV .f32 (X (q * r + q)) (vals X (q * r + q)) := FV.mk' hw
            have hcl3 := (World.cell?_of_block (a := ⟨g, j, none⟩) (hg.block g hgw (fun e => by have := Option.some.inj e; omega))).trans hcl
            obtain ⟨y0, y1, y2⟩ := XM2
            obtain ⟨a0, a1, a2⟩ := XA2
            obtain ⟨K, hK⟩ : ∃ K, K = q * r + q := ⟨_, rfl⟩
            obtain ⟨L, hL⟩ : ∃ L, L = q * r := ⟨_, rfl⟩
            have hM1 : IntKind.i64.wrap ((q : Int) * (r : Int)) = (L : Int) := by
              rw [← Int.natCast_mul, ← hL]; exact IntWalk.i64_in _ (by omega)
            have hM2 : IntKind.i64.wrap ((L : Int) + (q : Int)) = (K : Int) := by
              rw [hK, ← hL, ← Int.natCast_add]; exact IntWalk.i64_in _ (by omega)
            have HVN : Hid (∀ v, FV .f32 v (fop .add .f32 (vals X K) (some ll)) → ∀ t, t < N → vals (fun t => if t = K then v else X t) t = diagJ r (vals s.1) (some ll) (q + 1) t) := Lib.hid fun v hv5 => by rw [hK] at hv5 ⊢; exact diagJ_step hlt2 hv hpl hv5
            have hKN : K < N := by rw [hK]; exact hpl
            rw [← hK] at hce hfr fx
            have lmb : mb < wr.heap.size := by omega
            have lwa : w.heap.size < wr.heap.size := by omega
            have lg : g < wr.heap.size := by omega
            have lgm : gm < wr.heap.size := by omega
            have HOM := Lib.hid om
            have HG := Lib.hid hg
            clear hv om hg hL hK hpl hw
            obtain ⟨x, hx⟩ : ∃ x, x = X K := ⟨_, rfl⟩
            rw [← hx] at hce fx
            clear hx
            go_wp2
            generalize hw0 : wr = w0 at y0 y1 y2 a0 a1 a2 hce hfr hcl3 lmb lwa lg lgm HOM HG q3 sg ⊢
            (refine wp_region_kinds (fun w' => Below w0.heap.size w0 w') (fun i => if i = 23 then 1 else 0) 25 (below_drewN (Below.refl _ _) 1) (by kernel_rfl) (by kernel_rfl) (by kernel_rfl) ?_; simp only [List.take_succ_cons, List.take_zero, List.drop_succ_cons, List.drop_zero])
            ((with_reducible refine wpKinds_run (.pointer (some ⟨mb, 2, none⟩)) ?hwant ?hkind ?hrun ?_); (case hwant => first | (simp [Region.wanted, yielded]; done) | rfl); (case hkind => rfl); (case hrun => intro W hW; simp [go_sem, BigFrame.eval_const, BigFrame.eval_global, BigFrame.eval_func]); simp only [Act.put, List.setIfInBounds_toArray, List.set_cons_succ, List.set_cons_zero])
            ((with_reducible refine wpKinds_run (.slice (some ⟨gm, 0, none⟩) N dm) ?hwant ?hkind ?hrun ?_); (case hwant => first | (simp [Region.wanted, yielded]; done) | rfl); (case hkind => rfl); (case hrun => intro W hW; have hcell := (hW.cell (p := _) (by assumption)).trans y2; simp [go_sem, BigFrame.eval_const, BigFrame.eval_global, BigFrame.eval_func, hcell]); simp only [Act.put, List.setIfInBounds_toArray, List.set_cons_succ, List.set_cons_zero])
            ((with_reducible refine wpKinds_plain ?hwant ?hkind ?hplain (fun K hK => ?_)); (case hwant => first | (simp [Region.wanted, yielded]; done) | rfl); (case hkind => rfl); (case hplain => rfl); go_big_quiet_op; (first | refine hK _ ?_ | refine ⟨_, fun _ _ => rfl, hK _ ?_⟩); clear hK K)
            ((with_reducible refine wpKinds_run (.pointer (some ⟨w.heap.size, 0, none⟩)) ?hwant ?hkind ?hrun ?_); (case hwant => first | (simp [Region.wanted, yielded]; done) | rfl); (case hkind => rfl); (case hrun => intro W hW; simp [go_sem, BigFrame.eval_const, BigFrame.eval_global, BigFrame.eval_func]); simp only [Act.put, List.setIfInBounds_toArray, List.set_cons_succ, List.set_cons_zero])
            ((with_reducible refine wpKinds_run (.int .i64 r) ?hwant ?hkind ?hrun ?_); (case hwant => first | (simp [Region.wanted, yielded]; done) | rfl); (case hkind => rfl); (case hrun => intro W hW; have hcell := (hW.cell (p := _) (by assumption)).trans a0; simp [go_sem, BigFrame.eval_const, BigFrame.eval_global, BigFrame.eval_func, hcell]); simp only [Act.put, List.setIfInBounds_toArray, List.set_cons_succ, List.set_cons_zero])
            ((with_reducible refine wpKinds_run (.int .i64 L) ?hwant ?hkind ?hrun ?_); (case hwant => first | (simp [Region.wanted, yielded]; done) | rfl); (case hkind => rfl); (case hrun => intro W hW; simp [go_sem, BigFrame.eval_const, BigFrame.eval_global, BigFrame.eval_func, hM1]); simp only [Act.put, List.setIfInBounds_toArray, List.set_cons_succ, List.set_cons_zero])
            ((with_reducible refine wpKinds_plain ?hwant ?hkind ?hplain (fun K hK => ?_)); (case hwant => first | (simp [Region.wanted, yielded]; done) | rfl); (case hkind => rfl); (case hplain => rfl); go_big_quiet_op; (first | refine hK _ ?_ | refine ⟨_, fun _ _ => rfl, hK _ ?_⟩); clear hK K)
            ((with_reducible refine wpKinds_run (.int .i64 K) ?hwant ?hkind ?hrun ?_); (case hwant => first | (simp [Region.wanted, yielded]; done) | rfl); (case hkind => rfl); (case hrun => intro W hW; simp [go_sem, BigFrame.eval_const, BigFrame.eval_global, BigFrame.eval_func, hM2]); simp only [Act.put, List.setIfInBounds_toArray, List.set_cons_succ, List.set_cons_zero])
            ((with_reducible refine wpKinds_run (.pointer (some ⟨mb, 2, none⟩)) ?hwant ?hkind ?hrun ?_); (case hwant => first | (simp [Region.wanted, yielded]; done) | rfl); (case hkind => rfl); (case hrun => intro W hW; simp [go_sem, BigFrame.eval_const, BigFrame.eval_global, BigFrame.eval_func]); simp only [Act.put, List.setIfInBounds_toArray, List.set_cons_succ, List.set_cons_zero])
            ((with_reducible refine wpKinds_run (.slice (some ⟨gm, 0, none⟩) N dm) ?hwant ?hkind ?hrun ?_); (case hwant => first | (simp [Region.wanted, yielded]; done) | rfl); (case hkind => rfl); (case hrun => intro W hW; have hcell := (hW.cell (p := _) (by assumption)).trans y2; simp [go_sem, BigFrame.eval_const, BigFrame.eval_global, BigFrame.eval_func, hcell]); simp only [Act.put, List.setIfInBounds_toArray, List.set_cons_succ, List.set_cons_zero])
            ((with_reducible refine wpKinds_plain ?hwant ?hkind ?hplain (fun K hK => ?_)); (case hwant => first | (simp [Region.wanted, yielded]; done) | rfl); (case hkind => rfl); (case hplain => rfl); go_big_quiet_op; (first | refine hK _ ?_ | refine ⟨_, fun _ _ => rfl, hK _ ?_⟩); clear hK K)
            ((with_reducible refine wpKinds_run (.pointer (some ⟨w.heap.size, 0, none⟩)) ?hwant ?hkind ?hrun ?_); (case hwant => first | (simp [Region.wanted, yielded]; done) | rfl); (case hkind => rfl); (case hrun => intro W hW; simp [go_sem, BigFrame.eval_const, BigFrame.eval_global, BigFrame.eval_func]); simp only [Act.put, List.setIfInBounds_toArray, List.set_cons_succ, List.set_cons_zero])
            ((with_reducible refine wpKinds_run (.int .i64 r) ?hwant ?hkind ?hrun ?_); (case hwant => first | (simp [Region.wanted, yielded]; done) | rfl); (case hkind => rfl); (case hrun => intro W hW; have hcell := (hW.cell (p := _) (by assumption)).trans a0; simp [go_sem, BigFrame.eval_const, BigFrame.eval_global, BigFrame.eval_func, hcell]); simp only [Act.put, List.setIfInBounds_toArray, List.set_cons_succ, List.set_cons_zero])
            ((with_reducible refine wpKinds_run (.int .i64 L) ?hwant ?hkind ?hrun ?_); (case hwant => first | (simp [Region.wanted, yielded]; done) | rfl); (case hkind => rfl); (case hrun => intro W hW; simp [go_sem, BigFrame.eval_const, BigFrame.eval_global, BigFrame.eval_func, hM1]); simp only [Act.put, List.setIfInBounds_toArray, List.set_cons_succ, List.set_cons_zero])
            ((with_reducible refine wpKinds_plain ?hwant ?hkind ?hplain (fun K hK => ?_)); (case hwant => first | (simp [Region.wanted, yielded]; done) | rfl); (case hkind => rfl); (case hplain => rfl); go_big_quiet_op; (first | refine hK _ ?_ | refine ⟨_, fun _ _ => rfl, hK _ ?_⟩); clear hK K)
            ((with_reducible refine wpKinds_run (.int .i64 K) ?hwant ?hkind ?hrun ?_); (case hwant => first | (simp [Region.wanted, yielded]; done) | rfl); (case hkind => rfl); (case hrun => intro W hW; simp [go_sem, BigFrame.eval_const, BigFrame.eval_global, BigFrame.eval_func, hM2]); simp only [Act.put, List.setIfInBounds_toArray, List.set_cons_succ, List.set_cons_zero])
            ((with_reducible refine wpKinds_run (.pointer (some ⟨gm, K, none⟩)) ?hwant ?hkind ?hrun ?_); (case hwant => first | (simp [Region.wanted, yielded]; done) | rfl); (case hkind => rfl); (case hrun => intro W hW; simp [go_sem, BigFrame.eval_const, BigFrame.eval_global, BigFrame.eval_func, hKN]); simp only [Act.put, List.setIfInBounds_toArray, List.set_cons_succ, List.set_cons_zero])
            ((with_reducible refine wpKinds_run (.float .f32 x) ?hwant ?hkind ?hrun ?_); (case hwant => first | (simp [Region.wanted, yielded]; done) | rfl); (case hkind => rfl); (case hrun => intro W hW; have hcell := (hW.cell (p := _) (by assumption)).trans hce; simp [go_sem, BigFrame.eval_const, BigFrame.eval_global, BigFrame.eval_func, hcell]); simp only [Act.put, List.setIfInBounds_toArray, List.set_cons_succ, List.set_cons_zero])
            ((with_reducible refine wpKinds_plain ?hwant ?hkind ?hplain (fun K hK => ?_)); (case hwant => first | (simp [Region.wanted, yielded]; done) | rfl); (case hkind => rfl); (case hplain => rfl); go_big_quiet_op; (first | refine hK _ ?_ | refine ⟨_, fun _ _ => rfl, hK _ ?_⟩); clear hK K)
            ((with_reducible refine wpKinds_plain ?hwant ?hkind ?hplain (fun K hK => ?_)); (case hwant => first | (simp [Region.wanted, yielded]; done) | rfl); (case hkind => rfl); (case hplain => rfl); go_big_quiet_op; (first | refine hK _ ?_ | refine ⟨_, fun _ _ => rfl, hK _ ?_⟩); clear hK K)
            ((with_reducible refine wpKinds_run (.int .i64 j) ?hwant ?hkind ?hrun ?_); (case hwant => first | (simp [Region.wanted, yielded]; done) | rfl); (case hkind => rfl); (case hrun => intro W hW; simp [go_sem, BigFrame.eval_const, BigFrame.eval_global, BigFrame.eval_func, hw2]); simp only [Act.put, List.setIfInBounds_toArray, List.set_cons_succ, List.set_cons_zero])
            ((with_reducible refine wpKinds_run (.pointer (some ⟨g, j, none⟩)) ?hwant ?hkind ?hrun ?_); (case hwant => first | (simp [Region.wanted, yielded]; done) | rfl); (case hkind => rfl); (case hrun => intro W hW; simp [go_sem, BigFrame.eval_const, BigFrame.eval_global, BigFrame.eval_func, hjk]); simp only [Act.put, List.setIfInBounds_toArray, List.set_cons_succ, List.set_cons_zero])
            ((with_reducible refine wpKinds_run (.float .f32 ll) ?hwant ?hkind ?hrun ?_); (case hwant => first | (simp [Region.wanted, yielded]; done) | rfl); (case hkind => rfl); (case hrun => intro W hW; have hcell := (hW.cell (p := _) (by assumption)).trans hcl3; simp [go_sem, BigFrame.eval_const, BigFrame.eval_global, BigFrame.eval_func, hcell]); simp only [Act.put, List.setIfInBounds_toArray, List.set_cons_succ, List.set_cons_zero])
            refine wpKinds_farith (fun W m hW => below_drewN hW m) rfl rfl _ _ _ _ _ rfl rfl _ _ _ rfl rfl fx fl (fun r5 hr5 => ?_)
            simp only [Act.put, List.setIfInBounds_toArray, List.set_cons_succ, List.set_cons_zero]
            ((with_reducible refine wpKinds_run (.pointer (some ⟨gm, K, none⟩)) ?hwant ?hkind ?hrun ?_); (case hwant => first | (simp [Region.wanted, yielded]; done) | rfl); (case hkind => rfl); (case hrun => intro W hW; simp [go_sem, BigFrame.eval_const, BigFrame.eval_global, BigFrame.eval_func, hKN]); simp only [Act.put, List.setIfInBounds_toArray, List.set_cons_succ, List.set_cons_zero])
            refine wpKinds_nil ?_
            intro w6 hC
            have om6 := HOM.out.kept (below_grew hC) (fun q hq => by cases hq)
            obtain ⟨O7, G7⟩ := om6.stored hKN hr5.2
            have hst7 := Lib.hid O7
            have hg7 := Lib.hid (grownBy_trans (grownBy_trans HG.out ⟨hC.os, hC.tape, hC.output, hC.size, fun q hq _ => hC.block q hq⟩) G7)
            obtain ⟨hce6, hfr6, _⟩ := om6.cell hKN
            have hvn := Lib.hid (HVN.out r5 hr5)
            generalize X K = old at hce6
            clear O7 G7 om6 HOM HG hC y0 y1 y2 a0 a1 a2 hce hfr hcl3 hM1 hM2 HVN fx hw0
            go_wp2_with fail
            go_roundw
            case rel => exact ⟨q + 1, _, by omega, by go_num, hvn.out, hst7.out, hg7.out⟩
            case measure => simp [intOf] <;> omega
          · obtain rfl : q = r := by omega
            have hsg : ∀ t, t < N → vals X t = sgW q s.1 ll t := fun t ht => (hv t ht).trans (diagJ_all HN.out ht)
            have OL2 := OL.kept hg (.inr (fun e => by simp [Value.ownBlock] at e; omega))
            have IX2 : ∀ i, wr.frozen? ⟨mb, i, none⟩ = false := fun i => (World.frozen?_of_block (a := ⟨mb, i, none⟩) (hg.block mb sr (fun e => by have := Option.some.inj e; omega))).trans (IX i)
            have Br2 := Br.grown hg Br.size (fun q hq => by cases hq; omega)
            obtain ⟨y0, y1, y2⟩ := XM2
            obtain ⟨a0, a1, a2⟩ := XA2
            have lmb : mb < wr.heap.size := by omega
            clear hv OL IX Br XM XA OM hcl hw2 x0 x1 x2
            go_wp2_with fail
            go_at_call 52
            refine (mulG_S h1 h12 HN.out Z s.1 X ll HFZ.out p1 o1 d1 gm dm _ (h.below Br2 (Nat.le_refl _)) om.fs hsg).mono ?_
            rw [← ho']
            clear ho'
            rintro e w8 ⟨g8, d8, rfl, hown8, b8⟩
            have s8 := b8.size
            have B8 := Br2.trans (b8.mono Br2.size)
            cases o with
            | none =>
              have hnone : Hid (sgS q N Z q = none) := Lib.hid (by have := sg_none (j := k + 1) (by rw [HS0.out]; rfl) (q - (k + 1)); rwa [show k + 1 + (q - (k + 1)) = q by omega] at this)
              have c8 : Below w8.heap.size w8 (w8.alloc (.cells #[.int .i64 (sR q none), .int .i64 (sR q none), .slice g8 (sNn N none) d8] 26)) := (by repeat first | (with_reducible exact Below.refl _ _) | (with_reducible refine Below.setCell ?_ (by first | exact Nat.le_refl _ | (simp; done) | (simp; omega) | omega) _) | (with_reducible refine Below.alloc ?_ (by first | exact Nat.le_refl _ | (simp; done) | (simp; omega) | omega) _) | (with_reducible refine below_drewN ?_ _) | (with_reducible refine Below.drew ?_))
              have C8 := b8.trans (c8.mono b8.size)
              have sc := c8.size
              have XM8 : Box (w8.alloc (.cells #[.int .i64 (sR q none), .int .i64 (sR q none), .slice g8 (sNn N none) d8] 26)) mb q q (some ⟨gm, 0, none⟩) N dm := Box.below ⟨y0, y1, y2⟩ C8 lmb
              have XF8 := Box.new w8 26 (sR q none) (sR q none) g8 (sNn N none) d8
              have IX8 : ∀ i, (w8.alloc (.cells #[.int .i64 (sR q none), .int .i64 (sR q none), .slice g8 (sNn N none) d8] 26)).frozen? ⟨mb, i, none⟩ = false := fun i => (C8.frozen (p := ⟨mb, i, none⟩) lmb).trans (IX2 i)
              have G8 := putG_grown (w8.alloc (.cells #[.int .i64 (sR q none), .int .i64 (sR q none), .slice g8 (sNn N none) d8] 26)) mb (sR q none) (sR q none) g8 (sNn N none) d8
              have Bx := Lib.hid ((B8.trans (c8.mono B8.size)).grown G8 (B8.trans (c8.mono B8.size)).size (fun q hq => by cases hq; omega))
              obtain ⟨v0, v1, v2⟩ := XM8
              obtain ⟨u0, u1, u2⟩ := XF8
              have hk11' : ¬ (k1 < 2) := by omega
              clear y0 y1 y2 a0 a1 a2 IX2 OL2 om b8 hown8 c8 C8 G8 hg Br2 hsg
              go_wp2_with fail
              go_ret2
              show SgIfB (sgS q N Z q) q w _ _
              rw [hnone.out]
              exact NumsBel.noG (by repeat first | (with_reducible exact B8) | (with_reducible refine Below.setCell ?_ (by first | exact Nat.le_refl _ | (simp; done) | (simp; omega) | omega) _) | (with_reducible refine Below.alloc ?_ (by first | exact Nat.le_refl _ | (simp; done) | (simp; omega) | omega) _) | (with_reducible refine below_drewN ?_ _) | (with_reducible refine Below.drew ?_))
            | some D =>
              obtain ⟨O8, hD⟩ := hown8 D rfl
              obtain ⟨gq, rfl⟩ := O8.addrG hpos
              simp only [show sR q (some D) = (q : Int) from rfl, show sNn N (some D) = N from rfl]
              obtain ⟨_, _, t1, t2, t3, _⟩ := O8.cell hpos
              have O8t := Own.tight O8 hpos
              have c8 : Below w8.heap.size w8 (w8.alloc (.cells #[.int .i64 (q : Int), .int .i64 (q : Int), .slice (some ⟨gq, 0, none⟩) N d8] 26)) := (by repeat first | (with_reducible exact Below.refl _ _) | (with_reducible refine Below.setCell ?_ (by first | exact Nat.le_refl _ | (simp; done) | (simp; omega) | omega) _) | (with_reducible refine Below.alloc ?_ (by first | exact Nat.le_refl _ | (simp; done) | (simp; omega) | omega) _) | (with_reducible refine below_drewN ?_ _) | (with_reducible refine Below.drew ?_))
              have C8 := b8.trans (c8.mono b8.size)
              have sc := c8.size
              have XM8 : Box (w8.alloc (.cells #[.int .i64 (q : Int), .int .i64 (q : Int), .slice (some ⟨gq, 0, none⟩) N d8] 26)) mb q q (some ⟨gm, 0, none⟩) N dm := Box.below ⟨y0, y1, y2⟩ C8 lmb
              have XF8 := Box.new w8 26 q q (some ⟨gq, 0, none⟩) N d8
              have IX8 : ∀ i, (w8.alloc (.cells #[.int .i64 (q : Int), .int .i64 (q : Int), .slice (some ⟨gq, 0, none⟩) N d8] 26)).frozen? ⟨mb, i, none⟩ = false := fun i => (C8.frozen (p := ⟨mb, i, none⟩) lmb).trans (IX2 i)
              have XA8 : Box (w8.alloc (.cells #[.int .i64 (q : Int), .int .i64 (q : Int), .slice (some ⟨gq, 0, none⟩) N d8] 26)) w.heap.size q q (some ⟨p1, o1, none⟩) N d1 := Box.below ⟨a0, a1, a2⟩ C8 (by omega)
              have G8 := putG_grown (w8.alloc (.cells #[.int .i64 (q : Int), .int .i64 (q : Int), .slice (some ⟨gq, 0, none⟩) N d8] 26)) mb (q : Int) (q : Int) (some ⟨gq, 0, none⟩) N d8
              have XM := putG_box XM8 (q : Int) (q : Int) (some ⟨gq, 0, none⟩) N d8
              have IX := putG_ice IX8 mb (q : Int) (q : Int) (some ⟨gq, 0, none⟩) N d8
              have XA := XA8.grown G8 (by omega) (fun q hq => by cases hq; omega)
              have OM := (O8t.kept (below_grew c8) (fun q hq => by cases hq)).kept G8 (fun q hq => by cases hq; exact .inl (by omega))
              have OL := (ownsRow_below OL2 C8).kept G8 (.inr (fun e => by simp [Value.ownBlock] at e; omega))
              have Bx := (B8.trans (c8.mono B8.size)).grown G8 (B8.trans (c8.mono B8.size)).size (fun q hq => by cases hq; omega)
              have sx := Nat.lt_of_lt_of_le (show mb < (w8.alloc (.cells #[.int .i64 (q : Int), .int .i64 (q : Int), .slice (some ⟨gq, 0, none⟩) N d8] 26)).heap.size by omega) G8.size
              have HS : Hid (sgS q N Z (k + 1) = sgN q k s (some D)) := HS0
              obtain ⟨v0, v1, v2⟩ := XM8
              obtain ⟨u0, u1, u2⟩ := XF8
              have hgg : g < wr.heap.size := by omega
              have ne1 : gq ≠ g := by omega
              have ne3 : gq ≠ mb := by omega
              have lwm : w.heap.size < gq := by omega
              have hk11' : ¬ (k1 < 2) := by omega
              clear y0 y1 y2 a0 a1 a2 IX2 OL2 om b8 hown8 O8 O8t c8 C8 XA8 G8 B8 hg Br2 hsg
              go_wp2_with fail
              generalize ((((w8.alloc (.cells #[.int .i64 (q : Int), .int .i64 (q : Int), .slice (some ⟨gq, 0, none⟩) N d8] 26)).setCell ⟨mb, 0, none⟩ (.int .i64 (q : Int))).setCell ⟨mb, 1, none⟩ (.int .i64 (q : Int))).setCell ⟨mb, 2, none⟩ (.slice (some ⟨gq, 0, none⟩) N d8)) = wx at XM IX XA OM OL Bx sx ⊢
              clear v0 v1 v2 u0 u1 u2 IX8
              obtain ⟨v0, v1, v2⟩ := XM
              go_at_call 61
              refine (specTrace_any _ _ (some ⟨gq, 0, none⟩) N d8 D _ (by omega) OM.fs).mono ?_
              rintro e wt ⟨rq, rfl, frq, bt⟩
              have Bt := Bx.trans (bt.mono Bx.size)
              have htk : traceOk (q : Int) (q : Int) N D = finite .f32 (sgT q D) := trace_some h1 h12 HN.out hD
              have htv : finite .f32 (sgT q D) = true → traceV (q : Int) (q : Int) N D = sgT q D := fun hh => by unfold traceV; rw [htk, hh]; rfl
              rw [htk]
              cases hf : finite .f32 (sgT q D) with
              | false =>
                have hnone : Hid (sgS q N Z q = none) := Lib.hid (by have := sg_none (j := k + 1) (by rw [HS.out]; show (if finite .f32 (sgT q D) = true then _ else none) = none; rw [hf]; rfl) (q - (k + 1)); rwa [show k + 1 + (q - (k + 1)) = q by omega] at this)
                clear v0 v1 v2 frq bt OM IX XA htk htv hf OL
                go_wp2_with fail
                go_ret2
                show SgIfB (sgS q N Z q) q w _ _
                rw [hnone.out]
                exact NumsBel.noG (by repeat first | (with_reducible exact Bt) | (with_reducible refine Below.setCell ?_ (by first | exact Nat.le_refl _ | (simp; done) | (simp; omega) | omega) _) | (with_reducible refine Below.alloc ?_ (by first | exact Nat.le_refl _ | (simp; done) | (simp; omega) | omega) _) | (with_reducible refine below_drewN ?_ _) | (with_reducible refine Below.drew ?_))
              | true =>
                rw [htv hf] at frq
                have hwx : ∀ x, sgT q D = some x → x < 4294967296 := fun x hx => by rw [hx] at frq; have := lt32 frq.2; have := frq.eq; omega
                have hsf := sgV_fin (k := k) (by omega) hf hwx
                obtain ⟨TT, hTT⟩ : ∃ TT, TT = sgV k (sgT q D) := ⟨_, rfl⟩
                have HSN : Hid (sgS q N Z (k + 1) = some (D, fun t => if t = k then datG (fun _ => TT) 0 else s.2 t)) := Lib.hid (by rw [HS.out]; show (if finite .f32 (sgT q D) = true then _ else none) = _; rw [if_pos hf, hTT])
                have st := bt.size
                have XM2 : Box wt mb q q (some ⟨gq, 0, none⟩) N d8 := Box.below (show Box wx mb q q (some ⟨gq, 0, none⟩) N d8 from ⟨v0, v1, v2⟩) bt sx
                have OM2 := OM.kept (below_grew bt) (fun qz hq => by cases hq)
                have OL2 := ownsRow_below OL bt
                have IX2 : ∀ i, wt.frozen? ⟨mb, i, none⟩ = false := fun i => (bt.frozen (p := ⟨mb, i, none⟩) (by show mb < wx.heap.size; omega)).trans (IX i)
                have XA2 := XA.below bt (by omega)
                have HFV : Hid (∀ r5, FV .f32 r5 TT → r5 = datG (fun _ => TT) 0 ∧ FV .f32 r5 (some r5) ∧ finite .f32 (some r5) = true) := Lib.hid fun r5 h5 => by
                  have h6 : FV .f32 r5 ((fun _ => TT) 0) := h5
                  have h7 : finite .f32 ((fun _ => TT) 0) = true := by rw [hTT]; exact hsf
                  refine ⟨datG_of (V := fun _ => TT) h6 h7, ?_⟩
                  have h8 := h6.1
                  have h9 : finite .f32 (cn .f32 r5) = true := by rw [h8]; exact h7
                  have h10 := (cn_fin h9).1
                  exact ⟨⟨h10, h5.2⟩, by rw [← h10]; exact h9⟩
                obtain ⟨i0, hi, hz0, hz1, hz2⟩ := info_parts info32
                have HXM := Lib.hid XM2
                have HOM := Lib.hid OM2
                have HIX := Lib.hid IX2
                have HXA := Lib.hid XA2
                have HNU := Lib.hid hnum
                have HXS := Lib.hid hxs
                have HFI := Lib.hid hfin
                have HGD := Lib.hid hD
                have hlw : w.heap.size < wt.heap.size := by omega
                have hgw : g < wt.heap.size := (OL2.lt g rfl).2
                obtain ⟨_, _, m1', m2', m3', _⟩ := OM2.cell hpos
                have xa0 := XA2.1
                have hk11 : (1 : Int) < (k1 : Int) := by omega
                have HK5 : Hid (∀ r5, FV .f32 r5 (fop .quo .f32 (fneg .f32 (sgT q D)) (some (floatOfInt .f32 (k1 : Int)))) → FV .f32 r5 TT) := Lib.hid fun r5 h5 => by rw [hTT]; rw [show (k1 : Int) = (k : Int) + 1 by have := HK1.out; omega] at h5; exact h5
                clear v0 v1 v2 OM OM2 XM2 IX2 XA2 IX XA htk htv hsf hwx hD hnum hfin hxs Bx OL
                go_wp2_with (first
                  | (refine wpList_farith rfl _ _ _ _ _ rfl rfl _ _ _ rfl rfl (FV.neg frq) (FV.ofInt _ _) ?_; intro r5 m5 hr5)
                  | (at_builtin
                     refine wpList_append_lies _ rfl _ _ _ rfl w.heap.size 38 i0 _ 1 4 Try.underlying22 hi hz0 hz1 hz2 rfl (by omega) (.slice (some ⟨g, 0, none⟩) k cp) k xs rfl (by exact ownsRow_below OL2 (by repeat first | (with_reducible exact Below.refl _ _) | (with_reducible refine Below.setCell ?_ (by first | exact Nat.le_refl _ | (simp; done) | (simp; omega) | omega) _) | (with_reducible refine Below.alloc ?_ (by first | exact Nat.le_refl _ | (simp; done) | (simp; omega) | omega) _) | (with_reducible refine below_drewN ?_ _) | (with_reducible refine Below.drew ?_))) ⟨wt.heap.size, 0, none⟩ 1 1 [.float .f32 r5] rfl rfl
                       (by exact World.news_of_block (cs := #[.float .f32 r5]) (t := 38) (fr := (0, 0)) (heap_alloc_new _ _)) (by simp [Value.oneCell']) (by omega) (by unfold maxLen; omega) (by omega) (by simp [World.drewN]; omega) (wt.heap.size + 1) (by simp [World.drewN]) ?_
                     intro gg cp2 w9 hown9 hgrow9 hat9 hlt9))
                obtain ⟨e5, f5, fi5⟩ := HFV.out _ (HK5.out _ hr5)
                have hgg : gg = g ∨ wt.heap.size ≤ gg := by
                  rcases hat9 with e | e
                  · left; simpa [Value.ownBlock] using e.symm
                  · right; (try simp [World.drewN] at e); omega
                have hrow : ∀ qz, (Value.slice (some ⟨g, 0, none⟩) k cp).ownBlock = some qz → qz = g := fun qz hq => by simpa [Value.ownBlock] using hq.symm
                have ba : Below wt.heap.size wt (((wt.drewN m5).alloc (.cells #[.float .f32 r5] 38))) := (by repeat first | (with_reducible exact Below.refl _ _) | (with_reducible refine Below.setCell ?_ (by first | exact Nat.le_refl _ | (simp; done) | (simp; omega) | omega) _) | (with_reducible refine Below.alloc ?_ (by first | exact Nat.le_refl _ | (simp; done) | (simp; omega) | omega) _) | (with_reducible refine below_drewN ?_ _) | (with_reducible refine Below.drew ?_))
                have X9 := Lib.hid ((HXM.out.below ba (by omega)).grown hgrow9 (by have := ba.size; omega) (fun qz hq => by have := hrow qz hq; omega))
                have A9 := Lib.hid ((HXA.out.below ba (by omega)).grown hgrow9 (by have := ba.size; omega) (fun qz hq => by have := hrow qz hq; have := (OL2.lt g rfl).1; omega))
                have O9 := Lib.hid ((HOM.out.kept (below_grew ba) (fun qz hq => by cases hq)).kept hgrow9 (fun qz hq => by have := hrow qz hq; omega))
                have I9 : Hid (∀ i, w9.frozen? ⟨mb, i, none⟩ = false) := Lib.hid fun i => (World.frozen?_of_block (a := ⟨mb, i, none⟩) (hgrow9.block mb (by have := ba.size; show mb < _; omega) (fun e => by have := hrow mb e.symm; omega))).trans ((ba.frozen (p := ⟨mb, i, none⟩) (by show mb < wt.heap.size; omega)).trans (HIX.out i))
                have B9 := Lib.hid ((Bt.trans (ba.mono Bt.size)).grown hgrow9 (Bt.trans (ba.mono Bt.size)).size (fun qz hq => by have := hrow qz hq; have := (OL2.lt g rfl).1; omega))
                have S9 := Lib.hid (show mb < w9.heap.size by have := ba.size; have := hgrow9.size; omega)
                have hlen : xs.length = k := by simpa using OL2.1
                have HX9 : Hid (∀ t, t < k + 1 → (xs ++ [Value.float .f32 r5])[t]? = some (.float .f32 (if t = k then datG (fun _ => TT) 0 else s.2 t))) := Lib.hid fun t ht => by
                  by_cases e : t = k
                  · subst e
                    rw [List.getElem?_append_right (by omega), hlen, if_pos rfl, ← e5]; simp
                  · rw [List.getElem?_append_left (by omega), if_neg e]; exact HXS.out t (by omega)
                have HN9 : Hid (∀ t, t < k + 1 → FV .f32 (if t = k then datG (fun _ => TT) 0 else s.2 t) (some (if t = k then datG (fun _ => TT) 0 else s.2 t))) := Lib.hid fun t ht => by
                  by_cases e : t = k
                  · rw [if_pos e, ← e5]; exact f5
                  · rw [if_neg e]; exact HNU.out t (by omega)
                have HF9 : Hid (∀ t, t < k + 1 → finite .f32 (some (if t = k then datG (fun _ => TT) 0 else s.2 t)) = true) := Lib.hid fun t ht => by
                  by_cases e : t = k
                  · rw [if_pos e, ← e5]; exact fi5
                  · rw [if_neg e]; exact HFI.out t (by omega)
                have HO9 := Lib.hid hown9
                have hgm9 : gq ≠ gg := by rcases hgg with e | e <;> omega
                have hmb9 : gg ≠ mb := by rcases hgg with e | e <;> omega
                have hwg9 : w.heap.size < gg := by rcases hgg with e | e <;> omega
                clear hown9 hgrow9 hat9 hlt9 ba hrow hgg OL2 xa0
                go_wp2
                go_roundw
                case rel => exact ⟨k + 1, k1 + 1, (D, fun t => if t = k then datG (fun _ => TT) 0 else s.2 t), _, gg, cp2, gq, d8, by omega, by have := HK1.out; omega, rfl, by go_num, HSN.out, HO9.out, HX9.out, HN9.out, HF9.out, X9.out, O9.out, HGD.out, hgm9, hmb9, ne3, lwm, hwg9, I9.out, A9.out, B9.out, S9.out⟩
                case measure => simp [intOf] <;> omega
    · obtain rfl : k = r := by omega
      have hxl : ∀ t, t < k → ∃ r5, xs[t]? = some (.float .f32 r5) ∧ FV .f32 r5 (vals s.2 t) := fun t ht => ⟨s.2 t, hxs t ht, by have := hnum t ht; exact ⟨rfl, this.2⟩⟩
      have GR : Grow w k (vals s.2) wr (.slice (some ⟨g, 0, none⟩) k cp) xs := ⟨OL, hxl, Br, _, _, rfl⟩
      obtain ⟨Y, fY, hY⟩ := GR.fs
      have hfY : allFin (vals Y) k = true := by
        rw [allFin_congr hY]
        refine allFin_allS fun t ht => ?_
        show finite .f32 (cn .f32 (s.2 t)) = true
        rw [(hnum t ht).1]
        exact hfin t ht
      have hgt : ¬ ((k1 : Int) ≤ (k : Int)) := by omega
      clear GR OL hxs hnum hfin XM OM IX x1 x2
      go_wp2_with fail
      go_at_call 62
      refine (l02List_yesG _ k cp Y _ (by omega) fY hfY).mono ?_
      rintro e w5 ⟨rfl, m5, rfl⟩
      go_wp2_with fail
      go_ret2
      show SgIfB (sgS k N Z k) k w _ _
      rw [hst]
      exact ⟨_, _, Y, rfl, FS.drewN fY, hY, (by repeat first | (with_reducible exact Br) | (with_reducible refine Below.setCell ?_ (by first | exact Nat.le_refl _ | (simp; done) | (simp; omega) | omega) _) | (with_reducible refine Below.alloc ?_ (by first | exact Nat.le_refl _ | (simp; done) | (simp; omega) | omega) _) | (with_reducible refine below_drewN ?_ _) | (with_reducible refine Below.drew ?_))⟩
theorem keySignsOf (R0 C0 : Int) (n0 : Nat) (Z0 : Nat → Nat) (hn0 : n0 ≤ 1048576) : ∃ (ok : Bool) (n : Nat) (V : Nat → Option Nat), n ≤ 256 ∧
    (∀ a c W, FS .f32 W a n0 c Z0 → Calls Try.prog 16 #[.agg #[.int .i64 R0, .int .i64 C0, .slice a n0 c]] W (NumsBel ok n V W)) ∧
    (∀ a c W, FS .f32 W a n0 c Z0 → Calls Try.prog 17 #[.agg #[.int .i64 R0, .int .i64 C0, .slice a n0 c]] W (NumsOwn ok n V W)) := by
  cases hs : squareB R0 C0 n0 (vals Z0) with
  | false => exact ⟨false, 0, fun _ => none, by omega, fun a c W h => specSigns_no R0 C0 a n0 c Z0 W hn0 h hs, fun a c W h => implSigns_no R0 C0 a n0 c Z0 W hn0 h hs⟩
  | true =>
    obtain ⟨r, rfl, rfl, h1, h12, hN, hf⟩ := square_nat hs
    have hpos : 0 < n0 := by rw [hN]; exact Nat.mul_pos h1 h1
    have k1 : ∀ a c W, FS .f32 W a n0 c Z0 → Calls Try.prog 16 #[.agg #[.int .i64 (r : Int), .int .i64 (r : Int), .slice a n0 c]] W (SgIfB (sgS r n0 Z0 r) r W) := fun a c W h => by
      obtain ⟨q1, q2, rfl, _⟩ := h.at hpos
      exact specSigns_yes r n0 q1 q2 c Z0 W h1 h12 hN hs hf h
    have k2 : ∀ a c W, FS .f32 W a n0 c Z0 → Calls Try.prog 17 #[.agg #[.int .i64 (r : Int), .int .i64 (r : Int), .slice a n0 c]] W (SgIf (sgS r n0 Z0 r) r W) := fun a c W h => by
      obtain ⟨q1, q2, rfl, _⟩ := h.at hpos
      exact implSigns_yes r n0 q1 q2 c Z0 W h1 h12 hN hs hf h
    cases hS : sgS r n0 Z0 r with
    | none =>
      rw [hS] at k1 k2
      exact ⟨false, 0, fun _ => none, by omega, k1, k2⟩
    | some s =>
      rw [hS] at k1 k2
      exact ⟨true, r, vals s.2, by omega, k1, k2⟩
end Go.Proofs.Ytmjlhmbnaifhaac
