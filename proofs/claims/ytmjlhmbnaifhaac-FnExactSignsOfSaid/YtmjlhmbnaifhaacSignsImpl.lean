/- Helper: the numbers of the characteristic sums of a square, of the program. Conditions: none. -/
import Derived.Test.YtmjlhmbnaifhaacSignsDefs
import Derived.Deep.RegionLaw
set_option linter.unusedVariables false
set_option linter.unusedSimpArgs false
namespace Go.Proofs.Ytmjlhmbnaifhaac
open Go.RowKit

theorem putG_grown (w : World) (q : Nat) (R C : Int) (a : Option Addr) (n c : Nat) : w.grownBy (((w.setCell ⟨q, 0, none⟩ (.int .i64 R)).setCell ⟨q, 1, none⟩ (.int .i64 C)).setCell ⟨q, 2, none⟩ (.slice a n c)) (some q) :=
  ⟨rfl, rfl, rfl, by simp [World.setCell], fun k _ hk => by
    have hne : k ≠ q := fun e => hk (by rw [e])
    rw [Below.heap_setCell _ _ _ _ hne, Below.heap_setCell _ _ _ _ hne, Below.heap_setCell _ _ _ _ hne]⟩
theorem putG_box {w : World} {q : Nat} {R0 C0 : Int} {a0 : Option Addr} {n0 c0 : Nat} (h : Box w q R0 C0 a0 n0 c0) (R C : Int) (a : Option Addr) (n c : Nat) :
    Box (((w.setCell ⟨q, 0, none⟩ (.int .i64 R)).setCell ⟨q, 1, none⟩ (.int .i64 C)).setCell ⟨q, 2, none⟩ (.slice a n c)) q R C a n c := by
  obtain ⟨z0, z1, z2⟩ := h
  refine ⟨?_, ?_, ?_⟩
  · rw [World.cell?_setCell_other _ _ _ _ (by simp), World.cell?_setCell_other _ _ _ _ (by simp)]; exact World.cell?_setCell_same _ _ _ z0
  · rw [World.cell?_setCell_other _ _ _ _ (by simp)]; exact World.cell?_setCell_same _ _ _ (by rw [World.cell?_setCell_other _ _ _ _ (by simp)]; exact z1)
  · exact World.cell?_setCell_same _ _ _ (by rw [World.cell?_setCell_other _ _ _ _ (by simp), World.cell?_setCell_other _ _ _ _ (by simp)]; exact z2)
theorem putG_ice {w : World} {p : Nat} (h : ∀ i, w.frozen? ⟨p, i, none⟩ = false) (q : Nat) (R C : Int) (a : Option Addr) (n c : Nat) :
    ∀ i, (((w.setCell ⟨q, 0, none⟩ (.int .i64 R)).setCell ⟨q, 1, none⟩ (.int .i64 C)).setCell ⟨q, 2, none⟩ (.slice a n c)).frozen? ⟨p, i, none⟩ = false := fun i => by
  rw [World.frozen?_setCell, World.frozen?_setCell, World.frozen?_setCell]; exact h i
theorem NumsOwn.noG {w w' : World} {V : Nat → Option Nat} (h : Below w.heap.size w w') : NumsOwn false 0 V w (.returned (.tuple #[.slice none 0 0, .bool false])) w' :=
  ⟨none, 0, fun _ => 0, rfl, .inl ⟨rfl, rfl, rfl⟩, fun i hi => absurd hi (Nat.not_lt_zero _), h⟩
def SgIf (st : Option ((Nat → Nat) × (Nat → Nat))) (r : Nat) (w : World) (e : Ending) (w' : World) : Prop :=
  match st with | some s => NumsOwn true r (vals s.2) w e w' | none => NumsOwn false 0 (fun _ => none) w e w'
theorem Own.addrG {T : TypeId} {k : FloatKind} {B U : Nat} {w : World} {a : Option Addr} {n c : Nat} {Z : Nat → Nat} (h : Own T k B U w a n c Z) (hn : 0 < n) : ∃ g, a = some ⟨g, 0, none⟩ := by
  rcases h with ⟨_, h0, _⟩ | ⟨g, xs, rfl, _⟩
  · omega
  · exact ⟨g, rfl⟩
theorem trace_zero {V : Nat → Nat} : traceOk 0 0 0 V = false := by
  unfold traceOk squareB validB
  simp [sideB]
theorem trace_some {r N : Nat} {D : Nat → Nat} (h1 : 1 ≤ r) (h12 : r ≤ 12) (hn : N = r * r) (h : allFin (vals D) N = true) : traceOk (r : Int) (r : Int) N D = finite .f32 (sgT r D) := by
  unfold traceOk squareB
  rw [validB_nat h1 h12 h1 h12 hn, h, decide_eq_true rfl]
  simp [sgT]
def sgN (r k : Nat) (s : (Nat → Nat) × (Nat → Nat)) (o : Option (Nat → Nat)) : Option ((Nat → Nat) × (Nat → Nat)) :=
  match o with | none => none | some D => if finite .f32 (sgT r D) then some (D, fun t => if t = k then datG (fun _ => sgV k (sgT r D)) 0 else s.2 t) else none
theorem sg_step {r N k : Nat} {Z : Nat → Nat} {s : (Nat → Nat) × (Nat → Nat)} (h : sgS r N Z k = some s) {o : Option (Nat → Nat)} (ho : o = (if k = 0 then some s.1 else sgP r N Z s.1 (s.2 (k - 1)))) :
    sgS r N Z (k + 1) = sgN r k s o := by
  subst ho
  unfold sgN
  simp only [sgS, h]
  split <;> simp_all
theorem implSigns_no (R C : Int) (a : Option Addr) (n c : Nat) (Z : Nat → Nat) (w : World) (hn : n ≤ 1048576) (h : FS .f32 w a n c Z) (hsq : squareB R C n (vals Z) = false) :
    Calls Try.prog 17 #[.agg #[.int .i64 R, .int .i64 C, .slice a n c]] w (NumsOwn false 0 (fun _ => none) w) := by
  have HSQ := Lib.hid hsq
  clear hsq
  go_enter Try.func17, Try.ntmps17
  go_wp2_with fail
  go_at_call 54
  refine (implSquare_any R C a n c Z _ hn (h.below (by repeat first | (with_reducible exact Below.refl _ _) | (with_reducible refine Below.setCell ?_ (by first | exact Nat.le_refl _ | (simp; done) | (simp; omega) | omega) _) | (with_reducible refine Below.alloc ?_ (by first | exact Nat.le_refl _ | (simp; done) | (simp; omega) | omega) _) | (with_reducible refine below_drewN ?_ _) | (with_reducible refine Below.drew ?_)) (Nat.le_refl _))).mono ?_
  rintro e w1 ⟨rfl, b1⟩
  rw [HSQ.out]
  have B1 : Below w.heap.size w w1 := Below.trans (by repeat first | (with_reducible exact Below.refl _ _) | (with_reducible refine Below.setCell ?_ (by first | exact Nat.le_refl _ | (simp; done) | (simp; omega) | omega) _) | (with_reducible refine Below.alloc ?_ (by first | exact Nat.le_refl _ | (simp; done) | (simp; omega) | omega) _) | (with_reducible refine below_drewN ?_ _) | (with_reducible refine Below.drew ?_)) (b1.mono (by simp))
  go_wp2_with fail
  go_ret2
  exact NumsOwn.noG B1
set_option maxRecDepth 20000 in
set_option maxHeartbeats 4000000 in
theorem implSigns_yes (r N p1 o1 d1 : Nat) (Z : Nat → Nat) (w : World) (h1 : 1 ≤ r) (h12 : r ≤ 12) (hn : N = r * r) (hsq : squareB r r N (vals Z) = true) (hfz : allFin (vals Z) N = true) (h : FS .f32 w (some ⟨p1, o1, none⟩) N d1 Z) :
    Calls Try.prog 17 #[.agg #[.int .i64 r, .int .i64 r, .slice (some ⟨p1, o1, none⟩) N d1]] w (SgIf (sgS r N Z r) r w) := by
  have HN := Lib.hid hn
  have h144 : N ≤ 144 := by have := sides_le h12 h12; omega
  have hpos : 0 < N := by rw [hn]; exact Nat.mul_pos h1 h1
  have HSQ := Lib.hid hsq
  have HFZ := Lib.hid hfz
  obtain ⟨i0, hi, hz0, hz1, hz2⟩ := info_parts info32
  obtain ⟨_, _, e, hpl, _, _⟩ := h.at hpos
  simp only [Option.some.injEq, Addr.mk.injEq, and_true] at e
  obtain ⟨rfl, rfl⟩ := e
  clear hn hsq hfz
  go_enter Try.func17, Try.ntmps17
  go_wp2_with fail
  go_at_call 54
  refine (implSquare_any r r _ N d1 Z _ (by omega) (h.below (by repeat first | (with_reducible exact Below.refl _ _) | (with_reducible refine Below.setCell ?_ (by first | exact Nat.le_refl _ | (simp; done) | (simp; omega) | omega) _) | (with_reducible refine Below.alloc ?_ (by first | exact Nat.le_refl _ | (simp; done) | (simp; omega) | omega) _) | (with_reducible refine below_drewN ?_ _) | (with_reducible refine Below.drew ?_)) (Nat.le_refl _))).mono ?_
  rintro e w1 ⟨rfl, b1⟩
  rw [HSQ.out]
  have B1 : Below w.heap.size w w1 := Below.trans (by repeat first | (with_reducible exact Below.refl _ _) | (with_reducible refine Below.setCell ?_ (by first | exact Nat.le_refl _ | (simp; done) | (simp; omega) | omega) _) | (with_reducible refine Below.alloc ?_ (by first | exact Nat.le_refl _ | (simp; done) | (simp; omega) | omega) _) | (with_reducible refine below_drewN ?_ _) | (with_reducible refine Below.drew ?_)) (b1.mono (by simp))
  have s1 : w.heap.size < w1.heap.size := by have := b1.size; simp at this; omega
  have XA1 : Box w1 w.heap.size r r (some ⟨p1, o1, none⟩) N d1 := Box.below (by refine ⟨?_, ?_, ?_⟩ <;> simp [go_sem]) b1 (by simp)
  have XA1' := XA1
  obtain ⟨x0, x1, x2⟩ := XA1'
  clear b1
  go_wp2_with (at_make; refine wpList_make_full _ rfl _ _ 22 rfl w1.heap.size 38 i0 (.float .f32 0) 1 Try.underlying22 hi hz0 hz1 _ _ _ _ r rfl rfl rfl rfl ?b2 ?b3 (Nat.le_refl _) ?_)
  case b2 => rw [hz2]; omega
  case b3 => unfold maxLen; omega
  intro w0 hown0 hgrow0
  have hU := (hown0.lt w1.heap.size rfl).2
  have o0 := own_zero (w := w1) (U := w0.heap.size) hown0 (Nat.le_refl _) hU (Nat.le_refl _) (by unfold maxLen; omega)
  have b0 : Below w1.heap.size w1 w0 := (Below.refl _ _).grown hgrow0 (Nat.le_refl _) (fun k h => by cases h)
  clear hown0 hgrow0 hi hz0 hz1 hz2 x0 x1 x2
  have B0 := B1.trans (b0.mono B1.size)
  have XA0 := XA1.below b0 s1
  have s0 := b0.size
  obtain ⟨gn, hgn⟩ : ∃ gn, gn = w1.heap.size := ⟨_, rfl⟩
  rw [← hgn] at o0 hU ⊢
  have hgw : w.heap.size < gn := by omega
  clear hgn b0 XA1
  have b4 : Below w0.heap.size w0 (w0.alloc (.cells #[.int .i64 r, .int .i64 r, .slice (some ⟨p1, o1, none⟩) N d1] 26)) := (by repeat first | (with_reducible exact Below.refl _ _) | (with_reducible refine Below.setCell ?_ (by first | exact Nat.le_refl _ | (simp; done) | (simp; omega) | omega) _) | (with_reducible refine Below.alloc ?_ (by first | exact Nat.le_refl _ | (simp; done) | (simp; omega) | omega) _) | (with_reducible refine below_drewN ?_ _) | (with_reducible refine Below.drew ?_))
  have XM4 := Box.new w0 26 r r (some ⟨p1, o1, none⟩) N d1
  have IX4 : ∀ i, (w0.alloc (.cells #[.int .i64 r, .int .i64 r, .slice (some ⟨p1, o1, none⟩) N d1] 26)).frozen? ⟨w0.heap.size, i, none⟩ = false := fun i => by simp [go_sem]
  have s4 : w0.heap.size < (w0.alloc (.cells #[.int .i64 r, .int .i64 r, .slice (some ⟨p1, o1, none⟩) N d1] 26)).heap.size := by simp
  have XA0' := XA0
  obtain ⟨x0, x1, x2⟩ := XA0'
  go_wp2
  generalize w0.alloc (.cells #[.int .i64 r, .int .i64 r, .slice (some ⟨p1, o1, none⟩) N d1] 26) = w4 at b4 XM4 IX4 s4 ⊢
  have XA4 := XA0.below b4 (by omega)
  have B4 := B0.trans (b4.mono B0.size)
  have o4 := o0.kept (below_grew b4) (fun q hq => by cases hq)
  have f4 := h.below B4 (Nat.le_refl _)
  obtain ⟨mb, hmb⟩ : ∃ mb, mb = w0.heap.size := ⟨_, rfl⟩
  obtain ⟨UU, hUU⟩ : ∃ UU, UU = w0.heap.size := ⟨_, rfl⟩
  rw [← hUU] at o4 hU
  rw [← hmb] at XM4 IX4 s4 ⊢
  have hUm : UU = mb := by rw [hUU, hmb]
  clear b4 XA0 o0 B0 x0 x1 x2 s0 B1 s1 hmb hUU
  go_loopw [18] (fun i wr => ∃ (k : Nat) (s : (Nat → Nat) × (Nat → Nat)) (g' : Option Addr) (d' : Nat), k ≤ r ∧ i = .int .i64 k ∧ sgS r N Z k = some s ∧ Box wr mb r r g' N d' ∧ FS .f32 wr g' N d' s.1 ∧ allFin (vals s.1) N = true ∧ (∀ q off, g' = some ⟨q, off, none⟩ → q ≠ gn ∧ q ≠ mb) ∧ Own 38 .f32 gn UU wr (some ⟨gn, 0, none⟩) r r s.2 ∧ (∀ t, t < k → FV .f32 (s.2 t) (some (s.2 t))) ∧ (∀ i, wr.frozen? ⟨mb, i, none⟩ = false) ∧ Box wr w.heap.size r r (some ⟨p1, o1, none⟩) N d1 ∧ Below w.heap.size w wr ∧ mb < wr.heap.size) (fun i _ => r - (intOf i).toNat)
  case atStart => exact ⟨0, (Z, fun _ => 0), some ⟨p1, o1, none⟩, d1, Nat.zero_le _, rfl, rfl, XM4, f4, HFZ.out, fun q off e => by cases e; omega, o4, fun t ht => absurd ht (Nat.not_lt_zero _), IX4, XA4, B4, s4⟩
  case round =>
    obtain ⟨k, s, g', d', hk, rfl, hst, XM, fm, hgs, hqo, ON, hnum, IX, XA, Br, sr⟩ := hrel
    clear XM4 f4 o4 IX4 XA4 B4 s4
    by_cases hlt : k < r
    · obtain ⟨o, ho⟩ : ∃ o, o = (if k = 0 then some s.1 else sgP r N Z s.1 (s.2 (k - 1))) := ⟨_, rfl⟩
      have HS := Lib.hid (sg_step hst ho)
      by_cases hk0 : k = 0
      · obtain ⟨wx, rfl⟩ : ∃ wx, wx = wr := ⟨_, rfl⟩
        have ho' : o = some s.1 := by rw [ho, if_pos hk0]
        clear ho hst
        have XM : Box wx mb (sR r o) (sR r o) g' (sNn N o) d' := by rw [ho']; exact XM
        have fm : FS .f32 wx g' (sNn N o) d' (sDd o) := by rw [ho']; exact fm
        have gdo : goodG N o := by rw [ho']; intro D hD; have : s.1 = D := Option.some.inj hD; rw [← this]; exact hgs
        have Bx := Br
        have sx := sr
        have hkp : decide ((0 : Int) < (k : Int)) = false := decide_eq_false (by omega)
        have hkp2 : decide ((k : Int) > 0) = false := decide_eq_false (by omega)
        have HK0 := Lib.hid hk0
        have hk1 : k < 1 := by omega
        clear ho' Br sr hgs hk0
        obtain ⟨v0, v1, v2⟩ := XM
        go_wp2_with fail
        go_at_call 64
        refine (implTrace_any _ _ g' (sNn N o) d' (sDd o) _ (by unfold sNn; split <;> omega) fm).mono ?_
        rintro e wt ⟨rq, rfl, frq, bt⟩
        have Bt := Bx.trans (bt.mono Bx.size)
        cases o with
        | none =>
          have hnone : Hid (sgS r N Z r = none) := Lib.hid (by have := sg_none (j := k + 1) (by rw [HS.out]; rfl) (r - (k + 1)); rwa [show k + 1 + (r - (k + 1)) = r by omega] at this)
          rw [show traceOk (sR r none) (sR r none) (sNn N none) (sDd none) = false from trace_zero]
          clear v0 v1 v2 fm frq bt ON IX XA
          go_wp2_with fail
          go_ret2
          show SgIf (sgS r N Z r) r w _ _
          rw [hnone.out]
          exact NumsOwn.noG (by repeat first | (with_reducible exact Bt) | (with_reducible refine Below.setCell ?_ (by first | exact Nat.le_refl _ | (simp; done) | (simp; omega) | omega) _) | (with_reducible refine Below.alloc ?_ (by first | exact Nat.le_refl _ | (simp; done) | (simp; omega) | omega) _) | (with_reducible refine below_drewN ?_ _) | (with_reducible refine Below.drew ?_))
        | some D =>
          have hgD : allFin (vals D) N = true := gdo D rfl
          have htk : traceOk (sR r (some D)) (sR r (some D)) (sNn N (some D)) (sDd (some D)) = finite .f32 (sgT r D) := trace_some h1 h12 HN.out hgD
          have htv : finite .f32 (sgT r D) = true → traceV (sR r (some D)) (sR r (some D)) (sNn N (some D)) (sDd (some D)) = sgT r D := fun hh => by unfold traceV; rw [htk, hh]; rfl
          rw [htk]
          cases hf : finite .f32 (sgT r D) with
          | false =>
            have hnone : Hid (sgS r N Z r = none) := Lib.hid (by have := sg_none (j := k + 1) (by rw [HS.out]; show (if finite .f32 (sgT r D) = true then _ else none) = none; rw [hf]; rfl) (r - (k + 1)); rwa [show k + 1 + (r - (k + 1)) = r by omega] at this)
            clear v0 v1 v2 fm frq bt ON IX XA htk htv hf
            go_wp2_with fail
            go_ret2
            show SgIf (sgS r N Z r) r w _ _
            rw [hnone.out]
            exact NumsOwn.noG (by repeat first | (with_reducible exact Bt) | (with_reducible refine Below.setCell ?_ (by first | exact Nat.le_refl _ | (simp; done) | (simp; omega) | omega) _) | (with_reducible refine Below.alloc ?_ (by first | exact Nat.le_refl _ | (simp; done) | (simp; omega) | omega) _) | (with_reducible refine below_drewN ?_ _) | (with_reducible refine Below.drew ?_))
          | true =>
            rw [htv hf] at frq
            have hwx : ∀ x, sgT r D = some x → x < 4294967296 := fun x hx => by rw [hx] at frq; have := lt32 frq.2; have := frq.eq; omega
            have hsf := sgV_fin (k := k) (by omega) hf hwx
            obtain ⟨TT, hTT⟩ : ∃ TT, TT = sgV k (sgT r D) := ⟨_, rfl⟩
            have HSN : Hid (sgS r N Z (k + 1) = some (D, fun t => if t = k then datG (fun _ => TT) 0 else s.2 t)) := Lib.hid (by rw [HS.out]; show (if finite .f32 (sgT r D) = true then _ else none) = _; rw [if_pos hf, hTT])
            have st := bt.size
            have XM2 : Box wt mb r r g' N d' := Box.below (show Box wx mb r r g' N d' from ⟨v0, v1, v2⟩) bt sx
            have fm2 : FS .f32 wt g' N d' D := fm.below bt (Nat.le_refl _)
            have ON2 := ON.kept (below_grew bt) (fun q hq => by cases hq)
            have IX2 : ∀ i, wt.frozen? ⟨mb, i, none⟩ = false := fun i => (bt.frozen (p := ⟨mb, i, none⟩) (by show mb < wx.heap.size; omega)).trans (IX i)
            have XA2 := XA.below bt (by omega)
            obtain ⟨hce, hfr, q1, q2, q3, _⟩ := ON2.cell hlt
            have HFV : Hid (∀ r5, FV .f32 r5 (fop .quo .f32 (fneg .f32 (sgT r D)) (some (floatOfInt .f32 ((k : Int) + 1)))) → r5 = datG (fun _ => TT) 0 ∧ FV .f32 r5 (some r5)) := Lib.hid fun r5 h5 => by
              have h6 : FV .f32 r5 ((fun _ => TT) 0) := by rw [hTT]; exact h5
              have h7 : finite .f32 ((fun _ => TT) 0) = true := by rw [hTT]; exact hsf
              refine ⟨datG_of (V := fun _ => TT) h6 h7, ?_⟩
              have h8 := h6.1
              have h9 : finite .f32 (cn .f32 r5) = true := by rw [h8]; exact h7
              exact ⟨(cn_fin h9).1, h5.2⟩
            have HST : Hid (∀ m v, (Lit.float .f32 v).wf = true → Own 38 .f32 gn UU ((wt.drewN m).setCell ⟨gn, k, none⟩ (.float .f32 v)) (some ⟨gn, 0, none⟩) r r (fun t => if t = k then v else s.2 t) ∧ wt.grownBy ((wt.drewN m).setCell ⟨gn, k, none⟩ (.float .f32 v)) (some gn)) := Lib.hid fun m v hv => by
              obtain ⟨O4, G4⟩ := (show Own 38 .f32 gn UU (wt.drewN m) (some ⟨gn, 0, none⟩) r r s.2 from ON2).stored hlt hv
              exact ⟨O4, ⟨G4.os, G4.tape, G4.output, G4.size, G4.block⟩⟩
            have HXM := Lib.hid XM2
            have HFM := Lib.hid fm2
            have HIX := Lib.hid IX2
            have HXA := Lib.hid XA2
            have HNU := Lib.hid hnum
            have HQO := Lib.hid hqo
            have HGD := Lib.hid hgD
            have HFG : Hid (∀ W, wt.grownBy W (some gn) → FS .f32 W g' N d' D) := Lib.hid fun W hG => by
              have hq2 := HQO.out
              obtain ⟨bq, oq, e, _⟩ := fm2.at hpos
              subst e
              exact fm2.grown hG (fun q hq => by cases hq; exact (hq2 bq oq rfl).1)
            have hk12 : IntKind.i64.wrap ((k : Int) + 1) = (k : Int) + 1 := IntWalk.i64_in _ (by omega)
            generalize s.2 k = old at hce
            clear v0 v1 v2 fm ON ON2 XM2 fm2 IX2 XA2 bt IX XA htk htv hsf hwx hTT hqo gdo hgD hnum Bx
            go_wp2_with (refine wpList_farith rfl _ _ _ _ _ rfl rfl _ _ _ rfl rfl (FV.neg frq) (FV.ofInt _ _) ?_; intro r5 m5 hr5)
            go_roundw
            case rel =>
              obtain ⟨e5, f5⟩ := HFV.out r5 hr5
              obtain ⟨O5, G5⟩ := HST.out _ r5 hr5.2
              refine ⟨k + 1, (D, fun t => if t = k then datG (fun _ => TT) 0 else s.2 t), g', d', by omega, by go_num, HSN.out, HXM.out.grown G5 (by omega) (fun q hq => by cases hq; omega), ?_, HGD.out, HQO.out, by rw [← e5]; exact O5, fun t ht => ?_, fun i => (World.frozen?_of_block (a := ⟨mb, i, none⟩) (G5.block mb (by show mb < wt.heap.size; omega) (fun e => by have := Option.some.inj e; omega))).trans (HIX.out i), HXA.out.grown G5 (by omega) (fun q hq => by cases hq; omega), Bt.grown G5 Bt.size (fun q hq => by cases hq; omega), Nat.lt_of_lt_of_le (show mb < wt.heap.size by omega) G5.size⟩
              · exact HFG.out _ G5
              · by_cases e : t = k
                · show FV .f32 (if t = k then _ else _) (some (if t = k then _ else _))
                  rw [if_pos e, ← e5]; exact f5
                · show FV .f32 (if t = k then _ else _) (some (if t = k then _ else _))
                  rw [if_neg e]; exact HNU.out t (by omega)
            case measure => simp [intOf] <;> omega
      · obtain ⟨j, hj⟩ : ∃ j, k = j + 1 := ⟨k - 1, by omega⟩
        have ho' : o = sgP r N Z s.1 (s.2 j) := by rw [ho, if_neg hk0, hj]; rfl
        have hj' : (k - 1) = j := by omega
        obtain ⟨pm, om, e, _, _, _⟩ := fm.at hpos
        subst e
        have fl := hnum j (by omega)
        have hSh : ∀ W, Below wr.heap.size wr W → Calls Try.prog 63 #[.agg #[.int .i64 r, .int .i64 r, .slice (some ⟨pm, om, none⟩) N d'], .float .f32 (s.2 j)] W (SqOwn r N (diagV r (vals s.1) (some (s.2 j))) W) := fun W hW =>
          shifted_any r N pm om d' (s.2 j) (some (s.2 j)) s.1 W h1 h12 HN.out fl (fm.below hW (Nat.le_refl _))
        have hMu : ∀ W g d Y, Below wr.heap.size wr W → FS .f32 W (some ⟨g, 0, none⟩) N d Y → (∀ t, t < N → vals Y t = diagV r (vals s.1) (some (s.2 j)) t) → Calls Try.prog 57 #[.agg #[.int .i64 r, .int .i64 r, .slice (some ⟨p1, o1, none⟩) N d1], .agg #[.int .i64 r, .int .i64 r, .slice (some ⟨g, 0, none⟩) N d]] W (SqG r N o W) := fun W g d Y hW hF hY => by
          rw [ho']
          exact mulG_I h1 h12 HN.out Z s.1 Y (s.2 j) HFZ.out p1 o1 d1 g d W (h.below (Br.trans (hW.mono Br.size)) (Nat.le_refl _)) hF hY
        obtain ⟨hce, hfr, q1, q2, q3, _⟩ := ON.cell (show j < r by omega)
        have hw1 : IntKind.i64.wrap ((k : Int) - 1) = (j : Int) := by rw [hj]; rw [IntWalk.i64_in _ (by omega)]; omega
        have hkp : decide ((k : Int) > 0) = true := decide_eq_true (by omega)
        have hkp2 : decide ((0 : Int) < (k : Int)) = true := decide_eq_true (by omega)
        have hjr : (j : Int) < (r : Int) := by omega
        obtain ⟨ll, hll⟩ : ∃ ll, ll = s.2 j := ⟨_, rfl⟩
        rw [← hll] at hSh hce hMu fl
        have hla : w.heap.size < wr.heap.size := by omega
        obtain ⟨x0, x1, x2⟩ := XA
        obtain ⟨v0, v1, v2⟩ := XM
        have HON := Lib.hid ON
        have HNUM := Lib.hid hnum
        have HGS := Lib.hid hgs
        have HQ := Lib.hid hqo
        have HJ := Lib.hid hj
        have hk1 : 1 ≤ k := by omega
        have HK0 := Lib.hid hk0
        clear hnum ON hgs hqo ho hst fm hll ho' hj hj' hk0
        go_wp2
        go_region_law (first
          | (go_simp; go_at_call 63; refine (hSh _ (by repeat first | (with_reducible exact Below.refl _ _) | (with_reducible refine Below.setCell ?_ (by first | exact Nat.le_refl _ | (simp; done) | (simp; omega) | omega) _) | (with_reducible refine Below.alloc ?_ (by first | exact Nat.le_refl _ | (simp; done) | (simp; omega) | omega) _) | (with_reducible refine below_drewN ?_ _) | (with_reducible refine Below.drew ?_))).mono ?_; rintro e w6 ⟨gs, ds, Ys, rfl, os, hYs, bs⟩
             have kos := os.fs
             have b6 : Below wr.heap.size wr w6 := Below.trans (by repeat first | (with_reducible exact Below.refl _ _) | (with_reducible refine Below.setCell ?_ (by first | exact Nat.le_refl _ | (simp; done) | (simp; omega) | omega) _) | (with_reducible refine Below.alloc ?_ (by first | exact Nat.le_refl _ | (simp; done) | (simp; omega) | omega) _) | (with_reducible refine below_drewN ?_ _) | (with_reducible refine Below.drew ?_)) (bs.mono (by exact Nat.le_refl _))
             have A0 := (b6.cell (p := ⟨w.heap.size, 0, none⟩) hla).trans x0
             have A1 := (b6.cell (p := ⟨w.heap.size, 1, none⟩) hla).trans x1
             have A2 := (b6.cell (p := ⟨w.heap.size, 2, none⟩) hla).trans x2
             dsimp only)
          | (go_simp; go_at_call 57; refine (hMu _ gs ds Ys (by repeat first | (with_reducible exact b6) | (with_reducible refine Below.setCell ?_ (by first | exact Nat.le_refl _ | (simp; done) | (simp; omega) | omega) _) | (with_reducible refine Below.alloc ?_ (by first | exact Nat.le_refl _ | (simp; done) | (simp; omega) | omega) _) | (with_reducible refine below_drewN ?_ _) | (with_reducible refine Below.drew ?_)) (FS.below os.fs (by repeat first | (with_reducible exact Below.refl _ _) | (with_reducible refine Below.setCell ?_ (by first | exact Nat.le_refl _ | (simp; done) | (simp; omega) | omega) _) | (with_reducible refine Below.alloc ?_ (by first | exact Nat.le_refl _ | (simp; done) | (simp; omega) | omega) _) | (with_reducible refine below_drewN ?_ _) | (with_reducible refine Below.drew ?_)) (Nat.le_refl _)) hYs).mono ?_; rintro e w7 ⟨g7, d7, rfl, o7', gd7, b7⟩
             have o7 : Own 38 .f32 w6.heap.size w7.heap.size w7 g7 (sNn N o) d7 (sDd o) := o7'
             have c7 : Below w6.heap.size w6 w7 := Below.trans (by repeat first | (with_reducible exact Below.refl _ _) | (with_reducible refine Below.setCell ?_ (by first | exact Nat.le_refl _ | (simp; done) | (simp; omega) | omega) _) | (with_reducible refine Below.alloc ?_ (by first | exact Nat.le_refl _ | (simp; done) | (simp; omega) | omega) _) | (with_reducible refine below_drewN ?_ _) | (with_reducible refine Below.drew ?_)) (b7.mono (by exact Nat.le_refl _))
             have C7 : Below wr.heap.size wr w7 := b6.trans (c7.mono b6.size)
             have V0 := (C7.cell (p := ⟨mb, 0, none⟩) sr).trans v0
             have V1 := (C7.cell (p := ⟨mb, 1, none⟩) sr).trans v1
             have V2 := (C7.cell (p := ⟨mb, 2, none⟩) sr).trans v2
             have IX7 : ∀ i, w7.frozen? ⟨mb, i, none⟩ = false := fun i => (C7.frozen (p := ⟨mb, i, none⟩) sr).trans (IX i)
             dsimp only))
        all_goals
          have s6 := b6.size
          have s7 := c7.size
          have XM7 : Box w7 mb r r (some ⟨pm, om, none⟩) N d' := ⟨V0, V1, V2⟩
          have G := putG_grown w7 mb (sR r o) (sR r o) g7 (sNn N o) d7
          have XM := putG_box XM7 (sR r o) (sR r o) g7 (sNn N o) d7
          have IXn := putG_ice IX7 mb (sR r o) (sR r o) g7 (sNn N o) d7
          have XA7 : Box w7 w.heap.size r r (some ⟨p1, o1, none⟩) N d1 := Box.below (⟨x0, x1, x2⟩ : Box wr w.heap.size r r (some ⟨p1, o1, none⟩) N d1) C7 hla
          have XA := XA7.grown G (by omega) (fun q hq => by cases hq; omega)
          have ON7 := HON.out.kept (below_grew C7) (fun q hq => by cases hq)
          have ON := ON7.kept G (fun q hq => by cases hq; exact .inr (by omega))
          have on := o7.kept G (fun q hq => by cases hq; exact .inl (by omega))
          have fm := on.fs
          have Bx := (Br.trans (C7.mono Br.size)).grown G (Br.trans (C7.mono Br.size)).size (fun q hq => by cases hq; omega)
          have sx : mb < (((w7.setCell ⟨mb, 0, none⟩ (.int .i64 (sR r o))).setCell ⟨mb, 1, none⟩ (.int .i64 (sR r o))).setCell ⟨mb, 2, none⟩ (.slice g7 (sNn N o) d7)).heap.size := Nat.lt_of_lt_of_le (show mb < w7.heap.size by omega) G.size
          have hqo : ∀ q off, g7 = some ⟨q, off, none⟩ → (sNn N o = 0) ∨ (q ≠ gn ∧ q ≠ mb) := fun q off e => by
            by_cases h0 : sNn N o = 0
            · exact .inl h0
            · subst e
              obtain ⟨gq, eq1⟩ := o7.addrG (show 0 < sNn N o by omega)
              simp only [Option.some.injEq, Addr.mk.injEq, and_true] at eq1
              obtain ⟨rfl, rfl⟩ := eq1
              obtain ⟨_, _, k1, _⟩ := o7.cell (show 0 < sNn N o by omega)
              have k2 : wr.heap.size ≤ q := by omega
              exact .inr ⟨by omega, by omega⟩
          have gdo := gd7
          have hnum := HNUM.out
          have IX := IXn
          generalize (((w7.setCell ⟨mb, 0, none⟩ (.int .i64 (sR r o))).setCell ⟨mb, 1, none⟩ (.int .i64 (sR r o))).setCell ⟨mb, 2, none⟩ (.slice g7 (sNn N o) d7)) = wx at XM IX XA ON fm Bx sx ⊢
          obtain ⟨g', hg'⟩ : ∃ g', g' = g7 := ⟨_, rfl⟩
          obtain ⟨d', hd'⟩ : ∃ d', d' = d7 := ⟨_, rfl⟩
          rw [← hg', ← hd'] at XM fm
          rw [← hg'] at hqo
          clear hg' hd' x0 x1 x2 v0 v1 v2 V0 V1 V2 A0 A1 A2 hce hfr XM7 G XA7 ON7 on o7 gd7 b6 bs os b7 c7 C7 hSh hMu IX7 IXn hYs HON HNUM HGS HQ Br sr q1 q2 q3 fl
          obtain ⟨v0, v1, v2⟩ := XM
          go_wp2_with fail
          go_at_call 64
          refine (implTrace_any _ _ g' (sNn N o) d' (sDd o) _ (by unfold sNn; split <;> omega) fm).mono ?_
          rintro e wt ⟨rq, rfl, frq, bt⟩
          have Bt := Bx.trans (bt.mono Bx.size)
          cases o with
          | none =>
            have hnone : Hid (sgS r N Z r = none) := Lib.hid (by have := sg_none (j := k + 1) (by rw [HS.out]; rfl) (r - (k + 1)); rwa [show k + 1 + (r - (k + 1)) = r by omega] at this)
            rw [show traceOk (sR r none) (sR r none) (sNn N none) (sDd none) = false from trace_zero]
            clear v0 v1 v2 fm frq bt ON IX XA
            go_wp2_with fail
            go_ret2
            show SgIf (sgS r N Z r) r w _ _
            rw [hnone.out]
            exact NumsOwn.noG (by repeat first | (with_reducible exact Bt) | (with_reducible refine Below.setCell ?_ (by first | exact Nat.le_refl _ | (simp; done) | (simp; omega) | omega) _) | (with_reducible refine Below.alloc ?_ (by first | exact Nat.le_refl _ | (simp; done) | (simp; omega) | omega) _) | (with_reducible refine below_drewN ?_ _) | (with_reducible refine Below.drew ?_))
          | some D =>
            have hgD : allFin (vals D) N = true := gdo D rfl
            have htk : traceOk (sR r (some D)) (sR r (some D)) (sNn N (some D)) (sDd (some D)) = finite .f32 (sgT r D) := trace_some h1 h12 HN.out hgD
            have htv : finite .f32 (sgT r D) = true → traceV (sR r (some D)) (sR r (some D)) (sNn N (some D)) (sDd (some D)) = sgT r D := fun hh => by unfold traceV; rw [htk, hh]; rfl
            rw [htk]
            cases hf : finite .f32 (sgT r D) with
            | false =>
              have hnone : Hid (sgS r N Z r = none) := Lib.hid (by have := sg_none (j := k + 1) (by rw [HS.out]; show (if finite .f32 (sgT r D) = true then _ else none) = none; rw [hf]; rfl) (r - (k + 1)); rwa [show k + 1 + (r - (k + 1)) = r by omega] at this)
              clear v0 v1 v2 fm frq bt ON IX XA htk htv hf
              go_wp2_with fail
              go_ret2
              show SgIf (sgS r N Z r) r w _ _
              rw [hnone.out]
              exact NumsOwn.noG (by repeat first | (with_reducible exact Bt) | (with_reducible refine Below.setCell ?_ (by first | exact Nat.le_refl _ | (simp; done) | (simp; omega) | omega) _) | (with_reducible refine Below.alloc ?_ (by first | exact Nat.le_refl _ | (simp; done) | (simp; omega) | omega) _) | (with_reducible refine below_drewN ?_ _) | (with_reducible refine Below.drew ?_))
            | true =>
              rw [htv hf] at frq
              have hwx : ∀ x, sgT r D = some x → x < 4294967296 := fun x hx => by rw [hx] at frq; have := lt32 frq.2; have := frq.eq; omega
              have hsf := sgV_fin (k := k) (by omega) hf hwx
              obtain ⟨TT, hTT⟩ : ∃ TT, TT = sgV k (sgT r D) := ⟨_, rfl⟩
              have HSN : Hid (sgS r N Z (k + 1) = some (D, fun t => if t = k then datG (fun _ => TT) 0 else s.2 t)) := Lib.hid (by rw [HS.out]; show (if finite .f32 (sgT r D) = true then _ else none) = _; rw [if_pos hf, hTT])
              have st := bt.size
              have XM2 : Box wt mb r r g' N d' := Box.below (show Box wx mb r r g' N d' from ⟨v0, v1, v2⟩) bt sx
              have fm2 : FS .f32 wt g' N d' D := fm.below bt (Nat.le_refl _)
              have ON2 := ON.kept (below_grew bt) (fun q hq => by cases hq)
              have IX2 : ∀ i, wt.frozen? ⟨mb, i, none⟩ = false := fun i => (bt.frozen (p := ⟨mb, i, none⟩) (by show mb < wx.heap.size; omega)).trans (IX i)
              have XA2 := XA.below bt (by omega)
              obtain ⟨hce, hfr, q1, q2, q3, _⟩ := ON2.cell hlt
              have HFV : Hid (∀ r5, FV .f32 r5 (fop .quo .f32 (fneg .f32 (sgT r D)) (some (floatOfInt .f32 ((k : Int) + 1)))) → r5 = datG (fun _ => TT) 0 ∧ FV .f32 r5 (some r5)) := Lib.hid fun r5 h5 => by
                have h6 : FV .f32 r5 ((fun _ => TT) 0) := by rw [hTT]; exact h5
                have h7 : finite .f32 ((fun _ => TT) 0) = true := by rw [hTT]; exact hsf
                refine ⟨datG_of (V := fun _ => TT) h6 h7, ?_⟩
                have h8 := h6.1
                have h9 : finite .f32 (cn .f32 r5) = true := by rw [h8]; exact h7
                exact ⟨(cn_fin h9).1, h5.2⟩
              have HST : Hid (∀ m v, (Lit.float .f32 v).wf = true → Own 38 .f32 gn UU ((wt.drewN m).setCell ⟨gn, k, none⟩ (.float .f32 v)) (some ⟨gn, 0, none⟩) r r (fun t => if t = k then v else s.2 t) ∧ wt.grownBy ((wt.drewN m).setCell ⟨gn, k, none⟩ (.float .f32 v)) (some gn)) := Lib.hid fun m v hv => by
                obtain ⟨O4, G4⟩ := (show Own 38 .f32 gn UU (wt.drewN m) (some ⟨gn, 0, none⟩) r r s.2 from ON2).stored hlt hv
                exact ⟨O4, ⟨G4.os, G4.tape, G4.output, G4.size, G4.block⟩⟩
              have HXM := Lib.hid XM2
              have HFM := Lib.hid fm2
              have HIX := Lib.hid IX2
              have HXA := Lib.hid XA2
              have HNU := Lib.hid hnum
              have HQO : Hid (∀ q off, g' = some ⟨q, off, none⟩ → q ≠ gn ∧ q ≠ mb) := Lib.hid (fun q off e => (hqo q off e).resolve_left (by show ¬ (N = 0); omega))
              have HGD := Lib.hid hgD
              have HFG : Hid (∀ W, wt.grownBy W (some gn) → FS .f32 W g' N d' D) := Lib.hid fun W hG => by
                have hq2 := HQO.out
                obtain ⟨bq, oq, e, _⟩ := fm2.at hpos
                subst e
                exact fm2.grown hG (fun q hq => by cases hq; exact (hq2 bq oq rfl).1)
              have hk12 : IntKind.i64.wrap ((k : Int) + 1) = (k : Int) + 1 := IntWalk.i64_in _ (by omega)
              generalize s.2 k = old at hce
              clear v0 v1 v2 fm ON ON2 XM2 fm2 IX2 XA2 bt IX XA htk htv hsf hwx hTT hqo gdo hgD hnum Bx
              go_wp2_with (refine wpList_farith rfl _ _ _ _ _ rfl rfl _ _ _ rfl rfl (FV.neg frq) (FV.ofInt _ _) ?_; intro r5 m5 hr5)
              go_roundw
              case rel =>
                obtain ⟨e5, f5⟩ := HFV.out r5 hr5
                obtain ⟨O5, G5⟩ := HST.out _ r5 hr5.2
                refine ⟨k + 1, (D, fun t => if t = k then datG (fun _ => TT) 0 else s.2 t), g', d', by omega, by go_num, HSN.out, HXM.out.grown G5 (by omega) (fun q hq => by cases hq; omega), ?_, HGD.out, HQO.out, by rw [← e5]; exact O5, fun t ht => ?_, fun i => (World.frozen?_of_block (a := ⟨mb, i, none⟩) (G5.block mb (by show mb < wt.heap.size; omega) (fun e => by have := Option.some.inj e; omega))).trans (HIX.out i), HXA.out.grown G5 (by omega) (fun q hq => by cases hq; omega), Bt.grown G5 Bt.size (fun q hq => by cases hq; omega), Nat.lt_of_lt_of_le (show mb < wt.heap.size by omega) G5.size⟩
                · exact HFG.out _ G5
                · by_cases e : t = k
                  · show FV .f32 (if t = k then _ else _) (some (if t = k then _ else _))
                    rw [if_pos e, ← e5]; exact f5
                  · show FV .f32 (if t = k then _ else _) (some (if t = k then _ else _))
                    rw [if_neg e]; exact HNU.out t (by omega)
              case measure => simp [intOf] <;> omega
    · obtain rfl : k = r := by omega
      have ON2 := ON
      obtain ⟨_, _, q1, q2, q3, _⟩ := ON2.cell (show 0 < k by omega)
      clear XM fm hgs hqo hnum IX XA ON
      go_wp2_with fail
      go_ret2
      show SgIf (sgS k N Z k) k w _ _
      rw [hst]
      exact ⟨_, _, s.2, rfl, Own.mono ON2 (by omega) (by omega) (Nat.le_refl _), fun i hi => rfl, (by repeat first | (with_reducible exact Br) | (with_reducible refine Below.setCell ?_ (by first | exact Nat.le_refl _ | (simp; done) | (simp; omega) | omega) _) | (with_reducible refine Below.alloc ?_ (by first | exact Nat.le_refl _ | (simp; done) | (simp; omega) | omega) _) | (with_reducible refine below_drewN ?_ _) | (with_reducible refine Below.drew ?_))⟩
end Go.Proofs.Ytmjlhmbnaifhaac
