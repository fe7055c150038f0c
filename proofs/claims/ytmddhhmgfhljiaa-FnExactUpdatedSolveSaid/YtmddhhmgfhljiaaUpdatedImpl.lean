/- Helper: what a factor's square, changed by a product of two lists, makes a list of, of the program. Conditions: none. -/
import Derived.Test.YtmddhhmgfhljiaaFactorSolveImpl
import Derived.Test.YtmddhhmgfhljiaaVecSums
set_option linter.unusedVariables false
set_option linter.unusedSimpArgs false
namespace Go.Proofs.Ytmddhhmgfhljiaa
open Go.RowKit

/-- Whether a product of two lists is told. -/
def dotOkV (n n2 : Nat) (V W : Nat → Option Nat) : Bool := vecsB n n2 V W && finite .f32 (dotG V W n)
theorem dotOk_V {n n2 : Nat} {Z Y : Nat → Nat} {W : Nat → Option Nat} (h : ∀ i, i < n2 → vals Y i = W i) : dotOk n n2 Z Y = dotOkV n n2 (vals Z) W := by
  unfold dotOk dotOkV
  have e : vecsB n n2 (vals Z) (vals Y) = vecsB n n2 (vals Z) W := by
    unfold vecsB vecB
    rw [allFin_congr h]
  rw [e]
  cases hv : vecsB n n2 (vals Z) W with
  | false => rfl
  | true =>
    obtain rfl := vecsB_len hv
    rw [dotG_congr fun j hj => ⟨rfl, h j hj⟩]
theorem dotOkV_len {n n2 : Nat} {V W : Nat → Option Nat} (h : dotOkV n n2 V W = true) : n = n2 := by
  unfold dotOkV at h
  simp only [Bool.and_eq_true] at h
  exact vecsB_len h.1
/-- By how much the second list is taken away. -/
def updQ (Vv Vb Vu : Nat → Option Nat) (n : Nat) : Option Nat := fop .quo .f32 (dotG Vv Vb n) (fop .add .f32 (cn .f32 1065353216) (dotG Vv Vu n))
def updV (Vv Vb Vu : Nat → Option Nat) (n : Nat) (t : Nat) : Option Nat := fop .sub .f32 (Vb t) (fop .mul .f32 (updQ Vv Vb Vu n) (Vu t))
def updOk (okb oku : Bool) (nb n : Nat) (Vv Vb Vu : Nat → Option Nat) : Bool := okb && (oku && (dotOkV n nb Vv Vb && (dotOkV n nb Vv Vu && allFin (updV Vv Vb Vu n) nb)))
theorem Own.addr {T : TypeId} {k : FloatKind} {B U : Nat} {w : World} {a : Option Addr} {n c : Nat} {Z : Nat → Nat} (h : Own T k B U w a n c Z) (hn : 0 < n) : ∃ g, a = some ⟨g, 0, none⟩ := by
  rcases h with ⟨_, h0, _⟩ | ⟨g, xs, rfl, _⟩
  · omega
  · exact ⟨g, rfl⟩
set_option maxRecDepth 20000 in
set_option maxHeartbeats 1000000 in
theorem lessTimes_any (n g d b off c B U f : Nat) {F : Option Nat} (ff : FV .f32 f F) (X Y : Nat → Nat) (w : World) (hn : n ≤ 1048576) (o : Own 44 .f32 B U w (some ⟨g, 0, none⟩) n d X) (h : FS .f32 w (some ⟨b, off, none⟩) n c Y) (hne : b ≠ g) :
    Calls Try.prog 53 #[.slice (some ⟨g, 0, none⟩) n d, .float .f32 f, .slice (some ⟨b, off, none⟩) n c] w fun e w' => e = .returned (.tuple #[]) ∧ Became B U g n d (fun t => fop .sub .f32 (vals X t) (fop .mul .f32 F (vals Y t))) w w' := by
  obtain ⟨VV, hVV⟩ : ∃ VV, VV = fun t => fop .sub .f32 (vals X t) (fop .mul .f32 F (vals Y t)) := ⟨_, rfl⟩
  rw [← hVV]
  have HVV := Lib.hid hVV
  clear hVV
  have hd1 := (Own.fs o).1
  have hd2 := (Own.fs o).2.1
  have hd3 : d ≤ 9223372036854775807 := by unfold maxLen at hd2; omega
  go_enter Try.func53, Try.ntmps53
  go_wp2
  clear hd2
  go_loopw [10] (fun i wr => ∃ (q : Nat) (X2 : Nat → Nat), q ≤ n ∧ i = .int .i64 q ∧ Own 44 .f32 B U wr (some ⟨g, 0, none⟩) n d X2 ∧ (∀ t, t < n → vals X2 t = if t < q then VV t else vals X t) ∧ w.grownBy wr (some g)) (fun i _ => n - (intOf i).toNat)
  case atStart => exact ⟨0, X, Nat.zero_le _, rfl, o, fun t ht => by rw [if_neg (by omega)], World.grownBy.refl _ _⟩
  case round =>
    obtain ⟨q, X2, hq, rfl, ho, hv, hg⟩ := hrel
    have hv' := Lib.hid hv
    clear o hv
    by_cases hq' : q < n
    · have FY := h.grown hg (fun q hq => by cases hq; exact hne)
      obtain ⟨b', off', e, hbl, hcy, hfy⟩ := FY.at hq'
      simp only [Option.some.injEq, Addr.mk.injEq, and_true] at e
      obtain ⟨rfl, rfl⟩ := e
      obtain ⟨hce, hfr, _⟩ := ho.cell hq'
      have hfx : FV .f32 (X2 q) (cn .f32 (X2 q)) := (ho.fs.at hq').elim fun _ q => q.elim fun _ q => q.2.2.2
      have HXY : Hid (fop .sub .f32 (cn .f32 (X2 q)) (fop .mul .f32 F (cn .f32 (Y q))) = VV q) := Lib.hid (by
        have e1 := hv'.out q hq'
        rw [if_neg (by omega)] at e1
        rw [HVV.out]
        show _ = fop .sub .f32 (vals X q) _
        rw [← e1]; rfl)
      generalize cn .f32 (X2 q) = XQ at hfx HXY
      generalize cn .f32 (Y q) = YQ at hfy HXY
      generalize hy : Y q = yq at hfy hcy
      clear hbl FY hy
      have HO := Lib.hid ho
      have HG := Lib.hid hg
      clear ho hg
      go_wp2_with (first
        | (refine wpList_farith rfl _ _ _ _ _ rfl rfl _ _ _ rfl rfl ff hfy ?_; intro r5 m5 hr5)
        | (refine wpList_farith rfl _ _ _ _ _ rfl rfl _ _ _ rfl rfl hfx hr5 ?_; intro r6 m6 hr6))
      obtain ⟨O4, G4⟩ := (show Own 44 .f32 B U (wr.drewN (m5 + m6)) (some ⟨g, 0, none⟩) n d X2 from HO.out).stored hq' hr6.2
      have G5 : Hid (w.grownBy ((wr.drewN (m5 + m6)).setCell ⟨g, q, none⟩ (.float .f32 r6)) (some g)) := Lib.hid (grownBy_trans HG.out ⟨G4.os, G4.tape, G4.output, G4.size, G4.block⟩)
      have O5 := Lib.hid O4
      clear O4 G4
      go_roundw
      case rel =>
        refine ⟨q + 1, _, by omega, by go_num, O5.out, fun t ht => ?_, G5.out⟩
        rw [vals_put]
        by_cases e : t = q
        · rw [if_pos e, if_pos (by omega), e, hr6.1]; exact HXY.out
        · rw [if_neg e, hv'.out t ht]
          by_cases e2 : t < q
          · rw [if_pos e2, if_pos (by omega)]
          · rw [if_neg e2, if_neg (by omega)]
      case measure => simp [intOf]; omega
    · obtain rfl : q = n := by omega
      have hv2 : Hid (∀ t, t < q → vals X2 t = VV t) := Lib.hid fun t ht => (hv'.out t ht).trans (if_pos ht)
      have HO := Lib.hid ho
      have HG := Lib.hid hg
      clear ho hg
      go_wp2
      go_end0
      exact ⟨rfl, X2, HO.out, hv2.out, HG.out⟩
set_option maxRecDepth 20000 in
set_option maxHeartbeats 4000000 in
theorem implUpd_any (R C : Int) (a : Option Addr) (n c : Nat) (b : Option Addr) (m d : Nat) (au av ab : Option Addr) (lu cu lv cv lb cb : Nat) (Yv : Nat → Nat) (okb oku : Bool) (nb nu : Nat) (Vb Vu : Nat → Option Nat) (w : World)
    (hlv : lv ≤ 1048576) (hnb : okb = true → oku = true → nb = nu ∧ 1 ≤ nb ∧ nb ≤ 12) (hv : FS .f32 w av lv cv Yv)
    (kb : ∀ W, Below w.heap.size w W → Calls Try.prog 51 #[.agg #[.int .i64 R, .int .i64 C, .slice a n c, .slice b m d], .slice ab lb cb] W (NumsOwn okb nb Vb W)) (ku : ∀ W, Below w.heap.size w W → Calls Try.prog 51 #[.agg #[.int .i64 R, .int .i64 C, .slice a n c, .slice b m d], .slice au lu cu] W (NumsOwn oku nu Vu W)) :
    Calls Try.prog 20 #[.agg #[.int .i64 R, .int .i64 C, .slice a n c, .slice b m d], .slice au lu cu, .slice av lv cv, .slice ab lb cb] w (NOwnIf (updOk okb oku nb lv (vals Yv) Vb Vu) nb (updV (vals Yv) Vb Vu lv) w) := by
  have f1 : FV .f32 1065353216 (cn .f32 1065353216) := FV.mk' (by decide)
  go_enter Try.func20, Try.ntmps20
  go_wp2_with fail
  go_at_call 51
  refine (kb _ (by repeat first | (with_reducible exact Below.refl _ _) | (with_reducible refine Below.setCell ?_ (by first | exact Nat.le_refl _ | (simp; done) | (simp; omega) | omega) _) | (with_reducible refine Below.alloc ?_ (by first | exact Nat.le_refl _ | (simp; done) | (simp; omega) | omega) _) | (with_reducible refine below_drewN ?_ _) | (with_reducible refine Below.drew ?_))).mono ?_
  rintro e w1 ⟨g1, d1, X1, rfl, o1, hx1, b1⟩
  have B1 : Below w.heap.size w w1 := Below.trans (by repeat first | (with_reducible exact Below.refl _ _) | (with_reducible refine Below.setCell ?_ (by first | exact Nat.le_refl _ | (simp; done) | (simp; omega) | omega) _) | (with_reducible refine Below.alloc ?_ (by first | exact Nat.le_refl _ | (simp; done) | (simp; omega) | omega) _) | (with_reducible refine below_drewN ?_ _) | (with_reducible refine Below.drew ?_)) (b1.mono (by simp))
  have s1 : w.heap.size < w1.heap.size := by have := b1.size; simp at this; omega
  have X : BoxL w1 w.heap.size [.int .i64 R, .int .i64 C, .slice a n c, .slice b m d] := BoxL.below (BoxL.four (by simp [go_sem]) (by simp [go_sem]) (by simp [go_sem]) (by simp [go_sem])) b1 (by simp)
  have x0 := X 0 _ rfl
  have x1 := X 1 _ rfl
  have x2 := X 2 _ rfl
  have x3 := X 3 _ rfl
  have o1' := Own.mono (B' := w.heap.size + 1) o1 (by simp) (Nat.le_refl _) (Nat.le_refl _)
  clear b1 X o1
  go_wp2_with fail
  go_at_call 51
  refine (ku _ B1).mono ?_
  rintro e w2 ⟨g2, d2, X2, rfl, o2, hx2, b2⟩
  have B2 := B1.trans (b2.mono B1.size)
  have o1 := o1'.kept (below_grew b2) (fun q hq => by cases hq)
  have s2 := b2.size
  clear b2 x0 x1 x2 x3 B1 o1' kb ku
  cases okb with
  | false =>
    go_wp2_with fail
    go_ret2
    exact NOwnIf.no rfl (NumsOwn.noF B2)
  | true =>
    cases oku with
    | false =>
      go_wp2_with fail
      go_ret2
      exact NOwnIf.no rfl (NumsOwn.noF B2)
    | true =>
      obtain ⟨hnu, h1, h12⟩ := hnb rfl rfl
      subst hnu
      obtain ⟨g, rfl⟩ := o1.addr (by omega)
      obtain ⟨gu, rfl⟩ := o2.addr (by omega)
      have hgg : gu ≠ g := by
        obtain ⟨_, _, _, q1, _⟩ := o1.cell (t := 0) (by omega)
        obtain ⟨_, _, q2, _⟩ := o2.cell (t := 0) (by omega)
        omega
      have e3 := dotOk_V (n := lv) (Z := Yv) hx1
      have e4 := dotOk_V (n := lv) (Z := Yv) hx2
      have HK : Hid (∀ v, updOk true true nb lv (vals Yv) Vb Vu = v ↔ (dotOkV lv nb (vals Yv) Vb && (dotOkV lv nb (vals Yv) Vu && allFin (updV (vals Yv) Vb Vu lv) nb)) = v) := Lib.hid (fun v => Iff.rfl)
      have HX1 := Lib.hid hx1
      have HX2 := Lib.hid hx2
      clear hx1 hx2 hnb
      have F1 := o1.fs
      have F2 := o2.fs
      have FV0 := hv.below B2 (Nat.le_refl _)
      go_wp2_with fail
      go_at_call 52
      refine (implDotVectors_any av (some ⟨g, 0, none⟩) lv cv nb d1 Yv X1 _ hlv (by omega) FV0 F1).mono ?_
      rw [e3]
      rintro e w3 ⟨r3, rfl, hr3, m3, rfl⟩
      go_wp2_with fail
      go_at_call 52
      refine (implDotVectors_any av (some ⟨gu, 0, none⟩) lv cv nb d2 Yv X2 _ hlv (by omega) (FS.drewN FV0) (FS.drewN F2)).mono ?_
      rw [e4]
      rintro e w4 ⟨r4, rfl, hr4, m4, rfl⟩
      clear e3 e4
      cases h3 : dotOkV lv nb (vals Yv) Vb with
      | false =>
        have hno : Hid (updOk true true nb lv (vals Yv) Vb Vu = false) := Lib.hid (by rw [HK.out, h3]; rfl)
        clear h3
        go_wp2_with fail
        go_ret2
        exact NOwnIf.no hno.out (NumsOwn.noF (below_drewN B2 _))
      | true =>
        cases h4 : dotOkV lv nb (vals Yv) Vu with
        | false =>
          have hno : Hid (updOk true true nb lv (vals Yv) Vb Vu = false) := Lib.hid (by rw [HK.out, h3, h4]; rfl)
          clear h3 h4
          go_wp2_with fail
          go_ret2
          exact NOwnIf.no hno.out (NumsOwn.noF (below_drewN B2 _))
        | true =>
          have hlen := dotOkV_len h3
          subst hlen
          have hok : Hid (updOk true true lv lv (vals Yv) Vb Vu = allFin (updV (vals Yv) Vb Vu lv) lv) := Lib.hid (by unfold updOk; rw [h3, h4]; rfl)
          rw [h3] at hr3
          rw [h4] at hr4
          have f3 : FV .f32 r3 (dotG (vals Yv) Vb lv) := FV.of_eq (show FV .f32 r3 (dotG (vals Yv) (vals X1) lv) from hr3) (dotG_congr fun j hj => ⟨rfl, HX1.out j hj⟩)
          have f4 : FV .f32 r4 (dotG (vals Yv) Vu lv) := FV.of_eq (show FV .f32 r4 (dotG (vals Yv) (vals X2) lv) from hr4) (dotG_congr fun j hj => ⟨rfl, HX2.out j hj⟩)
          have HQ : Hid (fop .quo .f32 (dotG (vals Yv) Vb lv) (fop .add .f32 (cn .f32 1065353216) (dotG (vals Yv) Vu lv)) = updQ (vals Yv) Vb Vu lv) := Lib.hid rfl
          generalize dotG (vals Yv) Vb lv = S3 at f3 HQ
          generalize dotG (vals Yv) Vu lv = S4 at f4 HQ
          generalize hcc : cn .f32 1065353216 = c1 at f1 HQ
          have f1' : FV .f32 1065353216 c1 := f1
          have HO1 := Lib.hid o1
          have HO2 := Lib.hid o2
          have HB2 := Lib.hid B2
          clear hr3 hr4 h3 h4 o1 o2 hcc HK F1 F2 FV0
          go_wp2_with (first
            | (refine wpList_farith rfl _ _ _ _ _ rfl rfl _ _ _ rfl rfl f1' f4 ?_; intro r5 m5 hr5)
            | (refine wpList_farith rfl _ _ _ _ _ rfl rfl _ _ _ rfl rfl f3 hr5 ?_; intro r6 m6 hr6))
          go_at_call 53
          have f6 : FV .f32 r6 (updQ (vals Yv) Vb Vu lv) := FV.of_eq hr6 HQ.out
          clear hr5 hr6 f3 f4 f1 f1' HQ
          generalize hw5 : World.drewN w2 _ = w5
          have b5 : Below w2.heap.size w2 w5 := below_of_drewN hw5.symm
          clear hw5
          have O1 := HO1.out.kept (below_grew b5) (fun q hq => by cases hq)
          have F2 := HO2.out.fs.below b5 (Nat.le_refl _)
          refine (lessTimes_any lv g d1 gu 0 d2 (w.heap.size + 1) w1.heap.size r6 f6 X1 X2 _ (by omega) O1 F2 hgg).mono ?_
          rintro e w6 ⟨rfl, X6, o6, hX6, g6⟩
          have B6 : Below w.heap.size w w6 := (HB2.out.trans (b5.mono HB2.out.size)).grown g6 (by have := b5.size; have := HB2.out.size; omega) (fun q hq => by
            cases hq
            obtain ⟨_, _, q2, _⟩ := O1.cell (t := 0) (by omega)
            omega)
          have hXV : ∀ t, t < lv → vals X6 t = updV (vals Yv) Vb Vu lv t := by
            intro t ht
            rw [hX6 t ht]
            show fop .sub .f32 (vals X1 t) (fop .mul .f32 _ (vals X2 t)) = _
            rw [HX1.out t ht, HX2.out t ht]
            rfl
          have hvec : vecB lv (vals X6) = allFin (updV (vals Yv) Vb Vu lv) lv := (vec_ofF h1 h12).trans (allFin_congr hXV)
          have f6' := o6.fs
          have O6 := Lib.hid o6
          have HB6 := Lib.hid B6
          have HXV := Lib.hid hXV
          have s6 : w1.heap.size ≤ w6.heap.size := by
            obtain ⟨_, _, _, _, q, _⟩ := o6.cell (t := 0) (by omega)
            exact q
          obtain ⟨OK, hOK⟩ : ∃ F, F = allFin (updV (vals Yv) Vb Vu lv) lv := ⟨_, rfl⟩
          rw [← hOK] at hvec hok
          clear g6 o6 B6 hXV hX6 O1 F2 b5 hOK
          cases OK with
          | true =>
            go_wp2_with fail
            go_at_call 46
            refine (vectorResult_yes _ lv d1 X6 _ (by omega) f6' hvec).mono ?_
            rintro e w7 ⟨rfl, m7, rfl⟩
            go_wp2_with fail
            go_ret2
            exact NOwnIf.yes hok.out ⟨_, _, X6, rfl, Own.mono (U := w1.heap.size) (B := w.heap.size + 1) O6.out (by omega) s6 (Nat.le_refl _), HXV.out, below_drewN HB6.out _⟩
          | false =>
            go_wp2_with fail
            go_at_call 46
            refine (vectorResult_no _ lv d1 X6 _ (by omega) f6' hvec).mono ?_
            rintro e w7 ⟨rfl, m7, rfl⟩
            go_wp2_with fail
            go_ret2
            exact NOwnIf.no hok.out (NumsOwn.noF (below_drewN HB6.out _))
end Go.Proofs.Ytmddhhmgfhljiaa
