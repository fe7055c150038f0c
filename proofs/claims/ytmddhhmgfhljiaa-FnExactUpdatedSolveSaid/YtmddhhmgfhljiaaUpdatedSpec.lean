/- Helper: what a factor's square, changed by a product of two lists, makes a list of, of the reference. Conditions: none. -/
import Derived.Test.YtmddhhmgfhljiaaUpdatedImpl
import Derived.Test.YtmddhhmgfhljiaaFactorSolveKey
import Derived.Test.YtmddhhmgfhljiaaHeavy
set_option linter.unusedVariables false
set_option linter.unusedSimpArgs false
namespace Go.Proofs.Ytmddhhmgfhljiaa
open Go.RowKit

theorem drewN_up {w : World} {a b : Nat} : (w.drewN a).drewN b = w.drewN (a + b) := by
  simp only [World.drewN, Nat.add_assoc]
theorem heavyUpon_runU {C : Act → World → Prop} {A : Value → Act} {K : Act → Prop} {r : Result Next} {v : Value} {w' : World} (h : r = .ok (.value v) w') (h1 : C (A v) w') (h2 : K (A v)) : heavyUpon C A K r := by
  subst h
  exact ⟨h1, h2⟩
theorem heavy_append_liesU {P : Program} (w : World) {o : Oper} {a : Act} {C : Act → World → Prop} {K : Act → Prop} (s x : Operand) (t : TypeId)
    (ho : o.op = .call { callee := .builtin .append, args := #[s, x], argTypes := #[t, t] })
    (base : Nat) (e : TypeId) (i : TypeInfo) (z : Value) (size bytes : Nat) (ht : P.underlying t = some (.slice e)) (hi : P.info? e = some i) (hz : i.zero = some z)
    (hsize : i.size = size) (hby : i.bytes = bytes) (hzs : z.cells.size = size) (hsz : 0 < size)
    (v : Value) (n : Nat) (xs : List Value) (hs : a.eval s = v) (hown : w.ownsRow base e size v n xs)
    (ad : Addr) (m c : Nat) (news : List Value) (hx : a.eval x = .slice (some ad) m c) (hl : news.length = m * size) (hnews : ∀ j u, news[j]? = some u → w.cell? (ad.add j) = some u) (h1 : ∀ u ∈ news, u.oneCell' = true)
    (hm : 0 < m) (h63 : n + m ≤ maxLen) (hbytes : (n + m) * bytes ≤ 140737488355328) (hbase : base ≤ w.heap.size) (H : Nat) (hH : w.heap.size = H)
    (h : ∀ g cap w', w'.ownsRow base e size (.slice (some ⟨g, 0, none⟩) (n + m) cap) (n + m) (xs ++ news) → w.grownBy w' v.ownBlock → (v.ownBlock = some g ∨ g = H) → g < w'.heap.size → C (a.put o.dst (.slice (some ⟨g, 0, none⟩) (n + m) cap)) w' ∧ K (a.put o.dst (.slice (some ⟨g, 0, none⟩) (n + m) cap))) :
    heavyUpon C (fun u => a.put o.dst u) K ((execOp a.eval o).run P w) := by
  obtain ⟨g, cap, w', hr, h2, h3, h4, h5⟩ := run_append_lies (P := P) w t o.type base e i z size bytes ht hi hz hsize hby hzs hsz v n xs hown ad m c news hl hnews h1 hm h63 hbytes hbase H hH
  unfold execOp
  simp only [ho, resolve, invoke, builtin, Sem.run_bind, Sem.run_pure, Result.andThen_ok, List.map_toArray, List.map_cons, List.map_nil, hs, hx, hr]
  exact h g cap w' h2 h3 h4 h5
/-- The world while a number is made by two operations and appended to a list in a slot: s heavy operations have come up. -/
def AppG (wa wr : World) (v : Value) (j : Nat) (xs : List Value) (s : Nat) (l : List Value) (W : World) : Prop :=
  Below wa.heap.size wa W ∧ match s with
    | 0 => ∃ m, W = wr.drewN m
    | 1 => ∃ m, W = wr.drewN m
    | 2 => ∃ m, W = wr.drewN m
    | 3 => ∃ m k r, l[0]? = some (.float .f32 r) ∧ W = ((wr.drewN m).alloc (.cells #[.float .f32 r] 44)).drewN k
    | _ => ∃ g c2 r wx, l[0]? = some (.float .f32 r) ∧ l[1]? = some (.slice (some ⟨g, 0, none⟩) (j + 1) c2) ∧ Below wr.heap.size wr wx ∧ W.ownsRow wa.heap.size 44 1 (.slice (some ⟨g, 0, none⟩) (j + 1) c2) (j + 1) (xs ++ [.float .f32 r]) ∧ wx.grownBy W v.ownBlock
theorem AppG.drew {wa wr : World} {v : Value} {j : Nat} {xs : List Value} (s : Nat) (l : List Value) (W : World) (k : Nat) (h : AppG wa wr v j xs s l W) : AppG wa wr v j xs s l (W.drewN k) := by
  have hb : Below W.heap.size W (W.drewN k) := below_drewN (Below.refl _ _) _
  unfold AppG at *
  refine ⟨below_drewN h.1 _, ?_⟩
  obtain ⟨_, h⟩ := h
  match s with
  | 0 => obtain ⟨m, rfl⟩ := h; exact ⟨_, drewN_up⟩
  | 1 => obtain ⟨m, rfl⟩ := h; exact ⟨_, drewN_up⟩
  | 2 => obtain ⟨m, rfl⟩ := h; exact ⟨_, drewN_up⟩
  | 3 => obtain ⟨m, q, r, h1, rfl⟩ := h; exact ⟨m, _, r, h1, drewN_up⟩
  | s + 4 =>
    obtain ⟨g, c2, r, wx, h1, h2, h3, h4, h5⟩ := h
    exact ⟨g, c2, r, wx, h1, h2, h3, ownsRow_below h4 hb, grownBy_trans h5 ⟨hb.os, hb.tape, hb.output, hb.size, fun q hq _ => hb.block q hq⟩⟩
set_option maxRecDepth 20000 in
set_option maxHeartbeats 4000000 in
theorem specUpd_any (R C : Int) (a : Option Addr) (n c : Nat) (b : Option Addr) (m d : Nat) (au av ab : Option Addr) (lu cu lv cv lb cb : Nat) (Yv : Nat → Nat) (okb oku : Bool) (nb nu : Nat) (Vb Vu : Nat → Option Nat) (w : World)
    (hlv : lv ≤ 1048576) (hnb : okb = true → oku = true → nb = nu ∧ 1 ≤ nb ∧ nb ≤ 12) (hv : FS .f32 w av lv cv Yv)
    (kb : ∀ W, Below w.heap.size w W → Calls Try.prog 49 #[.agg #[.int .i64 R, .int .i64 C, .slice a n c, .slice b m d], .slice ab lb cb] W (NumsBel okb nb Vb W)) (ku : ∀ W, Below w.heap.size w W → Calls Try.prog 49 #[.agg #[.int .i64 R, .int .i64 C, .slice a n c, .slice b m d], .slice au lu cu] W (NumsBel oku nu Vu W)) :
    Calls Try.prog 19 #[.agg #[.int .i64 R, .int .i64 C, .slice a n c, .slice b m d], .slice au lu cu, .slice av lv cv, .slice ab lb cb] w (NBelIf (updOk okb oku nb lv (vals Yv) Vb Vu) nb (updV (vals Yv) Vb Vu lv) w) := by
  have f1 : FV .f32 1065353216 (cn .f32 1065353216) := FV.mk' (by decide)
  obtain ⟨i0, hi, hz0, hz1, hz2⟩ := info_parts info32
  go_enter Try.func19, Try.ntmps19
  go_wp2_with fail
  go_at_call 49
  refine (kb _ (by repeat first | (with_reducible exact Below.refl _ _) | (with_reducible refine Below.setCell ?_ (by first | exact Nat.le_refl _ | (simp; done) | (simp; omega) | omega) _) | (with_reducible refine Below.alloc ?_ (by first | exact Nat.le_refl _ | (simp; done) | (simp; omega) | omega) _) | (with_reducible refine below_drewN ?_ _) | (with_reducible refine Below.drew ?_))).mono ?_
  rintro e w1 ⟨g1, d1, X1, rfl, F1, hx1, b1⟩
  have B1 : Below w.heap.size w w1 := Below.trans (by repeat first | (with_reducible exact Below.refl _ _) | (with_reducible refine Below.setCell ?_ (by first | exact Nat.le_refl _ | (simp; done) | (simp; omega) | omega) _) | (with_reducible refine Below.alloc ?_ (by first | exact Nat.le_refl _ | (simp; done) | (simp; omega) | omega) _) | (with_reducible refine below_drewN ?_ _) | (with_reducible refine Below.drew ?_)) (b1.mono (by simp))
  have s1 : w.heap.size < w1.heap.size := by have := b1.size; simp at this; omega
  have X : BoxL w1 w.heap.size [.int .i64 R, .int .i64 C, .slice a n c, .slice b m d] := BoxL.below (BoxL.four (by simp [go_sem]) (by simp [go_sem]) (by simp [go_sem]) (by simp [go_sem])) b1 (by simp)
  have x0 := X 0 _ rfl
  have x1 := X 1 _ rfl
  have x2 := X 2 _ rfl
  have x3 := X 3 _ rfl
  clear b1 X
  go_wp2_with fail
  go_at_call 49
  refine (ku _ B1).mono ?_
  rintro e w2 ⟨g2, d2, X2, rfl, F2, hx2, b2⟩
  have B2 := B1.trans (b2.mono B1.size)
  have F1 := F1.below b2 (Nat.le_refl _)
  clear b2 x0 x1 x2 x3 B1 kb ku
  cases okb with
  | false =>
    go_wp2_with fail
    go_ret2
    exact NBelIf.no rfl (NumsBel.noF B2)
  | true =>
    cases oku with
    | false =>
      go_wp2_with fail
      go_ret2
      exact NBelIf.no rfl (NumsBel.noF B2)
    | true =>
      obtain ⟨hnu, h1, h12⟩ := hnb rfl rfl
      subst hnu
      have e3 := dotOk_V (n := lv) (Z := Yv) hx1
      have e4 := dotOk_V (n := lv) (Z := Yv) hx2
      have HK : Hid (∀ v, updOk true true nb lv (vals Yv) Vb Vu = v ↔ (dotOkV lv nb (vals Yv) Vb && (dotOkV lv nb (vals Yv) Vu && allFin (updV (vals Yv) Vb Vu lv) nb)) = v) := Lib.hid (fun v => Iff.rfl)
      have HX1 := Lib.hid hx1
      have HX2 := Lib.hid hx2
      clear hx1 hx2 hnb
      have FV0 := hv.below B2 (Nat.le_refl _)
      go_wp2_with fail
      go_at_call 50
      refine (specDotVectors_any av g1 lv cv nb d1 Yv X1 _ hlv (by omega) FV0 F1).mono ?_
      rw [e3]
      rintro e w3 ⟨r3, rfl, hr3, m3, rfl⟩
      go_wp2_with fail
      go_at_call 50
      refine (specDotVectors_any av g2 lv cv nb d2 Yv X2 _ hlv (by omega) (FS.drewN FV0) (FS.drewN F2)).mono ?_
      rw [e4]
      rintro e w4 ⟨r4, rfl, hr4, m4, rfl⟩
      clear e3 e4
      cases h3 : dotOkV lv nb (vals Yv) Vb with
      | false =>
        have hno : Hid (updOk true true nb lv (vals Yv) Vb Vu = false) := Lib.hid (by rw [HK.out, h3]; rfl)
        clear h3
        go_wp2_with fail
        go_ret2
        exact NBelIf.no hno.out (NumsBel.noF (below_drewN B2 _))
      | true =>
        cases h4 : dotOkV lv nb (vals Yv) Vu with
        | false =>
          have hno : Hid (updOk true true nb lv (vals Yv) Vb Vu = false) := Lib.hid (by rw [HK.out, h3, h4]; rfl)
          clear h3 h4
          go_wp2_with fail
          go_ret2
          exact NBelIf.no hno.out (NumsBel.noF (below_drewN B2 _))
        | true =>
          have hlen := dotOkV_len h3
          subst hlen
          have hok : Hid (updOk true true lv lv (vals Yv) Vb Vu = allFin (updV (vals Yv) Vb Vu lv) lv) := Lib.hid (by unfold updOk; rw [h3, h4]; rfl)
          rw [h3] at hr3
          rw [h4] at hr4
          have f3 : FV .f32 r3 (dotG (vals Yv) Vb lv) := FV.of_eq (show FV .f32 r3 (dotG (vals Yv) (vals X1) lv) from hr3) (dotG_congr fun j hj => ⟨rfl, HX1.out j hj⟩)
          have f4 : FV .f32 r4 (dotG (vals Yv) Vu lv) := FV.of_eq (show FV .f32 r4 (dotG (vals Yv) (vals X2) lv) from hr4) (dotG_congr fun j hj => ⟨rfl, HX2.out j hj⟩)
          have HQ : Hid (fop .quo .f32 (dotG (vals Yv) Vb lv) (fop .add .f32 (cn .f32 1065353216) (dotG (vals Yv) Vu lv)) = updQ (vals Yv) Vb Vu lv) := Lib.hid rfl
          generalize dotG (vals Yv) Vb lv = S3 at f3 HQ
          generalize dotG (vals Yv) Vu lv = S4 at f4 HQ
          generalize hcc : cn .f32 1065353216 = c1 at f1 HQ
          have f1' : FV .f32 1065353216 c1 := f1
          have HB2 := Lib.hid B2
          obtain ⟨OK, hOK⟩ : ∃ F, F = allFin (updV (vals Yv) Vb Vu lv) lv := ⟨_, rfl⟩
          rw [← hOK] at hok
          have HOK := Lib.hid hOK
          obtain ⟨VV, hVV⟩ : ∃ F, F = updV (vals Yv) Vb Vu lv := ⟨_, rfl⟩
          have HVV := Lib.hid hVV
          obtain ⟨ba, oa, rfl, _, _, _⟩ := F1.at (show 0 < lv by omega)
          obtain ⟨bu, ou, rfl, _, _, _⟩ := F2.at (show 0 < lv by omega)
          clear hr3 hr4 h3 h4 hcc HK FV0 hOK
          go_wp2_with (first
            | (refine wpList_farith rfl _ _ _ _ _ rfl rfl _ _ _ rfl rfl f1' f4 ?_; intro r5 m5 hr5)
            | (refine wpList_farith rfl _ _ _ _ _ rfl rfl _ _ _ rfl rfl f3 hr5 ?_; intro rq m6 hr6))
          have fq : FV .f32 rq (updQ (vals Yv) Vb Vu lv) := FV.of_eq hr6 HQ.out
          have HFQ := Lib.hid fq
          clear hr5 hr6 f3 f4 f1 f1' HQ fq
          generalize hw5 : World.drewN w2 _ = w5
          have b5 : Below w2.heap.size w2 w5 := below_of_drewN hw5.symm
          have hsz : w5.heap.size = w2.heap.size := by rw [← hw5]; rfl
          clear hw5
          have F15 := F1.below b5 (Nat.le_refl _)
          have F25 := F2.below b5 (Nat.le_refl _)
          have B5 : Below w.heap.size w w5 := HB2.out.trans (b5.mono HB2.out.size)
          clear F1 F2 b5 B2
          have hL := World.ownsRow_lit (base := w5.heap.size) (e := 44) (size := 1) w5 #[] 0 (Nat.le_refl _) (Nat.zero_le _) rfl
          go_wp2
          go_loopw [19, 64] (fun v i wr => ∃ (j : Nat) (xs : List Value), j ≤ lv ∧ i = .int .i64 j ∧ Grow w5 j VV wr v xs) (fun _ i _ => lv - (intOf i).toNat)
          case atStart => exact ⟨0, [], Nat.zero_le _, rfl, by simpa [hsz] using hL, fun t ht => absurd ht (Nat.not_lt_zero _), (by repeat first | (with_reducible exact Below.refl _ _) | (with_reducible refine Below.setCell ?_ (by first | exact Nat.le_refl _ | (simp; done) | (simp; omega) | omega) _) | (with_reducible refine Below.alloc ?_ (by first | exact Nat.le_refl _ | (simp; done) | (simp; omega) | omega) _) | (with_reducible refine below_drewN ?_ _) | (with_reducible refine Below.drew ?_)), _, _, rfl⟩
          case round =>
            obtain ⟨j, xs, hj, rfl, hk⟩ := hrel
            clear hL
            obtain ⟨g, cp, rfl⟩ := hk.shape
            by_cases hlt : j < lv
            · obtain ⟨b', off', e, lp1, hce, hfx⟩ := F15.at hlt
              simp only [Option.some.injEq, Addr.mk.injEq, and_true] at e
              obtain ⟨rfl, rfl⟩ := e
              obtain ⟨b', off', e, lp2, hce2, hfz⟩ := F25.at hlt
              simp only [Option.some.injEq, Addr.mk.injEq, and_true] at e
              obtain ⟨rfl, rfl⟩ := e
              have HV : Hid (∀ r, FV .f32 r (fop .sub .f32 (cn .f32 (X1 j)) (fop .mul .f32 (updQ (vals Yv) Vb Vu lv) (cn .f32 (X2 j)))) → FV .f32 r (VV j)) := Lib.hid (fun r hr => FV.of_eq hr (by
                have e1 := HX1.out j hlt
                have e2 := HX2.out j hlt
                show fop .sub .f32 (vals X1 j) (fop .mul .f32 _ (vals X2 j)) = _
                rw [HVV.out, e1, e2]; rfl))
              have fq := HFQ.out
              generalize updQ (vals Yv) Vb Vu lv = QQ at fq HV
              generalize cn .f32 (X1 j) = XQ at hfx HV
              generalize cn .f32 (X2 j) = ZQ at hfz HV
              generalize hx : X1 j = x at hfx hce
              generalize hz : X2 j = z at hfz hce2
              have hD0 : ∀ m, Below w5.heap.size w5 (wr.drewN m) := fun m => below_drewN hk.bel m
              have hD1 : ∀ m k r, Below w5.heap.size w5 (((wr.drewN m).alloc (.cells #[.float .f32 r] 44)).drewN k) := fun m k r => below_drewN (Below.alloc (hD0 m) hk.bel.size _) k
              have hcx1 := (hk.bel.cell (p := _) lp1).trans hce
              have hcx2 := (hk.bel.cell (p := _) lp2).trans hce2
              clear hx hz
              go_wp2
              refine wp_region_heavy (fun W => Below w5.heap.size w5 W) (fun s a' W => AppG w5 wr (.slice (some ⟨g, 0, none⟩) j cp) j xs s ([78, 80].map fun d => a'.tmps.getD d undef) W) (fun i => if i = 10 then some 0 else if i = 11 then some 1 else if i = 12 then some 2 else if i = 13 then some 3 else none) 14 4
                (HClass.of (slots := [78, 80]) (F := AppG w5 wr (.slice (some ⟨g, 0, none⟩) j cp) j xs) (by kernel_rfl) (fun s l W h => h.1) (fun s l W m h => AppG.drew s l W m h)) ⟨hD0 1, 1, rfl⟩ (by kernel_rfl) (by kernel_rfl) (by kernel_rfl) (by kernel_rfl) ?_
              simp only [List.take_succ_cons, List.take_zero, List.drop_succ_cons, List.drop_zero]
              (refine wpHeavy_plain rfl rfl rfl (fun K hK => ?_); go_big_quiet_op; (first | refine hK _ ?_ | refine ⟨_, fun _ _ => rfl, hK _ ?_⟩ | refine ⟨_, fun _ _ _ => rfl, hK _ ?_⟩); clear hK K)
              (refine wpHeavy_plain rfl rfl rfl (fun K hK => ?_); go_big_quiet_op; (first | refine hK _ ?_ | refine ⟨_, fun _ _ => rfl, hK _ ?_⟩ | refine ⟨_, fun _ _ _ => rfl, hK _ ?_⟩); clear hK K)
              (refine wpHeavy_plain rfl rfl rfl (fun K hK => ?_); go_big_quiet_op; (first | refine hK _ ?_ | refine ⟨_, fun _ _ => rfl, hK _ ?_⟩ | refine ⟨_, fun _ _ _ => rfl, hK _ ?_⟩); clear hK K)
              (refine wpHeavy_plain rfl rfl rfl (fun K hK => ?_); go_big_quiet_op; (first | refine hK _ ?_ | refine ⟨_, fun _ _ => rfl, hK _ ?_⟩ | refine ⟨_, fun _ _ _ => rfl, hK _ ?_⟩); clear hK K)
              (refine wpHeavy_run (.float .f32 x) rfl rfl (by intro W hW; have hcell := (hW.cell (p := _) (by assumption)).trans hce; simp [go_sem, BigFrame.eval_const, BigFrame.eval_global, BigFrame.eval_func, hcell]) ?_; simp only [Act.put, List.setIfInBounds_toArray, List.set_cons_succ, List.set_cons_zero])
              (refine wpHeavy_plain rfl rfl rfl (fun K hK => ?_); go_big_quiet_op; (first | refine hK _ ?_ | refine ⟨_, fun _ _ => rfl, hK _ ?_⟩ | refine ⟨_, fun _ _ _ => rfl, hK _ ?_⟩); clear hK K)
              (refine wpHeavy_plain rfl rfl rfl (fun K hK => ?_); go_big_quiet_op; (first | refine hK _ ?_ | refine ⟨_, fun _ _ => rfl, hK _ ?_⟩ | refine ⟨_, fun _ _ _ => rfl, hK _ ?_⟩); clear hK K)
              (refine wpHeavy_plain rfl rfl rfl (fun K hK => ?_); go_big_quiet_op; (first | refine hK _ ?_ | refine ⟨_, fun _ _ => rfl, hK _ ?_⟩ | refine ⟨_, fun _ _ _ => rfl, hK _ ?_⟩); clear hK K)
              (refine wpHeavy_plain rfl rfl rfl (fun K hK => ?_); go_big_quiet_op; (first | refine hK _ ?_ | refine ⟨_, fun _ _ => rfl, hK _ ?_⟩ | refine ⟨_, fun _ _ _ => rfl, hK _ ?_⟩); clear hK K)
              (refine wpHeavy_run (.float .f32 z) rfl rfl (by intro W hW; have hcell := (hW.cell (p := _) (by assumption)).trans hce2; simp [go_sem, BigFrame.eval_const, BigFrame.eval_global, BigFrame.eval_func, hcell]) ?_; simp only [Act.put, List.setIfInBounds_toArray, List.set_cons_succ, List.set_cons_zero])
              refine wpHeavy_farith rfl rfl ⟨wr.drewN 1, hD0 1, 1, rfl⟩ _ _ _ _ _ rfl rfl _ _ _ rfl rfl fq hfz (fun r5 hr5 => ⟨?_, ?_⟩)
              · rintro W m ⟨hD, m0, rfl⟩
                exact ⟨by rw [drewN_up]; exact hD0 _, _, drewN_up⟩
              simp only [Act.put, List.setIfInBounds_toArray, List.set_cons_succ, List.set_cons_zero]
              refine wpHeavy_farith rfl rfl ⟨wr.drewN 1, hD0 1, 1, rfl⟩ _ _ _ _ _ rfl rfl _ _ _ rfl rfl hfx hr5 (fun r6 hr6 => ⟨?_, ?_⟩)
              · rintro W m ⟨hD, m0, rfl⟩
                exact ⟨by rw [drewN_up]; exact hD0 _, _, drewN_up⟩
              simp only [Act.put, List.setIfInBounds_toArray, List.set_cons_succ, List.set_cons_zero]
              refine wpHeavy_step rfl rfl ⟨wr.drewN 1, hD0 1, 1, rfl⟩ ?_
              rintro W ⟨hD, m0, rfl⟩
              refine heavyUpon_runU (v := .slice (some ⟨wr.heap.size, 0, none⟩) 1 1) (w' := (wr.drewN m0).alloc (.cells #[.float .f32 r6] 44)) (by simp [go_sem, BigFrame.eval_const, BigFrame.eval_global, BigFrame.eval_func]) ⟨hD1 m0 0 r6, m0, 0, r6, rfl, rfl⟩ ?_
              simp only [Act.put, List.setIfInBounds_toArray, List.set_cons_succ, List.set_cons_zero]
              refine wpHeavy_step rfl rfl ⟨_, hD1 0 0 r6, 0, 0, r6, rfl, rfl⟩ ?_
              rintro W ⟨hD, m1', k1, r7, hl0, rfl⟩
              have hr76 : r7 = r6 := by simpa using hl0.symm
              subst hr76
              refine heavy_append_liesU _ _ _ _ rfl w5.heap.size 44 i0 _ 1 4 Try.underlying22 hi hz0 hz1 hz2 rfl (by omega) (.slice (some ⟨g, 0, none⟩) j cp) j xs rfl (ownsRow_below hk.own (by repeat first | (with_reducible exact Below.refl _ _) | (with_reducible refine Below.setCell ?_ (by first | exact Nat.le_refl _ | (simp; done) | (simp; omega) | omega) _) | (with_reducible refine Below.alloc ?_ (by first | exact Nat.le_refl _ | (simp; done) | (simp; omega) | omega) _) | (with_reducible refine below_drewN ?_ _) | (with_reducible refine Below.drew ?_))) ⟨wr.heap.size, 0, none⟩ 1 1 [.float .f32 r7] rfl rfl
                (by exact World.news_of_block (cs := #[.float .f32 r7]) (t := 44) (fr := (0, 0)) (heap_alloc_new _ _)) (by simp [Value.oneCell']) (by omega) (by unfold maxLen; omega) (by omega) (by have := hk.bel.size; simp [World.drewN]; omega) (wr.heap.size + 1) (by simp [World.drewN]) ?_
              intro gg c2 W2 hown2 hgrow2 hat2 hlt2
              have hbx : Below wr.heap.size wr (((wr.drewN m1').alloc (.cells #[.float .f32 r7] 44)).drewN k1) := (by repeat first | (with_reducible exact Below.refl _ _) | (with_reducible refine Below.setCell ?_ (by first | exact Nat.le_refl _ | (simp; done) | (simp; omega) | omega) _) | (with_reducible refine Below.alloc ?_ (by first | exact Nat.le_refl _ | (simp; done) | (simp; omega) | omega) _) | (with_reducible refine below_drewN ?_ _) | (with_reducible refine Below.drew ?_))
              refine ⟨⟨hD.grown hgrow2 hD.size (fun q hq => (hk.own.lt q hq).1), gg, c2, r7, _, rfl, rfl, hbx, hown2, hgrow2⟩, ?_⟩
              clear hown2 hgrow2 hat2 hlt2 hbx hD
              simp only [Act.put, List.setIfInBounds_toArray, List.set_cons_succ, List.set_cons_zero]
              refine wpHeavy_nil ?_
              rintro W ⟨hD, g2, c3, r8, wx2, hl1, hl2, hbx, hown2, hgrow2⟩
              have hr87 : r8 = r7 := by simpa using hl1.symm
              subst hr87
              obtain ⟨rfl, rfl⟩ : gg = g2 ∧ c2 = c3 := by simpa using hl2
              have hst := Lib.hid (hk.step hbx hown2 hgrow2 (HV.out _ hr6))
              clear hk hown2 hgrow2 hbx hD hD0 hD1 hl1 hl2 hr5 hr6 fq hfx hfz hce hce2 hcx1 hcx2 HV
              go_wp2
              go_roundw
              case rel => exact ⟨j + 1, _, by omega, by go_num, hst.out⟩
              case measure => simp [intOf]; omega
            · obtain rfl : j = lv := by omega
              obtain ⟨X4, F4, hX4⟩ := hk.fs
              have hfin : allFin (vals X4) j = OK := by rw [HOK.out, ← HVV.out]; exact allFin_congr hX4
              have HX4 : Hid (∀ t, t < j → vals X4 t = updV (vals Yv) Vb Vu j t) := Lib.hid fun t ht => (hX4 t ht).trans (by rw [HVV.out])
              have BB : Hid (Below w.heap.size w wr) := Lib.hid (B5.trans (hk.bel.mono B5.size))
              clear hk hX4
              cases OK with
              | true =>
                go_wp2_with fail
                go_at_call 38
                refine (listF_yes _ j cp X4 _ (by omega) F4 hfin).mono ?_
                rintro e w8 ⟨rfl, m8, rfl⟩
                go_wp2_with fail
                go_ret2
                exact NBelIf.yes hok.out ⟨_, _, X4, rfl, FS.drewN F4, HX4.out, below_drewN BB.out _⟩
              | false =>
                go_wp2_with fail
                go_at_call 38
                refine (listF_no _ j cp X4 _ (by omega) F4 hfin).mono ?_
                rintro e w8 ⟨rfl, m8, rfl⟩
                go_wp2_with fail
                go_ret2
                exact NBelIf.no hok.out (NumsBel.noF (below_drewN BB.out _))
end Go.Proofs.Ytmddhhmgfhljiaa
