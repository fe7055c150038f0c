/- Helper: the root of a square, of the program. Conditions: none. -/
import Derived.Test.YtmjlhmbnaifhaaaKindSteps
import Derived.Test.YtmjlhmbnaifhaaaRootSqFacts
set_option linter.unusedVariables false
set_option linter.unusedSimpArgs false
namespace Go.Proofs.Ytmjlhmbnaifhaaa
open Go.RowKit

theorem implRootSq_no (R C : Int) (a : Option Addr) (n c : Nat) (Z : Nat → Nat) (w : World) (hn : n ≤ 1048576) (h : FS .f32 w a n c Z) (hsq : squareB R C n (vals Z) = false) :
    Calls Try.prog 12 #[.agg #[.int .i64 R, .int .i64 C, .slice a n c]] w (MatOwn false 0 0 0 (fun _ => none) w) := by
  have HSQ := Lib.hid hsq
  clear hsq
  go_enter Try.func12, Try.ntmps12
  go_wp2_with fail
  go_at_call 34
  refine (implSquare_any R C a n c Z _ hn (h.below (by repeat first | (with_reducible exact Below.refl _ _) | (with_reducible refine Below.setCell ?_ (by first | exact Nat.le_refl _ | (simp; done) | (simp; omega) | omega) _) | (with_reducible refine Below.alloc ?_ (by first | exact Nat.le_refl _ | (simp; done) | (simp; omega) | omega) _) | (with_reducible refine below_drewN ?_ _) | (with_reducible refine Below.drew ?_)) (Nat.le_refl _))).mono ?_
  rintro e w1 ⟨rfl, b1⟩
  rw [HSQ.out]
  have B1 : Below w.heap.size w w1 := Below.trans (by repeat first | (with_reducible exact Below.refl _ _) | (with_reducible refine Below.setCell ?_ (by first | exact Nat.le_refl _ | (simp; done) | (simp; omega) | omega) _) | (with_reducible refine Below.alloc ?_ (by first | exact Nat.le_refl _ | (simp; done) | (simp; omega) | omega) _) | (with_reducible refine below_drewN ?_ _) | (with_reducible refine Below.drew ?_)) (b1.mono (by simp; omega))
  have s1 : w.heap.size + 1 + 1 ≤ w1.heap.size := by have := b1.size; simp at this; omega
  obtain ⟨hc, hf⟩ := bcell b1
  go_wp2_with fail
  refine bodyPost_ret (v := .tuple #[.agg #[.int .i64 0, .int .i64 0, .slice none 0 0], .bool false]) (by simp [results, Try.results12, go_sem, hc]) rfl ?_
  exact ⟨none, 0, fun _ => 0, rfl, .inl ⟨rfl, rfl, rfl⟩, fun i hi => absurd hi (Nat.not_lt_zero _), (by repeat first | (with_reducible exact B1) | (with_reducible refine Below.setCell ?_ (by first | exact Nat.le_refl _ | (simp; done) | (simp; omega) | omega) _) | (with_reducible refine Below.alloc ?_ (by first | exact Nat.le_refl _ | (simp; done) | (simp; omega) | omega) _) | (with_reducible refine below_drewN ?_ _) | (with_reducible refine Below.drew ?_))⟩
set_option maxRecDepth 20000 in
set_option maxHeartbeats 4000000 in
theorem implRootSq_yes (r N p1 o1 d1 : Nat) (Z : Nat → Nat) (w : World) (h1 : 1 ≤ r) (h12 : r ≤ 12) (hn : N = r * r) (hsq : squareB r r N (vals Z) = true) (h : FS .f32 w (some ⟨p1, o1, none⟩) N d1 Z) :
    Calls Try.prog 12 #[.agg #[.int .i64 r, .int .i64 r, .slice (some ⟨p1, o1, none⟩) N d1]] w (OwnIf (rtGood r N (vals Z)) r r N (rtS r (vals Z) N) w) := by
  have HN := Lib.hid hn
  have h144 : N ≤ 144 := by have := sides_le h12 h12; omega
  have hpos : 0 < N := by rw [hn]; exact Nat.mul_pos h1 h1
  have HSQ := Lib.hid hsq
  have hcap := h.1
  have hmx := h.2.1
  have hmax : d1 ≤ 9223372036854775807 := by unfold maxLen at hmx; omega
  obtain ⟨VV, hVV⟩ : ∃ VV, VV = vals Z := ⟨_, rfl⟩
  rw [← hVV]
  have HVV := Lib.hid hVV
  clear hn hsq hVV
  go_enter Try.func12, Try.ntmps12
  go_wp2_with fail
  generalize hwa : w.alloc (.cells #[.int .i64 r, .int .i64 r, .slice (some ⟨p1, o1, none⟩) N d1] 26) = wa
  have Ba : Below w.heap.size w wa := by rw [← hwa]; exact (by repeat first | (with_reducible exact Below.refl _ _) | (with_reducible refine Below.setCell ?_ (by first | exact Nat.le_refl _ | (simp; done) | (simp; omega) | omega) _) | (with_reducible refine Below.alloc ?_ (by first | exact Nat.le_refl _ | (simp; done) | (simp; omega) | omega) _) | (with_reducible refine below_drewN ?_ _) | (with_reducible refine Below.drew ?_))
  have sa : wa.heap.size = w.heap.size + 1 := by rw [← hwa]; simp
  have Xa : Box wa w.heap.size r r (some ⟨p1, o1, none⟩) N d1 := by rw [← hwa]; exact Box.new _ _ _ _ _ _ _
  have Fa := h.below Ba (Nat.le_refl _)
  rw [← sa]
  clear hwa h
  have la : w.heap.size < wa.heap.size := by omega
  go_at_call 34
  refine (implSquare_any r r _ N d1 Z _ (by omega) (Fa.below (by repeat first | (with_reducible exact Below.refl _ _) | (with_reducible refine Below.setCell ?_ (by first | exact Nat.le_refl _ | (simp; done) | (simp; omega) | omega) _) | (with_reducible refine Below.alloc ?_ (by first | exact Nat.le_refl _ | (simp; done) | (simp; omega) | omega) _) | (with_reducible refine below_drewN ?_ _) | (with_reducible refine Below.drew ?_)) (Nat.le_refl _))).mono ?_
  rintro e w2 ⟨rfl, b1⟩
  rw [HSQ.out]
  have s2 : wa.heap.size + 1 ≤ w2.heap.size := by have := b1.size; simpa using this
  have B02 : Below wa.heap.size wa w2 := Below.trans (by repeat first | (with_reducible exact Below.refl _ _) | (with_reducible refine Below.setCell ?_ (by first | exact Nat.le_refl _ | (simp; done) | (simp; omega) | omega) _) | (with_reducible refine Below.alloc ?_ (by first | exact Nat.le_refl _ | (simp; done) | (simp; omega) | omega) _) | (with_reducible refine below_drewN ?_ _) | (with_reducible refine Below.drew ?_)) (b1.mono (by simp))
  obtain ⟨x0, x1, x2⟩ := Xa.below B02 la
  go_wp2_with fail
  go_at_call 35
  refine (newMatrix_any r r N _ h12 h12 HN.out).mono ?_
  rintro e w3 ⟨g, rfl, o3', b3'⟩
  have b3 : Below w2.heap.size w2 w3 := Below.trans (by repeat first | (with_reducible exact Below.refl _ _) | (with_reducible refine Below.setCell ?_ (by first | exact Nat.le_refl _ | (simp; done) | (simp; omega) | omega) _) | (with_reducible refine Below.alloc ?_ (by first | exact Nat.le_refl _ | (simp; done) | (simp; omega) | omega) _) | (with_reducible refine below_drewN ?_ _) | (with_reducible refine Below.drew ?_)) (b3'.mono (by simp [World.drewN]))
  have o3 : Own 33 .f32 w2.heap.size w3.heap.size w3 (some ⟨g, 0, none⟩) N N (fun _ => 0) := by simpa [World.drewN] using o3'
  have b13 := b1.trans (b3.mono b1.size)
  have wk := Work.start (w := wa) (R := (r : Int)) (C := (r : Int)) 26 26 (Own.mono (B' := wa.heap.size + 1) o3 (by omega) (Nat.le_refl _) (Nat.le_refl _)) b13
  clear o3 o3' b1 b3 b3' b13 x0 x1 x2 B02
  obtain ⟨x0, x1, x2⟩ := Xa.below wk.bel la
  go_wp2
  go_loopw [21] (fun i wr => ∃ (j : Nat) (X : Nat → Nat), j ≤ r ∧ i = .int .i64 j ∧ rtAll r VV j = true ∧ (∀ t, vals X t = rtS r VV (j * r) t) ∧ Work wa (wa.heap.size + 1) w3.heap.size g w3.heap.size wa.heap.size r r N X wr) (fun i _ => r - (intOf i).toNat)
  case atStart => exact ⟨0, _, Nat.zero_le _, rfl, rfl, fun t => by rw [Nat.zero_mul]; rfl, wk⟩
  case round =>
    obtain ⟨j, X, hj, rfl, hall, hv, hk⟩ := hrel
    clear wk x0 x1 x2
    obtain ⟨g1, g2, g3, g4⟩ := hk.facts hpos
    by_cases hlt : j < r
    · have hV := Lib.hid hv
      have HA := Lib.hid hall
      clear hv hall
      obtain ⟨y0, y1, y2⟩ := hk.box
      have hk' := Lib.hid hk
      clear hk
      go_wp2_with fail
      go_at_call 36
      refine (rowOf_any g 0 r r N N j _ h12 h1 h12 HN.out (Nat.le_refl _) (by omega) hlt).mono ?_
      rintro e w6 ⟨rfl, b6⟩
      have hk6 := hk'.out.below b6 g3 g4
      have s6 := b6.size
      clear b6 y0 y1 y2
      simp only [Nat.zero_add]
      go_wp2
      go_loopw [28] (fun i wr2 => ∃ (k : Nat) (X' : Nat → Nat), k ≤ j ∧ i = .int .i64 k ∧ (∀ t, vals X' t = rtS r VV (j * r + k) t) ∧ Work wa (wa.heap.size + 1) w3.heap.size g w3.heap.size wa.heap.size r r N X' wr2) (fun i _ => j - (intOf i).toNat)
      case atStart => exact ⟨0, X, Nat.zero_le _, rfl, hV.out, hk6⟩
      case round =>
        obtain ⟨k, X', hkj, rfl, hv, hk2⟩ := hrel
        clear hk6
        obtain ⟨g1, g2, g3, g4⟩ := hk2.facts hpos
        by_cases hlt2 : k < j
        · have hV2 := Lib.hid hv
          have hK2 := Lib.hid hk2
          obtain ⟨y0, y1, y2⟩ := hk2.box
          clear hv hk2
          have hkr : k < r := by omega
          go_wp2_with fail
          go_at_call 36
          refine (rowOf_any g 0 r r N N k _ h12 h1 h12 HN.out (Nat.le_refl _) (by omega) hkr).mono ?_
          rintro e w0 ⟨rfl, b0⟩
          have hk0 := hK2.out.below b0 g3 g4
          have s0 := b0.size
          clear b0 y0 y1 y2 hK2
          simp only [Nat.zero_add]
          obtain ⟨f1, f2, f3, f4⟩ := hk0.facts hpos
          have XA0 := Xa.below hk0.bel la
          have lw : w.heap.size < w0.heap.size := Nat.lt_of_lt_of_le la hk0.bel.size
          have FA0 := (Fa.below hk0.bel (Nat.le_refl _)).row HN.out hlt r (Nat.le_refl _) (by unfold maxLen; omega)
          obtain ⟨b', off', e, hla, hca, _⟩ := FA0.at hkr
          simp only [Option.some.injEq, Addr.mk.injEq, and_true] at e
          obtain ⟨rfl, rfl⟩ := e
          have FP := hk0.own.fs
          have FR := (FP.row HN.out hlt r (Nat.le_refl _) (by unfold maxLen; omega)).take (show k ≤ r by omega) (show k ≤ r by omega) (by unfold maxLen; omega)
          have FO := FP.row HN.out hkr r (Nat.le_refl _) (by unfold maxLen; omega)
          rw [Nat.zero_add] at FR FO
          obtain ⟨b', off', e, hlb, hcb, hfb⟩ := FO.at hkr
          simp only [Option.some.injEq, Addr.mk.injEq, and_true] at e
          obtain ⟨rfl, rfl⟩ := e
          have fZ : FV .f32 (Z (j * r + k)) (VV (j * r + k)) := by
            rw [HVV.out]
            obtain ⟨_, _, _, _, _, hw⟩ := FA0.at hkr
            exact FV.mk' hw.2
          obtain ⟨LL, hLL⟩ : ∃ LL, LL = lessG (VV (j * r + k)) (fun t => rtS r VV (j * r + k) (j * r + t)) (fun t => rtS r VV (j * r + k) (k * r + t)) k := ⟨_, rfl⟩
          have hless : ∀ W, Below w0.heap.size w0 W → Calls Try.prog 37 #[.float .f32 (Z (j * r + k)), .slice (some ⟨g, j * r, none⟩) k r, .slice (some ⟨g, k * r, none⟩) r r] W fun e w' => ∃ q, e = .returned (.float .f32 q) ∧ FV .f32 q LL ∧ ∃ m, w' = W.drewN m := fun W hW =>
            (implLess_any (Z (j * r + k)) fZ _ _ k r r r _ _ W (by omega) (by omega) (by omega) (FR.below hW (Nat.le_refl _)) (FO.below hW (Nat.le_refl _))).mono fun e w' ⟨q, he, hq, hm⟩ =>
              ⟨q, he, FV.of_eq hq (by rw [hLL]; exact lessG_congr rfl fun t ht => ⟨hV2.out _, hV2.out _⟩), hm⟩
          have fy : FV .f32 (X' (k * r + k)) (rtS r VV (j * r + k) (k * r + k)) := FV.of_eq hfb (hV2.out _)
          have HLL := Lib.hid hLL
          have rowA := fun W => rowOf_any p1 o1 r r N d1 j W h12 h1 h12 HN.out hcap hmax hlt
          have hpl : j * r + k < N := by rw [HN.out]; exact place_lt hlt hkr
          have HK := Lib.hid hk0
          clear hfb FP FR FO FA0 hk0 fZ hLL
          obtain ⟨za, hza⟩ : ∃ za, za = Z (j * r + k) := ⟨_, rfl⟩
          rw [← hza] at hca hless
          obtain ⟨yb, hyb⟩ : ∃ yb, yb = X' (k * r + k) := ⟨_, rfl⟩
          rw [← hyb] at hcb fy
          clear hza hyb
          go_wp2
          (refine wp_region_kinds (fun w' => Below w0.heap.size w0 w') (fun i => if i = 12 then 2 else if i = 17 then 1 else 0) 19 (below_drewN (Below.refl _ _) 1) (by kernel_rfl) (by kernel_rfl) (by kernel_rfl) ?_; simp only [List.take_succ_cons, List.take_zero, List.drop_succ_cons, List.drop_zero])
          ((with_reducible refine wpKinds_plain ?hwant ?hkind ?hplain (fun K hK => ?_)); (case hwant => first | (simp [Region.wanted, yielded]; done) | rfl); (case hkind => rfl); (case hplain => rfl); go_big_quiet_op; (first | refine hK _ ?_ | refine ⟨_, fun _ _ => rfl, hK _ ?_⟩); clear hK K)
          ((with_reducible refine wpKinds_plain ?hwant ?hkind ?hplain (fun K hK => ?_)); (case hwant => first | (simp [Region.wanted, yielded]; done) | rfl); (case hkind => rfl); (case hplain => rfl); go_big_quiet_op; (first | refine hK _ ?_ | refine ⟨_, fun _ _ => rfl, hK _ ?_⟩); clear hK K)
          ((with_reducible refine wpKinds_run (.agg #[.int .i64 r, .int .i64 r, .slice (some ⟨p1, o1, none⟩) N d1]) ?hwant ?hkind ?hrun ?_); (case hwant => first | (simp [Region.wanted, yielded]; done) | rfl); (case hkind => rfl); (case hrun => intro W hW; obtain ⟨u0, u1, u2⟩ := Box.below XA0 hW (by omega); simp [go_sem, BigFrame.eval_const, BigFrame.eval_global, BigFrame.eval_func, u0, u1, u2]); simp only [Act.put, List.setIfInBounds_toArray, List.set_cons_succ, List.set_cons_zero])
          ((with_reducible refine wpKinds_plain ?hwant ?hkind ?hplain (fun K hK => ?_)); (case hwant => first | (simp [Region.wanted, yielded]; done) | rfl); (case hkind => rfl); (case hplain => rfl); go_big_quiet_op; (first | refine hK _ ?_ | refine ⟨_, fun _ _ => rfl, hK _ ?_⟩); clear hK K)
          ((with_reducible refine wpKinds_call (f := 36) (args := #[.agg #[.int .i64 r, .int .i64 r, .slice (some ⟨p1, o1, none⟩) N d1], .int .i64 j]) (.slice (some ⟨p1, o1 + j * r, none⟩) r r) ?hwant ?hkind ?hrun ?hinit ?hcall ?_); (case hwant => first | (simp [Region.wanted, yielded]; done) | rfl); (case hkind => rfl); (case hrun => intro W; simp [go_sem, BigFrame.eval_const, BigFrame.eval_global, BigFrame.eval_func]); (case hinit => kernel_rfl); (case hcall => intro W hW; (refine (rowA W).mono ?_; rintro e w' ⟨rfl, hb⟩; exact ⟨rfl, hW.trans (hb.mono hW.size)⟩)); simp only [Act.put, List.setIfInBounds_toArray, List.set_cons_succ, List.set_cons_zero])
          ((with_reducible refine wpKinds_plain ?hwant ?hkind ?hplain (fun K hK => ?_)); (case hwant => first | (simp [Region.wanted, yielded]; done) | rfl); (case hkind => rfl); (case hplain => rfl); go_big_quiet_op; (first | refine hK _ ?_ | refine ⟨_, fun _ _ => rfl, hK _ ?_⟩); clear hK K)
          ((with_reducible refine wpKinds_run (.pointer (some ⟨p1, o1 + j * r + k, none⟩)) ?hwant ?hkind ?hrun ?_); (case hwant => first | (simp [Region.wanted, yielded]; done) | rfl); (case hkind => rfl); (case hrun => intro W hW; simp [go_sem, BigFrame.eval_const, BigFrame.eval_global, BigFrame.eval_func, hkr]); simp only [Act.put, List.setIfInBounds_toArray, List.set_cons_succ, List.set_cons_zero])
          ((with_reducible refine wpKinds_run (.float .f32 za) ?hwant ?hkind ?hrun ?_); (case hwant => first | (simp [Region.wanted, yielded]; done) | rfl); (case hkind => rfl); (case hrun => intro W hW; have hcell := (hW.cell (p := _) (by assumption)).trans hca; simp [go_sem, BigFrame.eval_const, BigFrame.eval_global, BigFrame.eval_func, hcell]); simp only [Act.put, List.setIfInBounds_toArray, List.set_cons_succ, List.set_cons_zero])
          ((with_reducible refine wpKinds_plain ?hwant ?hkind ?hplain (fun K hK => ?_)); (case hwant => first | (simp [Region.wanted, yielded]; done) | rfl); (case hkind => rfl); (case hplain => rfl); go_big_quiet_op; (first | refine hK _ ?_ | refine ⟨_, fun _ _ => rfl, hK _ ?_⟩); clear hK K)
          ((with_reducible refine wpKinds_plain ?hwant ?hkind ?hplain (fun K hK => ?_)); (case hwant => first | (simp [Region.wanted, yielded]; done) | rfl); (case hkind => rfl); (case hplain => rfl); go_big_quiet_op; (first | refine hK _ ?_ | refine ⟨_, fun _ _ => rfl, hK _ ?_⟩); clear hK K)
          ((with_reducible refine wpKinds_run (.slice (some ⟨g, j * r, none⟩) k r) ?hwant ?hkind ?hrun ?_); (case hwant => first | (simp [Region.wanted, yielded]; done) | rfl); (case hkind => rfl); (case hrun => intro W hW; simp [go_sem, BigFrame.eval_const, BigFrame.eval_global, BigFrame.eval_func, hkr, Nat.le_of_lt hkr]); simp only [Act.put, List.setIfInBounds_toArray, List.set_cons_succ, List.set_cons_zero])
          ((with_reducible refine wpKinds_plain ?hwant ?hkind ?hplain (fun K hK => ?_)); (case hwant => first | (simp [Region.wanted, yielded]; done) | rfl); (case hkind => rfl); (case hplain => rfl); go_big_quiet_op; (first | refine hK _ ?_ | refine ⟨_, fun _ _ => rfl, hK _ ?_⟩); clear hK K)
          (refine wpKinds_noisy (f := 37) (args := #[.float .f32 za, .slice (some ⟨g, j * r, none⟩) k r, .slice (some ⟨g, k * r, none⟩) r r]) (fun u => ∃ y, u = .float .f32 y ∧ FV .f32 y LL) rfl rfl (by intro W; simp [go_sem, BigFrame.eval_const, BigFrame.eval_global, BigFrame.eval_func]) (by
            intro W hW
            refine (hless W hW).mono ?_
            rintro e w' ⟨y, rfl, hy, z2, rfl⟩
            exact ⟨_, rfl, below_drewN hW z2, y, rfl, hy⟩) ?_)
          rintro _ ⟨y, rfl, hy⟩
          simp only [Act.put, List.setIfInBounds_toArray, List.set_cons_succ, List.set_cons_zero]
          ((with_reducible refine wpKinds_plain ?hwant ?hkind ?hplain (fun K hK => ?_)); (case hwant => first | (simp [Region.wanted, yielded]; done) | rfl); (case hkind => rfl); (case hplain => rfl); go_big_quiet_op; (first | refine hK _ ?_ | refine ⟨_, fun _ _ => rfl, hK _ ?_⟩); clear hK K)
          ((with_reducible refine wpKinds_plain ?hwant ?hkind ?hplain (fun K hK => ?_)); (case hwant => first | (simp [Region.wanted, yielded]; done) | rfl); (case hkind => rfl); (case hplain => rfl); go_big_quiet_op; (first | refine hK _ ?_ | refine ⟨_, fun _ _ => rfl, hK _ ?_⟩); clear hK K)
          ((with_reducible refine wpKinds_run (.pointer (some ⟨g, k * r + k, none⟩)) ?hwant ?hkind ?hrun ?_); (case hwant => first | (simp [Region.wanted, yielded]; done) | rfl); (case hkind => rfl); (case hrun => intro W hW; simp [go_sem, BigFrame.eval_const, BigFrame.eval_global, BigFrame.eval_func, hkr]); simp only [Act.put, List.setIfInBounds_toArray, List.set_cons_succ, List.set_cons_zero])
          ((with_reducible refine wpKinds_run (.float .f32 yb) ?hwant ?hkind ?hrun ?_); (case hwant => first | (simp [Region.wanted, yielded]; done) | rfl); (case hkind => rfl); (case hrun => intro W hW; have hcell := (hW.cell (p := _) (by assumption)).trans hcb; simp [go_sem, BigFrame.eval_const, BigFrame.eval_global, BigFrame.eval_func, hcell]); simp only [Act.put, List.setIfInBounds_toArray, List.set_cons_succ, List.set_cons_zero])
          refine wpKinds_farith (fun W m hW => below_drewN hW m) rfl rfl _ _ _ _ _ rfl rfl _ _ _ rfl rfl hy fy (fun r5 hr5 => ?_)
          simp only [Act.put, List.setIfInBounds_toArray, List.set_cons_succ, List.set_cons_zero]
          ((with_reducible refine wpKinds_run (.pointer (some ⟨g, j * r + k, none⟩)) ?hwant ?hkind ?hrun ?_); (case hwant => first | (simp [Region.wanted, yielded]; done) | rfl); (case hkind => rfl); (case hrun => intro W hW; simp [go_sem, BigFrame.eval_const, BigFrame.eval_global, BigFrame.eval_func, hkr]); simp only [Act.put, List.setIfInBounds_toArray, List.set_cons_succ, List.set_cons_zero])
          refine wpKinds_nil ?_
          intro w6 hC
          have hk6 := HK.out.below hC f3 f4
          have hr6 : FV .f32 r5 (rtF r VV (rtS r VV (j * r + k)) (j * r + k)) := FV.of_eq hr5 (by rw [rt_low hlt hlt2, HLL.out])
          have hst := Lib.hid (hk6.stored (t := j * r + k) (v := r5) hpl hr6.2)
          obtain ⟨hce, hfr, _⟩ := hk6.own.cell hpl
          have hvn := Lib.hid (rt_put hV2.out hr6)
          generalize X' (j * r + k) = old at hce
          clear hk6 HK hV2 hC hless rowA XA0 hca hcb fy hr5 hy
          go_wp2_with fail
          go_roundw
          case rel => exact ⟨k + 1, _, by omega, by go_num, hvn.out, hst.out⟩
          case measure => simp [intOf]; omega
        · obtain rfl : k = j := by omega
          have hV2 := Lib.hid hv
          have hK2 := Lib.hid hk2
          clear hv hk2
          obtain ⟨w0, rfl⟩ : ∃ w0, w0 = wr := ⟨_, rfl⟩
          obtain ⟨f1, f2, f3, f4⟩ := hK2.out.facts hpos
          have XA0 := Xa.below hK2.out.bel la
          have lw : w.heap.size < w0.heap.size := Nat.lt_of_lt_of_le la hK2.out.bel.size
          have FA0 := (Fa.below hK2.out.bel (Nat.le_refl _)).row HN.out hlt r (Nat.le_refl _) (by unfold maxLen; omega)
          obtain ⟨b', off', e, hla, hca, _⟩ := FA0.at hlt
          simp only [Option.some.injEq, Addr.mk.injEq, and_true] at e
          obtain ⟨rfl, rfl⟩ := e
          have FP := hK2.out.own.fs
          have FO := FP.row HN.out hlt r (Nat.le_refl _) (by unfold maxLen; omega)
          rw [Nat.zero_add] at FO
          have FR := FO.take (show k ≤ r by omega) (show k ≤ r by omega) (by unfold maxLen; omega)
          have fZ : FV .f32 (Z (k * r + k)) (VV (k * r + k)) := by
            rw [HVV.out]
            obtain ⟨_, _, _, _, _, hw⟩ := FA0.at hlt
            exact FV.mk' hw.2
          obtain ⟨DD, hDD⟩ : ∃ DD, DD = rtD r VV k := ⟨_, rfl⟩
          have hless : ∀ W, Below w0.heap.size w0 W → Calls Try.prog 37 #[.float .f32 (Z (k * r + k)), .slice (some ⟨g, k * r, none⟩) k r, .slice (some ⟨g, k * r, none⟩) r r] W fun e w' => ∃ q, e = .returned (.float .f32 q) ∧ FV .f32 q DD ∧ ∃ m, w' = W.drewN m := fun W hW =>
            (implLess_any (Z (k * r + k)) fZ _ _ k r r r _ _ W (by omega) (by omega) (by omega) (FR.below hW (Nat.le_refl _)) (FO.below hW (Nat.le_refl _))).mono fun e w' ⟨q, he, hq, hm⟩ =>
              ⟨q, he, FV.of_eq hq (by rw [hDD]; exact lessG_congr rfl fun t ht => ⟨hV2.out _, hV2.out _⟩), hm⟩
          have HDD := Lib.hid hDD
          have rowA := fun W => rowOf_any p1 o1 r r N d1 k W h12 h1 h12 HN.out hcap hmax hlt
          have hpl : k * r + k < N := by rw [HN.out]; exact place_lt hlt hlt
          clear FP FR FO FA0 fZ hDD
          obtain ⟨za, hza⟩ : ∃ za, za = Z (k * r + k) := ⟨_, rfl⟩
          rw [← hza] at hca hless
          clear hza
          go_wp2
          (refine wp_region_kinds (fun w' => Below w0.heap.size w0 w') (fun i => if i = 10 then 2 else 0) 11 (below_drewN (Below.refl _ _) 1) (by kernel_rfl) (by kernel_rfl) (by kernel_rfl) ?_; simp only [List.take_succ_cons, List.take_zero, List.drop_succ_cons, List.drop_zero])
          ((with_reducible refine wpKinds_run (.agg #[.int .i64 r, .int .i64 r, .slice (some ⟨p1, o1, none⟩) N d1]) ?hwant ?hkind ?hrun ?_); (case hwant => first | (simp [Region.wanted, yielded]; done) | rfl); (case hkind => rfl); (case hrun => intro W hW; obtain ⟨u0, u1, u2⟩ := Box.below XA0 hW (by omega); simp [go_sem, BigFrame.eval_const, BigFrame.eval_global, BigFrame.eval_func, u0, u1, u2]); simp only [Act.put, List.setIfInBounds_toArray, List.set_cons_succ, List.set_cons_zero])
          ((with_reducible refine wpKinds_plain ?hwant ?hkind ?hplain (fun K hK => ?_)); (case hwant => first | (simp [Region.wanted, yielded]; done) | rfl); (case hkind => rfl); (case hplain => rfl); go_big_quiet_op; (first | refine hK _ ?_ | refine ⟨_, fun _ _ => rfl, hK _ ?_⟩); clear hK K)
          ((with_reducible refine wpKinds_call (f := 36) (args := #[.agg #[.int .i64 r, .int .i64 r, .slice (some ⟨p1, o1, none⟩) N d1], .int .i64 k]) (.slice (some ⟨p1, o1 + k * r, none⟩) r r) ?hwant ?hkind ?hrun ?hinit ?hcall ?_); (case hwant => first | (simp [Region.wanted, yielded]; done) | rfl); (case hkind => rfl); (case hrun => intro W; simp [go_sem, BigFrame.eval_const, BigFrame.eval_global, BigFrame.eval_func]); (case hinit => kernel_rfl); (case hcall => intro W hW; (refine (rowA W).mono ?_; rintro e w' ⟨rfl, hb⟩; exact ⟨rfl, hW.trans (hb.mono hW.size)⟩)); simp only [Act.put, List.setIfInBounds_toArray, List.set_cons_succ, List.set_cons_zero])
          ((with_reducible refine wpKinds_plain ?hwant ?hkind ?hplain (fun K hK => ?_)); (case hwant => first | (simp [Region.wanted, yielded]; done) | rfl); (case hkind => rfl); (case hplain => rfl); go_big_quiet_op; (first | refine hK _ ?_ | refine ⟨_, fun _ _ => rfl, hK _ ?_⟩); clear hK K)
          ((with_reducible refine wpKinds_run (.pointer (some ⟨p1, o1 + k * r + k, none⟩)) ?hwant ?hkind ?hrun ?_); (case hwant => first | (simp [Region.wanted, yielded]; done) | rfl); (case hkind => rfl); (case hrun => intro W hW; simp [go_sem, BigFrame.eval_const, BigFrame.eval_global, BigFrame.eval_func, hlt]); simp only [Act.put, List.setIfInBounds_toArray, List.set_cons_succ, List.set_cons_zero])
          ((with_reducible refine wpKinds_run (.float .f32 za) ?hwant ?hkind ?hrun ?_); (case hwant => first | (simp [Region.wanted, yielded]; done) | rfl); (case hkind => rfl); (case hrun => intro W hW; have hcell := (hW.cell (p := _) (by assumption)).trans hca; simp [go_sem, BigFrame.eval_const, BigFrame.eval_global, BigFrame.eval_func, hcell]); simp only [Act.put, List.setIfInBounds_toArray, List.set_cons_succ, List.set_cons_zero])
          ((with_reducible refine wpKinds_plain ?hwant ?hkind ?hplain (fun K hK => ?_)); (case hwant => first | (simp [Region.wanted, yielded]; done) | rfl); (case hkind => rfl); (case hplain => rfl); go_big_quiet_op; (first | refine hK _ ?_ | refine ⟨_, fun _ _ => rfl, hK _ ?_⟩); clear hK K)
          ((with_reducible refine wpKinds_plain ?hwant ?hkind ?hplain (fun K hK => ?_)); (case hwant => first | (simp [Region.wanted, yielded]; done) | rfl); (case hkind => rfl); (case hplain => rfl); go_big_quiet_op; (first | refine hK _ ?_ | refine ⟨_, fun _ _ => rfl, hK _ ?_⟩); clear hK K)
          ((with_reducible refine wpKinds_run (.slice (some ⟨g, k * r, none⟩) k r) ?hwant ?hkind ?hrun ?_); (case hwant => first | (simp [Region.wanted, yielded]; done) | rfl); (case hkind => rfl); (case hrun => intro W hW; simp [go_sem, BigFrame.eval_const, BigFrame.eval_global, BigFrame.eval_func, hlt, Nat.le_of_lt hlt]); simp only [Act.put, List.setIfInBounds_toArray, List.set_cons_succ, List.set_cons_zero])
          ((with_reducible refine wpKinds_plain ?hwant ?hkind ?hplain (fun K hK => ?_)); (case hwant => first | (simp [Region.wanted, yielded]; done) | rfl); (case hkind => rfl); (case hplain => rfl); go_big_quiet_op; (first | refine hK _ ?_ | refine ⟨_, fun _ _ => rfl, hK _ ?_⟩); clear hK K)
          (refine wpKinds_noisy (f := 37) (args := #[.float .f32 za, .slice (some ⟨g, k * r, none⟩) k r, .slice (some ⟨g, k * r, none⟩) r r]) (fun u => ∃ y, u = .float .f32 y ∧ FV .f32 y DD) rfl rfl (by intro W; simp [go_sem, BigFrame.eval_const, BigFrame.eval_global, BigFrame.eval_func]) (by
            intro W hW
            refine (hless W hW).mono ?_
            rintro e w' ⟨y, rfl, hy, z2, rfl⟩
            exact ⟨_, rfl, below_drewN hW z2, y, rfl, hy⟩) ?_)
          rintro _ ⟨y, rfl, hy⟩
          simp only [Act.put, List.setIfInBounds_toArray, List.set_cons_succ, List.set_cons_zero]
          refine wpKinds_nil ?_
          intro w6 hC
          have hk6 := hK2.out.below hC f3 f4
          have s6' := hC.size
          clear hC hless rowA XA0 hca hK2
          have hyc := hy.1
          have hZ0 : cn .f32 0 = some 0 := by kernel_rfl
          have hno : ¬ (ford .f32 DD (some 0) = some .gt) → rtGood r N VV = false := fun hh => by
            unfold rtGood
            rw [rtAll_no hlt (by unfold rtOk; rw [← HDD.out]; simpa using hh), Bool.false_and]
          cases ho : ford .f32 DD (some 0) with
          | none =>
            have HNO : Hid (rtGood r N VV = false) := Lib.hid (hno (by rw [ho]; simp))
            obtain ⟨z0, z1, z2⟩ := hk6.res
            have hice := hk6.ice
            have B6 := Ba.trans (hk6.bel.mono (by omega))
            rw [sa] at z0 z1 z2 hice
            clear hk6 hno
            go_wp2_with fail
            refine bodyPost_ret (v := .tuple #[.agg #[.int .i64 0, .int .i64 0, .slice none 0 0], .bool false]) (by simp [results, Try.results12, go_sem, z0, z1, z2]) rfl ?_
            exact OwnIf.no HNO.out ⟨none, 0, fun _ => 0, rfl, .inl ⟨rfl, rfl, rfl⟩, fun i hi => absurd hi (Nat.not_lt_zero _), (by repeat first | (with_reducible exact B6) | (with_reducible refine Below.setCell ?_ (by first | exact Nat.le_refl _ | (simp; done) | (simp; omega) | omega) _) | (with_reducible refine Below.alloc ?_ (by first | exact Nat.le_refl _ | (simp; done) | (simp; omega) | omega) _) | (with_reducible refine below_drewN ?_ _) | (with_reducible refine Below.drew ?_))⟩
          | some o =>
            by_cases hog : o = .gt
            · subst hog
              have HA2 : Hid (rtAll r VV (k + 1) = true) := Lib.hid (by simp only [rtAll, HA.out, Bool.true_and]; unfold rtOk; rw [← HDD.out, ho]; rfl)
              have hk7 := Lib.hid hk6
              clear hk6 hno
              go_wp2_with fail
              go_at_call 38
              refine (implRoot_any _ hy _).mono ?_
              rintro e w7 ⟨q, rfl, hq, m7, rfl⟩
              have hk8 := hk7.out.drewN (m := m7)
              have hq2 : FV .f32 q (rtF r VV (rtS r VV (k * r + k)) (k * r + k)) := FV.of_eq hq (by rw [rt_mid hlt, HDD.out])
              have hst := Lib.hid (hk8.stored (t := k * r + k) (v := q) hpl hq2.2)
              obtain ⟨hce, hfr, _⟩ := hk8.own.cell hpl
              have hvn := Lib.hid (rt_put hV2.out hq2)
              have hrest : Hid (∀ t, vals (fun t => if t = k * r + k then q else X' t) t = rtS r VV ((k + 1) * r) t) := Lib.hid fun t => by
                rw [hvn.out t]
                have := rtS_rest (Z := VV) hlt (d := r - (k + 1)) (by omega) t
                rw [show k * r + (k + 1 + (r - (k + 1))) = (k + 1) * r by rw [Nat.succ_mul]; omega] at this
                rw [this]; rfl
              generalize X' (k * r + k) = old at hce
              clear hk8 hk7 hV2 hq hq2 hy hvn
              go_wp2_with fail
              go_roundw
              case rel => exact ⟨k + 1, _, by omega, by go_num, HA2.out, hrest.out, hst.out⟩
              case measure => simp [intOf]; omega
            · have HNO : Hid (rtGood r N VV = false) := Lib.hid (hno (by rw [ho]; intro q; exact hog (Option.some.inj q)))
              obtain ⟨z0, z1, z2⟩ := hk6.res
              have hice := hk6.ice
              have B6 := Ba.trans (hk6.bel.mono (by omega))
              rw [sa] at z0 z1 z2 hice
              clear hk6 hno
              have hog' : (some o == some Ordering.gt) = false := by cases o <;> first | rfl | exact absurd rfl hog
              clear hog
              go_wp2_with fail
              refine bodyPost_ret (v := .tuple #[.agg #[.int .i64 0, .int .i64 0, .slice none 0 0], .bool false]) (by simp [results, Try.results12, go_sem, z0, z1, z2]) rfl ?_
              exact OwnIf.no HNO.out ⟨none, 0, fun _ => 0, rfl, .inl ⟨rfl, rfl, rfl⟩, fun i hi => absurd hi (Nat.not_lt_zero _), (by repeat first | (with_reducible exact B6) | (with_reducible refine Below.setCell ?_ (by first | exact Nat.le_refl _ | (simp; done) | (simp; omega) | omega) _) | (with_reducible refine Below.alloc ?_ (by first | exact Nat.le_refl _ | (simp; done) | (simp; omega) | omega) _) | (with_reducible refine below_drewN ?_ _) | (with_reducible refine Below.drew ?_))⟩
    · obtain rfl : j = r := by omega
      obtain ⟨y0, y1, y2⟩ := hk.box
      have hVN : ∀ t, vals X t = rtS j VV N t := fun t => by rw [hv t, HN.out]
      have hgood : Hid (rtGood j N VV = allFin (rtS j VV N) N) := Lib.hid (by unfold rtGood; rw [hall, Bool.true_and])
      have hvB : validB j j N (vals X) = allFin (rtS j VV N) N := (validB_nat h1 h12 h1 h12 HN.out).trans (allFin_congr fun t ht => hVN t)
      have hfs := hk.own.fs
      have HVX := Lib.hid hVN
      clear hv hVN
      cases hf : allFin (rtS j VV N) N with
      | true =>
        rw [hf] at hvB
        go_wp2_with fail
        go_at_call 39
        refine (implGive_yes _ _ _ _ _ X _ (by omega) hfs hvB).mono ?_
        rintro e w4 ⟨rfl, b4⟩
        have hk2 := hk.below b4 g3 g4
        clear hk hfs y0 y1 y2
        obtain ⟨z0, z1, z2⟩ := hk2.res
        have o2 := hk2.own
        have B2 := Ba.trans (hk2.bel.mono (by omega))
        have hlo := hk2.lo
        have hmid := hk2.mid
        have hice : ∀ i, w4.frozen? ⟨w.heap.size + 1, i, none⟩ = false := fun i => by have hh := hk2.ice i; rwa [sa] at hh
        rw [sa] at z0 z1 z2
        obtain ⟨_, _, g3', _⟩ := hk2.facts hpos
        clear hk2
        go_wp2_with fail
        refine bodyPost_ret (v := .tuple #[.agg #[.int .i64 j, .int .i64 j, .slice (some ⟨g, 0, none⟩) N N], .bool true]) (by simp [results, Try.results12, go_sem, z0, z1, z2]) rfl ?_
        exact OwnIf.yes (by rw [hgood.out, hf]) ⟨_, _, _, rfl, (by refine Own.to o2 (hk := fun g hg1 hg2 => by (try simp at hg1 hg2); repeat (first | rw [Below.heap_setCell _ _ _ _ (by simp; omega)] | rw [Below.heap_alloc _ _ _ (by simp [World.setCell]; omega)])) ?_ ?_ ?_ ?_ <;> (first | exact Nat.le_refl _ | omega | (simp [World.setCell]; done) | (simp [World.setCell]; omega))), fun i hi => HVX.out i, (by repeat first | (with_reducible exact B2) | (with_reducible refine Below.setCell ?_ (by first | exact Nat.le_refl _ | (simp; done) | (simp; omega) | omega) _) | (with_reducible refine Below.alloc ?_ (by first | exact Nat.le_refl _ | (simp; done) | (simp; omega) | omega) _) | (with_reducible refine below_drewN ?_ _) | (with_reducible refine Below.drew ?_))⟩
      | false =>
        rw [hf] at hvB
        go_wp2_with fail
        go_at_call 39
        refine (implGive_no _ _ _ _ _ X _ (by omega) hfs hvB).mono ?_
        rintro e w4 ⟨rfl, b4⟩
        have hk2 := hk.below b4 g3 g4
        clear hk hfs y0 y1 y2
        obtain ⟨z0, z1, z2⟩ := hk2.res
        have B2 := Ba.trans (hk2.bel.mono (by omega))
        have hice : ∀ i, w4.frozen? ⟨w.heap.size + 1, i, none⟩ = false := fun i => by have hh := hk2.ice i; rwa [sa] at hh
        rw [sa] at z0 z1 z2
        clear hk2
        go_wp2_with fail
        refine bodyPost_ret (v := .tuple #[.agg #[.int .i64 0, .int .i64 0, .slice none 0 0], .bool false]) (by simp [results, Try.results12, go_sem, z0, z1, z2]) rfl ?_
        exact OwnIf.no (by rw [hgood.out, hf]) ⟨none, 0, fun _ => 0, rfl, .inl ⟨rfl, rfl, rfl⟩, fun i hi => absurd hi (Nat.not_lt_zero _), (by repeat first | (with_reducible exact B2) | (with_reducible refine Below.setCell ?_ (by first | exact Nat.le_refl _ | (simp; done) | (simp; omega) | omega) _) | (with_reducible refine Below.alloc ?_ (by first | exact Nat.le_refl _ | (simp; done) | (simp; omega) | omega) _) | (with_reducible refine below_drewN ?_ _) | (with_reducible refine Below.drew ?_))⟩
end Go.Proofs.Ytmjlhmbnaifhaaa
