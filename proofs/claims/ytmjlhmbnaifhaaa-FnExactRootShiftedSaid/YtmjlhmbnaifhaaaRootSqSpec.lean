/- Helper: the root of a square, of the reference, with what is added to its middle. Conditions: none. -/
import Derived.Test.YtmjlhmbnaifhaaaWk
import Derived.Test.YtmjlhmbnaifhaaaKindSteps
import Derived.Test.YtmjlhmbnaifhaaaRootSqFacts
set_option linter.unusedVariables false
set_option linter.unusedSimpArgs false
namespace Go.Proofs.Ytmjlhmbnaifhaaa
open Go.RowKit

/-- Numbers of a square, and S added in its middle. -/
def diagV (r : Nat) (V : Nat → Option Nat) (S : Option Nat) (t : Nat) : Option Nat := if t % r = t / r then fop .add .f32 (V t) S else V t
theorem diagV_on {r i : Nat} {V : Nat → Option Nat} {S : Option Nat} (hi : i < r) : diagV r V S (i * r + i) = fop .add .f32 (V (i * r + i)) S := by
  obtain ⟨q1, q2⟩ := place_div (j := i) hi
  unfold diagV
  rw [q1, q2, if_pos rfl]
theorem diagV_off {r i k : Nat} {V : Nat → Option Nat} {S : Option Nat} (hk : k < r) (hne : k ≠ i) : diagV r V S (i * r + k) = V (i * r + k) := by
  obtain ⟨q1, q2⟩ := place_div (j := i) hk
  unfold diagV
  rw [q1, q2, if_neg hne]
set_option maxRecDepth 20000 in
set_option maxHeartbeats 4000000 in
theorem l03Root_any (pa r N p1 o1 d1 sh : Nat) (S : Option Nat) (Z : Nat → Nat) (w : World) (h1 : 1 ≤ r) (h12 : r ≤ 12) (hn : N = r * r) (hpa : pa < w.heap.size) (hA : Box w pa r r (some ⟨p1, o1, none⟩) N d1) (fs : FV .f32 sh S) (h : FS .f32 w (some ⟨p1, o1, none⟩) N d1 Z) :
    Calls Try.prog 33 #[.pointer (some ⟨pa, 0, none⟩), .float .f32 sh] w (OwnIf (rtGood r N (diagV r (vals Z) S)) r r N (rtS r (diagV r (vals Z) S) N) w) := by
  have HN := Lib.hid hn
  have hn144 : N ≤ 144 := by have := sides_le h12 h12; omega
  have hpos : 0 < N := by rw [hn]; exact Nat.mul_pos h1 h1
  obtain ⟨VV, hVV⟩ : ∃ VV, VV = diagV r (vals Z) S := ⟨_, rfl⟩
  rw [← hVV]
  have HVV := Lib.hid hVV
  have hA' := Lib.hid hA
  have hF' := Lib.hid h
  obtain ⟨x0, x1, x2⟩ := hA
  clear hn hVV h
  go_enter Try.func33, Try.ntmps33
  go_wp2_with fail
  go_at_call 71
  refine (l02Zero_any r r N _ h12 h12 HN.out).mono ?_
  rintro e w1 ⟨g, rfl, o1', b1⟩
  have wk := Work.start (w := w) (R := (r : Int)) (C := (r : Int)) 26 26 (Own.mono (B' := w.heap.size + 1) o1' (by simp) (Nat.le_refl _) (Nat.le_refl _)) b1
  clear o1' b1 x0 x1 x2
  go_wp2
  go_loopw [8] (fun i wr => ∃ (j : Nat) (X : Nat → Nat), j ≤ r ∧ i = .int .i64 j ∧ rtAll r VV j = true ∧ (∀ t, vals X t = rtS r VV (j * r) t) ∧ Work w (w.heap.size + 1) w1.heap.size g w1.heap.size w.heap.size r r N X wr) (fun i _ => r - (intOf i).toNat)
  case atStart => exact ⟨0, _, Nat.zero_le _, rfl, rfl, fun t => by rw [Nat.zero_mul]; rfl, wk⟩
  case round =>
    obtain ⟨j, X, hj, rfl, hall, hv, hk⟩ := hrel
    clear wk
    by_cases hlt : j < r
    · have hV := Lib.hid hv
      have HA := Lib.hid hall
      have hk' := Lib.hid hk
      clear hk hv hall
      go_wp2
      go_loopw [9] (fun i wr2 => ∃ (k : Nat) (X' : Nat → Nat), k ≤ j + 1 ∧ i = .int .i64 k ∧ (k = j + 1 → rtAll r VV (j + 1) = true) ∧ (∀ t, vals X' t = rtS r VV (j * r + k) t) ∧ Work w (w.heap.size + 1) w1.heap.size g w1.heap.size w.heap.size r r N X' wr2) (fun i _ => j + 1 - (intOf i).toNat)
      case atStart => exact ⟨0, X, Nat.zero_le _, rfl, fun h => absurd h (by omega), hV.out, hk'.out⟩
      case round =>
        obtain ⟨k, X', hkj, rfl, hnext, hv, hk2⟩ := hrel
        clear hk' hV
        obtain ⟨g1, g2, g3, g4⟩ := hk2.facts hpos
        have hV2 := Lib.hid hv
        have hK2 := Lib.hid hk2
        have HNX := Lib.hid hnext
        clear hv hnext
        by_cases hle : k ≤ j
        · have hkr : k < r := by omega
          have hpl : j * r + k < N := by rw [HN.out]; exact place_lt hlt hkr
          have XB := hA'.out.below hk2.bel hpa
          have FB := hF'.out.below hk2.bel (Nat.le_refl _)
          have XU := hk2.box
          have FU := hk2.own.fs
          obtain ⟨y0, y1, y2⟩ := hk2.box
          have hAt0 : Calls Try.prog 46 #[.pointer (some ⟨pa, 0, none⟩), .int .i64 j, .int .i64 k] wr fun e w' => e = .returned (.float .f32 (Z (j * r + k))) ∧ ∃ x, w' = wr.drewN x :=
            specAt_any pa p1 o1 r r N d1 j k Z wr h12 h12 HN.out XB FB hlt hkr
          have hAt1 : ∀ q, q < r → ∀ m, Calls Try.prog 46 #[.pointer (some ⟨w1.heap.size, 0, none⟩), .int .i64 j, .int .i64 q] (wr.drewN m) fun e w' => e = .returned (.float .f32 (X' (j * r + q))) ∧ ∃ x, w' = (wr.drewN m).drewN x := fun q hq m =>
            specAt_any _ g 0 r r N N j q X' (wr.drewN m) h12 h12 HN.out XU.drewN (FS.drewN FU) hlt hq
          have hAt2 : ∀ q, q < r → ∀ m, Calls Try.prog 46 #[.pointer (some ⟨w1.heap.size, 0, none⟩), .int .i64 k, .int .i64 q] (wr.drewN m) fun e w' => e = .returned (.float .f32 (X' (k * r + q))) ∧ ∃ x, w' = (wr.drewN m).drewN x := fun q hq m =>
            specAt_any _ g 0 r r N N k q X' (wr.drewN m) h12 h12 HN.out XU.drewN (FS.drewN FU) hkr hq
          have fx : ∀ q, q < r → FV .f32 (X' (j * r + q)) (rtS r VV (j * r + k) (j * r + q)) := fun q hq => by
            obtain ⟨_, _, _, _, _, hw⟩ := FU.at (show j * r + q < N by rw [HN.out]; exact place_lt hlt hq)
            exact FV.of_eq hw (hV2.out _)
          have fy : ∀ q, q < r → FV .f32 (X' (k * r + q)) (rtS r VV (j * r + k) (k * r + q)) := fun q hq => by
            obtain ⟨_, _, _, _, _, hw⟩ := FU.at (show k * r + q < N by rw [HN.out]; exact place_lt hkr hq)
            exact FV.of_eq hw (hV2.out _)
          have fz : FV .f32 (Z (j * r + k)) (vals Z (j * r + k)) := by
            obtain ⟨_, _, _, _, _, hw⟩ := FB.at hpl
            exact hw
          have HX1 := Lib.hid hAt1
          have HX2 := Lib.hid hAt2
          have Hfx := Lib.hid fx
          have Hfy := Lib.hid fy
          obtain ⟨AA, hAA⟩ : ∃ AA : Nat → Option Nat, AA = fun t => rtS r VV (j * r + k) (j * r + t) := ⟨_, rfl⟩
          obtain ⟨BB, hBB⟩ : ∃ BB : Nat → Option Nat, BB = fun t => rtS r VV (j * r + k) (k * r + t) := ⟨_, rfl⟩
          have HAA := Lib.hid hAA
          have HBB := Lib.hid hBB
          obtain ⟨K, hK⟩ : ∃ K, K = j * r + k := ⟨_, rfl⟩
          obtain ⟨L, hL⟩ : ∃ L, L = j * r := ⟨_, rfl⟩
          have hM1 : IntKind.i64.wrap ((j : Int) * (r : Int)) = (L : Int) := by
            rw [← Int.natCast_mul, ← hL]; exact IntWalk.i64_in _ (by omega)
          have hM2 : IntKind.i64.wrap ((L : Int) + (k : Int)) = (K : Int) := by
            rw [hK, ← hL, ← Int.natCast_add]; exact IntWalk.i64_in _ (by omega)
          have HK := Lib.hid hK
          have HM1 := Lib.hid hM1
          have HM2 := Lib.hid hM2
          clear hAt1 hAt2 fx fy hAA hBB XB FB XU FU hL hK hM1 hM2 hk2
          obtain ⟨za, hza⟩ : ∃ za, za = Z (j * r + k) := ⟨_, rfl⟩
          rw [← hza] at hAt0 fz
          clear hza
          by_cases hlt2 : k < j
          · have hd : ((j : Int) == (k : Int)) = false := beq_eq_false_iff_ne.2 (by omega)
            have fs0 : FV .f32 za (VV (j * r + k)) := FV.of_eq fz (by rw [HVV.out, diagV_off hkr (by omega)])
            obtain ⟨SS, hSS⟩ : ∃ SS, SS = VV (j * r + k) := ⟨_, rfl⟩
            rw [← hSS] at fs0
            have HSS := Lib.hid hSS
            clear hSS fz
            go_wp2_with (go_at_call 46; (with_reducible refine hAt0.mono ?_); rintro e w' ⟨rfl, m5, rfl⟩)
            go_loopw [10, 11] (fun s i wr2 => ∃ q m rr : Nat, q ≤ k ∧ i = .int .i64 q ∧ s = .float .f32 rr ∧ FV .f32 rr (lessG SS AA BB q) ∧ wr2 = wr.drewN m) (fun _ i _ => k - (intOf i).toNat)
            case atStart => exact ⟨0, _, _, Nat.zero_le _, rfl, rfl, fs0, rfl⟩
            case round =>
              obtain ⟨q, m0, rr, hq, rfl, rfl, hrr, rfl⟩ := hrel
              by_cases hlt3 : q < k
              · have hA1 := HX1.out q (by omega)
                have hA2 := HX2.out q (by omega)
                have f1 : FV .f32 (X' (j * r + q)) (AA q) := by rw [HAA.out]; exact Hfx.out q (by omega)
                have f2 : FV .f32 (X' (k * r + q)) (BB q) := by rw [HBB.out]; exact Hfy.out q (by omega)
                generalize X' (j * r + q) = x1 at hA1 f1
                generalize X' (k * r + q) = x2 at hA2 f2
                clear hAt0 fs0 y0 y1 y2
                go_wp2_with (first
                  | (go_at_call 46; (with_reducible refine (hA1 _).mono ?_); rintro e w' ⟨rfl, m5, rfl⟩; try simp only [World.drewN_drewN])
                  | (go_at_call 46; (with_reducible refine (hA2 _).mono ?_); rintro e w' ⟨rfl, m6, rfl⟩; try simp only [World.drewN_drewN])
                  | (refine wpList_farith rfl _ _ _ _ _ rfl rfl _ _ _ rfl rfl (by first | assumption | (with_reducible exact FV.ofInt _ _) | (with_reducible exact FV.neg (by assumption)) | exact FV.lit (by kernel_rfl) (by kernel_rfl)) (by first | assumption | (with_reducible exact FV.ofInt _ _) | (with_reducible exact FV.neg (by assumption)) | exact FV.lit (by kernel_rfl) (by kernel_rfl)) ?_; intro r m hr))
                go_roundw
                case rel => exact ⟨q + 1, _, _, by omega, by go_num, rfl, FV.of_eq (by assumption) (lessG_succ _ _ _ _), by first | rfl | simp only [World.drewN_drewN]⟩
                case measure => simp [intOf] <;> omega
              · obtain rfl : q = k := by omega
                have hA2 := HX2.out q hkr
                have f2 := Hfy.out q hkr
                generalize hx2 : X' (q * r + q) = x2 at hA2 f2
                clear hx2
                obtain ⟨TT, hTT⟩ : ∃ TT, TT = rtS r VV (j * r + q) (q * r + q) := ⟨_, rfl⟩
                rw [← hTT] at f2
                obtain ⟨LL, hLL⟩ : ∃ LL, LL = lessG SS AA BB q := ⟨_, rfl⟩
                rw [← hLL] at hrr
                have Hq2 : Hid (∀ r5, FV .f32 r5 (fop .quo .f32 LL TT) → FV .f32 r5 (rtF r VV (rtS r VV K) K)) := Lib.hid fun r5 hr5 => FV.of_eq hr5 (by rw [HK.out]; rw [rt_low hlt hlt2, hLL, hTT, HSS.out, HAA.out, HBB.out])
                have HST : Hid (∀ M v, (Lit.float .f32 v).wf = true → Work w (w.heap.size + 1) w1.heap.size g w1.heap.size w.heap.size r r N (fun t => if t = K then v else X' t) ((wr.drewN M).setCell ⟨g, K, none⟩ (.float .f32 v))) := Lib.hid fun M v hv => (hK2.out.drewN (m := M)).stored (by rw [HK.out]; exact hpl) hv
                have HVN : Hid (∀ v, FV .f32 v (rtF r VV (rtS r VV K) K) → ∀ t, vals (fun t => if t = K then v else X' t) t = rtS r VV (j * r + (q + 1)) t) := Lib.hid fun v hv => by
                  have hh := rt_put hV2.out (v := v) (by rw [← HK.out]; exact hv)
                  intro t
                  rw [← HK.out] at hh
                  rw [hh t, HK.out, Nat.add_assoc]
                have hKN : K < N := by rw [HK.out]; exact hpl
                obtain ⟨hce, hfr, _⟩ := hK2.out.own.cell hKN
                have hM1 := HM1.out
                have hM2 := HM2.out
                generalize X' K = old at hce
                clear hAt0 fs0 hTT hLL
                go_wp2_with (first | (go_at_call 46; (with_reducible refine (hA2 _).mono ?_); rintro e w' ⟨rfl, m6, rfl⟩; try simp only [World.drewN_drewN]) | (refine wpList_farith rfl _ _ _ _ _ rfl rfl _ _ _ rfl rfl hrr f2 ?_; intro r5 m7 hr5))
                go_roundw
                case rel => exact ⟨q + 1, _, by omega, by go_num, fun h => absurd h (by omega), HVN.out _ (Hq2.out _ hr5), HST.out _ _ hr5.2⟩
                case measure => simp [intOf] <;> omega
          · obtain rfl : k = j := by omega
            have fs0 : ∀ r5, FV .f32 r5 (fop .add .f32 (vals Z (k * r + k)) S) → FV .f32 r5 (VV (k * r + k)) := fun r5 hr5 => FV.of_eq hr5 (by rw [HVV.out, diagV_on hlt])
            have Hfs := Lib.hid fs0
            obtain ⟨zz, hzz⟩ : ∃ zz, zz = vals Z (k * r + k) := ⟨_, rfl⟩
            rw [← hzz] at fz
            have Hzz := Lib.hid hzz
            obtain ⟨SS, hSS⟩ : ∃ SS, SS = VV (k * r + k) := ⟨_, rfl⟩
            have HSS := Lib.hid hSS
            clear hSS fs0 hzz
            have hAB : AA = BB := by rw [HAA.out, HBB.out]
            subst hAB
            go_wp2_with (first | (go_at_call 46; (with_reducible refine hAt0.mono ?_); rintro e w' ⟨rfl, m5, rfl⟩) | (refine wpList_farith rfl _ _ _ _ _ rfl rfl _ _ _ rfl rfl fz fs ?_; intro r5 m7 hr5))
            have fs0 : FV .f32 r5 SS := by rw [HSS.out]; exact Hfs.out _ (by rw [← Hzz.out]; exact hr5)
            go_loopw [10, 11] (fun s i wr2 => ∃ q m rr : Nat, q ≤ k ∧ i = .int .i64 q ∧ s = .float .f32 rr ∧ FV .f32 rr (lessG SS AA AA q) ∧ wr2 = wr.drewN m) (fun _ i _ => k - (intOf i).toNat)
            case atStart => exact ⟨0, _, _, Nat.zero_le _, rfl, rfl, fs0, rfl⟩
            case round =>
              obtain ⟨q, m0, rr, hq, rfl, rfl, hrr, rfl⟩ := hrel
              by_cases hlt3 : q < k
              · have hA1 := HX1.out q (by omega)
                have hA2 := HX2.out q (by omega)
                have f1 : FV .f32 (X' (k * r + q)) (AA q) := by rw [HAA.out]; exact Hfx.out q (by omega)
                have f2 : FV .f32 (X' (k * r + q)) (AA q) := by rw [HAA.out]; exact Hfy.out q (by omega)
                generalize X' (k * r + q) = x1 at hA1 f1 f2
                clear hAt0 fs0 fz hr5 y0 y1 y2
                go_wp2_with (first
                  | (go_at_call 46; (with_reducible refine (hA1 _).mono ?_); rintro e w' ⟨rfl, m5, rfl⟩; try simp only [World.drewN_drewN])
                  | (go_at_call 46; (with_reducible refine (hA1 _).mono ?_); rintro e w' ⟨rfl, m6, rfl⟩; try simp only [World.drewN_drewN])
                  | (refine wpList_farith rfl _ _ _ _ _ rfl rfl _ _ _ rfl rfl (by first | assumption | (with_reducible exact FV.ofInt _ _) | (with_reducible exact FV.neg (by assumption)) | exact FV.lit (by kernel_rfl) (by kernel_rfl)) (by first | assumption | (with_reducible exact FV.ofInt _ _) | (with_reducible exact FV.neg (by assumption)) | exact FV.lit (by kernel_rfl) (by kernel_rfl)) ?_; intro r m hr))
                go_roundw
                case rel => exact ⟨q + 1, _, _, by omega, by go_num, rfl, FV.of_eq (by assumption) (lessG_succ _ _ _ _), by first | rfl | simp only [World.drewN_drewN]⟩
                case measure => simp [intOf] <;> omega
              · obtain rfl : q = k := by omega
                have hDD : lessG SS AA AA q = rtD r VV q := by rw [HSS.out, HAA.out]; rfl
                rw [hDD] at hrr
                obtain ⟨DD, hDe⟩ : ∃ DD, DD = rtD r VV q := ⟨_, rfl⟩
                rw [← hDe] at hrr
                have HDD := Lib.hid hDe
                clear hDD hDe
                have hrc := hrr.1
                have hZ0 : cn .f32 0 = some 0 := by kernel_rfl
                have hno : ¬ (ford .f32 DD (some 0) = some .gt) → rtGood r N VV = false := fun hh => by
                  unfold rtGood
                  rw [rtAll_no hlt (by unfold rtOk; rw [← HDD.out]; simpa using hh), Bool.false_and]
                cases ho : ford .f32 DD (some 0) with
                | none =>
                  have HNO : Hid (rtGood r N VV = false) := Lib.hid (hno (by rw [ho]; simp))
                  obtain ⟨z0, z1, z2⟩ := hK2.out.res
                  have hice := hK2.out.ice
                  have B6 := hK2.out.bel
                  clear hno hAt0 fs0 fz hr5
                  go_wp2_with fail
                  refine bodyPost_ret (v := .tuple #[.agg #[.int .i64 0, .int .i64 0, .slice none 0 0], .bool false]) (by simp [results, Try.results33, go_sem, z0, z1, z2]) rfl ?_
                  exact OwnIf.no HNO.out ⟨none, 0, fun _ => 0, rfl, .inl ⟨rfl, rfl, rfl⟩, fun i hi => absurd hi (Nat.not_lt_zero _), (by repeat first | (with_reducible exact B6) | (with_reducible refine Below.setCell ?_ (by first | exact Nat.le_refl _ | (simp; done) | (simp; omega) | omega) _) | (with_reducible refine Below.alloc ?_ (by first | exact Nat.le_refl _ | (simp; done) | (simp; omega) | omega) _) | (with_reducible refine below_drewN ?_ _) | (with_reducible refine Below.drew ?_))⟩
                | some o =>
                  by_cases hog : o = .gt
                  · subst hog
                    have HA2 : Hid (rtAll r VV (q + 1) = true) := Lib.hid (by simp only [rtAll, HA.out, Bool.true_and]; unfold rtOk; rw [← HDD.out, ho]; rfl)
                    clear hno
                    have Hq2 : Hid (∀ r5, FV .f32 r5 (narrow (fsqrt (widen DD))) → FV .f32 r5 (rtF r VV (rtS r VV K) K)) := Lib.hid fun r5 hr5 => FV.of_eq hr5 (by rw [HK.out]; rw [rt_mid hlt, HDD.out])
                    have HST : Hid (∀ M v, (Lit.float .f32 v).wf = true → Work w (w.heap.size + 1) w1.heap.size g w1.heap.size w.heap.size r r N (fun t => if t = K then v else X' t) ((wr.drewN M).setCell ⟨g, K, none⟩ (.float .f32 v))) := Lib.hid fun M v hv => (hK2.out.drewN (m := M)).stored (by rw [HK.out]; exact hpl) hv
                    have HVN : Hid (∀ v, FV .f32 v (rtF r VV (rtS r VV K) K) → ∀ t, vals (fun t => if t = K then v else X' t) t = rtS r VV (q * r + (q + 1)) t) := Lib.hid fun v hv => by
                      have hh := rt_put hV2.out (v := v) (by rw [← HK.out]; exact hv)
                      intro t
                      rw [← HK.out] at hh
                      rw [hh t, HK.out, Nat.add_assoc]
                    have hKN : K < N := by rw [HK.out]; exact hpl
                    obtain ⟨hce, hfr, _⟩ := hK2.out.own.cell hKN
                    have hM1 := HM1.out
                    have hM2 := HM2.out
                    generalize X' K = old at hce
                    clear hAt0 fs0 fz hr5
                    go_wp2_with (first | (go_at_call 47; refine (specRoot_any _ hrr _).mono ?_; rintro e w' ⟨rq, rfl, hrq, m9, rfl⟩; try simp only [World.drewN_drewN]))
                    go_roundw
                    case rel => exact ⟨q + 1, _, by omega, by go_num, fun _ => HA2.out, HVN.out _ (Hq2.out _ hrq), HST.out _ _ hrq.2⟩
                    case measure => simp [intOf] <;> omega
                  · have hog' : (some o == some Ordering.gt) = false := by cases o <;> first | rfl | exact absurd rfl hog
                    have HNO : Hid (rtGood r N VV = false) := Lib.hid (hno (by rw [ho]; intro q; exact hog (Option.some.inj q)))
                    obtain ⟨z0, z1, z2⟩ := hK2.out.res
                    have hice := hK2.out.ice
                    have B6 := hK2.out.bel
                    clear hno hAt0 fs0 fz hr5 hog
                    go_wp2_with fail
                    refine bodyPost_ret (v := .tuple #[.agg #[.int .i64 0, .int .i64 0, .slice none 0 0], .bool false]) (by simp [results, Try.results33, go_sem, z0, z1, z2]) rfl ?_
                    exact OwnIf.no HNO.out ⟨none, 0, fun _ => 0, rfl, .inl ⟨rfl, rfl, rfl⟩, fun i hi => absurd hi (Nat.not_lt_zero _), (by repeat first | (with_reducible exact B6) | (with_reducible refine Below.setCell ?_ (by first | exact Nat.le_refl _ | (simp; done) | (simp; omega) | omega) _) | (with_reducible refine Below.alloc ?_ (by first | exact Nat.le_refl _ | (simp; done) | (simp; omega) | omega) _) | (with_reducible refine below_drewN ?_ _) | (with_reducible refine Below.drew ?_))⟩
        · obtain rfl : k = j + 1 := by omega
          have hrest : Hid (∀ t, vals X' t = rtS r VV ((j + 1) * r) t) := Lib.hid fun t => by
            rw [hV2.out t]
            have := rtS_rest (Z := VV) hlt (d := r - (j + 1)) (by omega) t
            rw [show j * r + (j + 1 + (r - (j + 1))) = (j + 1) * r by rw [Nat.succ_mul]; omega] at this
            rw [this]
          clear hk2
          go_wp2
          go_roundw
          case rel => exact ⟨j + 1, X', by omega, by go_num, HNX.out rfl, hrest.out, hK2.out⟩
          case measure => simp [intOf] <;> omega
    · obtain rfl : j = r := by omega
      obtain ⟨g1, g2, g3, g4⟩ := hk.facts hpos
      obtain ⟨y0, y1, y2⟩ := hk.box
      have hVN : ∀ t, vals X t = rtS j VV N t := fun t => by rw [hv t, HN.out]
      have hgood : Hid (rtGood j N VV = allFin (rtS j VV N) N) := Lib.hid (by unfold rtGood; rw [hall, Bool.true_and])
      have hvB : validB j j N (vals X) = allFin (rtS j VV N) N := (validB_nat h1 h12 h1 h12 HN.out).trans (allFin_congr fun t ht => hVN t)
      have hfs := hk.own.fs
      have HVX := Lib.hid hVN
      clear hv hVN
      cases hf : allFin (rtS j VV N) N with
      | true =>
        rw [hf] at hvB
        go_wp2_with fail
        go_at_call 48
        refine (specGive_yes _ _ _ _ _ X _ (by omega) hfs hvB).mono ?_
        rintro e w4 ⟨rfl, b4⟩
        have hk2 := hk.below b4 g3 g4
        clear hk hfs y0 y1 y2
        obtain ⟨z0, z1, z2⟩ := hk2.res
        have o2 := hk2.own
        have B2 := hk2.bel
        have hlo := hk2.lo
        have hmid := hk2.mid
        have hice := hk2.ice
        have htop := hk2.top
        obtain ⟨_, _, g3', _⟩ := hk2.facts hpos
        clear hk2
        go_wp2_with fail
        refine bodyPost_ret (v := .tuple #[.agg #[.int .i64 j, .int .i64 j, .slice (some ⟨g, 0, none⟩) N N], .bool true]) (by simp [results, Try.results33, go_sem, z0, z1, z2]) rfl ?_
        exact OwnIf.yes (by rw [hgood.out, hf]) ⟨_, _, _, rfl, (by refine Own.to o2 (hk := fun g hg1 hg2 => by (try simp at hg1 hg2); repeat (first | rw [Below.heap_setCell _ _ _ _ (by simp; omega)] | rw [Below.heap_alloc _ _ _ (by simp [World.setCell]; omega)])) ?_ ?_ ?_ ?_ <;> (first | exact Nat.le_refl _ | omega | (simp [World.setCell]; done) | (simp [World.setCell]; omega))), fun i hi => HVX.out i, (by repeat first | (with_reducible exact B2) | (with_reducible refine Below.setCell ?_ (by first | exact Nat.le_refl _ | (simp; done) | (simp; omega) | omega) _) | (with_reducible refine Below.alloc ?_ (by first | exact Nat.le_refl _ | (simp; done) | (simp; omega) | omega) _) | (with_reducible refine below_drewN ?_ _) | (with_reducible refine Below.drew ?_))⟩
      | false =>
        rw [hf] at hvB
        go_wp2_with fail
        go_at_call 48
        refine (specGive_no _ _ _ _ _ X _ (by omega) hfs hvB).mono ?_
        rintro e w4 ⟨rfl, b4⟩
        have hk2 := hk.below b4 g3 g4
        clear hk hfs y0 y1 y2
        obtain ⟨z0, z1, z2⟩ := hk2.res
        have B2 := hk2.bel
        have hice := hk2.ice
        clear hk2
        go_wp2_with fail
        refine bodyPost_ret (v := .tuple #[.agg #[.int .i64 0, .int .i64 0, .slice none 0 0], .bool false]) (by simp [results, Try.results33, go_sem, z0, z1, z2]) rfl ?_
        exact OwnIf.no (by rw [hgood.out, hf]) ⟨none, 0, fun _ => 0, rfl, .inl ⟨rfl, rfl, rfl⟩, fun i hi => absurd hi (Nat.not_lt_zero _), (by repeat first | (with_reducible exact B2) | (with_reducible refine Below.setCell ?_ (by first | exact Nat.le_refl _ | (simp; done) | (simp; omega) | omega) _) | (with_reducible refine Below.alloc ?_ (by first | exact Nat.le_refl _ | (simp; done) | (simp; omega) | omega) _) | (with_reducible refine below_drewN ?_ _) | (with_reducible refine Below.drew ?_))⟩
end Go.Proofs.Ytmjlhmbnaifhaaa
