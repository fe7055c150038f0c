/- Helper: what the flipped square of a factor makes a list of, of the reference. Conditions: none. -/
import Derived.Test.YtmddhhmgfhljiaaFlipSolveImpl
import Derived.Test.YtmddhhmgfhljiaaFactorSolveSpec
import Derived.Test.YtmddhhmgfhljiaaFactorSolveKey
set_option linter.unusedVariables false
set_option linter.unusedSimpArgs false
namespace Go.Proofs.Ytmddhhmgfhljiaa
open Go.RowKit

theorem lowT_at {A : Nat → Nat → Option Nat} {Y : Nat → Option Nat} {n j : Nat} (hj : j < n) : lowY A true Y n j = fop .quo .f32 (lessG (Y j) (A j) (lowY A true Y n) j) (A j j) := by
  rw [lowF_keep (i := j + 1) (Nat.lt_succ_self j) (by omega)]
  show (if j = j then lowS A true (lowY A true Y j) j else _) = _
  rw [if_pos rfl]
  unfold lowS divIf
  rw [lowY_old (Nat.le_refl _)]
  have hh : lessG (Y j) (A j) (lowY A true Y j) j = lessG (Y j) (A j) (lowY A true Y n) j := lessG_congr rfl fun k hk => ⟨rfl, (lowF_keep (i := j) hk (by omega)).symm⟩
  rw [hh]
theorem upF_keep {A : Nat → Nat → Option Nat} {dv : Bool} {n : Nat} {Y : Nat → Option Nat} {j t : Nat} (ht : n - j ≤ t) : ∀ {i : Nat}, j ≤ i → i ≤ n → upY A dv n Y i t = upY A dv n Y j t
  | 0, h, _ => by rw [show j = 0 by omega]
  | i + 1, h, hi => by
    by_cases e : j = i + 1
    · rw [e]
    · show (if t = n - (i + 1) then _ else upY A dv n Y i t) = _
      rw [if_neg (by omega)]
      exact upF_keep ht (by omega) (by omega)
set_option maxRecDepth 20000 in
set_option maxHeartbeats 2000000 in
theorem specFlipS_no (R C : Int) (a : Option Addr) (n c : Nat) (Z : Nat → Nat) (b : Option Addr) (m d : Nat) (O : Nat → Int) (b2 : Option Addr) (n2 d2 : Nat) (Y : Nat → Nat) (w : World) (hn : n ≤ 1048576) (hm : m ≤ 1048576) (hn2 : n2 ≤ 1048576) (h : FS .f32 w a n c Z) (h2 : IS .i64 w b m d O) (h3 : FS .f32 w b2 n2 d2 Y)
    (ho : (factorB R C n (vals Z) m O && fitsB R n2 (vals Y)) = false) :
    Calls Try.prog 10 #[.agg #[.int .i64 R, .int .i64 C, .slice a n c, .slice b m d], .slice b2 n2 d2] w (NumsBel false 0 (fun _ => none) w) := by
  go_enter Try.func10, Try.ntmps10
  go_wp2_with fail
  go_at_call 36
  refine (l03Fits_any w.heap.size R C a n c Z b m d O b2 n2 d2 Y _ hn hm hn2 (by simp) (BoxL.four (by simp [go_sem]) (by simp [go_sem]) (by simp [go_sem]) (by simp [go_sem])) (h.below (by repeat first | (with_reducible exact Below.refl _ _) | (with_reducible refine Below.setCell ?_ (by first | exact Nat.le_refl _ | (simp; done) | (simp; omega) | omega) _) | (with_reducible refine Below.alloc ?_ (by first | exact Nat.le_refl _ | (simp; done) | (simp; omega) | omega) _) | (with_reducible refine below_drewN ?_ _) | (with_reducible refine Below.drew ?_)) (Nat.le_refl _)) (h2.below (by repeat first | (with_reducible exact Below.refl _ _) | (with_reducible refine Below.setCell ?_ (by first | exact Nat.le_refl _ | (simp; done) | (simp; omega) | omega) _) | (with_reducible refine Below.alloc ?_ (by first | exact Nat.le_refl _ | (simp; done) | (simp; omega) | omega) _) | (with_reducible refine below_drewN ?_ _) | (with_reducible refine Below.drew ?_)) (Nat.le_refl _)) (h3.below (by repeat first | (with_reducible exact Below.refl _ _) | (with_reducible refine Below.setCell ?_ (by first | exact Nat.le_refl _ | (simp; done) | (simp; omega) | omega) _) | (with_reducible refine Below.alloc ?_ (by first | exact Nat.le_refl _ | (simp; done) | (simp; omega) | omega) _) | (with_reducible refine below_drewN ?_ _) | (with_reducible refine Below.drew ?_)) (Nat.le_refl _))).mono ?_
  rintro e w1 ⟨rfl, b1⟩
  rw [ho]
  have B1 : Below w.heap.size w w1 := Below.trans (by repeat first | (with_reducible exact Below.refl _ _) | (with_reducible refine Below.setCell ?_ (by first | exact Nat.le_refl _ | (simp; done) | (simp; omega) | omega) _) | (with_reducible refine Below.alloc ?_ (by first | exact Nat.le_refl _ | (simp; done) | (simp; omega) | omega) _) | (with_reducible refine below_drewN ?_ _) | (with_reducible refine Below.drew ?_)) (b1.mono (by simp))
  clear b1
  go_wp2_with fail
  go_ret2
  exact NumsBel.noF B1
set_option maxRecDepth 20000 in
set_option maxHeartbeats 4000000 in
theorem specFlipS_yes (n N b off cap bb ob d bc oc d2 : Nat) (Z : Nat → Nat) (O : Nat → Int) (Y : Nat → Nat) (w00 : World) (hf : factorB n n N (vals Z) n O = true) (hft : fitsB n n (vals Y) = true) (h0 : FS .f32 w00 (some ⟨b, off, none⟩) N cap Z) (h20 : IS .i64 w00 (some ⟨bb, ob, none⟩) n d O) (h30 : FS .f32 w00 (some ⟨bc, oc, none⟩) n d2 Y) :
    Calls Try.prog 10 #[.agg #[.int .i64 (n : Int), .int .i64 (n : Int), .slice (some ⟨b, off, none⟩) N cap, .slice (some ⟨bb, ob, none⟩) n d], .slice (some ⟨bc, oc, none⟩) n d2] w00 (NBelIf (allFin (flV n (sq n Z) O (vals Y)) n) n (flV n (sq n Z) O (vals Y)) w00) := by
  obtain ⟨r', e1, _, _, h1, h12, hN, _, _, hord, _⟩ := factor_nat hf
  have e2 : n = r' := by omega
  subst e2
  have hN' := Lib.hid hN
  have hN144 : N ≤ 144 := by have := sides_le h12 h12; omega
  obtain ⟨_, _, e, hbl, _, _⟩ := h0.at (show 0 < N by rw [hN]; exact Nat.mul_pos h1 h1)
  simp only [Option.some.injEq, Addr.mk.injEq, and_true] at e
  obtain ⟨rfl, rfl⟩ := e
  obtain ⟨_, _, e, hbbl, _, _⟩ := h20.at (show 0 < n by omega)
  simp only [Option.some.injEq, Addr.mk.injEq, and_true] at e
  obtain ⟨rfl, rfl⟩ := e
  clear hN e1
  obtain ⟨AA, hAA⟩ : ∃ AA : Nat → Nat → Option Nat, AA = fun i k => sq n Z k i := ⟨_, rfl⟩
  obtain ⟨VV, hVV⟩ : ∃ VV, VV = lowY AA true (vals Y) n := ⟨_, rfl⟩
  obtain ⟨UU, hUU⟩ : ∃ UU, UU = upY AA false n VV := ⟨_, rfl⟩
  obtain ⟨RR, hRR⟩ : ∃ RR, RR = flV n (sq n Z) O (vals Y) := ⟨_, rfl⟩
  have hR : RR = scA O (UU n) n := by rw [hRR, hUU, hVV, hAA]; rfl
  rw [← hRR]
  obtain ⟨OK, hOK⟩ : ∃ F, F = allFin RR n := ⟨_, rfl⟩
  rw [← hOK]
  have HOK := Lib.hid hOK
  have HV := Lib.hid hVV
  have HU := Lib.hid hUU
  have HR := Lib.hid hR
  have HA := Lib.hid hAA
  clear hUU hVV hRR hR hAA hOK
  obtain ⟨i0, hi, hz0, hz1, hz2⟩ := info_parts info32
  go_enter Try.func10, Try.ntmps10
  go_wp2_with fail
  go_at_call 36
  refine (l03Fits_any w00.heap.size (n : Int) (n : Int) (some ⟨b, off, none⟩) N cap Z (some ⟨bb, ob, none⟩) n d O (some ⟨bc, oc, none⟩) n d2 Y _ (by omega) (by omega) (by omega) (by simp) (BoxL.four (by simp [go_sem]) (by simp [go_sem]) (by simp [go_sem]) (by simp [go_sem])) (h0.below (by repeat first | (with_reducible exact Below.refl _ _) | (with_reducible refine Below.setCell ?_ (by first | exact Nat.le_refl _ | (simp; done) | (simp; omega) | omega) _) | (with_reducible refine Below.alloc ?_ (by first | exact Nat.le_refl _ | (simp; done) | (simp; omega) | omega) _) | (with_reducible refine below_drewN ?_ _) | (with_reducible refine Below.drew ?_)) (Nat.le_refl _)) (h20.below (by repeat first | (with_reducible exact Below.refl _ _) | (with_reducible refine Below.setCell ?_ (by first | exact Nat.le_refl _ | (simp; done) | (simp; omega) | omega) _) | (with_reducible refine Below.alloc ?_ (by first | exact Nat.le_refl _ | (simp; done) | (simp; omega) | omega) _) | (with_reducible refine below_drewN ?_ _) | (with_reducible refine Below.drew ?_)) (Nat.le_refl _)) (h30.below (by repeat first | (with_reducible exact Below.refl _ _) | (with_reducible refine Below.setCell ?_ (by first | exact Nat.le_refl _ | (simp; done) | (simp; omega) | omega) _) | (with_reducible refine Below.alloc ?_ (by first | exact Nat.le_refl _ | (simp; done) | (simp; omega) | omega) _) | (with_reducible refine below_drewN ?_ _) | (with_reducible refine Below.drew ?_)) (Nat.le_refl _))).mono ?_
  rintro e w ⟨rfl, b1⟩
  rw [hf, hft]
  have B0 : Below w00.heap.size w00 w := Below.trans (by repeat first | (with_reducible exact Below.refl _ _) | (with_reducible refine Below.setCell ?_ (by first | exact Nat.le_refl _ | (simp; done) | (simp; omega) | omega) _) | (with_reducible refine Below.alloc ?_ (by first | exact Nat.le_refl _ | (simp; done) | (simp; omega) | omega) _) | (with_reducible refine below_drewN ?_ _) | (with_reducible refine Below.drew ?_)) (b1.mono (by simp))
  have hp : w00.heap.size < w.heap.size := by have := b1.size; simp at this; omega
  have hbx : BoxL w w00.heap.size [.int .i64 (n : Int), .int .i64 (n : Int), .slice (some ⟨b, off, none⟩) N cap, .slice (some ⟨bb, ob, none⟩) n d] := BoxL.below (BoxL.four (by simp [go_sem]) (by simp [go_sem]) (by simp [go_sem]) (by simp [go_sem])) b1 (by simp)
  have h := h0.below B0 (Nat.le_refl _)
  have h2 := h20.below B0 (Nat.le_refl _)
  have h3 := h30.below B0 (Nat.le_refl _)
  have hblw : b < w.heap.size := by have := B0.size; omega
  clear b1 hf hft h0 h20 h30
  have x0 := hbx 0 _ rfl
  have hL := World.ownsRow_lit (base := w.heap.size) (e := 44) (size := 1) w #[] 0 (Nat.le_refl _) (Nat.zero_le _) rfl
  go_wp2
  clear x0
  -- from the first row on
  go_loopw [7, 8] (fun v i wr => ∃ (j : Nat) (xs : List Value), j ≤ n ∧ i = .int .i64 j ∧ Grow w j VV wr v xs) (fun _ i _ => n - (intOf i).toNat)
  case atStart => exact ⟨0, [], Nat.zero_le _, rfl, by simpa using hL, fun t ht => absurd ht (Nat.not_lt_zero _), (by repeat first | (with_reducible exact Below.refl _ _) | (with_reducible refine Below.setCell ?_ (by first | exact Nat.le_refl _ | (simp; done) | (simp; omega) | omega) _) | (with_reducible refine Below.alloc ?_ (by first | exact Nat.le_refl _ | (simp; done) | (simp; omega) | omega) _) | (with_reducible refine below_drewN ?_ _) | (with_reducible refine Below.drew ?_)), _, _, rfl⟩
  case round =>
    obtain ⟨j, xs, hj, rfl, hk⟩ := hrel
    clear hL
    obtain ⟨g, cp, rfl⟩ := hk.shape
    have XB := hbx.below hk.bel hp
    have FZ := h.below hk.bel (Nat.le_refl _)
    have FO := h2.below hk.bel (Nat.le_refl _)
    have FY := h3.below hk.bel (Nat.le_refl _)
    have hsr := hk.bel.size
    by_cases hlt : j < n
    · obtain ⟨b', off', e, hbly, hcy, hfy⟩ := FY.at hlt
      simp only [Option.some.injEq, Addr.mk.injEq, and_true] at e
      obtain ⟨rfl, rfl⟩ := e
      have hk' := Lib.hid hk
      have hYk : Hid (cn .f32 (Y j) = vals Y j) := Lib.hid rfl
      clear hbly hk
      go_wp2
      obtain ⟨SS, hSS⟩ : ∃ SS, SS = cn .f32 (Y j) := ⟨_, rfl⟩
      rw [← hSS] at hfy
      clear hcy
      go_loopw [9, 10] (fun s k wr2 => ∃ t m r : Nat, t ≤ j ∧ k = .int .i64 t ∧ s = .float .f32 r ∧ FV .f32 r (lessG SS (AA j) VV t) ∧ wr2 = wr.drewN m) (fun _ k _ => j - (intOf k).toNat)
      case atStart => exact ⟨0, 0, _, Nat.zero_le _, rfl, rfl, hfy, rfl⟩
      case round =>
        obtain ⟨t, m0, r0, ht, rfl, rfl, hr0, rfl⟩ := hrel
        clear hfy
        by_cases hlt2 : t < j
        · have htn : t < n := by omega
          obtain ⟨rx, hxs, hfx⟩ := hk'.out.val t hlt2
          have hcx := (hk'.out.own.cellAt t (by omega)).trans hxs
          have hza := FZ.fvF (show t * n + j < N by rw [hN'.out]; exact place_lt htn hlt)
          have hAt : ∀ W, (∃ z, W = (wr.drewN m0).drewN z) → Calls Try.prog 37 #[.pointer (some ⟨w00.heap.size, 0, none⟩), .int .i64 t, .int .i64 j] W fun e w'' => e = .returned (.float .f32 (Z (t * n + j))) ∧ ∃ z, w'' = (wr.drewN m0).drewN z := by
            rintro W ⟨k', rfl⟩
            refine (specAt_any w00.heap.size b off n n N cap t j Z ((wr.drewN m0).drewN k') h12 h12 hN'.out ⟨XB 0 _ rfl, XB 1 _ rfl, XB 2 _ rfl⟩ (FS.drewN (FS.drewN FZ)) htn hlt).mono ?_
            rintro e w2 ⟨rfl, m2, rfl⟩
            exact ⟨rfl, _, World.drewN_drewN _ _ _⟩
          have hAt := Lib.hid hAt
          have hcW : Hid (∀ W, (∃ z, W = (wr.drewN m0).drewN z) → W.cell? ⟨g, t, none⟩ = some (.float .f32 rx)) := Lib.hid (by rintro W ⟨z, rfl⟩; exact hcx)
          have hAZ : Hid (cn .f32 (Z (t * n + j)) = AA j t) := Lib.hid (by rw [HA.out]; rfl)
          generalize Z (t * n + j) = za at hza hAt hAZ
          clear hxs hcx
          go_wp2
          refine wp_region_kinds (fun w' => ∃ z, w' = (wr.drewN m0).drewN z) (fun j => if j = 9 then 1 else if j = 10 then 1 else 0) 11 ⟨1, rfl⟩ (by kernel_rfl) (by kernel_rfl) (by kernel_rfl) ?_
          simp only [List.take_succ_cons, List.take_zero, List.drop_succ_cons, List.drop_zero]
          ((with_reducible refine wpKinds_run (.float .f32 r0) ?hwant ?hkind ?hrun ?_); (case hwant => first | (simp [Region.wanted, yielded]; done) | rfl); (case hkind => rfl); (case hrun => intro W hW; simp [go_sem, BigFrame.eval_const, BigFrame.eval_global, BigFrame.eval_func]); simp only [Act.put, List.setIfInBounds_toArray, List.set_cons_succ, List.set_cons_zero])
          ((with_reducible refine wpKinds_run (.pointer (some ⟨w00.heap.size, 0, none⟩)) ?hwant ?hkind ?hrun ?_); (case hwant => first | (simp [Region.wanted, yielded]; done) | rfl); (case hkind => rfl); (case hrun => intro W hW; simp [go_sem, BigFrame.eval_const, BigFrame.eval_global, BigFrame.eval_func]); simp only [Act.put, List.setIfInBounds_toArray, List.set_cons_succ, List.set_cons_zero])
          ((with_reducible refine wpKinds_run (.int .i64 t) ?hwant ?hkind ?hrun ?_); (case hwant => first | (simp [Region.wanted, yielded]; done) | rfl); (case hkind => rfl); (case hrun => intro W hW; simp [go_sem, BigFrame.eval_const, BigFrame.eval_global, BigFrame.eval_func]); simp only [Act.put, List.setIfInBounds_toArray, List.set_cons_succ, List.set_cons_zero])
          ((with_reducible refine wpKinds_run (.int .i64 j) ?hwant ?hkind ?hrun ?_); (case hwant => first | (simp [Region.wanted, yielded]; done) | rfl); (case hkind => rfl); (case hrun => intro W hW; simp [go_sem, BigFrame.eval_const, BigFrame.eval_global, BigFrame.eval_func]); simp only [Act.put, List.setIfInBounds_toArray, List.set_cons_succ, List.set_cons_zero])
          ((with_reducible refine wpKinds_call (f := 37) (args := #[.pointer (some ⟨w00.heap.size, 0, none⟩), .int .i64 t, .int .i64 j]) (.float .f32 za) ?hwant ?hkind ?hrun ?hinit ?hcall ?_); (case hwant => first | (simp [Region.wanted, yielded]; done) | rfl); (case hkind => rfl); (case hrun => intro W; simp [go_sem, BigFrame.eval_const, BigFrame.eval_global, BigFrame.eval_func]); (case hinit => kernel_rfl); (case hcall => exact hAt.out); simp only [Act.put, List.setIfInBounds_toArray, List.set_cons_succ, List.set_cons_zero])
          ((with_reducible refine wpKinds_run (.slice (some ⟨g, 0, none⟩) j cp) ?hwant ?hkind ?hrun ?_); (case hwant => first | (simp [Region.wanted, yielded]; done) | rfl); (case hkind => rfl); (case hrun => intro W hW; simp [go_sem, BigFrame.eval_const, BigFrame.eval_global, BigFrame.eval_func]); simp only [Act.put, List.setIfInBounds_toArray, List.set_cons_succ, List.set_cons_zero])
          ((with_reducible refine wpKinds_run (.int .i64 t) ?hwant ?hkind ?hrun ?_); (case hwant => first | (simp [Region.wanted, yielded]; done) | rfl); (case hkind => rfl); (case hrun => intro W hW; simp [go_sem, BigFrame.eval_const, BigFrame.eval_global, BigFrame.eval_func]); simp only [Act.put, List.setIfInBounds_toArray, List.set_cons_succ, List.set_cons_zero])
          ((with_reducible refine wpKinds_run (.pointer (some ⟨g, t, none⟩)) ?hwant ?hkind ?hrun ?_); (case hwant => first | (simp [Region.wanted, yielded]; done) | rfl); (case hkind => rfl); (case hrun => intro W hW; simp [go_sem, BigFrame.eval_const, BigFrame.eval_global, BigFrame.eval_func, hlt2]); simp only [Act.put, List.setIfInBounds_toArray, List.set_cons_succ, List.set_cons_zero])
          ((with_reducible refine wpKinds_run (.float .f32 rx) ?hwant ?hkind ?hrun ?_); (case hwant => first | (simp [Region.wanted, yielded]; done) | rfl); (case hkind => rfl); (case hrun => intro W hW; simp [go_sem, BigFrame.eval_const, BigFrame.eval_global, BigFrame.eval_func, hcW.out W hW]); simp only [Act.put, List.setIfInBounds_toArray, List.set_cons_succ, List.set_cons_zero])
          (refine wpKinds_farith (fun W m hW => by obtain ⟨z, rfl⟩ := hW; exact ⟨_, World.drewN_drewN _ _ _⟩) rfl rfl _ _ _ _ _ rfl rfl _ _ _ rfl rfl hza hfx (fun r5 hr5 => ?_))
          simp only [Act.put, List.setIfInBounds_toArray, List.set_cons_succ, List.set_cons_zero]
          (refine wpKinds_farith (fun W m hW => by obtain ⟨z, rfl⟩ := hW; exact ⟨_, World.drewN_drewN _ _ _⟩) rfl rfl _ _ _ _ _ rfl rfl _ _ _ rfl rfl hr0 hr5 (fun r6 hr6 => ?_))
          simp only [Act.put, List.setIfInBounds_toArray, List.set_cons_succ, List.set_cons_zero]
          refine wpKinds_nil ?_
          rintro _ ⟨nq, rfl⟩
          clear hAt hcW
          go_wp2
          go_roundw
          case rel => exact ⟨t + 1, _, _, by omega, by go_num, rfl, FV.of_eq hr6 (by rw [hAZ.out]; rfl), rfl⟩
          case measure => simp [intOf]; omega
        · obtain rfl : t = j := by omega
          have hfa := FZ.fvF (show t * n + t < N by rw [hN'.out]; exact place_lt hlt hlt)
          go_wp2_with fail
          go_at_call 37
          refine (specAt_any w00.heap.size b off n n N cap t t Z (wr.drewN m0) h12 h12 hN'.out ⟨XB 0 _ rfl, XB 1 _ rfl, XB 2 _ rfl⟩ (FS.drewN FZ) hlt hlt).mono ?_
          rintro e w5 ⟨rfl, m3, rfl⟩
          have hVj : Hid (fop .quo .f32 (lessG SS (AA t) VV t) (cn .f32 (Z (t * n + t))) = VV t) := Lib.hid (by rw [hSS, hYk.out, HV.out, lowT_at hlt, HA.out]; rfl)
          go_wp2_with (first
            | (refine wpList_farith rfl _ _ _ _ _ rfl rfl _ _ _ rfl rfl hr0 hfa ?_; intro rr m hr)
            | (at_builtin
               refine wpList_append_lies _ rfl _ _ _ rfl w.heap.size 44 i0 _ 1 4 Try.underlying22 hi hz0 hz1 hz2 rfl (by omega) (.slice (some ⟨g, 0, none⟩) t cp) t xs rfl (by exact ownsRow_below hk'.out.own (by repeat first | (with_reducible exact Below.refl _ _) | (with_reducible refine Below.setCell ?_ (by first | exact Nat.le_refl _ | (simp; done) | (simp; omega) | omega) _) | (with_reducible refine Below.alloc ?_ (by first | exact Nat.le_refl _ | (simp; done) | (simp; omega) | omega) _) | (with_reducible refine below_drewN ?_ _) | (with_reducible refine Below.drew ?_))) ⟨wr.heap.size, 0, none⟩ 1 1 [.float .f32 rr] rfl rfl
                    (by exact World.news_of_block (cs := #[.float .f32 rr]) (t := 44) (fr := (0, 0)) (heap_alloc_new _ _)) (by simp [Value.oneCell']) (by omega) (by unfold maxLen; omega) (by omega) (by simp [World.drewN]; omega) (wr.heap.size + 1) (by simp [World.drewN]) ?_
               intro gg cp2 w6 hown2 hgrow2 hat2 hlt3
               have hst := Lib.hid (hk'.out.step (by repeat first | (with_reducible exact Below.refl _ _) | (with_reducible refine Below.setCell ?_ (by first | exact Nat.le_refl _ | (simp; done) | (simp; omega) | omega) _) | (with_reducible refine Below.alloc ?_ (by first | exact Nat.le_refl _ | (simp; done) | (simp; omega) | omega) _) | (with_reducible refine below_drewN ?_ _) | (with_reducible refine Below.drew ?_)) hown2 hgrow2 (hVj.out ▸ hr))
               clear hown2 hgrow2 hat2 hlt3))
          go_roundw
          case rel => exact ⟨t + 1, _, by omega, by go_num, hst.out⟩
          case measure => simp [intOf]; omega
    · obtain rfl : n = j := by omega
      obtain ⟨X4, hX4⟩ := choose_upto (p := fun t r => xs[t]? = some (.float .f32 r) ∧ FV .f32 r (VV t)) n hk.val
      obtain ⟨g', dx, e, o1, hBg, hgU⟩ := own_of_row hk.own (by omega) (fun j hj => (hX4 j hj).1) (fun j hj => (hX4 j hj).2.2)
      simp only [Value.slice.injEq, Option.some.injEq, Addr.mk.injEq, and_true, true_and] at e
      obtain ⟨rfl, rfl⟩ := e
      have hv4 : Hid (∀ t, t < n → vals X4 t = VV t) := Lib.hid fun t ht => (hX4 t ht).2.1
      have hw4 := hk.bel
      have hdx1 := (Own.fs o1).1
      have hdx2 := (Own.fs o1).2.1
      have hdx3 : cp ≤ 9223372036854775807 := by unfold maxLen at hdx2; omega
      obtain ⟨w4, hw4e⟩ : ∃ w4, w4 = wr := ⟨_, rfl⟩
      subst hw4e
      clear hk hX4 FY FO XB FZ hdx2
      go_wp2_with (at_make; refine wpList_make_full _ rfl _ _ 22 rfl w4.heap.size 44 i0 (.float .f32 0) 1 Try.underlying22 hi hz0 hz1 _ _ _ _ n rfl rfl rfl rfl ?b2 ?b3 (Nat.le_refl _) ?_)
      case b2 => rw [hz2]; omega
      case b3 => unfold maxLen; omega
      intro w5 hown0 hgrow0
      have hU := (hown0.lt w4.heap.size rfl).2
      have o2 := own_zero (w := w4) (U := w5.heap.size) hown0 (Nat.le_refl _) hU (Nat.le_refl _) (by unfold maxLen; omega)
      have b5 : Below w4.heap.size w4 w5 := (Below.refl _ _).grown hgrow0 (Nat.le_refl _) (fun k h => by cases h)
      have o1' := o1.kept (below_grew b5) (fun q hq => by cases hq)
      have hw5 := hw4.trans (b5.mono hw4.size)
      clear hown0 hgrow0 o1 hw4
      obtain ⟨g2, hg2⟩ : ∃ g2, g2 = w4.heap.size := ⟨_, rfl⟩
      rw [← hg2] at o2 hU ⊢
      have hgg : g < g2 := by omega
      have hg2w : w.heap.size ≤ g2 := by omega
      have hUg : w4.heap.size ≤ g2 := by omega
      clear hg2
      go_wp2
      -- from the last row on
      go_loopw [12] (fun i wr2 => ∃ (j : Nat) (X X2 : Nat → Nat), j ≤ n ∧ i = .int .i64 ((n : Int) - 1 - j) ∧ Own 44 .f32 w.heap.size w4.heap.size wr2 (some ⟨g, 0, none⟩) n cp X ∧ (∀ t, t < n → vals X t = UU j t) ∧ Own 44 .f32 g2 w5.heap.size wr2 (some ⟨g2, 0, none⟩) n n X2 ∧ (∀ s, s < n → vals X2 s = scD O (UU n) n j s) ∧ Below w.heap.size w wr2) (fun i _ => (intOf i + 1).toNat)
      case atStart => exact ⟨0, X4, _, Nat.zero_le _, by simp, o1', fun t ht => by rw [HU.out]; exact hv4.out t ht, o2, fun t ht => by show cn .f32 0 = some 0; kernel_rfl, hw5⟩
      case round =>
        obtain ⟨j, X, X2, hj, rfl, ho, hv, ho2, hv2, hb⟩ := hrel
        have HX := Lib.hid hv
        have HX2 := Lib.hid hv2
        have HB := Lib.hid hb
        have HO2 := Lib.hid ho2
        have XB := hbx.below hb hp
        have FZ := h.below hb (Nat.le_refl _)
        have FX := ho.fs
        have FO := h2.below hb (Nat.le_refl _)
        clear hv hv2 o1' o2 hw5
        by_cases hlt : j < n
        · obtain ⟨q, hq⟩ : ∃ q, q + (j + 1) = n := ⟨n - (j + 1), by omega⟩
          have hqi : (n : Int) - 1 - j = (q : Int) := by omega
          rw [hqi]
          have hq' : q < n := by omega
          obtain ⟨hce, hfr, _⟩ := ho.cell hq'
          have hfq := FX.fvF hq'
          clear hb ho2
          go_wp2
          obtain ⟨SS, hSS⟩ : ∃ SS, SS = cn .f32 (X q) := ⟨_, rfl⟩
          rw [← hSS] at hfq
          have HSS := Lib.hid hSS
          clear hSS
          go_loopw [13, 14] (fun s k wr3 => ∃ t m r : Nat, t ≤ n - (q + 1) ∧ k = .int .i64 ((q : Int) + 1 + t) ∧ s = .float .f32 r ∧ FV .f32 r (lessG SS (fun t => AA q (q + 1 + t)) (fun t => vals X (q + 1 + t)) t) ∧ wr3 = wr.drewN m) (fun _ k _ => n - (intOf k).toNat)
          case atStart => exact ⟨0, 0, _, Nat.zero_le _, by simp, rfl, hfq, rfl⟩
          case round =>
            obtain ⟨t, m0, r0, ht, rfl, rfl, hr0, rfl⟩ := hrel
            clear hfq hce hfr
            by_cases hlt2 : t < n - (q + 1)
            · obtain ⟨k, hk⟩ : ∃ k, k = q + 1 + t := ⟨_, rfl⟩
              have hki : (q : Int) + 1 + t = (k : Int) := by omega
              rw [hki]
              have hkn : k < n := by omega
              have hkH := Lib.hid hk
              have hcx := (ho.cell hkn).1
              have hfx := FX.fvF hkn
              have hza := FZ.fvF (show k * n + q < N by rw [hN'.out]; exact place_lt hkn hq')
              have hAt : ∀ W, (∃ z, W = (wr.drewN m0).drewN z) → Calls Try.prog 37 #[.pointer (some ⟨w00.heap.size, 0, none⟩), .int .i64 k, .int .i64 q] W fun e w'' => e = .returned (.float .f32 (Z (k * n + q))) ∧ ∃ z, w'' = (wr.drewN m0).drewN z := by
                rintro W ⟨k', rfl⟩
                refine (specAt_any w00.heap.size b off n n N cap k q Z ((wr.drewN m0).drewN k') h12 h12 hN'.out ⟨XB 0 _ rfl, XB 1 _ rfl, XB 2 _ rfl⟩ (FS.drewN (FS.drewN FZ)) hkn hq').mono ?_
                rintro e w2 ⟨rfl, m2, rfl⟩
                exact ⟨rfl, _, World.drewN_drewN _ _ _⟩
              have hAt := Lib.hid hAt
              have hcW : Hid (∀ W, (∃ z, W = (wr.drewN m0).drewN z) → W.cell? ⟨g, k, none⟩ = some (.float .f32 (X k))) := Lib.hid (by rintro W ⟨z, rfl⟩; exact hcx)
              have hAZ : Hid (cn .f32 (Z (k * n + q)) = AA q (q + 1 + t)) := Lib.hid (by rw [hk, HA.out]; rfl)
              have hXZ : Hid (cn .f32 (X k) = vals X (q + 1 + t)) := Lib.hid (by rw [hk]; rfl)
              generalize Z (k * n + q) = za at hza hAt hAZ
              generalize X k = rx at hfx hcW hXZ
              clear hk hki hcx
              go_wp2
              refine wp_region_kinds (fun w' => ∃ z, w' = (wr.drewN m0).drewN z) (fun j => if j = 9 then 1 else if j = 10 then 1 else 0) 11 ⟨1, rfl⟩ (by kernel_rfl) (by kernel_rfl) (by kernel_rfl) ?_
              simp only [List.take_succ_cons, List.take_zero, List.drop_succ_cons, List.drop_zero]
              ((with_reducible refine wpKinds_run (.float .f32 r0) ?hwant ?hkind ?hrun ?_); (case hwant => first | (simp [Region.wanted, yielded]; done) | rfl); (case hkind => rfl); (case hrun => intro W hW; simp [go_sem, BigFrame.eval_const, BigFrame.eval_global, BigFrame.eval_func]); simp only [Act.put, List.setIfInBounds_toArray, List.set_cons_succ, List.set_cons_zero])
              ((with_reducible refine wpKinds_run (.pointer (some ⟨w00.heap.size, 0, none⟩)) ?hwant ?hkind ?hrun ?_); (case hwant => first | (simp [Region.wanted, yielded]; done) | rfl); (case hkind => rfl); (case hrun => intro W hW; simp [go_sem, BigFrame.eval_const, BigFrame.eval_global, BigFrame.eval_func]); simp only [Act.put, List.setIfInBounds_toArray, List.set_cons_succ, List.set_cons_zero])
              ((with_reducible refine wpKinds_run (.int .i64 k) ?hwant ?hkind ?hrun ?_); (case hwant => first | (simp [Region.wanted, yielded]; done) | rfl); (case hkind => rfl); (case hrun => intro W hW; simp [go_sem, BigFrame.eval_const, BigFrame.eval_global, BigFrame.eval_func]); simp only [Act.put, List.setIfInBounds_toArray, List.set_cons_succ, List.set_cons_zero])
              ((with_reducible refine wpKinds_run (.int .i64 q) ?hwant ?hkind ?hrun ?_); (case hwant => first | (simp [Region.wanted, yielded]; done) | rfl); (case hkind => rfl); (case hrun => intro W hW; simp [go_sem, BigFrame.eval_const, BigFrame.eval_global, BigFrame.eval_func]); simp only [Act.put, List.setIfInBounds_toArray, List.set_cons_succ, List.set_cons_zero])
              ((with_reducible refine wpKinds_call (f := 37) (args := #[.pointer (some ⟨w00.heap.size, 0, none⟩), .int .i64 k, .int .i64 q]) (.float .f32 za) ?hwant ?hkind ?hrun ?hinit ?hcall ?_); (case hwant => first | (simp [Region.wanted, yielded]; done) | rfl); (case hkind => rfl); (case hrun => intro W; simp [go_sem, BigFrame.eval_const, BigFrame.eval_global, BigFrame.eval_func]); (case hinit => kernel_rfl); (case hcall => exact hAt.out); simp only [Act.put, List.setIfInBounds_toArray, List.set_cons_succ, List.set_cons_zero])
              ((with_reducible refine wpKinds_run (.slice (some ⟨g, 0, none⟩) n cp) ?hwant ?hkind ?hrun ?_); (case hwant => first | (simp [Region.wanted, yielded]; done) | rfl); (case hkind => rfl); (case hrun => intro W hW; simp [go_sem, BigFrame.eval_const, BigFrame.eval_global, BigFrame.eval_func]); simp only [Act.put, List.setIfInBounds_toArray, List.set_cons_succ, List.set_cons_zero])
              ((with_reducible refine wpKinds_run (.int .i64 k) ?hwant ?hkind ?hrun ?_); (case hwant => first | (simp [Region.wanted, yielded]; done) | rfl); (case hkind => rfl); (case hrun => intro W hW; simp [go_sem, BigFrame.eval_const, BigFrame.eval_global, BigFrame.eval_func]); simp only [Act.put, List.setIfInBounds_toArray, List.set_cons_succ, List.set_cons_zero])
              ((with_reducible refine wpKinds_run (.pointer (some ⟨g, k, none⟩)) ?hwant ?hkind ?hrun ?_); (case hwant => first | (simp [Region.wanted, yielded]; done) | rfl); (case hkind => rfl); (case hrun => intro W hW; simp [go_sem, BigFrame.eval_const, BigFrame.eval_global, BigFrame.eval_func, hkn]); simp only [Act.put, List.setIfInBounds_toArray, List.set_cons_succ, List.set_cons_zero])
              ((with_reducible refine wpKinds_run (.float .f32 rx) ?hwant ?hkind ?hrun ?_); (case hwant => first | (simp [Region.wanted, yielded]; done) | rfl); (case hkind => rfl); (case hrun => intro W hW; simp [go_sem, BigFrame.eval_const, BigFrame.eval_global, BigFrame.eval_func, hcW.out W hW]); simp only [Act.put, List.setIfInBounds_toArray, List.set_cons_succ, List.set_cons_zero])
              (refine wpKinds_farith (fun W m hW => by obtain ⟨z, rfl⟩ := hW; exact ⟨_, World.drewN_drewN _ _ _⟩) rfl rfl _ _ _ _ _ rfl rfl _ _ _ rfl rfl hza hfx (fun r5 hr5 => ?_))
              simp only [Act.put, List.setIfInBounds_toArray, List.set_cons_succ, List.set_cons_zero]
              (refine wpKinds_farith (fun W m hW => by obtain ⟨z, rfl⟩ := hW; exact ⟨_, World.drewN_drewN _ _ _⟩) rfl rfl _ _ _ _ _ rfl rfl _ _ _ rfl rfl hr0 hr5 (fun r6 hr6 => ?_))
              simp only [Act.put, List.setIfInBounds_toArray, List.set_cons_succ, List.set_cons_zero]
              refine wpKinds_nil ?_
              rintro _ ⟨nq, rfl⟩
              clear hAt hcW
              go_wp2
              go_roundw
              case rel =>
                refine ⟨t + 1, _, _, by omega, ?_, rfl, FV.of_eq hr6 (by rw [hAZ.out, hXZ.out]; rfl), rfl⟩
                have hkk := hkH.out
                rw [show (k : Int) + 1 = (q : Int) + 1 + ((t + 1 : Nat) : Int) by omega]
              case measure => simp [intOf]; omega
            · obtain rfl : t = n - (q + 1) := by omega
              have hki : (q : Int) + 1 + ((n - (q + 1) : Nat) : Int) = (n : Int) := by omega
              rw [hki]
              obtain ⟨s, hOs, hsn⟩ := ord_range hord hq'
              obtain ⟨b', off', e, hblo, hco, hwo⟩ := FO.at hq'
              simp only [Option.some.injEq, Addr.mk.injEq, and_true] at e
              obtain ⟨rfl, rfl⟩ := e
              rw [hOs] at hco
              have x3 := XB 3 _ rfl
              obtain ⟨hce, hfr, hgl, _⟩ := ho.cell hq'
              obtain ⟨hce2, hfr2, _⟩ := HO2.out.cell hsn
              have hgp : w00.heap.size ≠ g := by omega
              have hbg : bb ≠ g := by omega
              obtain ⟨OY, GY⟩ := (show Own 44 .f32 w.heap.size w4.heap.size (wr.drewN m0) (some ⟨g, 0, none⟩) n cp X from ho).stored hq' hr0.2
              have OX0 : Own 44 .f32 g2 w5.heap.size ((wr.drewN m0).setCell ⟨g, q, none⟩ (.float .f32 r0)) (some ⟨g2, 0, none⟩) n n X2 := (show Own 44 .f32 g2 w5.heap.size (wr.drewN m0) (some ⟨g2, 0, none⟩) n n X2 from HO2.out).kept GY (fun z hz => by cases hz; left; exact hgg)
              obtain ⟨OX, GX⟩ := OX0.stored hsn hr0.2
              have OY2 := OY.kept GX (fun z hz => by cases hz; right; exact hUg)
              have BB : Below w.heap.size w (((wr.drewN m0).setCell ⟨g, q, none⟩ (.float .f32 r0)).setCell ⟨g2, s, none⟩ (.float .f32 r0)) := ((below_drewN HB.out m0).setCell hgl _).setCell hg2w _
              have HOX := Lib.hid OX
              have HOY := Lib.hid OY2
              have HBB := Lib.hid BB
              have hn1 := up_next (A := AA) (dv := false) (LL := lessG SS (fun t => AA q (q + 1 + t)) (fun t => vals X (q + 1 + t)) (n - (q + 1))) HU.out hq HX.out (by rw [HSS.out]; rfl) hr0
              have hcr : cn .f32 r0 = UU n q := by
                have e1 := hn1 q hq'
                rw [vals_put, if_pos rfl] at e1
                rw [e1, HU.out]
                exact (upF_keep (j := j + 1) (i := n) (by omega) (by omega) (Nat.le_refl _)).symm
              have HN1 := Lib.hid hn1
              have hX3 : ∀ z, z < n → vals (fun t => if t = s then r0 else X2 t) z = scD O (UU n) n (j + 1) z := by
                intro z hz
                rw [vals_put]
                show _ = (if O (n - 1 - j) = z then UU n (n - 1 - j) else scD O (UU n) n j z)
                rw [show n - 1 - j = q by omega, hOs]
                by_cases e : z = s
                · rw [if_pos e, if_pos (by omega)]; exact hcr
                · rw [if_neg e, if_neg (by omega)]; exact HX2.out z hz
              have HX3 := Lib.hid hX3
              clear hki OY GY OX0 OX GX OY2 BB hn1 hcr hX3 hblo hwo hOs FO XB ho HO2 HB hgl
              go_wp2_with fail
              refine ⟨⟨j + 1, _, _, by omega, ?_, HOY.out, HN1.out, HOX.out, HX3.out, HBB.out⟩, ?_⟩
              · rw [show (q : Int) - 1 = (n : Int) - 1 - ((j + 1 : Nat) : Int) by omega]
              · simp only [intOf]; omega
        · obtain rfl : n = j := by omega
          have hqi : (n : Int) - 1 - n = -1 := by omega
          rw [hqi]
          have hXR : Hid (∀ t, t < n → vals X2 t = RR t) := Lib.hid fun t ht => (HX2.out t ht).trans (by rw [HR.out]; exact scD_eq hord)
          have hfin : allFin (vals X2) n = OK := by rw [HOK.out]; exact allFin_congr hXR.out
          have F2 := HO2.out.fs
          have B2 : Hid (Below w00.heap.size w00 wr) := Lib.hid (B0.trans (HB.out.mono B0.size))
          clear ho FZ XB FO FX hb ho2
          cases ha : OK with
          | true =>
            rw [ha] at hfin
            go_wp2_with fail
            go_at_call 38
            refine (listF_yes _ n n X2 _ (by omega) F2 hfin).mono ?_
            rintro e w8 ⟨rfl, m3, rfl⟩
            go_wp2_with fail
            go_ret2
            exact NBelIf.yes ha ⟨_, _, X2, rfl, FS.drewN F2, hXR.out, below_drewN B2.out _⟩
          | false =>
            rw [ha] at hfin
            go_wp2_with fail
            go_at_call 38
            refine (listF_no _ n n X2 _ (by omega) F2 hfin).mono ?_
            rintro e w8 ⟨rfl, m3, rfl⟩
            go_wp2_with fail
            go_ret2
            exact NBelIf.no ha (NumsBel.noF (below_drewN B2.out _))
end Go.Proofs.Ytmddhhmgfhljiaa
