/- Helper: what a factor makes a list of, of the reference. Conditions: none. -/
import Derived.Test.YtmddhhmgfhljiaaFactorSolveImpl
import Derived.Test.YtmddhhmgfhljiaaKinds
import Derived.Test.YtmddhhmgfhljiaaKindSteps
set_option linter.unusedVariables false
set_option linter.unusedSimpArgs false
namespace Go.Proofs.Ytmddhhmgfhljiaa
open Go.RowKit

theorem lowF_keep {A : Nat → Nat → Option Nat} {dv : Bool} {Y : Nat → Option Nat} : ∀ {n i t : Nat}, t < i → i ≤ n → lowY A dv Y n t = lowY A dv Y i t
  | 0, i, t, h, h2 => by omega
  | n + 1, i, t, h, h2 => by
    by_cases e : i = n + 1
    · rw [e]
    · show (if t = n then _ else lowY A dv Y n t) = lowY A dv Y i t
      rw [if_neg (by omega)]
      exact lowF_keep h (by omega)
theorem lowF_at {A : Nat → Nat → Option Nat} {Y : Nat → Option Nat} {n j : Nat} (hj : j < n) : lowY A false Y n j = lessG (Y j) (A j) (lowY A false Y n) j := by
  rw [lowF_keep (i := j + 1) (Nat.lt_succ_self j) (by omega)]
  show (if j = j then lowS A false (lowY A false Y j) j else _) = _
  rw [if_pos rfl]
  unfold lowS divIf
  rw [lowY_old (Nat.le_refl _)]
  exact lessG_congr rfl fun k hk => ⟨rfl, (lowF_keep (i := j) hk (by omega)).symm⟩
theorem FS.fvF {k : FloatKind} {w : World} {a : Option Addr} {n c i : Nat} {Z : Nat → Nat} (h : FS k w a n c Z) (hi : i < n) : FV k (Z i) (cn k (Z i)) := (h.at hi).elim fun _ q => q.elim fun _ q => q.2.2.2
set_option maxRecDepth 20000 in
set_option maxHeartbeats 4000000 in
theorem l03Solve_new (p n N b off cap bb ob d bc oc d2 : Nat) (Z : Nat → Nat) (O : Nat → Int) (Y : Nat → Nat) (w : World) (h1 : 1 ≤ n) (h12 : n ≤ 12) (hN : N = n * n) (hord : ordB O n = true) (hp : p < w.heap.size)
    (hbx : BoxL w p [.int .i64 (n : Int), .int .i64 (n : Int), .slice (some ⟨b, off, none⟩) N cap, .slice (some ⟨bb, ob, none⟩) n d]) (h : FS .f32 w (some ⟨b, off, none⟩) N cap Z) (h2 : IS .i64 w (some ⟨bb, ob, none⟩) n d O) (h3 : FS .f32 w (some ⟨bc, oc, none⟩) n d2 Y) :
    Calls Try.prog 86 #[.pointer (some ⟨p, 0, none⟩), .slice (some ⟨bc, oc, none⟩) n d2] w fun e w' => ∃ g cp X, e = .returned (.slice (some ⟨g, 0, none⟩) n cp) ∧ FS .f32 w' (some ⟨g, 0, none⟩) n cp X ∧ (∀ t, t < n → vals X t = solV n (sq n Z) O (vals Y) t) ∧ Below w.heap.size w w' ∧ w.heap.size ≤ g := by
  have hN' := Lib.hid hN
  have hN144 : N ≤ 144 := by have := sides_le h12 h12; omega
  obtain ⟨_, _, e, hbl, _, _⟩ := h.at (show 0 < N by rw [hN]; exact Nat.mul_pos h1 h1)
  simp only [Option.some.injEq, Addr.mk.injEq, and_true] at e
  obtain ⟨rfl, rfl⟩ := e
  obtain ⟨VV, hVV⟩ : ∃ VV, VV = lowY (sq n Z) false (ordV O (vals Y)) n := ⟨_, rfl⟩
  obtain ⟨UU, hUU⟩ : ∃ UU, UU = upY (sq n Z) true n VV := ⟨_, rfl⟩
  obtain ⟨RR, hRR⟩ : ∃ RR, RR = solV n (sq n Z) O (vals Y) := ⟨_, rfl⟩
  have hR : RR = UU n := by rw [hRR, hUU, hVV]; rfl
  rw [← hRR]
  have HV := Lib.hid hVV
  have HU := Lib.hid hUU
  have HR := Lib.hid hR
  clear hN hUU hVV hRR hR
  have x0 := hbx 0 _ rfl
  obtain ⟨i0, hi, hz0, hz1, hz2⟩ := info_parts info32
  have hL := World.ownsRow_lit (base := w.heap.size) (e := 44) (size := 1) w #[] 0 (Nat.le_refl _) (Nat.zero_le _) rfl
  go_enter Try.func86, Try.ntmps86
  go_wp2
  clear x0
  -- from the first row on
  go_loopw [6, 7] (fun v i wr => ∃ (j : Nat) (xs : List Value), j ≤ n ∧ i = .int .i64 j ∧ Grow w j VV wr v xs) (fun _ i _ => n - (intOf i).toNat)
  case atStart => exact ⟨0, [], Nat.zero_le _, rfl, by simpa using hL, fun t ht => absurd ht (Nat.not_lt_zero _), (by repeat first | (with_reducible exact Below.refl _ _) | (with_reducible refine Below.setCell ?_ (by first | exact Nat.le_refl _ | (simp; done) | (simp; omega) | omega) _) | (with_reducible refine Below.alloc ?_ (by first | exact Nat.le_refl _ | (simp; done) | (simp; omega) | omega) _) | (with_reducible refine below_drewN ?_ _) | (with_reducible refine Below.drew ?_)), _, _, rfl⟩
  case round =>
    obtain ⟨j, xs, hj, rfl, hk⟩ := hrel
    clear hL
    obtain ⟨g, cp, rfl⟩ := hk.shape
    have XB := hbx.below hk.bel hp
    have FZ := h.below hk.bel (Nat.le_refl _)
    have FO := h2.below hk.bel (Nat.le_refl _)
    have FY := h3.below hk.bel (Nat.le_refl _)
    have hsr := hk.bel.size
    by_cases hlt : j < n
    · obtain ⟨k, hOk, hkn⟩ := ord_range hord hlt
      obtain ⟨b', off', e, hblo, hco, hwo⟩ := FO.at hlt
      simp only [Option.some.injEq, Addr.mk.injEq, and_true] at e
      obtain ⟨rfl, rfl⟩ := e
      rw [hOk] at hco
      obtain ⟨b', off', e, hbly, hcy, hfy⟩ := FY.at hkn
      simp only [Option.some.injEq, Addr.mk.injEq, and_true] at e
      obtain ⟨rfl, rfl⟩ := e
      have hk' := Lib.hid hk
      have x3 := XB 3 _ rfl
      have hYk : Hid (cn .f32 (Y k) = ordV O (vals Y) j) := Lib.hid (by unfold ordV; rw [hOk]; rfl)
      clear hbly hk hblo hwo hOk
      go_wp2
      obtain ⟨SS, hSS⟩ : ∃ SS, SS = cn .f32 (Y k) := ⟨_, rfl⟩
      rw [← hSS] at hfy
      clear hco hcy x3
      go_loopw [8, 9] (fun s k wr2 => ∃ t m r : Nat, t ≤ j ∧ k = .int .i64 t ∧ s = .float .f32 r ∧ FV .f32 r (lessG SS (sq n Z j) VV t) ∧ wr2 = wr.drewN m) (fun _ k _ => j - (intOf k).toNat)
      case atStart => exact ⟨0, 0, _, Nat.zero_le _, rfl, rfl, hfy, rfl⟩
      case round =>
        obtain ⟨t, m0, r0, ht, rfl, rfl, hr0, rfl⟩ := hrel
        clear hfy
        by_cases hlt2 : t < j
        · have htn : t < n := by omega
          obtain ⟨rx, hxs, hfx⟩ := hk'.out.val t hlt2
          have hcx := (hk'.out.own.cellAt t (by omega)).trans hxs
          have hza := FZ.fvF (show j * n + t < N by rw [hN'.out]; exact place_lt hlt htn)
          have hAt : ∀ W, (∃ z, W = (wr.drewN m0).drewN z) → Calls Try.prog 37 #[.pointer (some ⟨p, 0, none⟩), .int .i64 j, .int .i64 t] W fun e w'' => e = .returned (.float .f32 (Z (j * n + t))) ∧ ∃ z, w'' = (wr.drewN m0).drewN z := by
            rintro W ⟨k', rfl⟩
            refine (specAt_any p b off n n N cap j t Z ((wr.drewN m0).drewN k') h12 h12 hN'.out ⟨XB 0 _ rfl, XB 1 _ rfl, XB 2 _ rfl⟩ (FS.drewN (FS.drewN FZ)) hlt htn).mono ?_
            rintro e w2 ⟨rfl, m2, rfl⟩
            exact ⟨rfl, _, World.drewN_drewN _ _ _⟩
          have hAt := Lib.hid hAt
          have hcW : Hid (∀ W, (∃ z, W = (wr.drewN m0).drewN z) → W.cell? ⟨g, t, none⟩ = some (.float .f32 rx)) := Lib.hid (by rintro W ⟨z, rfl⟩; exact hcx)
          have hAZ : Hid (cn .f32 (Z (j * n + t)) = sq n Z j t) := Lib.hid rfl
          generalize Z (j * n + t) = za at hza hAt hAZ
          clear hxs hcx
          go_wp2
          refine wp_region_kinds (fun w' => ∃ z, w' = (wr.drewN m0).drewN z) (fun j => if j = 11 then 1 else if j = 12 then 1 else 0) 13 ⟨1, rfl⟩ (by kernel_rfl) (by kernel_rfl) (by kernel_rfl) ?_
          simp only [List.take_succ_cons, List.take_zero, List.drop_succ_cons, List.drop_zero]
          ((with_reducible refine wpKinds_run (.float .f32 r0) ?hwant ?hkind ?hrun ?_); (case hwant => first | (simp [Region.wanted, yielded]; done) | rfl); (case hkind => rfl); (case hrun => intro W hW; simp [go_sem, BigFrame.eval_const, BigFrame.eval_global, BigFrame.eval_func]); simp only [Act.put, List.setIfInBounds_toArray, List.set_cons_succ, List.set_cons_zero])
          ((with_reducible refine wpKinds_run (.pointer (some ⟨p, 0, none⟩)) ?hwant ?hkind ?hrun ?_); (case hwant => first | (simp [Region.wanted, yielded]; done) | rfl); (case hkind => rfl); (case hrun => intro W hW; simp [go_sem, BigFrame.eval_const, BigFrame.eval_global, BigFrame.eval_func]); simp only [Act.put, List.setIfInBounds_toArray, List.set_cons_succ, List.set_cons_zero])
          ((with_reducible refine wpKinds_run (.pointer (some ⟨p, 0, none⟩)) ?hwant ?hkind ?hrun ?_); (case hwant => first | (simp [Region.wanted, yielded]; done) | rfl); (case hkind => rfl); (case hrun => intro W hW; simp [go_sem, BigFrame.eval_const, BigFrame.eval_global, BigFrame.eval_func]); simp only [Act.put, List.setIfInBounds_toArray, List.set_cons_succ, List.set_cons_zero])
          ((with_reducible refine wpKinds_run (.pointer (some ⟨p, 0, none⟩)) ?hwant ?hkind ?hrun ?_); (case hwant => first | (simp [Region.wanted, yielded]; done) | rfl); (case hkind => rfl); (case hrun => intro W hW; simp [go_sem, BigFrame.eval_const, BigFrame.eval_global, BigFrame.eval_func]); simp only [Act.put, List.setIfInBounds_toArray, List.set_cons_succ, List.set_cons_zero])
          ((with_reducible refine wpKinds_run (.int .i64 j) ?hwant ?hkind ?hrun ?_); (case hwant => first | (simp [Region.wanted, yielded]; done) | rfl); (case hkind => rfl); (case hrun => intro W hW; simp [go_sem, BigFrame.eval_const, BigFrame.eval_global, BigFrame.eval_func]); simp only [Act.put, List.setIfInBounds_toArray, List.set_cons_succ, List.set_cons_zero])
          ((with_reducible refine wpKinds_run (.int .i64 t) ?hwant ?hkind ?hrun ?_); (case hwant => first | (simp [Region.wanted, yielded]; done) | rfl); (case hkind => rfl); (case hrun => intro W hW; simp [go_sem, BigFrame.eval_const, BigFrame.eval_global, BigFrame.eval_func]); simp only [Act.put, List.setIfInBounds_toArray, List.set_cons_succ, List.set_cons_zero])
          ((with_reducible refine wpKinds_call (f := 37) (args := #[.pointer (some ⟨p, 0, none⟩), .int .i64 j, .int .i64 t]) (.float .f32 za) ?hwant ?hkind ?hrun ?hinit ?hcall ?_); (case hwant => first | (simp [Region.wanted, yielded]; done) | rfl); (case hkind => rfl); (case hrun => intro W; simp [go_sem, BigFrame.eval_const, BigFrame.eval_global, BigFrame.eval_func]); (case hinit => kernel_rfl); (case hcall => exact hAt.out); simp only [Act.put, List.setIfInBounds_toArray, List.set_cons_succ, List.set_cons_zero])
          ((with_reducible refine wpKinds_run (.slice (some ⟨g, 0, none⟩) j cp) ?hwant ?hkind ?hrun ?_); (case hwant => first | (simp [Region.wanted, yielded]; done) | rfl); (case hkind => rfl); (case hrun => intro W hW; simp [go_sem, BigFrame.eval_const, BigFrame.eval_global, BigFrame.eval_func]); simp only [Act.put, List.setIfInBounds_toArray, List.set_cons_succ, List.set_cons_zero])
          ((with_reducible refine wpKinds_run (.int .i64 t) ?hwant ?hkind ?hrun ?_); (case hwant => first | (simp [Region.wanted, yielded]; done) | rfl); (case hkind => rfl); (case hrun => intro W hW; simp [go_sem, BigFrame.eval_const, BigFrame.eval_global, BigFrame.eval_func]); simp only [Act.put, List.setIfInBounds_toArray, List.set_cons_succ, List.set_cons_zero])
          ((with_reducible refine wpKinds_run (.pointer (some ⟨g, t, none⟩)) ?hwant ?hkind ?hrun ?_); (case hwant => first | (simp [Region.wanted, yielded]; done) | rfl); (case hkind => rfl); (case hrun => intro W hW; simp [go_sem, BigFrame.eval_const, BigFrame.eval_global, BigFrame.eval_func, hlt2]); simp only [Act.put, List.setIfInBounds_toArray, List.set_cons_succ, List.set_cons_zero])
          ((with_reducible refine wpKinds_run (.float .f32 rx) ?hwant ?hkind ?hrun ?_); (case hwant => first | (simp [Region.wanted, yielded]; done) | rfl); (case hkind => rfl); (case hrun => intro W hW; simp [go_sem, BigFrame.eval_const, BigFrame.eval_global, BigFrame.eval_func, hcW.out W hW]); simp only [Act.put, List.setIfInBounds_toArray, List.set_cons_succ, List.set_cons_zero])
          (refine wpKinds_farith (fun W m hW => by obtain ⟨z, rfl⟩ := hW; exact ⟨_, World.drewN_drewN _ _ _⟩) rfl rfl _ _ _ _ _ rfl rfl _ _ _ rfl rfl hza hfx (fun r5 hr5 => ?_))
          simp only [Act.put, List.setIfInBounds_toArray, List.set_cons_succ, List.set_cons_zero]
          (refine wpKinds_farith (fun W m hW => by obtain ⟨z, rfl⟩ := hW; exact ⟨_, World.drewN_drewN _ _ _⟩) rfl rfl _ _ _ _ _ rfl rfl _ _ _ rfl rfl hr0 hr5 (fun r6 hr6 => ?_))
          simp only [Act.put, List.setIfInBounds_toArray, List.set_cons_succ, List.set_cons_zero]
          refine wpKinds_nil ?_
          rintro _ ⟨nq, rfl⟩
          clear hAt hcW
          go_wp2
          go_roundw
          case rel => exact ⟨t + 1, _, _, by omega, by go_num, rfl, FV.of_eq hr6 (by rw [hAZ.out]; rfl), rfl⟩
          case measure => simp [intOf]; omega
        · obtain rfl : t = j := by omega
          have hVj : Hid (lessG SS (sq n Z t) VV t = VV t) := Lib.hid (by rw [hSS, hYk.out, HV.out, lowF_at hlt])
          go_wp2_with (first
            | (at_builtin
               refine wpList_append_lies _ rfl _ _ _ rfl w.heap.size 44 i0 _ 1 4 Try.underlying22 hi hz0 hz1 hz2 rfl (by omega) (.slice (some ⟨g, 0, none⟩) t cp) t xs rfl (by exact ownsRow_below hk'.out.own (by repeat first | (with_reducible exact Below.refl _ _) | (with_reducible refine Below.setCell ?_ (by first | exact Nat.le_refl _ | (simp; done) | (simp; omega) | omega) _) | (with_reducible refine Below.alloc ?_ (by first | exact Nat.le_refl _ | (simp; done) | (simp; omega) | omega) _) | (with_reducible refine below_drewN ?_ _) | (with_reducible refine Below.drew ?_))) ⟨wr.heap.size, 0, none⟩ 1 1 [.float .f32 r0] rfl rfl
                    (by exact World.news_of_block (cs := #[.float .f32 r0]) (t := 44) (fr := (0, 0)) (heap_alloc_new _ _)) (by simp [Value.oneCell']) (by omega) (by unfold maxLen; omega) (by omega) (by simp [World.drewN]; omega) (wr.heap.size + 1) (by simp [World.drewN]) ?_
               intro gg cp2 w6 hown2 hgrow2 hat2 hlt3
               have hst := Lib.hid (hk'.out.step (by repeat first | (with_reducible exact Below.refl _ _) | (with_reducible refine Below.setCell ?_ (by first | exact Nat.le_refl _ | (simp; done) | (simp; omega) | omega) _) | (with_reducible refine Below.alloc ?_ (by first | exact Nat.le_refl _ | (simp; done) | (simp; omega) | omega) _) | (with_reducible refine below_drewN ?_ _) | (with_reducible refine Below.drew ?_)) hown2 hgrow2 (hVj.out ▸ hr0))
               clear hown2 hgrow2 hat2 hlt3))
          go_roundw
          case rel => exact ⟨t + 1, _, by omega, by go_num, hst.out⟩
          case measure => simp [intOf]; omega
    · obtain rfl : n = j := by omega
      obtain ⟨X4, hX4⟩ := choose_upto (p := fun t r => xs[t]? = some (.float .f32 r) ∧ FV .f32 r (VV t)) n hk.val
      obtain ⟨g', dx, e, o1, hBg, hgU⟩ := own_of_row hk.own (by omega) (fun j hj => (hX4 j hj).1) (fun j hj => (hX4 j hj).2.2)
      simp only [Value.slice.injEq, Option.some.injEq, Addr.mk.injEq, and_true, true_and] at e
      obtain ⟨rfl, rfl⟩ := e
      have hv4 : Hid (∀ t, t < n → vals X4 t = VV t) := Lib.hid fun t ht => (hX4 t ht).2.1
      have hw4 := hk.bel
      have hdx1 := (Own.fs o1).1
      have hdx2 := (Own.fs o1).2.1
      have hdx3 : cp ≤ 9223372036854775807 := by unfold maxLen at hdx2; omega
      obtain ⟨w4, hw4e⟩ : ∃ w4, w4 = wr := ⟨_, rfl⟩
      subst hw4e
      have XB4 := XB
      have FZ4 := FZ
      clear hk hX4 FY FO XB FZ
      go_wp2
      -- from the last row on
      go_loopw [10] (fun i wr2 => ∃ (j : Nat) (X : Nat → Nat), j ≤ n ∧ i = .int .i64 ((n : Int) - 1 - j) ∧ Own 44 .f32 w.heap.size w4.heap.size wr2 (some ⟨g, 0, none⟩) n cp X ∧ (∀ t, t < n → vals X t = UU j t) ∧ w4.grownBy wr2 (some g)) (fun i _ => (intOf i + 1).toNat)
      case atStart => exact ⟨0, X4, Nat.zero_le _, by simp, o1, fun t ht => by rw [HU.out]; exact hv4.out t ht, World.grownBy.refl _ _⟩
      case round =>
        obtain ⟨j, X, hj, rfl, ho, hv, hg⟩ := hrel
        have HX := Lib.hid hv
        clear hv o1
        have XB : BoxL wr p [.int .i64 (n : Int), .int .i64 (n : Int), .slice (some ⟨b, off, none⟩) N cap, .slice (some ⟨bb, ob, none⟩) n d] := fun i v hv => (World.cell?_of_block (a := ⟨p, i, none⟩) (hg.block p (by omega) (fun e => by cases e; omega))).trans (XB4 i v hv)
        have FZ := FZ4.grown hg (fun q hq => by cases hq; omega)
        have FX := ho.fs
        by_cases hlt : j < n
        · obtain ⟨q, hq⟩ : ∃ q, q + (j + 1) = n := ⟨n - (j + 1), by omega⟩
          have hqi : (n : Int) - 1 - j = (q : Int) := by omega
          rw [hqi]
          have hq' : q < n := by omega
          obtain ⟨hce, hfr, _⟩ := ho.cell hq'
          have hfq := FX.fvF hq'
          go_wp2
          obtain ⟨SS, hSS⟩ : ∃ SS, SS = cn .f32 (X q) := ⟨_, rfl⟩
          rw [← hSS] at hfq
          have HSS := Lib.hid hSS
          clear hSS
          go_loopw [11, 12] (fun s k wr3 => ∃ t m r : Nat, t ≤ n - (q + 1) ∧ k = .int .i64 ((q : Int) + 1 + t) ∧ s = .float .f32 r ∧ FV .f32 r (lessG SS (fun t => sq n Z q (q + 1 + t)) (fun t => vals X (q + 1 + t)) t) ∧ wr3 = wr.drewN m) (fun _ k _ => n - (intOf k).toNat)
          case atStart => exact ⟨0, 0, _, Nat.zero_le _, by simp, rfl, hfq, rfl⟩
          case round =>
            obtain ⟨t, m0, r0, ht, rfl, rfl, hr0, rfl⟩ := hrel
            clear hfq hce hfr
            by_cases hlt2 : t < n - (q + 1)
            · obtain ⟨k, hk⟩ : ∃ k, k = q + 1 + t := ⟨_, rfl⟩
              have hki : (q : Int) + 1 + t = (k : Int) := by omega
              rw [hki]
              have hkn : k < n := by omega
              have hkH := Lib.hid hk
              have hcx := (ho.cell hkn).1
              have hfx := FX.fvF hkn
              have hza := FZ.fvF (show q * n + k < N by rw [hN'.out]; exact place_lt hq' hkn)
              have hAt : ∀ W, (∃ z, W = (wr.drewN m0).drewN z) → Calls Try.prog 37 #[.pointer (some ⟨p, 0, none⟩), .int .i64 q, .int .i64 k] W fun e w'' => e = .returned (.float .f32 (Z (q * n + k))) ∧ ∃ z, w'' = (wr.drewN m0).drewN z := by
                rintro W ⟨k', rfl⟩
                refine (specAt_any p b off n n N cap q k Z ((wr.drewN m0).drewN k') h12 h12 hN'.out ⟨XB 0 _ rfl, XB 1 _ rfl, XB 2 _ rfl⟩ (FS.drewN (FS.drewN FZ)) hq' hkn).mono ?_
                rintro e w2 ⟨rfl, m2, rfl⟩
                exact ⟨rfl, _, World.drewN_drewN _ _ _⟩
              have hAt := Lib.hid hAt
              have hcW : Hid (∀ W, (∃ z, W = (wr.drewN m0).drewN z) → W.cell? ⟨g, k, none⟩ = some (.float .f32 (X k))) := Lib.hid (by rintro W ⟨z, rfl⟩; exact hcx)
              have hAZ : Hid (cn .f32 (Z (q * n + k)) = sq n Z q (q + 1 + t)) := Lib.hid (by rw [hk]; rfl)
              have hXZ : Hid (cn .f32 (X k) = vals X (q + 1 + t)) := Lib.hid (by rw [hk]; rfl)
              generalize Z (q * n + k) = za at hza hAt hAZ
              generalize X k = rx at hfx hcW hXZ
              clear hk hki hcx
              go_wp2
              refine wp_region_kinds (fun w' => ∃ z, w' = (wr.drewN m0).drewN z) (fun j => if j = 11 then 1 else if j = 12 then 1 else 0) 13 ⟨1, rfl⟩ (by kernel_rfl) (by kernel_rfl) (by kernel_rfl) ?_
              simp only [List.take_succ_cons, List.take_zero, List.drop_succ_cons, List.drop_zero]
              ((with_reducible refine wpKinds_run (.float .f32 r0) ?hwant ?hkind ?hrun ?_); (case hwant => first | (simp [Region.wanted, yielded]; done) | rfl); (case hkind => rfl); (case hrun => intro W hW; simp [go_sem, BigFrame.eval_const, BigFrame.eval_global, BigFrame.eval_func]); simp only [Act.put, List.setIfInBounds_toArray, List.set_cons_succ, List.set_cons_zero])
              ((with_reducible refine wpKinds_run (.pointer (some ⟨p, 0, none⟩)) ?hwant ?hkind ?hrun ?_); (case hwant => first | (simp [Region.wanted, yielded]; done) | rfl); (case hkind => rfl); (case hrun => intro W hW; simp [go_sem, BigFrame.eval_const, BigFrame.eval_global, BigFrame.eval_func]); simp only [Act.put, List.setIfInBounds_toArray, List.set_cons_succ, List.set_cons_zero])
              ((with_reducible refine wpKinds_run (.pointer (some ⟨p, 0, none⟩)) ?hwant ?hkind ?hrun ?_); (case hwant => first | (simp [Region.wanted, yielded]; done) | rfl); (case hkind => rfl); (case hrun => intro W hW; simp [go_sem, BigFrame.eval_const, BigFrame.eval_global, BigFrame.eval_func]); simp only [Act.put, List.setIfInBounds_toArray, List.set_cons_succ, List.set_cons_zero])
              ((with_reducible refine wpKinds_run (.pointer (some ⟨p, 0, none⟩)) ?hwant ?hkind ?hrun ?_); (case hwant => first | (simp [Region.wanted, yielded]; done) | rfl); (case hkind => rfl); (case hrun => intro W hW; simp [go_sem, BigFrame.eval_const, BigFrame.eval_global, BigFrame.eval_func]); simp only [Act.put, List.setIfInBounds_toArray, List.set_cons_succ, List.set_cons_zero])
              ((with_reducible refine wpKinds_run (.int .i64 q) ?hwant ?hkind ?hrun ?_); (case hwant => first | (simp [Region.wanted, yielded]; done) | rfl); (case hkind => rfl); (case hrun => intro W hW; simp [go_sem, BigFrame.eval_const, BigFrame.eval_global, BigFrame.eval_func]); simp only [Act.put, List.setIfInBounds_toArray, List.set_cons_succ, List.set_cons_zero])
              ((with_reducible refine wpKinds_run (.int .i64 k) ?hwant ?hkind ?hrun ?_); (case hwant => first | (simp [Region.wanted, yielded]; done) | rfl); (case hkind => rfl); (case hrun => intro W hW; simp [go_sem, BigFrame.eval_const, BigFrame.eval_global, BigFrame.eval_func]); simp only [Act.put, List.setIfInBounds_toArray, List.set_cons_succ, List.set_cons_zero])
              ((with_reducible refine wpKinds_call (f := 37) (args := #[.pointer (some ⟨p, 0, none⟩), .int .i64 q, .int .i64 k]) (.float .f32 za) ?hwant ?hkind ?hrun ?hinit ?hcall ?_); (case hwant => first | (simp [Region.wanted, yielded]; done) | rfl); (case hkind => rfl); (case hrun => intro W; simp [go_sem, BigFrame.eval_const, BigFrame.eval_global, BigFrame.eval_func]); (case hinit => kernel_rfl); (case hcall => exact hAt.out); simp only [Act.put, List.setIfInBounds_toArray, List.set_cons_succ, List.set_cons_zero])
              ((with_reducible refine wpKinds_run (.slice (some ⟨g, 0, none⟩) n cp) ?hwant ?hkind ?hrun ?_); (case hwant => first | (simp [Region.wanted, yielded]; done) | rfl); (case hkind => rfl); (case hrun => intro W hW; simp [go_sem, BigFrame.eval_const, BigFrame.eval_global, BigFrame.eval_func]); simp only [Act.put, List.setIfInBounds_toArray, List.set_cons_succ, List.set_cons_zero])
              ((with_reducible refine wpKinds_run (.int .i64 k) ?hwant ?hkind ?hrun ?_); (case hwant => first | (simp [Region.wanted, yielded]; done) | rfl); (case hkind => rfl); (case hrun => intro W hW; simp [go_sem, BigFrame.eval_const, BigFrame.eval_global, BigFrame.eval_func]); simp only [Act.put, List.setIfInBounds_toArray, List.set_cons_succ, List.set_cons_zero])
              ((with_reducible refine wpKinds_run (.pointer (some ⟨g, k, none⟩)) ?hwant ?hkind ?hrun ?_); (case hwant => first | (simp [Region.wanted, yielded]; done) | rfl); (case hkind => rfl); (case hrun => intro W hW; simp [go_sem, BigFrame.eval_const, BigFrame.eval_global, BigFrame.eval_func, hkn]); simp only [Act.put, List.setIfInBounds_toArray, List.set_cons_succ, List.set_cons_zero])
              ((with_reducible refine wpKinds_run (.float .f32 rx) ?hwant ?hkind ?hrun ?_); (case hwant => first | (simp [Region.wanted, yielded]; done) | rfl); (case hkind => rfl); (case hrun => intro W hW; simp [go_sem, BigFrame.eval_const, BigFrame.eval_global, BigFrame.eval_func, hcW.out W hW]); simp only [Act.put, List.setIfInBounds_toArray, List.set_cons_succ, List.set_cons_zero])
              (refine wpKinds_farith (fun W m hW => by obtain ⟨z, rfl⟩ := hW; exact ⟨_, World.drewN_drewN _ _ _⟩) rfl rfl _ _ _ _ _ rfl rfl _ _ _ rfl rfl hza hfx (fun r5 hr5 => ?_))
              simp only [Act.put, List.setIfInBounds_toArray, List.set_cons_succ, List.set_cons_zero]
              (refine wpKinds_farith (fun W m hW => by obtain ⟨z, rfl⟩ := hW; exact ⟨_, World.drewN_drewN _ _ _⟩) rfl rfl _ _ _ _ _ rfl rfl _ _ _ rfl rfl hr0 hr5 (fun r6 hr6 => ?_))
              simp only [Act.put, List.setIfInBounds_toArray, List.set_cons_succ, List.set_cons_zero]
              refine wpKinds_nil ?_
              rintro _ ⟨nq, rfl⟩
              clear hAt hcW
              go_wp2
              go_roundw
              case rel =>
                refine ⟨t + 1, _, _, by omega, ?_, rfl, FV.of_eq hr6 (by rw [hAZ.out, hXZ.out]; rfl), rfl⟩
                have hkk := hkH.out
                rw [show (k : Int) + 1 = (q : Int) + 1 + ((t + 1 : Nat) : Int) by omega]
              case measure => simp [intOf]; omega
            · obtain rfl : t = n - (q + 1) := by omega
              have hki : (q : Int) + 1 + ((n - (q + 1) : Nat) : Int) = (n : Int) := by omega
              rw [hki]
              have hfa := FZ.fvF (show q * n + q < N by rw [hN'.out]; exact place_lt hq' hq')
              obtain ⟨hce, hfr, _⟩ := ho.cell hq'
              clear hki
              go_wp2_with fail
              go_at_call 37
              refine (specAt_any p b off n n N cap q q Z (wr.drewN m0) h12 h12 hN'.out ⟨XB 0 _ rfl, XB 1 _ rfl, XB 2 _ rfl⟩ (FS.drewN FZ) hq' hq').mono ?_
              rintro e w7 ⟨rfl, m3, rfl⟩
              go_wp2_with (refine wpList_farith rfl _ _ _ _ _ rfl rfl _ _ _ rfl rfl hr0 hfa ?_; intro r m hr)
              obtain ⟨O4, G4⟩ := (show Own 44 .f32 w.heap.size w4.heap.size (wr.drewN (m0 + m3 + m)) (some ⟨g, 0, none⟩) n cp X from ho).stored hq' hr.2
              refine ⟨⟨j + 1, _, by omega, ?_, O4, ?_, grownBy_trans hg ⟨G4.os, G4.tape, G4.output, G4.size, G4.block⟩⟩, ?_⟩
              · rw [show (q : Int) - 1 = (n : Int) - 1 - ((j + 1 : Nat) : Int) by omega]
              · exact up_next (A := sq n Z) (LL := lessG SS (fun t => sq n Z q (q + 1 + t)) (fun t => vals X (q + 1 + t)) (n - (q + 1))) HU.out hq HX.out (by rw [HSS.out]; rfl) hr
              · simp only [intOf]; omega
        · obtain rfl : n = j := by omega
          have hqi : (n : Int) - 1 - n = -1 := by omega
          rw [hqi]
          have hB := Lib.hid (hw4.grown hg hw4.size (fun q hq => by cases hq; omega))
          have hXR : Hid (∀ t, t < n → vals X t = RR t) := Lib.hid fun t ht => (HX.out t ht).trans (by rw [HR.out])
          clear ho hg FZ XB hw4
          go_wp2_with fail
          go_ret
          exact ⟨_, _, X, rfl, FX, hXR.out, hB.out, by omega⟩
theorem l03Solve_any (p n N b off cap bb ob d bc oc d2 : Nat) (Z : Nat → Nat) (O : Nat → Int) (Y : Nat → Nat) (w : World) (h1 : 1 ≤ n) (h12 : n ≤ 12) (hN : N = n * n) (hord : ordB O n = true) (hp : p < w.heap.size)
    (hbx : BoxL w p [.int .i64 (n : Int), .int .i64 (n : Int), .slice (some ⟨b, off, none⟩) N cap, .slice (some ⟨bb, ob, none⟩) n d]) (h : FS .f32 w (some ⟨b, off, none⟩) N cap Z) (h2 : IS .i64 w (some ⟨bb, ob, none⟩) n d O) (h3 : FS .f32 w (some ⟨bc, oc, none⟩) n d2 Y) :
    Calls Try.prog 86 #[.pointer (some ⟨p, 0, none⟩), .slice (some ⟨bc, oc, none⟩) n d2] w fun e w' => ∃ g cp X, e = .returned (.slice (some ⟨g, 0, none⟩) n cp) ∧ FS .f32 w' (some ⟨g, 0, none⟩) n cp X ∧ (∀ t, t < n → vals X t = solV n (sq n Z) O (vals Y) t) ∧ Below w.heap.size w w' :=
  (l03Solve_new p n N b off cap bb ob d bc oc d2 Z O Y w h1 h12 hN hord hp hbx h h2 h3).mono fun e w' ⟨g, cp, X, h1, h2, h3, h4, _⟩ => ⟨g, cp, X, h1, h2, h3, h4⟩
end Go.Proofs.Ytmddhhmgfhljiaa
