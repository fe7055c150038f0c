/- Helper: what a root and its flipped square make a list of, of the reference. Conditions: none. -/
import Derived.Test.YtedfbnkdhnadeaaRootSolveImpl
set_option linter.unusedVariables false
namespace Go.Proofs.Ytedfbnkdhnadeaa
open Go.RowKit

theorem low_keep {A : Nat → Nat → Option Nat} {dv : Bool} {Y : Nat → Option Nat} : ∀ {n i t : Nat}, t < i → i ≤ n → lowY A dv Y n t = lowY A dv Y i t
  | 0, i, t, h, h2 => by omega
  | n + 1, i, t, h, h2 => by
    by_cases e : i = n + 1
    · rw [e]
    · show (if t = n then _ else lowY A dv Y n t) = lowY A dv Y i t
      rw [if_neg (by omega)]
      exact low_keep h (by omega)
theorem low_at {A : Nat → Nat → Option Nat} {Y : Nat → Option Nat} {n j : Nat} (hj : j < n) : lowY A true Y n j = fop .quo .f32 (lessG (Y j) (A j) (lowY A true Y n) j) (A j j) := by
  rw [low_keep (i := j + 1) (Nat.lt_succ_self j) (by omega)]
  show (if j = j then lowS A true (lowY A true Y j) j else _) = _
  rw [if_pos rfl]
  unfold lowS divIf
  rw [lowY_old (Nat.le_refl _)]
  have hh : lessG (Y j) (A j) (lowY A true Y j) j = lessG (Y j) (A j) (lowY A true Y n) j := lessG_congr rfl fun k hk => ⟨rfl, (low_keep (i := j) hk (by omega)).symm⟩
  rw [hh]

theorem FS.fv {k : FloatKind} {w : World} {a : Option Addr} {n c i : Nat} {Z : Nat → Nat} (h : FS k w a n c Z) (hi : i < n) : FV k (Z i) (cn k (Z i)) := (h.at hi).elim fun _ q => q.elim fun _ q => q.2.2.2

set_option maxRecDepth 20000 in
set_option maxHeartbeats 2000000 in
theorem specRoot_yes (n N b off cap p2 o2 d : Nat) (Z Y : Nat → Nat) (w : World) (h1 : 1 ≤ n) (h12 : n ≤ 12) (hN : N = n * n) (hsq : squareB n n N (vals Z) = true) (hvec : vecB n (vals Y) = true)
    (h : FS .f32 w (some ⟨b, off, none⟩) N cap Z) (h2 : FS .f32 w (some ⟨p2, o2, none⟩) n d Y) :
    Calls Try.prog 25 #[.agg #[.int .i64 n, .int .i64 n, .slice (some ⟨b, off, none⟩) N cap], .slice (some ⟨p2, o2, none⟩) n d] w (NBelIf (allPos (fun i => sq n Z i i) n && allFin (rootY n Z Y) n) n (rootY n Z Y) w) := by
  have c0 : cn .f32 0 = some 0 := by kernel_rfl
  have hN' := Lib.hid hN
  have hN144 : N ≤ 144 := by have := sides_le h12 h12; omega
  have hd : ((n : Int) != (n : Int)) = false := by simp
  obtain ⟨_, _, e, hbl2, _, _⟩ := h2.at (show 0 < n by omega)
  simp only [Option.some.injEq, Addr.mk.injEq, and_true] at e
  obtain ⟨rfl, rfl⟩ := e
  obtain ⟨_, _, e, hbl, _, _⟩ := h.at (show 0 < N by rw [hN]; exact Nat.mul_pos h1 h1)
  simp only [Option.some.injEq, Addr.mk.injEq, and_true] at e
  obtain ⟨rfl, rfl⟩ := e
  obtain ⟨VV, hVV⟩ : ∃ VV, VV = lowY (sq n Z) true (vals Y) n := ⟨_, rfl⟩
  obtain ⟨UU, hUU⟩ : ∃ UU, UU = upY (fun i k => sq n Z k i) true n VV := ⟨_, rfl⟩
  obtain ⟨RR, hRR⟩ : ∃ RR, RR = rootY n Z Y := ⟨_, rfl⟩
  have hR : RR = UU n := by rw [hRR, hUU, hVV]; rfl
  rw [← hRR]
  have HV := Lib.hid hVV
  have HU := Lib.hid hUU
  have HR := Lib.hid hR
  clear hN hUU hVV hRR hR
  go_enter Try.func25, Try.ntmps25
  go_wp2_with fail
  go_at_call 54
  refine (specSquare_any _ n n _ N cap Z _ (by omega) (Box.new _ _ _ _ _ _ _) (h.below (by repeat first | (with_reducible exact Below.refl _ _) | (with_reducible refine Below.setCell ?_ (by first | exact Nat.le_refl _ | (simp; done) | (simp; omega) | omega) _) | (with_reducible refine Below.alloc ?_ (by first | exact Nat.le_refl _ | (simp; done) | (simp; omega) | omega) _) | (with_reducible refine below_drewN ?_ _) | (with_reducible refine Below.drew ?_)) (Nat.le_refl _))).mono ?_
  rintro e w1 ⟨rfl, m1, rfl⟩
  go_wp2_with fail
  go_at_call 55
  refine (specVector_any _ n d Y _ (by omega) (h2.below (by repeat first | (with_reducible exact Below.refl _ _) | (with_reducible refine Below.setCell ?_ (by first | exact Nat.le_refl _ | (simp; done) | (simp; omega) | omega) _) | (with_reducible refine Below.alloc ?_ (by first | exact Nat.le_refl _ | (simp; done) | (simp; omega) | omega) _) | (with_reducible refine below_drewN ?_ _) | (with_reducible refine Below.drew ?_)) (Nat.le_refl _))).mono ?_
  rintro e w2 ⟨rfl, m2, rfl⟩
  generalize hw2 : ((w.alloc (.cells #[.int .i64 n, .int .i64 n, .slice (some ⟨b, off, none⟩) N cap] 28)).drewN m1).drewN m2 = w2
  have XB : Box w2 w.heap.size n n (some ⟨b, off, none⟩) N cap := by rw [← hw2]; exact (Box.new _ _ _ _ _ _ _).drewN.drewN
  have B2 : Below w.heap.size w w2 := by rw [← hw2]; exact (by repeat first | (with_reducible exact Below.refl _ _) | (with_reducible refine Below.setCell ?_ (by first | exact Nat.le_refl _ | (simp; done) | (simp; omega) | omega) _) | (with_reducible refine Below.alloc ?_ (by first | exact Nat.le_refl _ | (simp; done) | (simp; omega) | omega) _) | (with_reducible refine below_drewN ?_ _) | (with_reducible refine Below.drew ?_))
  have hs2 : w.heap.size < w2.heap.size := by rw [← hw2]; simp [World.drewN]
  have FZ := h.below B2 (Nat.le_refl _)
  have FY := h2.below B2 (Nat.le_refl _)
  have XB' := XB
  obtain ⟨x0, x1, x2⟩ := XB'
  clear hw2 h h2
  go_wp2
  clear hd hsq hvec x0 x1 x2
  -- the middle
  go_loopw [7] (fun i wr => ∃ q m : Nat, q ≤ n ∧ i = .int .i64 q ∧ (∀ t, t < q → posB (sq n Z t t) = true) ∧ wr = w2.drewN m) (fun i _ => n - (intOf i).toNat)
  case atStart => exact ⟨0, 0, Nat.zero_le _, rfl, fun t ht => by omega, rfl⟩
  case round =>
    obtain ⟨q, m0, hq, rfl, hpos, rfl⟩ := hrel
    have hpos' := Lib.hid hpos
    clear hpos
    by_cases hq' : q < n
    · cases hz : posB (sq n Z q q) with
      | false =>
        have hz0' : (ford .f32 (cn .f32 (Z (q * n + q))) (some 0) == some .gt) = false := hz
        have hok : Hid ((allPos (fun i => sq n Z i i) n && allFin RR n) = false) := Lib.hid (by rw [allPos_off (V := fun i => sq n Z i i) hq' hz]; rfl)
        clear hz
        go_wp2_with fail
        go_at_call 64
        refine (specAt_any w.heap.size b off n n N cap q q Z _ h12 h12 hN'.out XB.drewN (FS.drewN FZ) hq' hq').mono ?_
        rintro e w3 ⟨rfl, m3, rfl⟩
        go_wp2_with fail
        go_ret2
        exact NBelIf.no hok.out (NumsNo.bel ⟨rfl, below_drewN B2 _⟩)
      | true =>
        have hz0' : (ford .f32 (cn .f32 (Z (q * n + q))) (some 0) == some .gt) = true := hz
        have hz' := Lib.hid hz
        clear hz
        go_wp2_with fail
        go_at_call 64
        refine (specAt_any w.heap.size b off n n N cap q q Z _ h12 h12 hN'.out XB.drewN (FS.drewN FZ) hq' hq').mono ?_
        rintro e w3 ⟨rfl, m3, rfl⟩
        go_wp2_with fail
        go_roundw
        case rel =>
          refine ⟨q + 1, _, by omega, by go_num, fun t ht => ?_, rfl⟩
          by_cases e : t = q
          · subst e; exact hz'.out
          · exact hpos'.out t (by omega)
        case measure => simp [intOf]; omega
    · obtain rfl : n = q := by omega
      have hAP : Hid (allPos (fun i => sq n Z i i) n = true) := Lib.hid (allPos_of (V := fun i => sq n Z i i) hpos'.out)
      have hw3 := below_drewN B2 m0
      have XB3 := XB.drewN (m := m0)
      have FZ3 := FS.drewN (m := m0) FZ
      have FY3 := FS.drewN (m := m0) FY
      have hs3 : w.heap.size < (w2.drewN m0).heap.size := hs2
      generalize w2.drewN m0 = w3 at hw3 XB3 FZ3 FY3 hs3 ⊢
      clear XB FZ FY B2 hs2 hpos'
      obtain ⟨i0, hi, hz0, hz1, hz2⟩ := info_parts info32
      have hL := World.ownsRow_lit (base := w3.heap.size) (e := 40) (size := 1) w3 #[] 0 (Nat.le_refl _) (Nat.zero_le _) rfl
      go_wp2
      -- from the first row on
      go_loopw [8, 9] (fun v i wr => ∃ (j : Nat) (xs : List Value), j ≤ n ∧ i = .int .i64 j ∧ Grow w3 j VV wr v xs) (fun _ i _ => n - (intOf i).toNat)
      case atStart => exact ⟨0, [], Nat.zero_le _, rfl, by simpa using hL, fun t ht => absurd ht (Nat.not_lt_zero _), (by repeat first | (with_reducible exact Below.refl _ _) | (with_reducible refine Below.setCell ?_ (by first | exact Nat.le_refl _ | (simp; done) | (simp; omega) | omega) _) | (with_reducible refine Below.alloc ?_ (by first | exact Nat.le_refl _ | (simp; done) | (simp; omega) | omega) _) | (with_reducible refine below_drewN ?_ _) | (with_reducible refine Below.drew ?_)), _, _, rfl⟩
      case round =>
        obtain ⟨j, xs, hj, rfl, hk⟩ := hrel
        clear hL
        obtain ⟨g, cp, rfl⟩ := hk.shape
        have XB := XB3.below hk.bel hs3
        have FZ := FZ3.below hk.bel (Nat.le_refl _)
        have FY := FY3.below hk.bel (Nat.le_refl _)
        have hsr := hk.bel.size
        by_cases hlt : j < n
        · obtain ⟨b', off', e, hbly, hcy, hfy⟩ := FY.at hlt
          simp only [Option.some.injEq, Addr.mk.injEq, and_true] at e
          obtain ⟨rfl, rfl⟩ := e
          have hk' := Lib.hid hk
          clear hbly hk
          go_wp2
          obtain ⟨SS, hSS⟩ : ∃ SS, SS = cn .f32 (Y j) := ⟨_, rfl⟩
          rw [← hSS] at hfy
          go_loopw [10, 11] (fun s k wr2 => ∃ t m r : Nat, t ≤ j ∧ k = .int .i64 t ∧ s = .float .f32 r ∧ FV .f32 r (lessG SS (sq n Z j) VV t) ∧ wr2 = wr.drewN m) (fun _ k _ => j - (intOf k).toNat)
          case atStart => exact ⟨0, 0, _, Nat.zero_le _, rfl, rfl, hfy, rfl⟩
          case round =>
            obtain ⟨t, m1', r0, ht, rfl, rfl, hr0, rfl⟩ := hrel
            clear hfy
            by_cases hlt2 : t < j
            · have htn : t < n := by omega
              obtain ⟨rx, hxs, hfx⟩ := hk'.out.val t hlt2
              have hcx := (hk'.out.own.cellAt t (by omega)).trans hxs
              have hfa := FZ.fv (show j * n + t < N by rw [hN'.out]; exact place_lt hlt htn)
              have hAt : ∀ W, (∃ k, W = (wr.drewN m1').drewN k) → Calls Try.prog 64 #[.pointer (some ⟨w.heap.size, 0, none⟩), .int .i64 j, .int .i64 t] W fun e w'' => e = .returned (.float .f32 (Z (j * n + t))) ∧ ∃ k, w'' = (wr.drewN m1').drewN k := by
                rintro W ⟨k', rfl⟩
                refine (specAt_any w.heap.size b off n n N cap j t Z ((wr.drewN m1').drewN k') h12 h12 hN'.out XB.drewN.drewN (FS.drewN (FS.drewN FZ)) hlt htn).mono ?_
                rintro e w2 ⟨rfl, m2, rfl⟩
                exact ⟨rfl, _, World.drewN_drewN _ _ _⟩
              have hAt' := Lib.hid hAt
              clear hAt hxs
              go_wp2
              refine wp_region_loose (by kernel_rfl) (by kernel_rfl) ?_
              (repeat (refine wpLoose_want rfl (fun K hK => ?_); first | (refine loose_farith _ _ _ _ _ rfl rfl _ _ _ rfl rfl (by first | assumption | (with_reducible exact FV.ofInt _ _) | exact FV.lit (by kernel_rfl) (by kernel_rfl)) (by first | assumption | (with_reducible exact FV.ofInt _ _) | exact FV.lit (by kernel_rfl) (by kernel_rfl)) ?_; intro r hr; refine hK _ ?_; clear hK K; simp only [Act.put, List.setIfInBounds_toArray, List.set_cons_succ, List.set_cons_zero]) | (refine loose_of_quiet rfl ?_; go_big_quiet_op; refine hK _ ?_; clear hK K)))
              refine wpLoose_want rfl (fun K hK => ?_)
              apply loose_of_call (f := 64) (args := #[.pointer _, .int .i64 _, .int .i64 _]) (u := .float .f32 (Z (j * n + t))) (hi := by kernel_rfl)
              case hr =>
                intro W
                simp [go_sem, BigFrame.eval_const, BigFrame.eval_global, BigFrame.eval_func]
                repeat' (first | exact rfl | refine ⟨?_, ?_⟩)
              case hc => exact hAt'.out
              refine hK _ ?_
              clear hK K
              simp only [Act.put, List.setIfInBounds_toArray, List.set_cons_succ, List.set_cons_zero]
              (repeat (refine wpLoose_want rfl (fun K hK => ?_); first | (refine loose_farith _ _ _ _ _ rfl rfl _ _ _ rfl rfl (by first | assumption | (with_reducible exact FV.ofInt _ _) | exact FV.lit (by kernel_rfl) (by kernel_rfl)) (by first | assumption | (with_reducible exact FV.ofInt _ _) | exact FV.lit (by kernel_rfl) (by kernel_rfl)) ?_; intro r hr; refine hK _ ?_; clear hK K; simp only [Act.put, List.setIfInBounds_toArray, List.set_cons_succ, List.set_cons_zero]) | (refine loose_of_quiet rfl ?_; go_big_quiet_op; refine hK _ ?_; clear hK K)))
              refine wpLoose_nil ?_
              rintro _ ⟨nq, rfl⟩
              go_wp2
              go_roundw
              case rel => exact ⟨t + 1, _, _, by omega, by go_num, rfl, FV.of_eq (by assumption) rfl, rfl⟩
              case measure => simp [intOf]; omega
            · obtain rfl : t = j := by omega
              have hfa := FZ.fv (show t * n + t < N by rw [hN'.out]; exact place_lt hlt hlt)
              go_wp2_with fail
              go_at_call 64
              refine (specAt_any w.heap.size b off n n N cap t t Z _ h12 h12 hN'.out XB.drewN (FS.drewN FZ) hlt hlt).mono ?_
              rintro e w5 ⟨rfl, m3, rfl⟩
              have hVj : Hid (fop .quo .f32 (lessG SS (sq n Z t) VV t) (cn .f32 (Z (t * n + t))) = VV t) := Lib.hid (by rw [hSS, HV.out, low_at hlt]; rfl)
              go_wp2_with (first
                | (refine wpList_farith rfl _ _ _ _ _ rfl rfl _ _ _ rfl rfl hr0 hfa ?_; intro rr m hr)
                | (at_builtin
                   refine wpList_append_lies _ rfl _ _ _ rfl w3.heap.size 40 i0 _ 1 4 Try.underlying22 hi hz0 hz1 hz2 rfl (by omega) (.slice (some ⟨g, 0, none⟩) t cp) t xs rfl (by exact ownsRow_below hk'.out.own (by repeat first | (with_reducible exact Below.refl _ _) | (with_reducible refine Below.setCell ?_ (by first | exact Nat.le_refl _ | (simp; done) | (simp; omega) | omega) _) | (with_reducible refine Below.alloc ?_ (by first | exact Nat.le_refl _ | (simp; done) | (simp; omega) | omega) _) | (with_reducible refine below_drewN ?_ _) | (with_reducible refine Below.drew ?_))) ⟨wr.heap.size, 0, none⟩ 1 1 [.float .f32 rr] rfl rfl
                        (by exact World.news_of_block (cs := #[.float .f32 rr]) (t := 40) (fr := (0, 0)) (heap_alloc_new _ _)) (by simp [Value.oneCell']) (by omega) (by unfold maxLen; omega) (by omega) (by simp [World.drewN]; omega) (wr.heap.size + 1) (by simp [World.drewN]) ?_
                   intro gg cp2 w6 hown2 hgrow2 hat2 hlt3
                   have hst := Lib.hid (hk'.out.step (by repeat first | (with_reducible exact Below.refl _ _) | (with_reducible refine Below.setCell ?_ (by first | exact Nat.le_refl _ | (simp; done) | (simp; omega) | omega) _) | (with_reducible refine Below.alloc ?_ (by first | exact Nat.le_refl _ | (simp; done) | (simp; omega) | omega) _) | (with_reducible refine below_drewN ?_ _) | (with_reducible refine Below.drew ?_)) hown2 hgrow2 (hVj.out ▸ hr))
                   clear hown2 hgrow2 hat2 hlt3))
              go_roundw
              case rel => exact ⟨t + 1, _, by omega, by go_num, hst.out⟩
              case measure => simp [intOf]; omega
        · obtain rfl : n = j := by omega
          obtain ⟨X4, hX4⟩ := choose_upto (p := fun t r => xs[t]? = some (.float .f32 r) ∧ FV .f32 r (VV t)) n hk.val
          obtain ⟨g', dx, e, o1, hBg, hgU⟩ := own_of_row hk.own (by omega) (fun j hj => (hX4 j hj).1) (fun j hj => (hX4 j hj).2.2)
          simp only [Value.slice.injEq, Option.some.injEq, Addr.mk.injEq, and_true, true_and] at e
          obtain ⟨rfl, rfl⟩ := e
          have hv4 : Hid (∀ t, t < n → vals X4 t = VV t) := Lib.hid fun t ht => (hX4 t ht).2.1
          have hw4 := hw3.trans (hk.bel.mono hw3.size)
          have hdx1 := (Own.fs o1).1
          have hdx2 := (Own.fs o1).2.1
          have hdx3 : cp ≤ 9223372036854775807 := by unfold maxLen at hdx2; omega
          obtain ⟨w4, hw4e⟩ : ∃ w4, w4 = wr := ⟨_, rfl⟩
          subst hw4e
          have XB4 := XB
          have FZ4 := FZ
          clear hk hX4 FY XB FZ XB3 FZ3 FY3
          go_wp2
          -- from the last row on
          go_loopw [12] (fun i wr2 => ∃ (j : Nat) (X : Nat → Nat), j ≤ n ∧ i = .int .i64 ((n : Int) - 1 - j) ∧ Own 40 .f32 w3.heap.size w4.heap.size wr2 (some ⟨g, 0, none⟩) n cp X ∧ (∀ t, t < n → vals X t = UU j t) ∧ w4.grownBy wr2 (some g)) (fun i _ => (intOf i + 1).toNat)
          case atStart => exact ⟨0, X4, Nat.zero_le _, by simp, o1, fun t ht => by rw [HU.out]; exact hv4.out t ht, World.grownBy.refl _ _⟩
          case round =>
            obtain ⟨j, X, hj, rfl, ho, hv, hg⟩ := hrel
            have HX := Lib.hid hv
            clear hv o1
            have XB := XB4.grown hg (by omega) (fun q hq => by cases hq; omega)
            have FZ := FZ4.grown hg (fun q hq => by cases hq; omega)
            have FX := ho.fs
            by_cases hlt : j < n
            · obtain ⟨q, hq⟩ : ∃ q, q + (j + 1) = n := ⟨n - (j + 1), by omega⟩
              have hqi : (n : Int) - 1 - j = (q : Int) := by omega
              rw [hqi]
              have hq' : q < n := by omega
              obtain ⟨hce, hfr, _⟩ := ho.cell hq'
              have hfq := FX.fv hq'
              go_wp2
              obtain ⟨SS, hSS⟩ : ∃ SS, SS = cn .f32 (X q) := ⟨_, rfl⟩
              rw [← hSS] at hfq
              have HSS := Lib.hid hSS
              clear hSS
              go_loopw [13, 14] (fun s k wr3 => ∃ t m r : Nat, t ≤ n - (q + 1) ∧ k = .int .i64 ((q : Int) + 1 + t) ∧ s = .float .f32 r ∧ FV .f32 r (lessG SS (fun t => sq n Z (q + 1 + t) q) (fun t => vals X (q + 1 + t)) t) ∧ wr3 = wr.drewN m) (fun _ k _ => n - (intOf k).toNat)
              case atStart => exact ⟨0, 0, _, Nat.zero_le _, by simp, rfl, hfq, rfl⟩
              case round =>
                obtain ⟨t, m0', r0, ht, rfl, rfl, hr0, rfl⟩ := hrel
                clear hfq hce hfr
                by_cases hlt2 : t < n - (q + 1)
                · obtain ⟨k, hk⟩ : ∃ k, k = q + 1 + t := ⟨_, rfl⟩
                  have hki : (q : Int) + 1 + t = (k : Int) := by omega
                  rw [hki]
                  have hk' : k < n := by omega
                  have hkH := Lib.hid hk
                  clear hk hki
                  have hcx := (ho.cell hk').1
                  have hfx := FX.fv hk'
                  have hAt : ∀ W, (∃ k, W = (wr.drewN m0').drewN k) → Calls Try.prog 64 #[.pointer (some ⟨w.heap.size, 0, none⟩), .int .i64 k, .int .i64 q] W fun e w'' => e = .returned (.float .f32 (Z (k * n + q))) ∧ ∃ k, w'' = (wr.drewN m0').drewN k := by
                    rintro W ⟨k', rfl⟩
                    refine (specAt_any w.heap.size b off n n N cap k q Z ((wr.drewN m0').drewN k') h12 h12 hN'.out XB.drewN.drewN (FS.drewN (FS.drewN FZ)) hk' hq').mono ?_
                    rintro e w2 ⟨rfl, m2, rfl⟩
                    exact ⟨rfl, _, World.drewN_drewN _ _ _⟩
                  have hfa := FZ.fv (show k * n + q < N by rw [hN'.out]; exact place_lt hk' hq')
                  have hAt' := Lib.hid hAt
                  clear hAt
                  go_wp2
                  refine wp_region_loose (by kernel_rfl) (by kernel_rfl) ?_
                  (repeat (refine wpLoose_want rfl (fun K hK => ?_); first | (refine loose_farith _ _ _ _ _ rfl rfl _ _ _ rfl rfl (by first | assumption | (with_reducible exact FV.ofInt _ _) | exact FV.lit (by kernel_rfl) (by kernel_rfl)) (by first | assumption | (with_reducible exact FV.ofInt _ _) | exact FV.lit (by kernel_rfl) (by kernel_rfl)) ?_; intro r hr; refine hK _ ?_; clear hK K; simp only [Act.put, List.setIfInBounds_toArray, List.set_cons_succ, List.set_cons_zero]) | (refine loose_of_quiet rfl ?_; go_big_quiet_op; refine hK _ ?_; clear hK K)))
                  refine wpLoose_want rfl (fun K hK => ?_)
                  apply loose_of_call (f := 64) (args := #[.pointer _, .int .i64 _, .int .i64 _]) (u := .float .f32 (Z (k * n + q))) (hi := by kernel_rfl)
                  case hr =>
                    intro W
                    simp [go_sem, BigFrame.eval_const, BigFrame.eval_global, BigFrame.eval_func]
                    repeat' (first | exact rfl | refine ⟨?_, ?_⟩)
                  case hc => exact hAt'.out
                  refine hK _ ?_
                  clear hK K
                  simp only [Act.put, List.setIfInBounds_toArray, List.set_cons_succ, List.set_cons_zero]
                  (repeat (refine wpLoose_want rfl (fun K hK => ?_); first | (refine loose_farith _ _ _ _ _ rfl rfl _ _ _ rfl rfl (by first | assumption | (with_reducible exact FV.ofInt _ _) | exact FV.lit (by kernel_rfl) (by kernel_rfl)) (by first | assumption | (with_reducible exact FV.ofInt _ _) | exact FV.lit (by kernel_rfl) (by kernel_rfl)) ?_; intro r hr; refine hK _ ?_; clear hK K; simp only [Act.put, List.setIfInBounds_toArray, List.set_cons_succ, List.set_cons_zero]) | (refine loose_of_quiet rfl ?_; go_big_quiet_op; refine hK _ ?_; clear hK K)))
                  refine wpLoose_nil ?_
                  rintro _ ⟨nq, rfl⟩
                  go_wp2
                  go_roundw
                  case rel =>
                    refine ⟨t + 1, _, _, by omega, ?_, rfl, FV.of_eq (by assumption) ?_, rfl⟩
                    · have hkk := hkH.out
                      rw [show (k : Int) + 1 = (q : Int) + 1 + ((t + 1 : Nat) : Int) by omega]
                    · have hkk := hkH.out
                      subst hkk
                      rfl
                  case measure => simp [intOf]; omega
                · obtain rfl : t = n - (q + 1) := by omega
                  have hki : (q : Int) + 1 + ((n - (q + 1) : Nat) : Int) = (n : Int) := by omega
                  rw [hki]
                  have hfa := FZ.fv (show q * n + q < N by rw [hN'.out]; exact place_lt hq' hq')
                  obtain ⟨hce, hfr, _⟩ := ho.cell hq'
                  clear hki
                  go_wp2_with fail
                  go_at_call 64
                  refine (specAt_any w.heap.size b off n n N cap q q Z _ h12 h12 hN'.out XB.drewN (FS.drewN FZ) hq' hq').mono ?_
                  rintro e w7 ⟨rfl, m3, rfl⟩
                  go_wp2_with (refine wpList_farith rfl _ _ _ _ _ rfl rfl _ _ _ rfl rfl hr0 hfa ?_; intro r m hr)
                  obtain ⟨O4, G4⟩ := (show Own 40 .f32 w3.heap.size w4.heap.size (wr.drewN (m0' + m3 + m)) (some ⟨g, 0, none⟩) n cp X from ho).stored hq' hr.2
                  refine ⟨⟨j + 1, _, by omega, ?_, O4, ?_, grownBy_trans hg ⟨G4.os, G4.tape, G4.output, G4.size, G4.block⟩⟩, ?_⟩
                  · rw [show (q : Int) - 1 = (n : Int) - 1 - ((j + 1 : Nat) : Int) by omega]
                  · exact up_next (A := fun i k => sq n Z k i) (LL := lessG SS (fun t => sq n Z (q + 1 + t) q) (fun t => vals X (q + 1 + t)) (n - (q + 1))) HU.out hq HX.out (by rw [HSS.out]; rfl) hr
                  · simp only [intOf]; omega
            · obtain rfl : n = j := by omega
              have hqi : (n : Int) - 1 - n = -1 := by omega
              rw [hqi]
              have hB := Lib.hid (hw4.grown hg hw4.size (fun q hq => by cases hq; omega))
              have hXR : Hid (∀ t, t < n → vals X t = RR t) := Lib.hid fun t ht => (HX.out t ht).trans (by rw [HR.out])
              have hfin : allFin (vals X) n = allFin RR n := allFin_congr hXR.out
              clear ho hg FZ XB hw4
              cases hf : allFin RR n with
              | true =>
                rw [hf] at hfin
                go_wp2_with fail
                go_at_call 65
                refine (specList_yes _ n cp X _ (by omega) FX hfin).mono ?_
                rintro e w2 ⟨rfl, m2, rfl⟩
                go_wp2_with fail
                go_ret2
                exact NBelIf.yes (by rw [hAP.out, hf]; rfl) ⟨_, _, X, rfl, FS.drewN FX, hXR.out, below_drewN hB.out _⟩
              | false =>
                rw [hf] at hfin
                go_wp2_with fail
                go_at_call 65
                refine (specList_no _ n cp X _ (by omega) FX hfin).mono ?_
                rintro e w2 ⟨rfl, m2, rfl⟩
                go_wp2_with fail
                go_ret2
                exact NBelIf.no (by rw [hAP.out, hf]; rfl) (NumsNo.bel ⟨rfl, below_drewN hB.out _⟩)
theorem specRootSolve_any (R C : Int) (a b : Option Addr) (n c n2 d : Nat) (Z Y : Nat → Nat) (w : World) (hn : n ≤ 1048576) (hm : n2 ≤ 1048576) (h : FS .f32 w a n c Z) (h2 : FS .f32 w b n2 d Y) :
    Calls Try.prog 25 #[.agg #[.int .i64 R, .int .i64 C, .slice a n c], .slice b n2 d] w (NBelIf (rsOk R C n n2 Z Y) n2 (rootY n2 Z Y) w) := by
  obtain ⟨ok, hok⟩ : ∃ ok, ok = rsOk R C n n2 Z Y := ⟨_, rfl⟩
  rw [← hok]
  have HK := Lib.hid hok
  clear hok
  cases hs : squareB R C n (vals Z) with
  | false =>
    have HS := Lib.hid hs
    go_enter Try.func25, Try.ntmps25
    go_wp2_with fail
    go_at_call 54
    refine (specSquare_any _ R C a n c Z _ hn (Box.new _ _ _ _ _ _ _) (h.below (by repeat first | (with_reducible exact Below.refl _ _) | (with_reducible refine Below.setCell ?_ (by first | exact Nat.le_refl _ | (simp; done) | (simp; omega) | omega) _) | (with_reducible refine Below.alloc ?_ (by first | exact Nat.le_refl _ | (simp; done) | (simp; omega) | omega) _) | (with_reducible refine below_drewN ?_ _) | (with_reducible refine Below.drew ?_)) (Nat.le_refl _))).mono ?_
    rintro e w1 ⟨rfl, m1, rfl⟩
    go_wp2_with fail
    go_ret2
    exact NBelIf.no (by rw [HK.out]; unfold rsOk; rw [HS.out]; rfl) (NumsNo.bel ⟨rfl, (by repeat first | (with_reducible exact Below.refl _ _) | (with_reducible refine Below.setCell ?_ (by first | exact Nat.le_refl _ | (simp; done) | (simp; omega) | omega) _) | (with_reducible refine Below.alloc ?_ (by first | exact Nat.le_refl _ | (simp; done) | (simp; omega) | omega) _) | (with_reducible refine below_drewN ?_ _) | (with_reducible refine Below.drew ?_))⟩)
  | true =>
    have HS := Lib.hid hs
    obtain ⟨r, rfl, rfl, hr1, hr, hnr, hfinZ⟩ := square_nat hs
    obtain ⟨b0, off, rfl, _, _, _⟩ := h.at (show 0 < n by rw [hnr]; exact Nat.mul_pos hr1 hr1)
    have hN := Lib.hid hnr
    clear hnr hfinZ
    cases hv : vecB n2 (vals Y) with
    | false =>
      have HV := Lib.hid hv
      go_enter Try.func25, Try.ntmps25
      go_wp2_with fail
      go_at_call 54
      refine (specSquare_any _ r r _ n c Z _ hn (Box.new _ _ _ _ _ _ _) (h.below (by repeat first | (with_reducible exact Below.refl _ _) | (with_reducible refine Below.setCell ?_ (by first | exact Nat.le_refl _ | (simp; done) | (simp; omega) | omega) _) | (with_reducible refine Below.alloc ?_ (by first | exact Nat.le_refl _ | (simp; done) | (simp; omega) | omega) _) | (with_reducible refine below_drewN ?_ _) | (with_reducible refine Below.drew ?_)) (Nat.le_refl _))).mono ?_
      rintro e w1 ⟨rfl, m1, rfl⟩
      go_wp2_with fail
      go_at_call 55
      refine (specVector_any b n2 d Y _ hm (h2.below (by repeat first | (with_reducible exact Below.refl _ _) | (with_reducible refine Below.setCell ?_ (by first | exact Nat.le_refl _ | (simp; done) | (simp; omega) | omega) _) | (with_reducible refine Below.alloc ?_ (by first | exact Nat.le_refl _ | (simp; done) | (simp; omega) | omega) _) | (with_reducible refine below_drewN ?_ _) | (with_reducible refine Below.drew ?_)) (Nat.le_refl _))).mono ?_
      rintro e w2 ⟨rfl, m2, rfl⟩
      go_wp2_with fail
      go_ret2
      exact NBelIf.no (by rw [HK.out]; unfold rsOk fitsB; rw [HS.out, HV.out]; rfl) (NumsNo.bel ⟨rfl, (by repeat first | (with_reducible exact Below.refl _ _) | (with_reducible refine Below.setCell ?_ (by first | exact Nat.le_refl _ | (simp; done) | (simp; omega) | omega) _) | (with_reducible refine Below.alloc ?_ (by first | exact Nat.le_refl _ | (simp; done) | (simp; omega) | omega) _) | (with_reducible refine below_drewN ?_ _) | (with_reducible refine Below.drew ?_))⟩)
    | true =>
      have HV := Lib.hid hv
      by_cases hne : (n2 : Int) = r
      · obtain rfl : n2 = r := by omega
        obtain ⟨p2, o2, rfl, _, _, _⟩ := h2.at (show 0 < n2 by omega)
        have HU : rsOk (n2 : Int) n2 n n2 Z Y = (allPos (fun i => sq n2 Z i i) n2 && allFin (rootY n2 Z Y) n2) := by unfold rsOk fitsB; rw [HS.out, HV.out, decide_eq_true rfl]; rfl
        rw [HK.out, HU]
        exact specRoot_yes n2 n b0 off c p2 o2 d Z Y w hr1 hr hN.out hs hv h h2
      · have hd := ne_len hne
        have hne' := Lib.hid hne
        clear hne
        go_enter Try.func25, Try.ntmps25
        go_wp2_with fail
        go_at_call 54
        refine (specSquare_any _ r r _ n c Z _ hn (Box.new _ _ _ _ _ _ _) (h.below (by repeat first | (with_reducible exact Below.refl _ _) | (with_reducible refine Below.setCell ?_ (by first | exact Nat.le_refl _ | (simp; done) | (simp; omega) | omega) _) | (with_reducible refine Below.alloc ?_ (by first | exact Nat.le_refl _ | (simp; done) | (simp; omega) | omega) _) | (with_reducible refine below_drewN ?_ _) | (with_reducible refine Below.drew ?_)) (Nat.le_refl _))).mono ?_
        rintro e w1 ⟨rfl, m1, rfl⟩
        go_wp2_with fail
        go_at_call 55
        refine (specVector_any _ n2 d Y _ hm (h2.below (by repeat first | (with_reducible exact Below.refl _ _) | (with_reducible refine Below.setCell ?_ (by first | exact Nat.le_refl _ | (simp; done) | (simp; omega) | omega) _) | (with_reducible refine Below.alloc ?_ (by first | exact Nat.le_refl _ | (simp; done) | (simp; omega) | omega) _) | (with_reducible refine below_drewN ?_ _) | (with_reducible refine Below.drew ?_)) (Nat.le_refl _))).mono ?_
        rintro e w2 ⟨rfl, m2, rfl⟩
        go_wp2_with fail
        go_ret2
        exact NBelIf.no (by rw [HK.out]; unfold rsOk fitsB; rw [HS.out, HV.out, decide_eq_false hne'.out]; rfl) (NumsNo.bel ⟨rfl, (by repeat first | (with_reducible exact Below.refl _ _) | (with_reducible refine Below.setCell ?_ (by first | exact Nat.le_refl _ | (simp; done) | (simp; omega) | omega) _) | (with_reducible refine Below.alloc ?_ (by first | exact Nat.le_refl _ | (simp; done) | (simp; omega) | omega) _) | (with_reducible refine below_drewN ?_ _) | (with_reducible refine Below.drew ?_))⟩)
theorem keyRootSolve (R C : Int) (n : Nat) (Z : Nat → Nat) (n2 : Nat) (Y : Nat → Nat) (hn : n ≤ 1048576) (hm : n2 ≤ 1048576) : ∃ (ok : Bool) (n' : Nat) (V : Nat → Option Nat), n' ≤ 144 ∧
    (∀ a c b d W, FS .f32 W a n c Z → FS .f32 W b n2 d Y → Calls Try.prog 25 #[.agg #[.int .i64 R, .int .i64 C, .slice a n c], .slice b n2 d] W (NumsBel ok n' V W)) ∧
    (∀ a c b d W, FS .f32 W a n c Z → FS .f32 W b n2 d Y → Calls Try.prog 26 #[.agg #[.int .i64 R, .int .i64 C, .slice a n c], .slice b n2 d] W (NumsOwn ok n' V W)) := by
  cases ho : rsOk R C n n2 Z Y with
  | false =>
    exact ⟨false, 0, fun _ => none, by omega, fun a c b d W k1 k2 => by have hh := specRootSolve_any R C a b n c n2 d Z Y W hn hm k1 k2; rw [ho] at hh; exact hh,
      fun a c b d W k1 k2 => by have hh := implRootSolve_any R C a b n c n2 d Z Y W hn hm k1 k2; rw [ho] at hh; exact hh⟩
  | true =>
    have hle : n2 ≤ 144 := by
      have h2 := ho
      unfold rsOk at h2
      simp only [Bool.and_eq_true] at h2
      obtain ⟨r, rfl, _, _, hr, _⟩ := square_nat h2.1
      have := (fits_nat h2.2.1).1
      omega
    exact ⟨true, n2, rootY n2 Z Y, hle, fun a c b d W k1 k2 => by have hh := specRootSolve_any R C a b n c n2 d Z Y W hn hm k1 k2; rw [ho] at hh; exact hh,
      fun a c b d W k1 k2 => by have hh := implRootSolve_any R C a b n c n2 d Z Y W hn hm k1 k2; rw [ho] at hh; exact hh⟩
end Go.Proofs.Ytedfbnkdhnadeaa
