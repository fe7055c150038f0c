/- Helper: triangles that are solved, of the reference. Conditions: none. -/
import Derived.Test.YtcibjkadlndejaaUp
set_option linter.unusedVariables false
set_option linter.unusedSimpArgs false
namespace Go.Proofs.Ytcibjkadlndejaa
open Go.RowKit

theorem specList_yes (a : Option Addr) (n c : Nat) (X : Nat → Nat) (w : World) (hn : n ≤ 1048576) (f : FS .f32 w a n c X) (hf : allFin (vals X) n = true) : Calls Try.prog 97 #[.slice a n c] w fun e w' => e = .returned (.tuple #[.slice a n c, .bool true]) ∧ ∃ m, w' = w.drewN m := by
  go_enter Try.func97, Try.ntmps97
  go_wp2_with fail
  go_at_call 54
  refine (specFin_any a n c X _ hn f).mono ?_
  rintro e w4 ⟨rfl, m4, rfl⟩
  go_wp2_with fail
  go_ret2
  exact ⟨rfl, _, rfl⟩
theorem specList_no (a : Option Addr) (n c : Nat) (X : Nat → Nat) (w : World) (hn : n ≤ 1048576) (f : FS .f32 w a n c X) (hf : allFin (vals X) n = false) : Calls Try.prog 97 #[.slice a n c] w fun e w' => e = .returned (.tuple #[.slice none 0 0, .bool false]) ∧ ∃ m, w' = w.drewN m := by
  go_enter Try.func97, Try.ntmps97
  go_wp2_with fail
  go_at_call 54
  refine (specFin_any a n c X _ hn f).mono ?_
  rintro e w4 ⟨rfl, m4, rfl⟩
  go_wp2_with fail
  go_ret2
  exact ⟨rfl, _, rfl⟩
set_option maxRecDepth 20000 in
set_option maxHeartbeats 1000000 in
theorem l03Upper_any (p n N b off cap p2 o2 d : Nat) (Z Y : Nat → Nat) (w : World) (h1 : 1 ≤ n) (h12 : n ≤ 12) (hN : N = n * n) (hp : p < w.heap.size) (hbx : Box w p n n (some ⟨b, off, none⟩) N cap)
    (h : FS .f32 w (some ⟨b, off, none⟩) N cap Z) (h2 : FS .f32 w (some ⟨p2, o2, none⟩) n d Y) :
    Calls Try.prog 86 #[.pointer (some ⟨p, 0, none⟩), .slice (some ⟨p2, o2, none⟩) n d] w (NBelIf (!anyZ (fun i => sq n Z i i) n && allFin (upY (sq n Z) true n (vals Y) n) n) n (upY (sq n Z) true n (vals Y) n) w) := by
  obtain ⟨i0, hi, hz0, hz1, hz2⟩ := info_parts info32
  have c0 : cn .f32 0 = some 0 := by kernel_rfl
  have hN' := Lib.hid hN
  have hN144 : N ≤ 144 := by have := sides_le h12 h12; omega
  have hcell := Lib.hid (cells32_cell h2)
  have hwf : Hid (∀ j, j < n → (Lit.float .f32 (Y j)).wf = true) := Lib.hid fun j hj => (h2.at hj).elim fun _ q => q.elim fun _ q => q.2.2.2.2
  obtain ⟨_, _, e, hbl2, _, _⟩ := h2.at (show 0 < n by omega)
  simp only [Option.some.injEq, Addr.mk.injEq, and_true] at e
  obtain ⟨rfl, rfl⟩ := e
  obtain ⟨_, _, e, hbl, _, _⟩ := h.at (show 0 < N by rw [hN]; exact Nat.mul_pos h1 h1)
  simp only [Option.some.injEq, Addr.mk.injEq, and_true] at e
  obtain ⟨rfl, rfl⟩ := e
  obtain ⟨UU, hUU⟩ : ∃ UU, UU = upY (sq n Z) true n (vals Y) := ⟨_, rfl⟩
  rw [← hUU]
  have hU := Lib.hid hUU
  have hbx' := hbx
  obtain ⟨x0, x1, x2⟩ := hbx'
  clear hN hUU
  go_enter Try.func86, Try.ntmps86
  go_wp2_with (at_builtin; refine wpList_append_own _ rfl _ _ 22 rfl w.heap.size 41 i0 (.float .f32 0) 1 4 Try.underlying22 hi hz0 hz1 hz2 rfl (by decide) _ _ _ rfl (World.ownsRow_made w #[] 0 (Nat.le_refl _) (Nat.zero_le _) (by simp)) ⟨p2, o2, none⟩ n d (cellsOf32 Y n) rfl ?qc1 ?qc2 ?qc3 ?qc4 ?qc5 ?qc6 ?_)
  case qc1 => rw [cells32_len]; omega
  case qc2 =>
    intro j u hj
    rw [Addr.add_lit]
    exact Lib.cell?_alloc_some _ (hcell.out j u hj)
  case qc3 => exact cells32_one
  case qc4 => rw [Nat.zero_add]; unfold maxLen; omega
  case qc5 => rw [Nat.zero_add]; omega
  case qc6 => simp
  intro v' w1 hown hgrow hnil
  have hown2 : w1.ownsRow w.heap.size 41 1 v' n (cellsOf32 Y n) := by simpa using hown
  obtain ⟨g, dx, rfl, o1, hBg, hgU⟩ := own_of_row (Z := Y) hown2 (by omega) (fun j hj => cells32_at hj) hwf.out
  have B1 : Below w.heap.size w w1 := ((Below.refl _ w).alloc (Nat.le_refl _) _).grown hgrow (by simp) (by intro k hk; simp [Value.ownBlock] at hk; omega)
  have hdx1 := (Own.fs o1).1
  have hdx2 := (Own.fs o1).2.1
  have hdx3 : dx ≤ 9223372036854775807 := by unfold maxLen at hdx2; omega
  have f1 := h.below B1 (Nat.le_refl _)
  have f2 := h2.below B1 (Nat.le_refl _)
  have X1 := hbx.below B1 hp
  have hs1 := B1.size
  clear hown hgrow hnil hown2 h h2 hbx x0 x1 x2
  go_wp2
  go_loopw [8] (fun i wr => ∃ (j : Nat) (X : Nat → Nat), j ≤ n ∧ i = .int .i64 ((n : Int) - 1 - j) ∧ Own 41 .f32 w.heap.size w1.heap.size wr (some ⟨g, 0, none⟩) n dx X ∧ (∀ t, t < n → vals X t = UU j t) ∧ (∀ t, t < n → n - j ≤ t → isZero (sq n Z t t) = false) ∧ w1.grownBy wr (some g)) (fun i _ => (intOf i + 1).toNat)
  case atStart => exact ⟨0, Y, Nat.zero_le _, by simp, o1, fun t ht => by rw [hU.out]; rfl, fun t ht ht2 => by omega, World.grownBy.refl _ _⟩
  case round =>
    obtain ⟨j, X, hj, rfl, ho, hv, hnz, hg⟩ := hrel
    have hv' := Lib.hid hv
    have hnz' := Lib.hid hnz
    clear hv hnz o1
    have FZ := f1.grown hg (fun q hq => by cases hq; omega)
    have FY := f2.grown hg (fun q hq => by cases hq; omega)
    have XB := X1.grown hg (by omega) (fun q hq => by cases hq; omega)
    by_cases hlt : j < n
    · obtain ⟨q, hq⟩ : ∃ q, q + (j + 1) = n := ⟨n - (j + 1), by omega⟩
      have hqi : (n : Int) - 1 - j = (q : Int) := by omega
      rw [hqi]
      have hq' : q < n := by omega
      have FX := ho.fs
      cases hz : isZero (sq n Z q q) with
      | true =>
        have hz0' : (ford .f32 (cn .f32 (Z (q * n + q))) (some 0) == some .eq) = true := hz
        have hok : Hid ((!anyZ (fun i => sq n Z i i) n && allFin (UU n) n) = false) := Lib.hid (by rw [anyZ_yes (V := fun i => sq n Z i i) hq' hz]; rfl)
        have hB := Lib.hid (B1.grown hg B1.size (fun q hq => by cases hq; exact hBg))
        clear hz ho hg
        go_wp2_with fail
        go_at_call 71
        refine (specAt_any p b off n n N cap q q Z _ h12 h12 hN'.out XB FZ hq' hq').mono ?_
        rintro e w2 ⟨rfl, m2, rfl⟩
        clear XB FZ FY FX
        go_wp2_with fail
        go_ret2
        exact NBelIf.no hok.out ⟨none, 0, fun _ => 0, rfl, ⟨Nat.le_refl _, Nat.zero_le _, fun i hi => by omega⟩, fun i hi => by omega, below_drewN hB.out _⟩
      | false =>
        have hz0' : (ford .f32 (cn .f32 (Z (q * n + q))) (some 0) == some .eq) = false := hz
        have hz' := Lib.hid hz
        clear hz
        go_wp2_with fail
        go_at_call 71
        refine (specAt_any p b off n n N cap q q Z _ h12 h12 hN'.out XB FZ hq' hq').mono ?_
        rintro e w2 ⟨rfl, m2, rfl⟩
        obtain ⟨b', off', e, hbly, hcy, hfy⟩ := FY.at hq'
        simp only [Option.some.injEq, Addr.mk.injEq, and_true] at e
        obtain ⟨rfl, rfl⟩ := e
        have hYX : Hid (cn .f32 (Y q) = vals X q) := Lib.hid (by rw [hv'.out q hq', hU.out, upY_old hj (by omega)]; rfl)
        clear hbly
        go_wp2
        obtain ⟨SS, hSS⟩ : ∃ SS, SS = cn .f32 (Y q) := ⟨_, rfl⟩
        rw [← hSS] at hfy
        go_loopw [9, 10] (fun s k wr2 => ∃ t m r : Nat, t ≤ n - (q + 1) ∧ k = .int .i64 ((q : Int) + 1 + t) ∧ s = .float .f32 r ∧ FV .f32 r (lessG SS (fun t => sq n Z q (q + 1 + t)) (fun t => vals X (q + 1 + t)) t) ∧ wr2 = wr.drewN m) (fun _ k _ => n - (intOf k).toNat)
        case atStart => exact ⟨0, _, _, Nat.zero_le _, by simp, rfl, hfy, rfl⟩
        case round =>
          obtain ⟨t, m0, r0, ht, rfl, rfl, hr0, rfl⟩ := hrel
          clear hfy
          by_cases hlt2 : t < n - (q + 1)
          · obtain ⟨k, hk⟩ : ∃ k, k = q + 1 + t := ⟨_, rfl⟩
            have hki : (q : Int) + 1 + t = (k : Int) := by omega
            rw [hki]
            have hk' : k < n := by omega
            have hkH := Lib.hid hk
            clear hk hki
            obtain ⟨b', off', e, _, hcx, hfx⟩ := FX.at hk'
            simp only [Option.some.injEq, Addr.mk.injEq, and_true] at e
            obtain ⟨rfl, rfl⟩ := e
            rw [Nat.zero_add] at hcx
            have hAt : ∀ W, (∃ k, W = (wr.drewN m0).drewN k) → Calls Try.prog 71 #[.pointer (some ⟨p, 0, none⟩), .int .i64 q, .int .i64 k] W fun e w'' => e = .returned (.float .f32 (Z (q * n + k))) ∧ ∃ k, w'' = (wr.drewN m0).drewN k := by
              rintro W ⟨k', rfl⟩
              refine (specAt_any p b off n n N cap q k Z ((wr.drewN m0).drewN k') h12 h12 hN'.out XB.drewN.drewN (FS.drewN (FS.drewN FZ)) hq' hk').mono ?_
              rintro e w2 ⟨rfl, m2, rfl⟩
              exact ⟨rfl, _, World.drewN_drewN _ _ _⟩
            obtain ⟨_, _, _, _, _, hfa⟩ := FZ.at (show q * n + k < N by rw [hN'.out]; exact place_lt hq' hk')
            have hAt' := Lib.hid hAt
            clear hAt
            go_wp2
            refine wp_region_loose (by kernel_rfl) (by kernel_rfl) ?_
            (repeat (refine wpLoose_want rfl (fun K hK => ?_); first | (refine loose_farith _ _ _ _ _ rfl rfl _ _ _ rfl rfl (by first | assumption | (with_reducible exact FV.ofInt _ _) | (with_reducible exact FV.neg (by assumption)) | exact FV.lit (by kernel_rfl) (by kernel_rfl)) (by first | assumption | (with_reducible exact FV.ofInt _ _) | (with_reducible exact FV.neg (by assumption)) | exact FV.lit (by kernel_rfl) (by kernel_rfl)) ?_; intro r hr; refine hK _ ?_; clear hK K; simp only [Act.put, List.setIfInBounds_toArray, List.set_cons_succ, List.set_cons_zero]) | (refine loose_of_quiet rfl ?_; go_big_quiet_op; refine hK _ ?_; clear hK K)))
            refine wpLoose_want rfl (fun K hK => ?_)
            apply loose_of_call (f := 71) (args := #[.pointer _, .int .i64 _, .int .i64 _]) (u := .float .f32 (Z (q * n + k))) (hi := by kernel_rfl)
            case hr =>
              intro W
              simp [go_sem, BigFrame.eval_const, BigFrame.eval_global, BigFrame.eval_func]
              repeat' (first | exact rfl | refine ⟨?_, ?_⟩)
            case hc => exact hAt'.out
            refine hK _ ?_
            clear hK K
            simp only [Act.put, List.setIfInBounds_toArray, List.set_cons_succ, List.set_cons_zero]
            (repeat (refine wpLoose_want rfl (fun K hK => ?_); first | (refine loose_farith _ _ _ _ _ rfl rfl _ _ _ rfl rfl (by first | assumption | (with_reducible exact FV.ofInt _ _) | (with_reducible exact FV.neg (by assumption)) | exact FV.lit (by kernel_rfl) (by kernel_rfl)) (by first | assumption | (with_reducible exact FV.ofInt _ _) | (with_reducible exact FV.neg (by assumption)) | exact FV.lit (by kernel_rfl) (by kernel_rfl)) ?_; intro r hr; refine hK _ ?_; clear hK K; simp only [Act.put, List.setIfInBounds_toArray, List.set_cons_succ, List.set_cons_zero]) | (refine loose_of_quiet rfl ?_; go_big_quiet_op; refine hK _ ?_; clear hK K)))
            refine wpLoose_nil ?_
            rintro _ ⟨nq, rfl⟩
            go_wp2
            go_roundw
            case rel =>
              refine ⟨t + 1, _, _, by omega, ?_, rfl, FV.of_eq (by assumption) ?_, rfl⟩
              · have hkk := hkH.out
                rw [show (k : Int) + 1 = (q : Int) + 1 + ((t + 1 : Nat) : Int) by omega]
              · have hkk := hkH.out
                subst hkk
                rfl
            case measure => simp [intOf]; omega
          · obtain rfl : t = n - (q + 1) := by omega
            have hki : (q : Int) + 1 + ((n - (q + 1) : Nat) : Int) = (n : Int) := by omega
            rw [hki]
            obtain ⟨_, _, _, _, _, hfa⟩ := FZ.at (show q * n + q < N by rw [hN'.out]; exact place_lt hq' hq')
            obtain ⟨hce, hfr, _⟩ := ho.cell hq'
            clear hki
            go_wp2_with fail
            go_at_call 71
            refine (specAt_any p b off n n N cap q q Z _ h12 h12 hN'.out XB.drewN (FS.drewN FZ) hq' hq').mono ?_
            rintro e w3 ⟨rfl, m3, rfl⟩
            have hr0' := Lib.hid hr0
            go_wp2_with (refine wpList_farith rfl _ _ _ _ _ rfl rfl _ _ _ rfl rfl hr0 hfa ?_; intro r m hr)
            obtain ⟨O4, G4⟩ := (show Own 41 .f32 w.heap.size w1.heap.size (wr.drewN (m0 + m3 + m)) (some ⟨g, 0, none⟩) n dx X from ho).stored hq' hr.2
            refine ⟨⟨j + 1, _, by omega, ?_, O4, ?_, ?_, grownBy_trans hg ⟨G4.os, G4.tape, G4.output, G4.size, G4.block⟩⟩, ?_⟩
            · rw [show (q : Int) - 1 = (n : Int) - 1 - ((j + 1 : Nat) : Int) by omega]
            · exact up_next (LL := lessG SS (fun t => sq n Z q (q + 1 + t)) (fun t => vals X (q + 1 + t)) (n - (q + 1))) hU.out hq hv'.out (by rw [hSS, hYX.out]; rfl) hr
            · intro t ht ht2
              by_cases e : t = q
              · subst e; exact hz'.out
              · exact hnz'.out t ht (by omega)
            · simp only [intOf]; omega
    · obtain rfl : j = n := by omega
      have hqi : (j : Int) - 1 - j = -1 := by omega
      rw [hqi]
      have hB := Lib.hid (B1.grown hg B1.size (fun q hq => by cases hq; exact hBg))
      have HA : anyZ (fun i => sq j Z i i) j = false := anyZ_no fun i hi => hnz'.out i hi (by omega)
      have hfin : allFin (vals X) j = allFin (UU j) j := allFin_congr hv'.out
      have FX := ho.fs
      have HA' := Lib.hid HA
      clear ho hg HA FZ FY XB
      cases hf : allFin (UU j) j with
      | true =>
        rw [hf] at hfin
        go_wp2_with fail
        go_at_call 97
        refine (specList_yes _ j dx X _ (by omega) FX hfin).mono ?_
        rintro e w2 ⟨rfl, m2, rfl⟩
        go_wp2_with fail
        go_ret2
        exact NBelIf.yes (by rw [HA'.out, hf]; rfl) ⟨_, _, X, rfl, FS.drewN FX, hv'.out, below_drewN hB.out _⟩
      | false =>
        rw [hf] at hfin
        go_wp2_with fail
        go_at_call 97
        refine (specList_no _ j dx X _ (by omega) FX hfin).mono ?_
        rintro e w2 ⟨rfl, m2, rfl⟩
        go_wp2_with fail
        go_ret2
        exact NBelIf.no (by rw [HA'.out, hf]; rfl) ⟨none, 0, fun _ => 0, rfl, ⟨Nat.le_refl _, Nat.zero_le _, fun i hi => by omega⟩, fun i hi => by omega, below_drewN hB.out _⟩
end Go.Proofs.Ytcibjkadlndejaa
