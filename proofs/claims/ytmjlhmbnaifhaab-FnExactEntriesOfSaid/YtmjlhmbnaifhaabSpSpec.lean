/- Helper: what sparse squares are valid, of the reference. Conditions: none. -/
import Derived.Test.YtmjlhmbnaifhaabSpValid
set_option linter.unusedVariables false
set_option linter.unusedSimpArgs false
namespace Go.Proofs.Ytmjlhmbnaifhaab
open Go.RowKit

theorem lastK_ge {K : Nat → Int} {S : Int} : ∀ {t : Nat}, colB K S t = true → -1 ≤ lastK K t
  | 0, _ => Int.le_refl _
  | t + 1, h => by
    simp only [colB, Bool.and_eq_true, decide_eq_true_eq] at h
    have := lastK_ge h.1
    show -1 ≤ K t
    omega
theorem inB_dec (x a b : Int) : inB x a b = (decide (a ≤ x) && decide (x ≤ b)) := by unfold inB; first | rfl | (cases h : decide (a ≤ x) <;> simp_all)
theorem colB_step {K : Nat → Int} {S : Int} {t : Nat} (h : colB K S t = true) (h1 : lastK K t < K t) (h2 : K t < S) : colB K S (t + 1) = true := by
  simp only [colB, h, decide_eq_true h1, decide_eq_true h2, Bool.and_self]
set_option maxRecDepth 20000 in
set_option maxHeartbeats 4000000 in
theorem specSp_hd (p : Nat) (S : Int) (a1 a2 a3 : Option Addr) (n1 c1 n2 c2 n3 c3 : Nat) (Z : Nat → Nat) (w : World) (h1 : n1 ≤ 1048576) (h2 : n2 ≤ 1048576) (h3 : n3 ≤ 1048576) (hX : BoxL w p [.int .i64 S, .slice a1 n1 c1, .slice a2 n2 c2, .slice a3 n3 c3]) (hF : FS .f32 w a3 n3 c3 Z) (hh : (hdS S n1 n2 n3 && allFin (vals Z) n3) = false) :
    Calls Try.prog 39 #[.pointer (some ⟨p, 0, none⟩)] w fun e w' => e = .returned (.bool false) ∧ Below w.heap.size w w' := by
  have x0 := hX 0 _ rfl
  have x1 := hX 1 _ rfl
  have x2 := hX 2 _ rfl
  have x3 := hX 3 _ rfl
  have hIn : ∀ k, Calls Try.prog 40 #[.int .i64 S, .int .i64 1, .int .i64 32] (w.drewN k) (fun e w' => e = .returned (.bool (inB S 1 32)) ∧ ∃ q, w' = (w.drewN k).drewN q) := fun k => (l00In_any S 1 32 _).mono fun e w' hh => ⟨hh.1, 0, hh.2.symm⟩
  have hFi : ∀ k, Calls Try.prog 63 #[.slice a3 n3 c3] (w.drewN k) (fun e w' => e = .returned (.bool (allFin (vals Z) n3)) ∧ ∃ q, w' = (w.drewN k).drewN q) := fun k => specFin_any a3 n3 c3 Z _ h3 (FS.drewN hF)
  rw [inB_dec] at hIn
  cases hs : sideS S with
  | false =>
    unfold sideS at hs
    rw [hs] at hIn
    clear hs hh hFi
    go_enter Try.func39, Try.ntmps39
    go_wp2
    go_quiet (first | (go_at_call 40; with_reducible exact Calls.quiet_of (hIn _)))
    go_wp2
    go_ret
    exact ⟨rfl, (by repeat first | (with_reducible exact Below.refl _ _) | (with_reducible refine Below.setCell ?_ (by first | exact Nat.le_refl _ | (simp; done) | (simp; omega) | omega) _) | (with_reducible refine Below.alloc ?_ (by first | exact Nat.le_refl _ | (simp; done) | (simp; omega) | omega) _) | (with_reducible refine below_drewN ?_ _) | (with_reducible refine Below.drew ?_))⟩
  | true =>
    obtain ⟨s, rfl, k1, k32⟩ : ∃ s : Nat, S = s ∧ 1 ≤ s ∧ s ≤ 32 := by
      have q := hs
      unfold sideS at q
      simp only [Bool.and_eq_true, decide_eq_true_eq] at q
      exact ⟨S.toNat, by omega, by omega, by omega⟩
    have hs' := hs
    unfold sideS at hs'
    rw [hs'] at hIn
    obtain ⟨m1, hm1⟩ : ∃ m, m = s + 1 := ⟨_, rfl⟩
    have hsum : IntKind.i64.wrap ((s : Int) + 1) = (m1 : Int) := by
      have e : (s : Int) + 1 = (m1 : Int) := by omega
      rw [e]; exact IntWalk.i64_in _ (by omega)
    by_cases e1 : n1 = m1
    · subst e1
      by_cases e2 : n2 ≤ 512
      · have d1 : decide ((512 : Int) < (n2 : Int)) = false := decide_eq_false (by omega)
        have d2 : decide (512 < n2) = false := decide_eq_false (by omega)
        by_cases e3 : n3 = n2
        · have hfa : allFin (vals Z) n3 = false := by
            unfold hdS at hh
            rw [hs, decide_eq_true (show (n1 : Int) = (s : Int) + 1 by omega), decide_eq_true e2, decide_eq_true e3] at hh
            simpa using hh
          rw [hfa] at hFi
          subst e3
          clear hs hs' hh hm1 hfa
          go_enter Try.func39, Try.ntmps39
          go_wp2
          go_quiet (first | (go_at_call 40; with_reducible exact Calls.quiet_of (hIn _)) | (go_at_call 63; with_reducible exact Calls.quiet_of (hFi _)))
          go_wp2
          go_ret
          exact ⟨rfl, (by repeat first | (with_reducible exact Below.refl _ _) | (with_reducible refine Below.setCell ?_ (by first | exact Nat.le_refl _ | (simp; done) | (simp; omega) | omega) _) | (with_reducible refine Below.alloc ?_ (by first | exact Nat.le_refl _ | (simp; done) | (simp; omega) | omega) _) | (with_reducible refine below_drewN ?_ _) | (with_reducible refine Below.drew ?_))⟩
        · have d3 : ((n3 : Int) != (n2 : Int)) = true := by simp only [bne_iff_ne, ne_eq]; omega
          have d4 : (n3 != n2) = true := by simp [e3]
          clear hs hs' hh hm1 hFi
          go_enter Try.func39, Try.ntmps39
          go_wp2
          go_quiet (first | (go_at_call 40; with_reducible exact Calls.quiet_of (hIn _)))
          go_wp2
          go_ret
          exact ⟨rfl, (by repeat first | (with_reducible exact Below.refl _ _) | (with_reducible refine Below.setCell ?_ (by first | exact Nat.le_refl _ | (simp; done) | (simp; omega) | omega) _) | (with_reducible refine Below.alloc ?_ (by first | exact Nat.le_refl _ | (simp; done) | (simp; omega) | omega) _) | (with_reducible refine below_drewN ?_ _) | (with_reducible refine Below.drew ?_))⟩
      · have d1 : decide ((512 : Int) < (n2 : Int)) = true := decide_eq_true (by omega)
        have d2 : decide (512 < n2) = true := decide_eq_true (by omega)
        clear hs hs' hh hm1 hFi
        go_enter Try.func39, Try.ntmps39
        go_wp2
        go_quiet (first | (go_at_call 40; with_reducible exact Calls.quiet_of (hIn _)))
        go_wp2
        go_ret
        exact ⟨rfl, (by repeat first | (with_reducible exact Below.refl _ _) | (with_reducible refine Below.setCell ?_ (by first | exact Nat.le_refl _ | (simp; done) | (simp; omega) | omega) _) | (with_reducible refine Below.alloc ?_ (by first | exact Nat.le_refl _ | (simp; done) | (simp; omega) | omega) _) | (with_reducible refine below_drewN ?_ _) | (with_reducible refine Below.drew ?_))⟩
    · have d3 : ((n1 : Int) != (m1 : Int)) = true := by simp only [bne_iff_ne, ne_eq]; omega
      have d4 : (n1 != m1) = true := by simp [e1]
      clear hs hs' hh hm1 hFi
      go_enter Try.func39, Try.ntmps39
      go_wp2
      go_quiet (first | (go_at_call 40; with_reducible exact Calls.quiet_of (hIn _)))
      go_wp2
      go_ret
      exact ⟨rfl, (by repeat first | (with_reducible exact Below.refl _ _) | (with_reducible refine Below.setCell ?_ (by first | exact Nat.le_refl _ | (simp; done) | (simp; omega) | omega) _) | (with_reducible refine Below.alloc ?_ (by first | exact Nat.le_refl _ | (simp; done) | (simp; omega) | omega) _) | (with_reducible refine below_drewN ?_ _) | (with_reducible refine Below.drew ?_))⟩
set_option maxRecDepth 20000 in
set_option maxHeartbeats 4000000 in
theorem specSp_yes (p s n1 n2 b1 o1 c1 c2 c3 : Nat) (a2 a3 : Option Addr) (O K : Nat → Int) (Z : Nat → Nat) (w : World) (k1 : 1 ≤ s) (k32 : s ≤ 32) (hn1 : n1 = s + 1) (hn2 : n2 ≤ 512) (hp : p < w.heap.size) (hX : BoxL w p [.int .i64 (s : Int), .slice (some ⟨b1, o1, none⟩) n1 c1, .slice a2 n2 c2, .slice a3 n2 c3]) (h1 : IS .i64 w (some ⟨b1, o1, none⟩) n1 c1 O) (h2 : IS .i64 w a2 n2 c2 K) (h3 : FS .f32 w a3 n2 c3 Z) (hfa : allFin (vals Z) n2 = true) :
    Calls Try.prog 39 #[.pointer (some ⟨p, 0, none⟩)] w fun e w' => e = .returned (.bool (spB s n1 n2 n2 O K (vals Z))) ∧ Below w.heap.size w w' := by
  have hsd : sideS (s : Int) = true := by unfold sideS; rw [decide_eq_true (by omega), decide_eq_true (by omega)]; rfl
  have hhd : hdS (s : Int) n1 n2 n2 = true := by unfold hdS; rw [hsd, decide_eq_true (by omega), decide_eq_true hn2, decide_eq_true rfl]; rfl
  have hsum : IntKind.i64.wrap ((s : Int) + 1) = (n1 : Int) := by
    have e : (s : Int) + 1 = (n1 : Int) := by omega
    rw [e]; exact IntWalk.i64_in _ (by omega)
  have HSP : Hid (∀ v, (decide (O 0 = 0) && (decide (O s = (n2 : Int)) && (sortB O s && rowsB O K s s))) = v → spB s n1 n2 n2 O K (vals Z) = v) := Lib.hid (fun v hv => by unfold spB; rw [hhd, hfa, Int.toNat_natCast]; exact hv)
  have d1 : decide ((512 : Int) < (n2 : Int)) = false := decide_eq_false (by omega)
  have d2 : decide (512 < n2) = false := decide_eq_false (by omega)
  have hIn : ∀ k, Calls Try.prog 40 #[.int .i64 (s : Int), .int .i64 1, .int .i64 32] (w.drewN k) (fun e w' => e = .returned (.bool (inB s 1 32)) ∧ ∃ q, w' = (w.drewN k).drewN q) := fun k => (l00In_any _ 1 32 _).mono fun e w' hh => ⟨hh.1, 0, hh.2.symm⟩
  have hFi : ∀ k, Calls Try.prog 63 #[.slice a3 n2 c3] (w.drewN k) (fun e w' => e = .returned (.bool (allFin (vals Z) n2)) ∧ ∃ q, w' = (w.drewN k).drewN q) := fun k => specFin_any a3 n2 c3 Z _ (by omega) (FS.drewN h3)
  rw [hfa] at hFi
  unfold sideS at hsd
  rw [inB_dec, hsd] at hIn
  have x0 := hX 0 _ rfl
  have x1 := hX 1 _ rfl
  have x2 := hX 2 _ rfl
  have x3 := hX 3 _ rfl
  obtain ⟨b', off', e, hl0, hc0, _⟩ := h1.at (show 0 < n1 by omega)
  simp only [Option.some.injEq, Addr.mk.injEq, and_true] at e
  obtain ⟨rfl, rfl⟩ := e
  obtain ⟨b', off', e, hls, hcs, _⟩ := h1.at (show s < n1 by omega)
  simp only [Option.some.injEq, Addr.mk.injEq, and_true] at e
  obtain ⟨rfl, rfl⟩ := e
  rw [Nat.add_zero] at hc0
  have hsn : s < n1 := by omega
  have hs0 : 0 < n1 := by omega
  have hN1 := Lib.hid hn1
  clear hhd hn1 hfa hsd hl0 hls
  by_cases z0 : O 0 = 0
  · by_cases zs : O s = (n2 : Int)
    · rw [z0] at hc0
      rw [zs] at hcs
      go_enter Try.func39, Try.ntmps39
      go_wp2
      go_quiet (first | (go_at_call 40; with_reducible exact Calls.quiet_of (hIn _)) | (go_at_call 63; with_reducible exact Calls.quiet_of (hFi _)))
      clear hIn hFi hsum d1 d2
      go_wp2
      go_quiet (fail)
      go_wp2
      clear x0 x1 x2 x3 hc0 hcs
      go_loopw [4] (fun i wr => ∃ j m : Nat, j ≤ s ∧ i = .int .i64 (j : Int) ∧ sortB O j = true ∧ rowsB O K s j = true ∧ O j ≤ (n2 : Int) ∧ wr = w.drewN m) (fun i _ => s - (intOf i).toNat)
      case atStart => exact ⟨0, _, Nat.zero_le _, rfl, rfl, rfl, by rw [z0]; omega, World.drewN_drewN _ _ _⟩
      case round =>
        obtain ⟨j, m0, hj, rfl, hso, hr, hjn, hwr⟩ := hrel
        have HSO := Lib.hid hso
        have HR := Lib.hid hr
        have Br : Below w.heap.size w wr := by rw [hwr]; exact below_drewN (Below.refl _ _) _
        have HW := Lib.hid hwr
        have XR := hX.below Br hp
        have F1 := h1.below Br (Nat.le_refl _)
        have F2 := h2.below Br (Nat.le_refl _)
        have y0 := XR 0 _ rfl
        have y1 := XR 1 _ rfl
        have y2 := XR 2 _ rfl
        have hOj : 0 ≤ O j := by have := sortB_le HSO.out (i := 0) (d := j) (by omega); rw [Nat.zero_add, z0] at this; exact this
        clear hso hr hwr
        by_cases hlt : j < s
        · obtain ⟨A, hA⟩ : ∃ A : Nat, O j = (A : Int) := ⟨(O j).toNat, by omega⟩
          obtain ⟨j1, hj1e⟩ : ∃ j1, j1 = j + 1 := ⟨_, rfl⟩
          have hj1 : j < n1 := by omega
          have hj2 : j1 < n1 := by have := hN1.out; omega
          have hsj : IntKind.i64.wrap ((j : Int) + 1) = (j1 : Int) := by
            have e : (j : Int) + 1 = (j1 : Int) := by omega
            rw [e]; exact IntWalk.i64_in _ (by omega)
          obtain ⟨b', off', e, _, hcA, _⟩ := F1.at hj1
          simp only [Option.some.injEq, Addr.mk.injEq, and_true] at e
          obtain ⟨rfl, rfl⟩ := e
          obtain ⟨b', off', e, _, hcE, _⟩ := F1.at hj2
          simp only [Option.some.injEq, Addr.mk.injEq, and_true] at e
          obtain ⟨rfl, rfl⟩ := e
          rw [hA] at hcA
          have HJ := Lib.hid hj1e
          have HA := Lib.hid hA
          have hAn : A ≤ n2 := by omega
          by_cases hE1 : O j1 < O j
          · have hfin : Hid (spB s n1 n2 n2 O K (vals Z) = false) := Lib.hid (HSP.out _ (by rw [sortB_no (t := j) hlt (by rw [← hj1e]; omega)]; simp))
            have q1 : decide (O j1 < (A : Int)) = true := decide_eq_true (by omega)
            clear hE1 hA hj1e hjn hOj z0 zs
            generalize O j1 = xE at hcE q1
            go_wp2
            go_quiet (fail)
            go_wp2
            go_ret
            exact ⟨by rw [hfin.out]; first | done | rfl, (by repeat first | (with_reducible exact Br) | (with_reducible refine Below.setCell ?_ (by first | exact Nat.le_refl _ | (simp; done) | (simp; omega) | omega) _) | (with_reducible refine Below.alloc ?_ (by first | exact Nat.le_refl _ | (simp; done) | (simp; omega) | omega) _) | (with_reducible refine below_drewN ?_ _) | (with_reducible refine Below.drew ?_))⟩
          · by_cases hE2 : (n2 : Int) < O j1
            · have hfin : Hid (spB s n1 n2 n2 O K (vals Z) = false) := Lib.hid (HSP.out _ (by
                cases hq : sortB O s with
                | false => simp
                | true =>
                  have := sortB_le hq (i := j1) (d := s - j1) (by omega)
                  rw [show j1 + (s - j1) = s by omega, zs] at this
                  omega))
              have q1 : decide (O j1 < (A : Int)) = false := decide_eq_false (by omega)
              have q2 : decide ((n2 : Int) < O j1) = true := decide_eq_true hE2
              clear hE1 hE2 hA hj1e hjn hOj z0 zs
              generalize O j1 = xE at hcE q1 q2
              go_wp2
              go_quiet (fail)
              go_wp2
              go_ret
              exact ⟨by rw [hfin.out]; first | done | rfl, (by repeat first | (with_reducible exact Br) | (with_reducible refine Below.setCell ?_ (by first | exact Nat.le_refl _ | (simp; done) | (simp; omega) | omega) _) | (with_reducible refine Below.alloc ?_ (by first | exact Nat.le_refl _ | (simp; done) | (simp; omega) | omega) _) | (with_reducible refine below_drewN ?_ _) | (with_reducible refine Below.drew ?_))⟩
            · obtain ⟨E, hE⟩ : ∃ E : Nat, O j1 = (E : Int) := ⟨(O j1).toNat, by omega⟩
              have hAE : A ≤ E := by omega
              have hEn : E ≤ n2 := by omega
              have hsnext : Hid (sortB O (j + 1) = true ∧ O (j + 1) ≤ (n2 : Int)) := Lib.hid (by
                rw [← hj1e]
                refine ⟨?_, by omega⟩
                rw [hj1e]
                simp only [sortB, HSO.out, Bool.true_and]
                rw [← hj1e]
                exact decide_eq_true (by omega))
              have hcol : Hid (∀ v, colB (fun t => K (A + t)) s (E - A) = v ↔ colB (fun t => K ((O j).toNat + t)) s ((O (j + 1)).toNat - (O j).toNat) = v) := Lib.hid (fun v => by rw [← hj1e, hA, hE, Int.toNat_natCast, Int.toNat_natCast])
              have HE := Lib.hid hE
              rw [hE] at hcE
              have hnx : Hid (colB (fun t => K (A + t)) s (E - A) = true → rowsB O K s (j + 1) = true) := Lib.hid (fun q => by simp only [rowsB, HR.out, Bool.true_and]; exact (hcol.out _).1 q)
              have hno : Hid (colB (fun t => K (A + t)) s (E - A) = false → spB s n1 n2 n2 O K (vals Z) = false) := Lib.hid (fun q => HSP.out _ (by rw [rowsB_no hlt ((hcol.out _).1 q)]; simp))
              have q1 : decide ((E : Int) < (A : Int)) = false := decide_eq_false (by omega)
              have q1n : decide (E < A) = false := decide_eq_false (by omega)
              have q2 : decide ((n2 : Int) < (E : Int)) = false := decide_eq_false (by omega)
              have q2n : decide (n2 < E) = false := decide_eq_false (by omega)
              clear hE1 hE2 hA hE hj1e hjn hOj
              go_wp2
              go_quiet (fail)
              go_wp2
              clear q1 q1n q2 q2n y0 y1 y2 hcA hcE
              obtain ⟨wo, hwo⟩ : ∃ wo, wo = wr := ⟨_, rfl⟩
              subst hwo
              go_loopw [5] (fun i wr2 => ∃ t m : Nat, t ≤ E - A ∧ i = .int .i64 ((A + t : Nat) : Int) ∧ colB (fun t => K (A + t)) s t = true ∧ wr2 = wo.drewN m) (fun i _ => E - (intOf i).toNat)
              case atStart => exact ⟨0, _, Nat.zero_le _, rfl, rfl, rfl⟩
              case round =>
                obtain ⟨t, m2, ht, rfl, hc, hwr2⟩ := hrel
                have Br2 : Below wo.heap.size wo wr := by rw [hwr2]; exact below_drewN (Below.refl _ _) _
                have HW2 := Lib.hid hwr2
                have hpo : p < wo.heap.size := Nat.lt_of_lt_of_le hp Br.size
                have XR2 := XR.below Br2 hpo
                have BRR := Br.trans (Br2.mono Br.size)
                have G1 := F1.below Br2 (Nat.le_refl _)
                have G2 := F2.below Br2 (Nat.le_refl _)
                have y0 := XR2 0 _ rfl
                have y1 := XR2 1 _ rfl
                have y2 := XR2 2 _ rfl
                obtain ⟨b', off', e, _, hcA, _⟩ := G1.at hj1
                simp only [Option.some.injEq, Addr.mk.injEq, and_true] at e
                obtain ⟨rfl, rfl⟩ := e
                obtain ⟨b', off', e, _, hcE, _⟩ := G1.at hj2
                simp only [Option.some.injEq, Addr.mk.injEq, and_true] at e
                obtain ⟨rfl, rfl⟩ := e
                rw [HA.out] at hcA
                rw [HE.out] at hcE
                have HC := Lib.hid hc
                have hlast := lastK_ge hc
                clear hc hwr2 Br2 hpo
                by_cases hlt2 : t < E - A
                · obtain ⟨kk, hkk⟩ : ∃ kk, kk = A + t := ⟨_, rfl⟩
                  rw [← hkk]
                  have hkn : kk < n2 := by omega
                  obtain ⟨b2, o2, q, _, hck, _⟩ := G2.at hkn
                  have hkE : kk < E := by omega
                  have hd1 : decide ((kk : Int) < (E : Int)) = true := decide_eq_true (by omega)
                  have hd2 : decide (kk < E) = true := decide_eq_true hkE
                  obtain ⟨s1, hs1⟩ : ∃ s1, s1 + 1 = s := ⟨s - 1, by omega⟩
                  have hsub : IntKind.i64.wrap ((s : Int) - 1) = (s1 : Int) := by
                    have e : (s : Int) - 1 = (s1 : Int) := by omega
                    rw [e]; exact IntWalk.i64_in _ (by omega)
                  have hIn2 : ∀ k, Calls Try.prog 40 #[.int .i64 (K kk), .int .i64 0, .int .i64 (s1 : Int)] (wr.drewN k) (fun e w' => e = .returned (.bool (inB (K kk) 0 s1)) ∧ ∃ q, w' = (wr.drewN k).drewN q) := fun k => (l00In_any _ 0 s1 _).mono fun e w' hh => ⟨hh.1, 0, hh.2.symm⟩
                  have HKK := Lib.hid hkk
                  by_cases hin : 0 ≤ K kk ∧ K kk < (s : Int)
                  · have hbin : inB (K kk) 0 s1 = true := by rw [inB_dec, decide_eq_true hin.1, decide_eq_true (by omega)]; rfl
                    rw [hbin] at hIn2
                    cases t with
                    | zero =>
                      have hnext : Hid (colB (fun t => K (A + t)) s (0 + 1) = true) := Lib.hid (colB_step (K := fun t => K (A + t)) rfl (show (-1 : Int) < K (A + 0) by rw [← hkk]; omega) (show K (A + 0) < (s : Int) by rw [← hkk]; exact hin.2))
                      have hq : decide ((A : Int) < (kk : Int)) = false := decide_eq_false (by omega)
                      have hqn : decide (A < kk) = false := decide_eq_false (by omega)
                      subst q
                      clear hin hlast hbin hs1
                      generalize K kk = x at hck hIn2
                      clear hkk
                      go_wp2
                      go_quiet (first | (go_at_call 40; with_reducible exact Calls.quiet_of (hIn2 _)))
                      clear hsj hsub
                      go_wp2
                      go_roundw
                      case rel => exact ⟨0 + 1, _, by omega, by rw [HKK.out]; go_num, hnext.out, by rw [HW2.out]; exact World.drewN_drewN _ _ _⟩
                      case measure => simp [intOf]; omega
                    | succ t =>
                      obtain ⟨k0, hk0⟩ : ∃ k0, k0 = A + t := ⟨_, rfl⟩
                      obtain ⟨b3, o3, q3, _, hc0, _⟩ := G2.at (show k0 < n2 by omega)
                      have hsk : IntKind.i64.wrap ((kk : Int) - 1) = (k0 : Int) := by
                        have e : (kk : Int) - 1 = (k0 : Int) := by omega
                        rw [e]; exact IntWalk.i64_in _ (by omega)
                      have hk0n : k0 < n2 := by omega
                      have hq : decide ((A : Int) < (kk : Int)) = true := decide_eq_true (by omega)
                      have hqn : decide (A < kk) = true := decide_eq_true (by omega)
                      have hlk : lastK (fun t => K (A + t)) (t + 1) = K k0 := by rw [hk0]; rfl
                      subst q
                      simp only [Option.some.injEq, Addr.mk.injEq, and_true] at q3
                      obtain ⟨rfl, rfl⟩ := q3
                      by_cases hle : K kk ≤ K k0
                      · have hfin : Hid (spB s n1 n2 n2 O K (vals Z) = false) := Lib.hid (hno.out (colB_no hlt2 (by rw [hlk, ← hkk]; omega)))
                        have hdl : decide (K kk ≤ K k0) = true := decide_eq_true hle
                        clear hin hlast hbin hs1 hle hlk
                        generalize K kk = x at hck hIn2 hdl
                        generalize K k0 = x0 at hc0 hdl
                        clear hkk hk0
                        go_wp2
                        go_quiet (first | (go_at_call 40; with_reducible exact Calls.quiet_of (hIn2 _)))
                        go_wp2
                        go_ret
                        exact ⟨by rw [hfin.out]; first | done | rfl, (by repeat first | (with_reducible exact BRR) | (with_reducible refine Below.setCell ?_ (by first | exact Nat.le_refl _ | (simp; done) | (simp; omega) | omega) _) | (with_reducible refine Below.alloc ?_ (by first | exact Nat.le_refl _ | (simp; done) | (simp; omega) | omega) _) | (with_reducible refine below_drewN ?_ _) | (with_reducible refine Below.drew ?_))⟩
                      · have hnext : Hid (colB (fun t => K (A + t)) s (t + 1 + 1) = true) := Lib.hid (by
                          have h0 := HC.out
                          show (colB (fun t => K (A + t)) s (t + 1) && (decide (lastK (fun t => K (A + t)) (t + 1) < K (A + (t + 1))) && decide (K (A + (t + 1)) < (s : Int)))) = true
                          rw [h0, hlk, ← hkk, decide_eq_true (show K k0 < K kk by omega), decide_eq_true hin.2]; rfl)
                        have hdl : decide (K kk ≤ K k0) = false := decide_eq_false hle
                        clear hin hlast hbin hs1 hle hlk
                        generalize K kk = x at hck hIn2 hdl
                        generalize K k0 = x0 at hc0 hdl
                        clear hkk hk0
                        go_wp2
                        go_quiet (first | (go_at_call 40; with_reducible exact Calls.quiet_of (hIn2 _)))
                        clear hsj hsub hsk
                        go_wp2
                        go_roundw
                        case rel => exact ⟨t + 1 + 1, _, by omega, by rw [HKK.out]; go_num, hnext.out, by rw [HW2.out]; exact World.drewN_drewN _ _ _⟩
                        case measure => simp [intOf]; omega
                  · have hbin : inB (K kk) 0 s1 = false := by
                      rw [inB_dec]
                      by_cases h0 : 0 ≤ K kk
                      · rw [decide_eq_false (show ¬ K kk ≤ (s1 : Int) by omega)]; simp
                      · rw [decide_eq_false h0]; rfl
                    rw [hbin] at hIn2
                    have hfin : Hid (spB s n1 n2 n2 O K (vals Z) = false) := Lib.hid (hno.out (colB_no hlt2 (by rw [← hkk]; omega)))
                    subst q
                    clear hin hlast hbin hs1
                    generalize K kk = x at hck hIn2
                    clear hkk
                    go_wp2
                    go_quiet (first | (go_at_call 40; with_reducible exact Calls.quiet_of (hIn2 _)))
                    go_wp2
                    go_ret
                    exact ⟨by rw [hfin.out]; first | done | rfl, (by repeat first | (with_reducible exact BRR) | (with_reducible refine Below.setCell ?_ (by first | exact Nat.le_refl _ | (simp; done) | (simp; omega) | omega) _) | (with_reducible refine Below.alloc ?_ (by first | exact Nat.le_refl _ | (simp; done) | (simp; omega) | omega) _) | (with_reducible refine below_drewN ?_ _) | (with_reducible refine Below.drew ?_))⟩
                · obtain rfl : t = E - A := by omega
                  have hkE : A + (E - A) = E := by omega
                  rw [hkE]
                  have hrow := Lib.hid (hnx.out HC.out)
                  have hd1 : decide ((E : Int) < (E : Int)) = false := decide_eq_false (by omega)
                  clear hlast
                  go_wp2
                  clear hsj
                  go_wp2
                  go_roundw
                  case rel => exact ⟨j + 1, _, by omega, by rw [HJ.out], hsnext.out.1, hrow.out, hsnext.out.2, by rw [HW2.out, HW.out]; exact World.drewN_drewN _ _ _⟩
                  case measure => have := HJ.out; simp [intOf]; omega
        · obtain rfl : j = s := by omega
          have hfin : Hid (spB j n1 n2 n2 O K (vals Z) = true) := Lib.hid (HSP.out _ (by rw [HSO.out, HR.out, decide_eq_true z0, decide_eq_true zs]; rfl))
          clear z0 zs hjn hOj
          go_wp2
          go_ret
          exact ⟨by rw [hfin.out]; first | done | rfl, (by repeat first | (with_reducible exact Br) | (with_reducible refine Below.setCell ?_ (by first | exact Nat.le_refl _ | (simp; done) | (simp; omega) | omega) _) | (with_reducible refine Below.alloc ?_ (by first | exact Nat.le_refl _ | (simp; done) | (simp; omega) | omega) _) | (with_reducible refine below_drewN ?_ _) | (with_reducible refine Below.drew ?_))⟩
    · have hfin : Hid (spB s n1 n2 n2 O K (vals Z) = false) := Lib.hid (HSP.out _ (by rw [decide_eq_false zs]; simp))
      have d3 : (O s != (n2 : Int)) = true := by simp [zs]
      rw [z0] at hc0
      generalize O s = xs at hcs d3
      clear z0 zs
      go_enter Try.func39, Try.ntmps39
      go_wp2
      go_quiet (first | (go_at_call 40; with_reducible exact Calls.quiet_of (hIn _)) | (go_at_call 63; with_reducible exact Calls.quiet_of (hFi _)))
      clear hIn hFi hsum d1 d2
      go_wp2
      go_quiet (fail)
      go_wp2
      go_ret
      exact ⟨by rw [hfin.out]; first | done | rfl, (by repeat first | (with_reducible exact Below.refl _ _) | (with_reducible refine Below.setCell ?_ (by first | exact Nat.le_refl _ | (simp; done) | (simp; omega) | omega) _) | (with_reducible refine Below.alloc ?_ (by first | exact Nat.le_refl _ | (simp; done) | (simp; omega) | omega) _) | (with_reducible refine below_drewN ?_ _) | (with_reducible refine Below.drew ?_))⟩
  · have hfin : Hid (spB s n1 n2 n2 O K (vals Z) = false) := Lib.hid (HSP.out _ (by rw [decide_eq_false z0]; simp))
    have d3 : (O 0 != 0) = true := by simp [z0]
    generalize O 0 = x0' at hc0 d3
    clear z0
    go_enter Try.func39, Try.ntmps39
    go_wp2
    go_quiet (first | (go_at_call 40; with_reducible exact Calls.quiet_of (hIn _)) | (go_at_call 63; with_reducible exact Calls.quiet_of (hFi _)))
    clear hIn hFi hsum d1 d2
    go_wp2
    go_quiet (fail)
    go_wp2
    go_ret
    exact ⟨by rw [hfin.out]; first | done | rfl, (by repeat first | (with_reducible exact Below.refl _ _) | (with_reducible refine Below.setCell ?_ (by first | exact Nat.le_refl _ | (simp; done) | (simp; omega) | omega) _) | (with_reducible refine Below.alloc ?_ (by first | exact Nat.le_refl _ | (simp; done) | (simp; omega) | omega) _) | (with_reducible refine below_drewN ?_ _) | (with_reducible refine Below.drew ?_))⟩
end Go.Proofs.Ytmjlhmbnaifhaab
