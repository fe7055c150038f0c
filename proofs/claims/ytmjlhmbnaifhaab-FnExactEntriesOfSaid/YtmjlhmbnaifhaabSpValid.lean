/- Helper: what sparse squares are valid, of the program. Conditions: none. -/
import Derived.Test.YtmjlhmbnaifhaabSpImpl
set_option linter.unusedVariables false
set_option linter.unusedSimpArgs false
namespace Go.Proofs.Ytmjlhmbnaifhaab
open Go.RowKit

def sideS (S : Int) : Bool := decide (1 ≤ S) && decide (S ≤ 32)
def hdS (S : Int) (n1 n2 n3 : Nat) : Bool := sideS S && (decide ((n1 : Int) = S + 1) && (decide (n2 ≤ 512) && decide (n3 = n2)))
def rowsB (O K : Nat → Int) (S : Int) : Nat → Bool
  | 0 => true
  | i + 1 => rowsB O K S i && colB (fun t => K ((O i).toNat + t)) S ((O (i + 1)).toNat - (O i).toNat)
theorem rowsB_lt {O K : Nat → Int} {S : Int} : ∀ {m i : Nat}, rowsB O K S m = true → i < m → colB (fun t => K ((O i).toNat + t)) S ((O (i + 1)).toNat - (O i).toNat) = true
  | 0, _, _, h => by omega
  | m + 1, i, h, hi => by
    simp only [rowsB, Bool.and_eq_true] at h
    by_cases e : i = m
    · subst e; exact h.2
    · exact rowsB_lt h.1 (by omega)
theorem rowsB_no {O K : Nat → Int} {S : Int} {m i : Nat} (hi : i < m) (h : colB (fun t => K ((O i).toNat + t)) S ((O (i + 1)).toNat - (O i).toNat) = false) : rowsB O K S m = false := by
  cases e : rowsB O K S m with
  | false => rfl
  | true => rw [rowsB_lt e hi] at h; cases h
def spB (S : Int) (n1 n2 n3 : Nat) (O K : Nat → Int) (V : Nat → Option Nat) : Bool := hdS S n1 n2 n3 && (allFin V n3 && (decide (O 0 = 0) && (decide (O S.toNat = (n2 : Int)) && (sortB O S.toNat && rowsB O K S S.toNat))))
theorem sp_hd {S : Int} {n1 n2 n3 : Nat} {O K : Nat → Int} {V : Nat → Option Nat} (h : hdS S n1 n2 n3 = false) : spB S n1 n2 n3 O K V = false := by unfold spB; rw [h]; rfl
theorem hd_nat {S : Int} {n1 n2 n3 : Nat} (h : hdS S n1 n2 n3 = true) : ∃ s : Nat, S = s ∧ 1 ≤ s ∧ s ≤ 32 ∧ n1 = s + 1 ∧ n2 ≤ 512 ∧ n3 = n2 := by
  unfold hdS sideS at h
  simp only [Bool.and_eq_true, decide_eq_true_eq] at h
  obtain ⟨⟨h1, h2⟩, h3, h4, h5⟩ := h
  exact ⟨S.toNat, by omega, by omega, by omega, by omega, h4, h5⟩
theorem IS.dropS {w : World} {b off n c i m c' : Nat} {Z : Nat → Int} (h : IS .i64 w (some ⟨b, off, none⟩) n c Z) (hi : i + m ≤ n) (hc : m ≤ c') (hm : c' ≤ maxLen) : IS .i64 w (some ⟨b, off + i, none⟩) m c' (fun t => Z (i + t)) :=
  ⟨hc, hm, fun t ht => by
    obtain ⟨b', off', e, hl, hc, hw⟩ := h.2.2 (i + t) (by omega)
    simp only [Option.some.injEq, Addr.mk.injEq, and_true] at e
    obtain ⟨rfl, rfl⟩ := e
    exact ⟨b, off + i, rfl, hl, by rw [Nat.add_assoc]; exact hc, hw⟩⟩
theorem isSparseSide_any (k : Int) (w : World) : Calls Try.prog 65 #[.int .i64 k] w fun e w' => e = .returned (.bool (sideS k)) ∧ w = w' := by
  unfold sideS
  by_cases h1 : (1 : Int) ≤ k
  · by_cases h2 : k ≤ 32
    · have d1 := decide_eq_true h1
      have d2 := decide_eq_true h2
      go_enter Try.func65, Try.ntmps65
      go_wp2
      go_ret
      exact ⟨by simp [h1, h2], rfl⟩
    · have d1 := decide_eq_true h1
      have d2 := decide_eq_false h2
      go_enter Try.func65, Try.ntmps65
      go_wp2
      go_ret
      exact ⟨by simp [h1, h2], rfl⟩
  · have d1 := decide_eq_false h1
    go_enter Try.func65, Try.ntmps65
    go_wp2
    go_ret
    exact ⟨by simp [h1], rfl⟩
set_option maxRecDepth 20000 in
set_option maxHeartbeats 1000000 in
theorem implSp_hd (S : Int) (a1 a2 a3 : Option Addr) (n1 c1 n2 c2 n3 c3 : Nat) (w : World) (h1 : n1 ≤ 1048576) (h2 : n2 ≤ 1048576) (h3 : n3 ≤ 1048576) (hh : hdS S n1 n2 n3 = false) :
    Calls Try.prog 43 #[.agg #[.int .i64 S, .slice a1 n1 c1, .slice a2 n2 c2, .slice a3 n3 c3]] w fun e w' => e = .returned (.bool false) ∧ Below w.heap.size w w' := by
  cases hs : sideS S with
  | false =>
    go_enter Try.func43, Try.ntmps43
    go_wp2_with fail
    go_at_call 65
    refine (isSparseSide_any S _).mono ?_
    rw [hs]
    rintro e w1 ⟨rfl, rfl⟩
    clear hs hh
    go_wp2_with fail
    go_ret
    exact ⟨rfl, (by repeat first | (with_reducible exact Below.refl _ _) | (with_reducible refine Below.setCell ?_ (by first | exact Nat.le_refl _ | (simp; done) | (simp; omega) | omega) _) | (with_reducible refine Below.alloc ?_ (by first | exact Nat.le_refl _ | (simp; done) | (simp; omega) | omega) _) | (with_reducible refine below_drewN ?_ _) | (with_reducible refine Below.drew ?_))⟩
  | true =>
    obtain ⟨s, rfl, k1, k32⟩ : ∃ s : Nat, S = s ∧ 1 ≤ s ∧ s ≤ 32 := by
      have q := hs
      unfold sideS at q
      simp only [Bool.and_eq_true, decide_eq_true_eq] at q
      exact ⟨S.toNat, by omega, by omega, by omega⟩
    obtain ⟨m1, hm1⟩ : ∃ m, m = s + 1 := ⟨_, rfl⟩
    have hsum : IntKind.i64.wrap ((s : Int) + 1) = (m1 : Int) := by
      have e : (s : Int) + 1 = (m1 : Int) := by omega
      rw [e]; exact IntWalk.i64_in _ (by omega)
    by_cases e1 : n1 = m1
    · subst e1
      by_cases e2 : n2 ≤ 512
      · have e3 : ¬ n3 = n2 := by
          intro e3
          unfold hdS at hh
          rw [hs, decide_eq_true (show (n1 : Int) = (s : Int) + 1 by omega), decide_eq_true e2, decide_eq_true e3] at hh
          cases hh
        have d1 : decide ((512 : Int) < (n2 : Int)) = false := decide_eq_false (by omega)
        have d2 : decide (512 < n2) = false := decide_eq_false (by omega)
        have d3 : ((n3 : Int) != (n2 : Int)) = true := by simp only [bne_iff_ne, ne_eq]; omega
        have d4 : (n3 != n2) = true := by simp [e3]
        clear hm1
        go_enter Try.func43, Try.ntmps43
        go_wp2_with fail
        go_at_call 65
        refine (isSparseSide_any _ _).mono ?_
        rw [hs]
        rintro e w1 ⟨rfl, rfl⟩
        clear hs hh
        go_wp2_with fail
        go_ret
        exact ⟨rfl, (by repeat first | (with_reducible exact Below.refl _ _) | (with_reducible refine Below.setCell ?_ (by first | exact Nat.le_refl _ | (simp; done) | (simp; omega) | omega) _) | (with_reducible refine Below.alloc ?_ (by first | exact Nat.le_refl _ | (simp; done) | (simp; omega) | omega) _) | (with_reducible refine below_drewN ?_ _) | (with_reducible refine Below.drew ?_))⟩
      · have d1 : decide ((512 : Int) < (n2 : Int)) = true := decide_eq_true (by omega)
        have d2 : decide (512 < n2) = true := decide_eq_true (by omega)
        clear hm1
        go_enter Try.func43, Try.ntmps43
        go_wp2_with fail
        go_at_call 65
        refine (isSparseSide_any _ _).mono ?_
        rw [hs]
        rintro e w1 ⟨rfl, rfl⟩
        clear hs hh
        go_wp2_with fail
        go_ret
        exact ⟨rfl, (by repeat first | (with_reducible exact Below.refl _ _) | (with_reducible refine Below.setCell ?_ (by first | exact Nat.le_refl _ | (simp; done) | (simp; omega) | omega) _) | (with_reducible refine Below.alloc ?_ (by first | exact Nat.le_refl _ | (simp; done) | (simp; omega) | omega) _) | (with_reducible refine below_drewN ?_ _) | (with_reducible refine Below.drew ?_))⟩
    · have d3 : ((n1 : Int) != (m1 : Int)) = true := by simp only [bne_iff_ne, ne_eq]; omega
      have d4 : (n1 != m1) = true := by simp [e1]
      clear hm1
      go_enter Try.func43, Try.ntmps43
      go_wp2_with fail
      go_at_call 65
      refine (isSparseSide_any _ _).mono ?_
      rw [hs]
      rintro e w1 ⟨rfl, rfl⟩
      clear hs hh
      go_wp2_with fail
      go_ret
      exact ⟨rfl, (by repeat first | (with_reducible exact Below.refl _ _) | (with_reducible refine Below.setCell ?_ (by first | exact Nat.le_refl _ | (simp; done) | (simp; omega) | omega) _) | (with_reducible refine Below.alloc ?_ (by first | exact Nat.le_refl _ | (simp; done) | (simp; omega) | omega) _) | (with_reducible refine below_drewN ?_ _) | (with_reducible refine Below.drew ?_))⟩
set_option maxRecDepth 20000 in
set_option maxHeartbeats 2000000 in
theorem implSp_yes (s n1 n2 b1 o1 c1 c2 c3 : Nat) (a2 a3 : Option Addr) (O K : Nat → Int) (Z : Nat → Nat) (w : World) (k1 : 1 ≤ s) (k32 : s ≤ 32) (hn1 : n1 = s + 1) (hn2 : n2 ≤ 512) (h1 : IS .i64 w (some ⟨b1, o1, none⟩) n1 c1 O) (h2 : IS .i64 w a2 n2 c2 K) (h3 : FS .f32 w a3 n2 c3 Z) :
    Calls Try.prog 43 #[.agg #[.int .i64 (s : Int), .slice (some ⟨b1, o1, none⟩) n1 c1, .slice a2 n2 c2, .slice a3 n2 c3]] w fun e w' => e = .returned (.bool (spB s n1 n2 n2 O K (vals Z))) ∧ Below w.heap.size w w' := by
  have hsd : sideS (s : Int) = true := by unfold sideS; rw [decide_eq_true (by omega), decide_eq_true (by omega)]; rfl
  have hhd : hdS (s : Int) n1 n2 n2 = true := by unfold hdS; rw [hsd, decide_eq_true (by omega), decide_eq_true hn2, decide_eq_true rfl]; rfl
  have hsum : IntKind.i64.wrap ((s : Int) + 1) = (n1 : Int) := by
    have e : (s : Int) + 1 = (n1 : Int) := by omega
    rw [e]; exact IntWalk.i64_in _ (by omega)
  have HSP : Hid (∀ v, (allFin (vals Z) n2 && (decide (O 0 = 0) && (decide (O s = (n2 : Int)) && (sortB O s && rowsB O K s s)))) = v → spB s n1 n2 n2 O K (vals Z) = v) := Lib.hid (fun v hv => by unfold spB; rw [hhd, Int.toNat_natCast]; exact hv)
  have d1 : decide ((512 : Int) < (n2 : Int)) = false := decide_eq_false (by omega)
  have d2 : decide (512 < n2) = false := decide_eq_false (by omega)
  obtain ⟨b', off', e, hl0, hc0, _⟩ := h1.at (show 0 < n1 by omega)
  simp only [Option.some.injEq, Addr.mk.injEq, and_true] at e
  obtain ⟨rfl, rfl⟩ := e
  obtain ⟨b', off', e, hls, hcs, _⟩ := h1.at (show s < n1 by omega)
  simp only [Option.some.injEq, Addr.mk.injEq, and_true] at e
  obtain ⟨rfl, rfl⟩ := e
  rw [Nat.add_zero] at hc0
  have hsn : s < n1 := by omega
  have hs0 : 0 < n1 := by omega
  have B0 : Below w.heap.size w (w.alloc (.cells #[.int .i64 (s : Int), .slice (some ⟨b1, o1, none⟩) n1 c1, .slice a2 n2 c2, .slice a3 n2 c3] 30)) := (by repeat first | (with_reducible exact Below.refl _ _) | (with_reducible refine Below.setCell ?_ (by first | exact Nat.le_refl _ | (simp; done) | (simp; omega) | omega) _) | (with_reducible refine Below.alloc ?_ (by first | exact Nat.le_refl _ | (simp; done) | (simp; omega) | omega) _) | (with_reducible refine below_drewN ?_ _) | (with_reducible refine Below.drew ?_))
  have hc0' := (B0.cell (p := ⟨b1, o1, none⟩) hl0).trans hc0
  have hcs' := (B0.cell (p := ⟨b1, o1 + s, none⟩) hls).trans hcs
  have hN1 := Lib.hid hn1
  have hnb : n1 ≤ 1048576 := by omega
  clear hhd hc0 hcs hn1
  by_cases z0 : O 0 = 0
  · by_cases zs : O s = (n2 : Int)
    · rw [z0] at hc0'
      rw [zs] at hcs'
      cases hso : sortB O s with
      | false =>
        have hfin : Hid (spB s n1 n2 n2 O K (vals Z) = false) := Lib.hid (HSP.out _ (by rw [hso]; simp))
        go_enter Try.func43, Try.ntmps43
        go_wp2_with fail
        go_at_call 65
        refine (isSparseSide_any _ _).mono ?_
        rw [hsd]
        rintro e w1 ⟨rfl, rfl⟩
        clear hsd
        go_wp2_with fail
        go_at_call 66
        refine (sorted64_any b1 o1 n1 c1 O _ hs0 hnb (h1.below B0 (Nat.le_refl _))).mono ?_
        rw [show n1 - 1 = s by have := hN1.out; omega, hso]
        rintro e w2 ⟨rfl, m2, rfl⟩
        clear hso hc0' hcs'
        go_wp2_with fail
        go_ret
        exact ⟨by rw [hfin.out]; first | done | rfl, (by repeat first | (with_reducible exact Below.refl _ _) | (with_reducible refine Below.setCell ?_ (by first | exact Nat.le_refl _ | (simp; done) | (simp; omega) | omega) _) | (with_reducible refine Below.alloc ?_ (by first | exact Nat.le_refl _ | (simp; done) | (simp; omega) | omega) _) | (with_reducible refine below_drewN ?_ _) | (with_reducible refine Below.drew ?_))⟩
      | true =>
        have HSO := Lib.hid hso
        go_enter Try.func43, Try.ntmps43
        go_wp2_with fail
        go_at_call 65
        refine (isSparseSide_any _ _).mono ?_
        rw [hsd]
        rintro e w1 ⟨rfl, rfl⟩
        clear hsd
        go_wp2_with fail
        go_at_call 66
        refine (sorted64_any b1 o1 n1 c1 O _ hs0 hnb (h1.below B0 (Nat.le_refl _))).mono ?_
        rw [show n1 - 1 = s by have := hN1.out; omega, hso]
        rintro e w2 ⟨rfl, m2, hw2⟩
        have B2 : Below w.heap.size w w2 := by rw [hw2]; exact (by repeat first | (with_reducible exact B0) | (with_reducible refine Below.setCell ?_ (by first | exact Nat.le_refl _ | (simp; done) | (simp; omega) | omega) _) | (with_reducible refine Below.alloc ?_ (by first | exact Nat.le_refl _ | (simp; done) | (simp; omega) | omega) _) | (with_reducible refine below_drewN ?_ _) | (with_reducible refine Below.drew ?_))
        have X2 : BoxL w2 w.heap.size [.int .i64 (s : Int), .slice (some ⟨b1, o1, none⟩) n1 c1, .slice a2 n2 c2, .slice a3 n2 c3] := by rw [hw2]; exact BoxL.below (BoxL.four (by simp [go_sem]) (by simp [go_sem]) (by simp [go_sem]) (by simp [go_sem])) (below_drewN (Below.refl _ _) _) (by simp)
        have s2 : w.heap.size < w2.heap.size := by rw [hw2]; simp [World.drewN]
        have y0 := X2 0 _ rfl
        clear hso hc0' hcs' hw2 hsum d1 d2
        go_wp2
        clear y0
        go_loopw [55] (fun i wr => ∃ j m : Nat, j ≤ s ∧ i = .int .i64 (j : Int) ∧ rowsB O K s j = true ∧ wr = w2.drewN m) (fun i _ => s - (intOf i).toNat)
        case atStart => exact ⟨0, 0, Nat.zero_le _, rfl, rfl, rfl⟩
        case round =>
          obtain ⟨j, m0, hj, rfl, hr, hwr⟩ := hrel
          have HR := Lib.hid hr
          have Br : Below w2.heap.size w2 wr := by rw [hwr]; exact below_drewN (Below.refl _ _) _
          have HW := Lib.hid hwr
          have BR := B2.trans (Br.mono B2.size)
          have XR := X2.below Br s2
          have F1 := h1.below BR (Nat.le_refl _)
          have F2 := h2.below BR (Nat.le_refl _)
          have F3 := h3.below BR (Nat.le_refl _)
          have y0 := XR 0 _ rfl
          have y1 := XR 1 _ rfl
          have y2 := XR 2 _ rfl
          have y3 := XR 3 _ rfl
          clear hr hwr Br
          by_cases hlt : j < s
          · have hOj : 0 ≤ O j := by have := sortB_le HSO.out (i := 0) (d := j) (by omega); rw [Nat.zero_add, z0] at this; exact this
            have hOj1 : O j ≤ O (j + 1) := sortB_lt HSO.out hlt
            have hOs : O (j + 1) ≤ (n2 : Int) := by have := sortB_le HSO.out (i := j + 1) (d := s - (j + 1)) (by omega); rw [show j + 1 + (s - (j + 1)) = s by omega, zs] at this; exact this
            obtain ⟨A, hA⟩ : ∃ A : Nat, O j = (A : Int) := ⟨(O j).toNat, by omega⟩
            obtain ⟨E, hE⟩ : ∃ E : Nat, O (j + 1) = (E : Int) := ⟨(O (j + 1)).toNat, by omega⟩
            have hAE : A ≤ E := by omega
            have hE2 : E ≤ n2 := by omega
            obtain ⟨b', off', e, hl1, hcA, _⟩ := F1.at (show j < n1 by omega)
            simp only [Option.some.injEq, Addr.mk.injEq, and_true] at e
            obtain ⟨rfl, rfl⟩ := e
            obtain ⟨b', off', e, hl2, hcE, _⟩ := F1.at (show j + 1 < n1 by have := hN1.out; omega)
            simp only [Option.some.injEq, Addr.mk.injEq, and_true] at e
            obtain ⟨rfl, rfl⟩ := e
            rw [hA] at hcA
            rw [hE] at hcE
            have hcol : Hid (∀ v, colB (fun t => K (A + t)) s (E - A) = v ↔ colB (fun t => K ((O j).toNat + t)) s ((O (j + 1)).toNat - (O j).toNat) = v) := Lib.hid (fun v => by rw [hA, hE, Int.toNat_natCast, Int.toNat_natCast])
            have hEc : E ≤ c2 := Nat.le_trans hE2 F2.1
            have hc2m := F2.2.1
            have hj1 : j < n1 := by omega
            obtain ⟨j1, hj1e⟩ : ∃ j1, j1 = j + 1 := ⟨_, rfl⟩
            have hj2 : j1 < n1 := by have := hN1.out; omega
            have hsj : IntKind.i64.wrap ((j : Int) + 1) = (j1 : Int) := by
              have e : (j : Int) + 1 = (j1 : Int) := by omega
              rw [e]; exact IntWalk.i64_in _ (by omega)
            rw [← hj1e] at hcE
            have hj1h := Lib.hid hj1e
            have hcolC : ∀ k x cc, IS .i64 wr x (E - A) cc (fun t => K (A + t)) → Calls Try.prog 67 #[.slice x (E - A : Nat) cc, .int .i64 (s : Int)] (wr.drewN k) (fun e w' => e = .returned (.bool (colB (fun t => K (A + t)) s (E - A))) ∧ ∃ q, w' = (wr.drewN k).drewN q) := fun k x cc hx => (areColumns_any x (E - A) cc _ s _ (by omega) (IS.drewN hx)).mono fun e w' hh => ⟨hh.1, 0, hh.2.symm⟩
            have hnx : Hid (colB (fun t => K (A + t)) s (E - A) = true → rowsB O K s (j + 1) = true) := Lib.hid (fun q => by simp only [rowsB, HR.out, Bool.true_and]; exact (hcol.out _).1 q)
            have hno : Hid (colB (fun t => K (A + t)) s (E - A) = false → spB s n1 n2 n2 O K (vals Z) = false) := Lib.hid (fun q => HSP.out _ (by rw [rowsB_no hlt ((hcol.out _).1 q)]; simp))
            clear hOj hOj1 hOs hA hE hl1 hl2 hcol HR hj1e
            cases a2 with
            | none =>
              have hz : n2 = 0 := by
                rcases Nat.eq_zero_or_pos n2 with q | q
                · exact q
                · obtain ⟨_, _, q2, _⟩ := F2.at q; cases q2
              have hA0 : A = 0 := by omega
              have hE0 : E = 0 := by omega
              subst hA0 hE0
              have hIS : IS .i64 wr none 0 c2 (fun t => K (0 + t)) := ⟨Nat.zero_le _, hc2m, fun i hi => absurd hi (Nat.not_lt_zero _)⟩
              have hC2 := fun k => hcolC k none c2 hIS
              cases hcv : colB (fun t => K (0 + t)) s (0 - 0) with
              | true =>
                rw [hcv] at hC2
                have hN := Lib.hid (hnx.out hcv)
                clear hcv
                go_wp2
                go_quiet (first | (go_at_call 67; with_reducible exact Calls.quiet_of (hC2 _)))
                clear hsj
                go_wp2
                go_roundw
                case rel => exact ⟨j + 1, _, by omega, by go_num, hN.out, by rw [HW.out]; exact World.drewN_drewN _ _ _⟩
                case measure => simp [intOf]; omega
              | false =>
                rw [hcv] at hC2
                have hN := Lib.hid (hno.out hcv)
                clear hcv
                go_wp2
                go_quiet (first | (go_at_call 67; with_reducible exact Calls.quiet_of (hC2 _)))
                go_wp2
                go_ret
                exact ⟨by rw [hN.out]; first | done | rfl, (by repeat first | (with_reducible exact BR) | (with_reducible refine Below.setCell ?_ (by first | exact Nat.le_refl _ | (simp; done) | (simp; omega) | omega) _) | (with_reducible refine Below.alloc ?_ (by first | exact Nat.le_refl _ | (simp; done) | (simp; omega) | omega) _) | (with_reducible refine below_drewN ?_ _) | (with_reducible refine Below.drew ?_))⟩
            | some p2 =>
              obtain ⟨b2, off2, sub2⟩ := p2
              have hIS : IS .i64 wr (if c2 = A then some (⟨b2, off2, sub2⟩ : Addr) else some ((⟨b2, off2, sub2⟩ : Addr).add A)) (E - A) (c2 - A) (fun t => K (A + t)) := by
                by_cases hn0 : E - A = 0
                · rw [hn0]; exact ⟨Nat.zero_le _, Nat.le_trans (Nat.sub_le _ _) hc2m, fun i hi => absurd hi (Nat.not_lt_zero _)⟩
                · rw [if_neg (by omega)]
                  obtain ⟨b3, off3, q2, _⟩ := F2.at (show 0 < n2 by omega)
                  simp only [Option.some.injEq, Addr.mk.injEq] at q2
                  obtain ⟨rfl, rfl, rfl⟩ := q2
                  rw [Addr.add_lit]
                  exact IS.dropS (i := A) (m := E - A) (c' := c2 - A) F2 (by omega) (by omega) (Nat.le_trans (Nat.sub_le _ _) hc2m)
              have hC2 := fun k => hcolC k _ _ hIS
              cases hcv : colB (fun t => K (A + t)) s (E - A) with
              | true =>
                rw [hcv] at hC2
                have hN := Lib.hid (hnx.out hcv)
                clear hcv
                go_wp2
                go_quiet (first | (go_at_call 67; with_reducible exact Calls.quiet_of (hC2 _)))
                generalize (if c2 = A then some (⟨b2, off2, sub2⟩ : Addr) else some ((⟨b2, off2, sub2⟩ : Addr).add A)) = PX
                clear hsj
                go_wp2
                go_roundw
                case rel => exact ⟨j + 1, _, by omega, by go_num, hN.out, by rw [HW.out]; exact World.drewN_drewN _ _ _⟩
                case measure => simp [intOf]; omega
              | false =>
                rw [hcv] at hC2
                have hN := Lib.hid (hno.out hcv)
                clear hcv
                go_wp2
                go_quiet (first | (go_at_call 67; with_reducible exact Calls.quiet_of (hC2 _)))
                generalize (if c2 = A then some (⟨b2, off2, sub2⟩ : Addr) else some ((⟨b2, off2, sub2⟩ : Addr).add A)) = PX
                go_wp2
                go_ret
                exact ⟨by rw [hN.out]; first | done | rfl, (by repeat first | (with_reducible exact BR) | (with_reducible refine Below.setCell ?_ (by first | exact Nat.le_refl _ | (simp; done) | (simp; omega) | omega) _) | (with_reducible refine Below.alloc ?_ (by first | exact Nat.le_refl _ | (simp; done) | (simp; omega) | omega) _) | (with_reducible refine below_drewN ?_ _) | (with_reducible refine Below.drew ?_))⟩
          · obtain rfl : j = s := by omega
            have hfin : Hid (spB j n1 n2 n2 O K (vals Z) = allFin (vals Z) n2) := Lib.hid (HSP.out _ (by rw [HSO.out, HR.out, decide_eq_true z0, decide_eq_true zs]; simp))
            go_wp2_with fail
            go_at_call 68
            refine (implFin_any a3 n2 c3 Z _ (by omega) F3).mono ?_
            rintro e w5 ⟨rfl, m5, rfl⟩
            clear y0 y1 y2 y3
            go_wp2_with fail
            go_ret
            exact ⟨by rw [hfin.out]; first | done | rfl, (by repeat first | (with_reducible exact BR) | (with_reducible refine Below.setCell ?_ (by first | exact Nat.le_refl _ | (simp; done) | (simp; omega) | omega) _) | (with_reducible refine Below.alloc ?_ (by first | exact Nat.le_refl _ | (simp; done) | (simp; omega) | omega) _) | (with_reducible refine below_drewN ?_ _) | (with_reducible refine Below.drew ?_))⟩
    · have hfin : Hid (spB s n1 n2 n2 O K (vals Z) = false) := Lib.hid (HSP.out _ (by rw [decide_eq_false zs]; simp))
      have d3 : (O s != (n2 : Int)) = true := by simp [zs]
      rw [z0] at hc0'
      generalize O s = xs at hcs' d3
      clear z0 zs
      go_enter Try.func43, Try.ntmps43
      go_wp2_with fail
      go_at_call 65
      refine (isSparseSide_any _ _).mono ?_
      rw [hsd]
      rintro e w1 ⟨rfl, rfl⟩
      clear hsd
      go_wp2_with fail
      go_ret
      exact ⟨by rw [hfin.out]; first | done | rfl, (by repeat first | (with_reducible exact Below.refl _ _) | (with_reducible refine Below.setCell ?_ (by first | exact Nat.le_refl _ | (simp; done) | (simp; omega) | omega) _) | (with_reducible refine Below.alloc ?_ (by first | exact Nat.le_refl _ | (simp; done) | (simp; omega) | omega) _) | (with_reducible refine below_drewN ?_ _) | (with_reducible refine Below.drew ?_))⟩
  · have hfin : Hid (spB s n1 n2 n2 O K (vals Z) = false) := Lib.hid (HSP.out _ (by rw [decide_eq_false z0]; simp))
    have d3 : (O 0 != 0) = true := by simp [z0]
    generalize O 0 = x0 at hc0' d3
    clear z0
    go_enter Try.func43, Try.ntmps43
    go_wp2_with fail
    go_at_call 65
    refine (isSparseSide_any _ _).mono ?_
    rw [hsd]
    rintro e w1 ⟨rfl, rfl⟩
    clear hsd
    go_wp2_with fail
    go_ret
    exact ⟨by rw [hfin.out]; first | done | rfl, (by repeat first | (with_reducible exact Below.refl _ _) | (with_reducible refine Below.setCell ?_ (by first | exact Nat.le_refl _ | (simp; done) | (simp; omega) | omega) _) | (with_reducible refine Below.alloc ?_ (by first | exact Nat.le_refl _ | (simp; done) | (simp; omega) | omega) _) | (with_reducible refine below_drewN ?_ _) | (with_reducible refine Below.drew ?_))⟩
end Go.Proofs.Ytmjlhmbnaifhaab
