/- Helper: divided differences, of the program and of its reference. Conditions: none. -/
import Derived.Test.YtpmilaemmdcfaaaApart
import Derived.Test.YtpmilaemmdcfaaaKeys
import Derived.Test.YtpmilaemmdcfaaaPivot
set_option linter.unusedVariables false
set_option linter.unusedSimpArgs false
namespace Go.Proofs.Ytpmilaemmdcfaaa
open Go.RowKit

/-- The differences behind k rounds. -/
def ddV (X Y : Nat → Option Nat) : Nat → Nat → Option Nat
  | 0, i => Y i
  | k + 1, i => if k + 1 ≤ i then fop .quo .f32 (fop .sub .f32 (ddV X Y k i) (ddV X Y k (i - 1))) (fop .sub .f32 (X i) (X (i - (k + 1)))) else ddV X Y k i
/-- Those of which the numbers from u on are done in the round k + 1. -/
def ddL (X Y : Nat → Option Nat) (k u t : Nat) : Option Nat := if u ≤ t then ddV X Y (k + 1) t else ddV X Y k t
def dvB (n m : Nat) (V W : Nat → Option Nat) : Bool := nodesB n m V W && apB V n
theorem ddL_step {X Y : Nat → Option Nat} {k q n r : Nat} {D : Nat → Nat} (h : ∀ t, t < n → vals D t = ddL X Y k (q + 1) t) (hr : cn .f32 r = ddV X Y (k + 1) q) : ∀ t, t < n → vals (fun t => if t = q then r else D t) t = ddL X Y k q t := by
  intro t ht
  show cn .f32 (if t = q then r else D t) = (if q ≤ t then ddV X Y (k + 1) t else ddV X Y k t)
  by_cases e : t = q
  · subst e; rw [if_pos rfl, if_pos (Nat.le_refl _)]; exact hr
  · rw [if_neg e]
    have hh := h t ht
    unfold vals ddL at hh
    rw [hh]
    by_cases e2 : q + 1 ≤ t
    · rw [if_pos e2, if_pos (by omega)]
    · rw [if_neg e2, if_neg (by omega)]
theorem ddL_low {X Y : Nat → Option Nat} {k t : Nat} : ddL X Y k (k + 1) t = ddV X Y (k + 1) t := by
  unfold ddL
  by_cases e : k + 1 ≤ t
  · rw [if_pos e]
  · rw [if_neg e]
    show _ = (if k + 1 ≤ t then _ else ddV X Y k t)
    rw [if_neg e]
theorem ddL_top {X Y : Nat → Option Nat} {k n t : Nat} (h : t < n) : ddL X Y k n t = ddV X Y k t := by unfold ddL; rw [if_neg (by omega)]
theorem ddL_at {X Y : Nat → Option Nat} {k u t : Nat} (h : t < u) : ddL X Y k u t = ddV X Y k t := by unfold ddL; rw [if_neg (by omega)]
theorem ddV_at {X Y : Nat → Option Nat} {k q s u : Nat} (hs : s + 1 = q) (hu : u + (k + 1) = q) : ddV X Y (k + 1) q = fop .quo .f32 (fop .sub .f32 (ddV X Y k q) (ddV X Y k s)) (fop .sub .f32 (X q) (X u)) := by
  show (if k + 1 ≤ q then fop .quo .f32 (fop .sub .f32 (ddV X Y k q) (ddV X Y k (q - 1))) (fop .sub .f32 (X q) (X (q - (k + 1)))) else _) = _
  rw [if_pos (by omega), show q - 1 = s by omega, show q - (k + 1) = u by omega]

theorem implDivided_no (a b : Option Addr) (n c m d : Nat) (Z Y : Nat → Nat) (w : World) (hn : n ≤ 1048576) (hm : m ≤ 1048576) (h : FS .f32 w a n c Z) (h2 : FS .f32 w b m d Y) (ho : dvB n m (vals Z) (vals Y) = false) :
    Calls Try.prog 15 #[.slice a n c, .slice b m d] w (NumsOwn false 0 (fun _ => none) w) := by
  cases hv : nodesB n m (vals Z) (vals Y) with
  | false =>
    clear ho
    go_enter Try.func15, Try.ntmps15
    go_wp2_with (go_at_call 32; refine (implNodes_any _ _ _ _ _ _ Z Y _ hn hm h h2).mono ?_; rintro e w' ⟨rfl, q, rfl⟩)
    go_ret2
    exact NumsOwn.no (by repeat first | (with_reducible exact Below.refl _ _) | (with_reducible refine Below.setCell ?_ (by first | exact Nat.le_refl _ | (simp; done) | (simp; omega) | omega) _) | (with_reducible refine Below.alloc ?_ (by first | exact Nat.le_refl _ | (simp; done) | (simp; omega) | omega) _) | (with_reducible refine below_drewN ?_ _) | (with_reducible refine Below.drew ?_))
  | true =>
    have hf : apB (vals Z) n = false := by unfold dvB at ho; rw [hv] at ho; exact ho
    obtain ⟨g1, g3, _, _⟩ := nodes_yes hv
    obtain ⟨b1, o1, rfl, _, _, _⟩ := h.at (show 0 < n by omega)
    have h0 : 0 < n := by omega
    clear ho g1 g3
    go_enter Try.func15, Try.ntmps15
    go_wp2_with (first | (go_at_call 32; refine (implNodes_any _ _ _ _ _ _ Z Y _ hn hm h h2).mono ?_; rintro e w' ⟨rfl, q, rfl⟩) | (go_at_call 36; refine (apart_any _ _ _ _ Z _ h0 hn (FS.drewN h)).mono ?_; rintro e w' ⟨rfl, rfl⟩))
    go_ret2
    exact NumsOwn.no (by repeat first | (with_reducible exact Below.refl _ _) | (with_reducible refine Below.setCell ?_ (by first | exact Nat.le_refl _ | (simp; done) | (simp; omega) | omega) _) | (with_reducible refine Below.alloc ?_ (by first | exact Nat.le_refl _ | (simp; done) | (simp; omega) | omega) _) | (with_reducible refine below_drewN ?_ _) | (with_reducible refine Below.drew ?_))
set_option maxHeartbeats 1000000 in
theorem specDivided_no (a b : Option Addr) (n c m d : Nat) (Z Y : Nat → Nat) (w : World) (hn : n ≤ 1048576) (hm : m ≤ 1048576) (h : FS .f32 w a n c Z) (h2 : FS .f32 w b m d Y) (ho : dvB n m (vals Z) (vals Y) = false) :
    Calls Try.prog 14 #[.slice a n c, .slice b m d] w (NumsBel false 0 (fun _ => none) w) := by
  by_cases g1 : n < 1
  case pos =>
    have d1 : decide ((n : Int) < 1) = true := decide_eq_true (by omega)
    clear ho
    go_enter Try.func14, Try.ntmps14
    go_wp2_with (first | (go_at_call 29; first | ((with_reducible refine (specFin_any a _ c Z _ hn h).mono ?_); rintro e w' ⟨rfl, q, rfl⟩) | ((with_reducible refine (specFin_any b _ d Y _ hm (FS.drewN h2)).mono ?_); rintro e w' ⟨rfl, q2, rfl⟩)))
    go_ret2
    exact NumsBel.no (by repeat first | (with_reducible exact Below.refl _ _) | (with_reducible refine Below.setCell ?_ (by first | exact Nat.le_refl _ | (simp; done) | (simp; omega) | omega) _) | (with_reducible refine Below.alloc ?_ (by first | exact Nat.le_refl _ | (simp; done) | (simp; omega) | omega) _) | (with_reducible refine below_drewN ?_ _) | (with_reducible refine Below.drew ?_))
  have d1 : decide ((n : Int) < 1) = false := decide_eq_false (by omega)
  by_cases g2 : 32 < n
  case pos =>
    have d2 : decide ((32 : Int) < n) = true := decide_eq_true (by omega)
    clear ho
    go_enter Try.func14, Try.ntmps14
    go_wp2_with (first | (go_at_call 29; first | ((with_reducible refine (specFin_any a _ c Z _ hn h).mono ?_); rintro e w' ⟨rfl, q, rfl⟩) | ((with_reducible refine (specFin_any b _ d Y _ hm (FS.drewN h2)).mono ?_); rintro e w' ⟨rfl, q2, rfl⟩)))
    go_ret2
    exact NumsBel.no (by repeat first | (with_reducible exact Below.refl _ _) | (with_reducible refine Below.setCell ?_ (by first | exact Nat.le_refl _ | (simp; done) | (simp; omega) | omega) _) | (with_reducible refine Below.alloc ?_ (by first | exact Nat.le_refl _ | (simp; done) | (simp; omega) | omega) _) | (with_reducible refine below_drewN ?_ _) | (with_reducible refine Below.drew ?_))
  have d2 : decide ((32 : Int) < n) = false := decide_eq_false (by omega)
  by_cases g3 : m = n
  case neg =>
    have d3 : ((m : Int) != n) = true := by simp; omega
    have g3' := Lib.hid g3
    clear ho g3
    go_enter Try.func14, Try.ntmps14
    go_wp2_with (first | (go_at_call 29; first | ((with_reducible refine (specFin_any a _ c Z _ hn h).mono ?_); rintro e w' ⟨rfl, q, rfl⟩) | ((with_reducible refine (specFin_any b _ d Y _ hm (FS.drewN h2)).mono ?_); rintro e w' ⟨rfl, q2, rfl⟩)))
    go_ret2
    exact NumsBel.no (by repeat first | (with_reducible exact Below.refl _ _) | (with_reducible refine Below.setCell ?_ (by first | exact Nat.le_refl _ | (simp; done) | (simp; omega) | omega) _) | (with_reducible refine Below.alloc ?_ (by first | exact Nat.le_refl _ | (simp; done) | (simp; omega) | omega) _) | (with_reducible refine below_drewN ?_ _) | (with_reducible refine Below.drew ?_))
  subst g3
  have d3 : ((m : Int) != m) = false := by simp
  cases f1 : allFin (vals Z) m with
  | false =>
    clear ho
    go_enter Try.func14, Try.ntmps14
    go_wp2_with (first | (go_at_call 29; first | ((with_reducible refine (specFin_any a _ c Z _ hn h).mono ?_); rintro e w' ⟨rfl, q, rfl⟩) | ((with_reducible refine (specFin_any b _ d Y _ hm (FS.drewN h2)).mono ?_); rintro e w' ⟨rfl, q2, rfl⟩)))
    go_ret2
    exact NumsBel.no (by repeat first | (with_reducible exact Below.refl _ _) | (with_reducible refine Below.setCell ?_ (by first | exact Nat.le_refl _ | (simp; done) | (simp; omega) | omega) _) | (with_reducible refine Below.alloc ?_ (by first | exact Nat.le_refl _ | (simp; done) | (simp; omega) | omega) _) | (with_reducible refine below_drewN ?_ _) | (with_reducible refine Below.drew ?_))
  | true =>
    cases f2 : allFin (vals Y) m with
    | false =>
      clear ho
      go_enter Try.func14, Try.ntmps14
      go_wp2_with (first | (go_at_call 29; first | ((with_reducible refine (specFin_any a _ c Z _ hn h).mono ?_); rintro e w' ⟨rfl, q, rfl⟩) | ((with_reducible refine (specFin_any b _ d Y _ hm (FS.drewN h2)).mono ?_); rintro e w' ⟨rfl, q2, rfl⟩)))
      go_ret2
      exact NumsBel.no (by repeat first | (with_reducible exact Below.refl _ _) | (with_reducible refine Below.setCell ?_ (by first | exact Nat.le_refl _ | (simp; done) | (simp; omega) | omega) _) | (with_reducible refine Below.alloc ?_ (by first | exact Nat.le_refl _ | (simp; done) | (simp; omega) | omega) _) | (with_reducible refine below_drewN ?_ _) | (with_reducible refine Below.drew ?_))
    | true =>
      have hf : apB (vals Z) m = false := by
        unfold dvB nodesB at ho
        rw [lenB_of (by omega) (by omega), decide_eq_true rfl, f1, f2] at ho
        exact ho
      have HF := Lib.hid hf
      obtain ⟨b1, o1, rfl, _, _, _⟩ := h.at (show 0 < m by omega)
      clear ho hf
      go_enter Try.func14, Try.ntmps14
      go_wp2_with (first | (go_at_call 29; first | ((with_reducible refine (specFin_any (some ⟨b1, o1, none⟩) _ c Z _ hn h).mono ?_); rintro e w' ⟨rfl, q, rfl⟩) | ((with_reducible refine (specFin_any b _ d Y _ hm (FS.drewN h2)).mono ?_); rintro e w' ⟨rfl, q2, rfl⟩)))
      clear f1 f2
      go_loopw [38] (fun i wr => ∃ j m0 : Nat, j ≤ m ∧ i = .int .i64 j ∧ apB (vals Z) j = true ∧ wr = w.drewN m0) (fun i _ => m - (intOf i).toNat)
      case atStart => exact ⟨0, _, Nat.zero_le _, rfl, rfl, rfl⟩
      case round =>
        obtain ⟨j, m0, hj, rfl, hap, rfl⟩ := hrel
        have HA := Lib.hid hap
        clear hap
        by_cases hlt : j < m
        · obtain ⟨b', off', e, hbl, hc, hfv⟩ := h.at hlt
          simp only [Option.some.injEq, Addr.mk.injEq, and_true] at e
          obtain ⟨rfl, rfl⟩ := e
          clear hbl
          go_wp2_with fail
          go_loopw [8] (fun i wr => ∃ k m1 : Nat, k ≤ j ∧ i = .int .i64 k ∧ hasE (vals Z j) (vals Z) k = false ∧ wr = w.drewN m1) (fun i _ => j - (intOf i).toNat)
          case atStart => exact ⟨0, _, Nat.zero_le _, rfl, rfl, rfl⟩
          case round =>
            obtain ⟨k, m1, hk, rfl, hha, rfl⟩ := hrel
            have HH := Lib.hid hha
            clear hha
            by_cases hlt2 : k < j
            · obtain ⟨b', off', e, hbl, hc2, hfv2⟩ := h.at (show k < m by omega)
              simp only [Option.some.injEq, Addr.mk.injEq, and_true] at e
              obtain ⟨rfl, rfl⟩ := e
              clear hbl
              have hkm : k < m := by omega
              cases hz : equN (vals Z j) (vals Z k) with
              | true =>
                have hs : (ford .f32 (cn .f32 (Z j)) (cn .f32 (Z k)) == some .eq) = true := hz
                have hz' := Lib.hid hz
                clear hz
                clear h h2
                go_wp2
                go_quiet (fail)
                go_wp2
                go_ret2
                exact NumsBel.no (by repeat first | (with_reducible exact Below.refl _ _) | (with_reducible refine Below.setCell ?_ (by first | exact Nat.le_refl _ | (simp; done) | (simp; omega) | omega) _) | (with_reducible refine Below.alloc ?_ (by first | exact Nat.le_refl _ | (simp; done) | (simp; omega) | omega) _) | (with_reducible refine below_drewN ?_ _) | (with_reducible refine Below.drew ?_))
              | false =>
                have hs : (ford .f32 (cn .f32 (Z j)) (cn .f32 (Z k)) == some .eq) = false := hz
                have hz' : Hid (hasE (vals Z j) (vals Z) (k + 1) = false) := Lib.hid (by show (hasE (vals Z j) (vals Z) k || equN (vals Z j) (vals Z k)) = false; rw [HH.out, hz]; rfl)
                clear hz h h2
                go_wp2
                go_quiet (fail)
                go_wp2
                go_roundw
                case rel => exact ⟨k + 1, _, by omega, by go_num, hz'.out, rfl⟩
                case measure => simp [intOf]; omega
            · obtain rfl : k = j := by omega
              have HS : Hid (apB (vals Z) (k + 1) = true) := Lib.hid (apB_step HA.out HH.out)
              clear h h2
              go_wp2
              go_roundw
              case rel => exact ⟨k + 1, _, by omega, by go_num, HS.out, rfl⟩
              case measure => simp [intOf]; omega
        · obtain rfl : j = m := by omega
          rw [HA.out] at HF
          exact absurd HF.out (by simp)
set_option maxRecDepth 20000 in
set_option maxHeartbeats 4000000 in
theorem implDivided_yes (b off n c p o d : Nat) (Z Y : Nat → Nat) (w : World) (OK : Bool) (VX : Nat → Option Nat) (h1 : 1 ≤ n) (h32 : n ≤ 32) (hv : nodesB n n (vals Z) (vals Y) = true) (hap : apB (vals Z) n = true)
    (hVX : VX = ddV (vals Z) (vals Y) (n - 1)) (hOK : OK = allFin VX n) (h : FS .f32 w (some ⟨b, off, none⟩) n c Z) (h2 : FS .f32 w (some ⟨p, o, none⟩) n d Y) :
    Calls Try.prog 15 #[.slice (some ⟨b, off, none⟩) n c, .slice (some ⟨p, o, none⟩) n d] w (NOwnIf OK n VX w) := by
  have HVX := Lib.hid hVX
  have HOK := Lib.hid hOK
  have hn : n ≤ 1048576 := by omega
  have h0 : 0 < n := by omega
  clear hVX hOK
  go_enter Try.func15, Try.ntmps15
  go_wp2_with (first | (go_at_call 32; refine (implNodes_any _ _ _ _ _ _ Z Y _ hn hn h h2).mono ?_; rintro e w' ⟨rfl, q, rfl⟩) | (go_at_call 36; refine (apart_any _ _ _ _ Z _ h0 hn (FS.drewN h)).mono ?_; rintro e w' ⟨rfl, rfl⟩))
  clear hv hap
  go_at_call 37
  refine (clone_any p o n d Y _ h0 hn (FS.drewN h2)).mono ?_
  rintro e w4 ⟨gX, dX, rfl, oX, b4⟩
  have B4w : Below w.heap.size w w4 := Below.trans (by repeat first | (with_reducible exact Below.refl _ _) | (with_reducible refine Below.setCell ?_ (by first | exact Nat.le_refl _ | (simp; done) | (simp; omega) | omega) _) | (with_reducible refine Below.alloc ?_ (by first | exact Nat.le_refl _ | (simp; done) | (simp; omega) | omega) _) | (with_reducible refine below_drewN ?_ _) | (with_reducible refine Below.drew ?_)) (b4.mono (Nat.le_refl _))
  clear b4
  obtain ⟨B4, hB4⟩ : ∃ B, B = w.heap.size := ⟨_, rfl⟩
  obtain ⟨U4, hU4⟩ : ∃ U, U = w4.heap.size := ⟨_, rfl⟩
  have oX : Own 23 .f32 B4 U4 w4 (some ⟨gX, 0, none⟩) n dX Y := by rw [hB4, hU4]; exact oX
  have hBw : w.heap.size ≤ B4 := by omega
  have hU4 := Lib.hid hU4
  clear hB4
  go_wp2_with fail
  have oX0 := oX
  go_loopw [7] (fun i wr => ∃ (k K : Nat) (D : Nat → Nat), K = k + 1 ∧ K ≤ n ∧ i = .int .i64 K ∧ (∀ t, t < n → vals D t = ddV (vals Z) (vals Y) k t) ∧ Own 23 .f32 B4 U4 wr (some ⟨gX, 0, none⟩) n dX D ∧ Below w.heap.size w wr) (fun i _ => n - (intOf i).toNat)
  case atStart => exact ⟨0, 1, Y, rfl, h1, rfl, fun t ht => rfl, oX0, B4w⟩
  case round =>
    obtain ⟨k, K, D, hK, hKn, rfl, hD, kX, hb⟩ := hrel
    have HD := Lib.hid hD
    have HK := Lib.hid hK
    clear hD oX oX0 B4w hK
    by_cases hlt : K < n
    · have kX' := Lib.hid kX
      have hb' := Lib.hid hb
      obtain ⟨wo, hwo⟩ : ∃ wo, wo = wr := ⟨_, rfl⟩
      clear kX hb
      go_wp2_with fail
      go_loopw [8] (fun i wr => ∃ (j : Nat) (D : Nat → Nat), j + K ≤ n ∧ i = .int .i64 ((n : Int) - 1 - j) ∧ (∀ t, t < n → vals D t = ddL (vals Z) (vals Y) k (n - j) t) ∧ Own 23 .f32 B4 U4 wr (some ⟨gX, 0, none⟩) n dX D ∧ Below w.heap.size w wr) (fun i _ => (intOf i + 1).toNat)
      case atStart => exact ⟨0, D, by omega, by simp, fun t ht => (HD.out t ht).trans (ddL_top ht).symm, kX'.out, hb'.out⟩
      case round =>
        obtain ⟨j, D2, hj, rfl, hD2, kX2, hb2⟩ := hrel
        have HD2 := Lib.hid hD2
        clear hD2 kX' hb' hwo
        by_cases hlt2 : j + K < n
        · obtain ⟨s, hs⟩ : ∃ s, s + (j + 2) = n := ⟨n - (j + 2), by have := HK.out; omega⟩
          obtain ⟨q, hq⟩ : ∃ q, q = s + 1 := ⟨_, rfl⟩
          obtain ⟨u, hu⟩ : ∃ u, u + K = q := ⟨q - K, by omega⟩
          have hqi : (n : Int) - 1 - j = (q : Int) := by omega
          rw [hqi]
          have HQ := Lib.hid (show s + 1 = q from hq.symm)
          have HU := Lib.hid (show u + (k + 1) = q by have := HK.out; omega)
          have HN := Lib.hid (show n - j = q + 1 by omega)
          have hii : Hid (Value.int .i64 ((q : Int) - 1) = Value.int .i64 ((n : Int) - 1 - ((j + 1 : Nat) : Int))) := Lib.hid (by rw [show (q : Int) - 1 = (n : Int) - 1 - ((j + 1 : Nat) : Int) by omega])
          have hN1 : Hid (n - (j + 1) = q) := Lib.hid (by omega)
          have hqn : q < n := by omega
          have hsn : s < n := by omega
          have hun : u < n := by omega
          have hge : decide ((K : Int) ≤ q) = true := decide_eq_true (by omega)
          have hge2 : K ≤ q := by omega
          have hi1 : (q : Int) - 1 = (s : Int) := by omega
          have hi2 : (q : Int) - (K : Int) = (u : Int) := by omega
          obtain ⟨c1, r1, gd1, gd2, gd3, w1⟩ := kX2.cell (t := q) hqn
          obtain ⟨c2, r2, _, _, _, w2⟩ := kX2.cell (t := s) hsn
          have fq : FV .f32 (D2 q) (ddV (vals Z) (vals Y) k q) := ⟨(HD2.out q hqn).trans (by rw [HN.out]; exact ddL_at (Nat.lt_succ_self _)), w1⟩
          have fs : FV .f32 (D2 s) (ddV (vals Z) (vals Y) k s) := ⟨(HD2.out s hsn).trans (by rw [HN.out]; exact ddL_at (by have := HQ.out; omega)), w2⟩
          obtain ⟨b', off', e, hbl, hcz, hfz⟩ := (h.below hb2 (Nat.le_refl _)).at hqn
          simp only [Option.some.injEq, Addr.mk.injEq, and_true] at e
          obtain ⟨rfl, rfl⟩ := e
          obtain ⟨b', off', e, hbl2, hcu, hfu⟩ := (h.below hb2 (Nat.le_refl _)).at hun
          simp only [Option.some.injEq, Addr.mk.injEq, and_true] at e
          obtain ⟨rfl, rfl⟩ := e
          have kX3 := Lib.hid kX2
          have hb3 := Lib.hid hb2
          clear kX2 hb2 w1 w2 hbl hbl2 hqi hs hq hu
          go_wp2
          (refine wp_region_loose_tail 25 (by kernel_rfl) (by kernel_rfl) ?_; simp only [List.take_succ_cons, List.take_zero, List.drop_succ_cons, List.drop_zero]; (repeat (refine wpLoose_want rfl (fun K hK => ?_); first | (refine loose_farith _ _ _ _ _ rfl rfl _ _ _ rfl rfl (by first | assumption | (with_reducible exact FV.ofInt _ _) | (with_reducible exact FV.neg (by assumption)) | exact FV.lit (by kernel_rfl) (by kernel_rfl)) (by first | assumption | (with_reducible exact FV.ofInt _ _) | (with_reducible exact FV.neg (by assumption)) | exact FV.lit (by kernel_rfl) (by kernel_rfl)) ?_; intro r hr; refine hK _ ?_; clear hK K; simp only [Act.put, List.setIfInBounds_toArray, List.set_cons_succ, List.set_cons_zero]) | (refine loose_of_quiet rfl ?_; go_big_quiet_op; refine hK _ ?_; clear hK K))); refine wpLoose_nil ?_)
          rintro _ ⟨k2, rfl⟩
          obtain ⟨kX4, gg⟩ := (show Own 23 .f32 B4 U4 (wr.drewN k2) (some ⟨gX, 0, none⟩) n dX D2 from kX3.out).stored (t := q) hqn hr.2
          have hb4 : Hid (Below w.heap.size w ((wr.drewN k2).setCell ⟨gX, q, none⟩ (.float .f32 r))) := Lib.hid ((below_drewN hb3.out _).setCell (by show w.heap.size ≤ gX; omega) _)
          have HD4 : Hid (∀ t, t < n → vals (fun t => if t = q then r else D2 t) t = ddL (vals Z) (vals Y) k (n - (j + 1)) t) := Lib.hid (by
            rw [hN1.out]
            exact ddL_step (by rw [← HN.out]; exact HD2.out) (hr.1.trans (ddV_at HQ.out HU.out).symm))
          have kX5 := Lib.hid kX4
          clear kX4 gg kX3 hb3 c2 r2 fq fs hr hi1
          go_wp2_with fail
          go_roundw
          case rel => exact ⟨j + 1, _, by omega, hii.out, HD4.out, kX5.out, hb4.out⟩
          case measure => simp [intOf]
        · have hqi : (n : Int) - 1 - j = ((K : Int) - 1) := by omega
          rw [hqi]
          have hN1 : Hid (n - j = k + 1) := Lib.hid (by have := HK.out; omega)
          have hge : decide ((K : Int) ≤ (K : Int) - 1) = false := decide_eq_false (by omega)
          have hK2 : Hid (K + 1 = k + 1 + 1) := Lib.hid (by have := HK.out; omega)
          have kX3 := Lib.hid kX2
          have hb3 := Lib.hid hb2
          clear kX2 hb2 hqi
          go_wp2
          go_roundw
          case rel => exact ⟨k + 1, K + 1, D2, hK2.out, by omega, by go_num, fun t ht => (HD2.out t ht).trans (by rw [hN1.out]; exact ddL_low), kX3.out, hb3.out⟩
          case measure => simp [intOf]; omega
    · obtain rfl : K = n := by omega
      have HE : Hid (k = K - 1) := Lib.hid (by have := HK.out; omega)
      have hVV : Hid (∀ t, t < K → vals D t = VX t) := Lib.hid fun t ht => (HD.out t ht).trans (by rw [HVX.out, ← HE.out])
      have hfin : Hid (allFin (vals D) K = OK) := Lib.hid (by rw [HOK.out]; exact allFin_congr hVV.out)
      have FX := Lib.hid kX.fs
      have kX3 := Lib.hid kX
      have hb3 := Lib.hid hb
      clear kX hb
      cases OK with
      | true =>
        have hvec : vecB K (vals D) = true := by rw [vec_len (by omega) (by omega)]; exact hfin.out
        go_wp2_with fail
        go_at_call 38
        refine (vectorResult_yes _ K dX D _ (by omega) FX.out hvec).mono ?_
        rintro e w9 ⟨rfl, m9, rfl⟩
        go_wp2_with fail
        go_ret2
        exact ⟨_, _, D, rfl, Own.mono (show Own 23 .f32 B4 U4 (wr.drewN m9) (some ⟨gX, 0, none⟩) K dX D from kX3.out) hBw (kX3.out.cell (show 0 < K by omega)).2.2.2.2.1 (Nat.le_refl _), hVV.out, below_drewN hb3.out _⟩
      | false =>
        have hvec : vecB K (vals D) = false := by rw [vec_len (by omega) (by omega)]; exact hfin.out
        go_wp2_with fail
        go_at_call 38
        refine (vectorResult_no _ K dX D _ (by omega) FX.out hvec).mono ?_
        rintro e w9 ⟨rfl, m9, rfl⟩
        go_wp2_with fail
        go_ret2
        exact NumsOwn.no (below_drewN hb3.out _)
set_option maxRecDepth 20000 in
set_option maxHeartbeats 4000000 in
theorem specDivided_yes (b off n c p o d : Nat) (Z Y : Nat → Nat) (w : World) (OK : Bool) (VX : Nat → Option Nat) (h1 : 1 ≤ n) (h32 : n ≤ 32) (hv : nodesB n n (vals Z) (vals Y) = true) (hap : apB (vals Z) n = true)
    (hVX : VX = ddV (vals Z) (vals Y) (n - 1)) (hOK : OK = allFin VX n) (h : FS .f32 w (some ⟨b, off, none⟩) n c Z) (h2 : FS .f32 w (some ⟨p, o, none⟩) n d Y) :
    Calls Try.prog 14 #[.slice (some ⟨b, off, none⟩) n c, .slice (some ⟨p, o, none⟩) n d] w (NBelIf OK n VX w) := by
  have HVX := Lib.hid hVX
  have HOK := Lib.hid hOK
  have HAP := Lib.hid hap
  have hn : n ≤ 1048576 := by omega
  have h0 : 0 < n := by omega
  obtain ⟨g1, g3, f1, f2⟩ := nodes_yes hv
  have d1 : decide ((n : Int) < 1) = false := decide_eq_false (by omega)
  have d2 : decide ((32 : Int) < n) = false := decide_eq_false (by omega)
  have d3 : ((n : Int) != n) = false := by simp
  obtain ⟨i0, hi, hz0, hz1, hz2⟩ := info_parts info32
  have hcell := Lib.hid (cells32_cell h2)
  have hwf : Hid (∀ j, j < n → (Lit.float .f32 (Y j)).wf = true) := Lib.hid fun j hj => (h2.at hj).elim fun _ q => q.elim fun _ q => q.2.2.2.2
  clear hVX hOK hap hv g1 g3
  go_enter Try.func14, Try.ntmps14
  go_wp2_with (first | (go_at_call 29; first | ((with_reducible refine (specFin_any (some ⟨b, off, none⟩) _ c Z _ hn h).mono ?_); rintro e w' ⟨rfl, q, rfl⟩) | ((with_reducible refine (specFin_any (some ⟨p, o, none⟩) _ d Y _ hn (FS.drewN h2)).mono ?_); rintro e w' ⟨rfl, q2, rfl⟩)))
  clear f1 f2
  go_loopw [38] (fun i wr => ∃ j m0 : Nat, j ≤ n ∧ i = .int .i64 j ∧ apB (vals Z) j = true ∧ wr = w.drewN m0) (fun i _ => n - (intOf i).toNat)
  case atStart => exact ⟨0, _, Nat.zero_le _, rfl, rfl, rfl⟩
  case round =>
    obtain ⟨j, m0, hj, rfl, hap, rfl⟩ := hrel
    have HA := Lib.hid hap
    clear hap
    by_cases hlt : j < n
    · obtain ⟨b', off', e, hbl, hc, hfv⟩ := h.at hlt
      simp only [Option.some.injEq, Addr.mk.injEq, and_true] at e
      obtain ⟨rfl, rfl⟩ := e
      clear hbl
      go_wp2_with fail
      go_loopw [8] (fun i wr => ∃ k m1 : Nat, k ≤ j ∧ i = .int .i64 k ∧ hasE (vals Z j) (vals Z) k = false ∧ wr = w.drewN m1) (fun i _ => j - (intOf i).toNat)
      case atStart => exact ⟨0, _, Nat.zero_le _, rfl, rfl, rfl⟩
      case round =>
        obtain ⟨k, m1, hk, rfl, hha, rfl⟩ := hrel
        have HH := Lib.hid hha
        clear hha
        by_cases hlt2 : k < j
        · obtain ⟨b', off', e, hbl, hc2, hfv2⟩ := h.at (show k < n by omega)
          simp only [Option.some.injEq, Addr.mk.injEq, and_true] at e
          obtain ⟨rfl, rfl⟩ := e
          clear hbl
          have hkm : k < n := by omega
          cases hz : equN (vals Z j) (vals Z k) with
          | true =>
            have hs : (ford .f32 (cn .f32 (Z j)) (cn .f32 (Z k)) == some .eq) = true := hz
            have hz' := Lib.hid hz
            clear hz
            exact absurd (apB_off2 hlt2 hlt hz'.out) (by rw [HAP.out]; simp)
          | false =>
            have hs : (ford .f32 (cn .f32 (Z j)) (cn .f32 (Z k)) == some .eq) = false := hz
            have hz' : Hid (hasE (vals Z j) (vals Z) (k + 1) = false) := Lib.hid (by show (hasE (vals Z j) (vals Z) k || equN (vals Z j) (vals Z k)) = false; rw [HH.out, hz]; rfl)
            clear hz h h2
            go_wp2
            go_quiet (fail)
            go_wp2
            go_roundw
            case rel => exact ⟨k + 1, _, by omega, by go_num, hz'.out, rfl⟩
            case measure => simp [intOf]; omega
        · obtain rfl : k = j := by omega
          have HS : Hid (apB (vals Z) (k + 1) = true) := Lib.hid (apB_step HA.out HH.out)
          clear hi hz0 hz1 hz2
          go_wp2
          go_roundw
          case rel => exact ⟨k + 1, _, by omega, by go_num, HS.out, rfl⟩
          case measure => simp [intOf]; omega
    · obtain rfl : j = n := by omega
      go_wp2_with (at_builtin; refine wpList_append_own _ rfl _ _ 22 rfl w.heap.size 23 i0 (.float .f32 0) 1 4 Try.underlying22 hi hz0 hz1 hz2 rfl (by decide) _ _ _ rfl (World.ownsRow_made (w.drewN m0) #[] 0 (Nat.le_refl _) (Nat.zero_le _) (by simp)) ⟨p, o, none⟩ j d (cellsOf32 Y j) rfl ?qc1 ?qc2 ?qc3 ?qc4 ?qc5 ?qc6 ?_)
      case qc1 => rw [cells32_len]; omega
      case qc2 =>
        intro j u hj
        rw [Addr.add_lit]
        exact Lib.cell?_alloc_some _ (hcell.out j u hj)
      case qc3 => exact cells32_one
      case qc4 => rw [Nat.zero_add]; unfold maxLen; omega
      case qc5 => rw [Nat.zero_add]; omega
      case qc6 => simp
      intro v' w4 hown hgrow hnil
      have hown2 : w4.ownsRow w.heap.size 23 1 v' j (cellsOf32 Y j) := by simpa using hown
      obtain ⟨gX, dX, rfl, oX, _, _⟩ := own_of_row (Z := Y) hown2 h0 (fun t ht => cells32_at ht) hwf.out
      have B4w : Below w.heap.size w w4 := ((below_drewN (Below.refl w.heap.size w) m0).alloc (Nat.le_refl _) _).grown hgrow (by simp) (by intro k hk; simp [Value.ownBlock] at hk; omega)
      obtain ⟨B4, hB4⟩ : ∃ B, B = w.heap.size := ⟨_, rfl⟩
      obtain ⟨U4, hU4⟩ : ∃ U, U = w4.heap.size := ⟨_, rfl⟩
      have oX : Own 23 .f32 B4 U4 w4 (some ⟨gX, 0, none⟩) j dX Y := by rw [hB4, hU4]; exact oX
      have hBw : w.heap.size ≤ B4 := by omega
      have hU4 := Lib.hid hU4
      clear hB4 hown hgrow hnil hown2 hi hz0 hz1 hz2
      obtain ⟨n, hjn⟩ : ∃ n, n = j := ⟨_, rfl⟩
      subst hjn
      go_wp2_with fail
      have oX0 := oX
      go_loopw [10] (fun i wr => ∃ (k K : Nat) (D : Nat → Nat), K = k + 1 ∧ K ≤ n ∧ i = .int .i64 K ∧ (∀ t, t < n → vals D t = ddV (vals Z) (vals Y) k t) ∧ Own 23 .f32 B4 U4 wr (some ⟨gX, 0, none⟩) n dX D ∧ Below w.heap.size w wr) (fun i _ => n - (intOf i).toNat)
      case atStart => exact ⟨0, 1, Y, rfl, h1, rfl, fun t ht => rfl, oX0, B4w⟩
      case round =>
        obtain ⟨k, K, D, hK, hKn, rfl, hD, kX, hb⟩ := hrel
        have HD := Lib.hid hD
        have HK := Lib.hid hK
        clear hD oX oX0 B4w hK
        by_cases hlt : K < n
        · have kX' := Lib.hid kX
          have hb' := Lib.hid hb
          obtain ⟨wo, hwo⟩ : ∃ wo, wo = wr := ⟨_, rfl⟩
          clear kX hb
          go_wp2_with fail
          go_loopw [11] (fun i wr => ∃ (j : Nat) (D : Nat → Nat), j + K ≤ n ∧ i = .int .i64 ((n : Int) - 1 - j) ∧ (∀ t, t < n → vals D t = ddL (vals Z) (vals Y) k (n - j) t) ∧ Own 23 .f32 B4 U4 wr (some ⟨gX, 0, none⟩) n dX D ∧ Below w.heap.size w wr) (fun i _ => (intOf i + 1).toNat)
          case atStart => exact ⟨0, D, by omega, by simp, fun t ht => (HD.out t ht).trans (ddL_top ht).symm, kX'.out, hb'.out⟩
          case round =>
            obtain ⟨j, D2, hj, rfl, hD2, kX2, hb2⟩ := hrel
            have HD2 := Lib.hid hD2
            clear hD2 kX' hb' hwo
            by_cases hlt2 : j + K < n
            · obtain ⟨s, hs⟩ : ∃ s, s + (j + 2) = n := ⟨n - (j + 2), by have := HK.out; omega⟩
              obtain ⟨q, hq⟩ : ∃ q, q = s + 1 := ⟨_, rfl⟩
              obtain ⟨u, hu⟩ : ∃ u, u + K = q := ⟨q - K, by omega⟩
              have hqi : (n : Int) - 1 - j = (q : Int) := by omega
              rw [hqi]
              have HQ := Lib.hid (show s + 1 = q from hq.symm)
              have HU := Lib.hid (show u + (k + 1) = q by have := HK.out; omega)
              have HN := Lib.hid (show n - j = q + 1 by omega)
              have hii : Hid (Value.int .i64 ((q : Int) - 1) = Value.int .i64 ((n : Int) - 1 - ((j + 1 : Nat) : Int))) := Lib.hid (by rw [show (q : Int) - 1 = (n : Int) - 1 - ((j + 1 : Nat) : Int) by omega])
              have hN1 : Hid (n - (j + 1) = q) := Lib.hid (by omega)
              have hqn : q < n := by omega
              have hsn : s < n := by omega
              have hun : u < n := by omega
              have hge : decide ((K : Int) ≤ q) = true := decide_eq_true (by omega)
              have hge2 : K ≤ q := by omega
              have hi1 : (q : Int) - 1 = (s : Int) := by omega
              have hi2 : (q : Int) - (K : Int) = (u : Int) := by omega
              obtain ⟨c1, r1, gd1, gd2, gd3, w1⟩ := kX2.cell (t := q) hqn
              obtain ⟨c2, r2, _, _, _, w2⟩ := kX2.cell (t := s) hsn
              have fq : FV .f32 (D2 q) (ddV (vals Z) (vals Y) k q) := ⟨(HD2.out q hqn).trans (by rw [HN.out]; exact ddL_at (Nat.lt_succ_self _)), w1⟩
              have fs : FV .f32 (D2 s) (ddV (vals Z) (vals Y) k s) := ⟨(HD2.out s hsn).trans (by rw [HN.out]; exact ddL_at (by have := HQ.out; omega)), w2⟩
              obtain ⟨b', off', e, hbl, hcz, hfz⟩ := (h.below hb2 (Nat.le_refl _)).at hqn
              simp only [Option.some.injEq, Addr.mk.injEq, and_true] at e
              obtain ⟨rfl, rfl⟩ := e
              obtain ⟨b', off', e, hbl2, hcu, hfu⟩ := (h.below hb2 (Nat.le_refl _)).at hun
              simp only [Option.some.injEq, Addr.mk.injEq, and_true] at e
              obtain ⟨rfl, rfl⟩ := e
              have kX3 := Lib.hid kX2
              have hb3 := Lib.hid hb2
              clear kX2 hb2 w1 w2 hbl hbl2 hqi hs hq hu
              go_wp2
              (refine wp_region_loose_tail 25 (by kernel_rfl) (by kernel_rfl) ?_; simp only [List.take_succ_cons, List.take_zero, List.drop_succ_cons, List.drop_zero]; (repeat (refine wpLoose_want rfl (fun K hK => ?_); first | (refine loose_farith _ _ _ _ _ rfl rfl _ _ _ rfl rfl (by first | assumption | (with_reducible exact FV.ofInt _ _) | (with_reducible exact FV.neg (by assumption)) | exact FV.lit (by kernel_rfl) (by kernel_rfl)) (by first | assumption | (with_reducible exact FV.ofInt _ _) | (with_reducible exact FV.neg (by assumption)) | exact FV.lit (by kernel_rfl) (by kernel_rfl)) ?_; intro r hr; refine hK _ ?_; clear hK K; simp only [Act.put, List.setIfInBounds_toArray, List.set_cons_succ, List.set_cons_zero]) | (refine loose_of_quiet rfl ?_; go_big_quiet_op; refine hK _ ?_; clear hK K))); refine wpLoose_nil ?_)
              rintro _ ⟨k2, rfl⟩
              obtain ⟨kX4, gg⟩ := (show Own 23 .f32 B4 U4 (wr.drewN k2) (some ⟨gX, 0, none⟩) n dX D2 from kX3.out).stored (t := q) hqn hr.2
              have hb4 : Hid (Below w.heap.size w ((wr.drewN k2).setCell ⟨gX, q, none⟩ (.float .f32 r))) := Lib.hid ((below_drewN hb3.out _).setCell (by show w.heap.size ≤ gX; omega) _)
              have HD4 : Hid (∀ t, t < n → vals (fun t => if t = q then r else D2 t) t = ddL (vals Z) (vals Y) k (n - (j + 1)) t) := Lib.hid (by
                rw [hN1.out]
                exact ddL_step (by rw [← HN.out]; exact HD2.out) (hr.1.trans (ddV_at HQ.out HU.out).symm))
              have kX5 := Lib.hid kX4
              clear kX4 gg kX3 hb3 c2 r2 fq fs hr hi1
              go_wp2_with fail
              go_roundw
              case rel => exact ⟨j + 1, _, by omega, hii.out, HD4.out, kX5.out, hb4.out⟩
              case measure => simp [intOf]
            · have hqi : (n : Int) - 1 - j = ((K : Int) - 1) := by omega
              rw [hqi]
              have hN1 : Hid (n - j = k + 1) := Lib.hid (by have := HK.out; omega)
              have hge : decide ((K : Int) ≤ (K : Int) - 1) = false := decide_eq_false (by omega)
              have hK2 : Hid (K + 1 = k + 1 + 1) := Lib.hid (by have := HK.out; omega)
              have kX3 := Lib.hid kX2
              have hb3 := Lib.hid hb2
              clear kX2 hb2 hqi
              go_wp2
              go_roundw
              case rel => exact ⟨k + 1, K + 1, D2, hK2.out, by omega, by go_num, fun t ht => (HD2.out t ht).trans (by rw [hN1.out]; exact ddL_low), kX3.out, hb3.out⟩
              case measure => simp [intOf]; omega
        · obtain rfl : K = n := by omega
          have HE : Hid (k = K - 1) := Lib.hid (by have := HK.out; omega)
          have hVV : Hid (∀ t, t < K → vals D t = VX t) := Lib.hid fun t ht => (HD.out t ht).trans (by rw [HVX.out, ← HE.out])
          have hfin : Hid (allFin (vals D) K = OK) := Lib.hid (by rw [HOK.out]; exact allFin_congr hVV.out)
          have FX := Lib.hid kX.fs
          have kX3 := Lib.hid kX
          have hb3 := Lib.hid hb
          clear kX hb
          cases OK with
          | true =>
            go_wp2_with fail
            go_at_call 35
            refine (l02List_yes _ K dX D _ (by omega) FX.out hfin.out).mono ?_
            rintro e w9 ⟨rfl, m9, rfl⟩
            go_wp2_with fail
            go_ret2
            exact ⟨_, _, D, rfl, FS.drewN FX.out, hVV.out, below_drewN hb3.out _⟩
          | false =>
            go_wp2_with fail
            go_at_call 35
            refine (l02List_no _ K dX D _ (by omega) FX.out hfin.out).mono ?_
            rintro e w9 ⟨rfl, m9, rfl⟩
            go_wp2_with fail
            go_ret2
            exact NumsBel.no (below_drewN hb3.out _)
theorem keyDividedOf (n : Nat) (Z : Nat → Nat) (m : Nat) (Y : Nat → Nat) (hn : n ≤ 1048576) (hm : m ≤ 1048576) : ∃ (ok : Bool) (n' : Nat) (V : Nat → Option Nat), n' ≤ 144 ∧
    (∀ a c b d W, FS .f32 W a n c Z → FS .f32 W b m d Y → Calls Try.prog 14 #[.slice a n c, .slice b m d] W (NumsBel ok n' V W)) ∧
    (∀ a c b d W, FS .f32 W a n c Z → FS .f32 W b m d Y → Calls Try.prog 15 #[.slice a n c, .slice b m d] W (NumsOwn ok n' V W)) := by
  cases ho : dvB n m (vals Z) (vals Y) with
  | false => exact ⟨false, 0, fun _ => none, by omega, fun a c b d W h h2 => specDivided_no a b n c m d Z Y W hn hm h h2 ho, fun a c b d W h h2 => implDivided_no a b n c m d Z Y W hn hm h h2 ho⟩
  | true =>
    unfold dvB at ho
    simp only [Bool.and_eq_true] at ho
    obtain ⟨hv, hap⟩ := ho
    obtain ⟨⟨g1, g2⟩, rfl, _, _⟩ := nodes_yes hv
    have k1 : ∀ a c b d W, FS .f32 W a m c Z → FS .f32 W b m d Y → Calls Try.prog 14 #[.slice a m c, .slice b m d] W (NBelIf (allFin (ddV (vals Z) (vals Y) (m - 1)) m) m (ddV (vals Z) (vals Y) (m - 1)) W) := fun a c b d W h h2 => by
      obtain ⟨b1, o1, rfl, _, _, _⟩ := h.at (show 0 < m by omega)
      obtain ⟨b2, o2, rfl, _, _, _⟩ := h2.at (show 0 < m by omega)
      exact specDivided_yes b1 o1 m c b2 o2 d Z Y W _ _ g1 g2 hv hap rfl rfl h h2
    have k2 : ∀ a c b d W, FS .f32 W a m c Z → FS .f32 W b m d Y → Calls Try.prog 15 #[.slice a m c, .slice b m d] W (NOwnIf (allFin (ddV (vals Z) (vals Y) (m - 1)) m) m (ddV (vals Z) (vals Y) (m - 1)) W) := fun a c b d W h h2 => by
      obtain ⟨b1, o1, rfl, _, _, _⟩ := h.at (show 0 < m by omega)
      obtain ⟨b2, o2, rfl, _, _, _⟩ := h2.at (show 0 < m by omega)
      exact implDivided_yes b1 o1 m c b2 o2 d Z Y W _ _ g1 g2 hv hap rfl rfl h h2
    generalize allFin (ddV (vals Z) (vals Y) (m - 1)) m = ok at k1 k2
    cases ok
    · exact ⟨false, 0, fun _ => none, by omega, k1, k2⟩
    · exact ⟨true, m, ddV (vals Z) (vals Y) (m - 1), by omega, k1, k2⟩
end Go.Proofs.Ytpmilaemmdcfaaa
