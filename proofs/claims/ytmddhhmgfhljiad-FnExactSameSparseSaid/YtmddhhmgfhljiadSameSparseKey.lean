/- Helper: whether two sparse squares are the same, of the program and of its reference. Conditions: none. -/
import Derived.Test.YtmddhhmgfhljiadSameWholeKey
import Derived.Test.YtmddhhmgfhljiadSameSpec
import Derived.Test.YtmddhhmgfhljiadSameKey
import Derived.Test.YtmddhhmgfhljiadSparse
set_option linter.unusedVariables false
set_option linter.unusedSimpArgs false
namespace Go.Proofs.Ytmddhhmgfhljiad
open Go.RowKit

set_option maxRecDepth 100000 in
set_option maxHeartbeats 2000000 in
theorem equalFuncS_any (a a2 : Option Addr) (n c n2 c2 : Nat) (X Y : Nat → Nat) (w : World) (hn : n ≤ 1048576) (hm : n2 ≤ 1048576) (h : FS .f32 w a n c X) (h2 : FS .f32 w a2 n2 c2 Y) :
    Calls Try.prog 44 #[.slice a n c, .slice a2 n2 c2, .func (.func 45) #[] #[]] w fun e w' => e = .returned (.bool (decide (n = n2) && sameTo X Y n)) ∧ ∃ m, w' = w.drewN m := by
  by_cases he : n = n2
  · subst he
    rw [decide_eq_true rfl, Bool.true_and]
    have hd : ((n : Int) != (n : Int)) = false := by simp
    go_enter Try.func44, Try.ntmps44
    go_wp2
    go_loopw [17] (fun i wr => ∃ j m : Nat, j ≤ n ∧ i = .int .i64 j ∧ sameTo X Y j = true ∧ wr = w.drewN m) (fun i _ => n - (intOf i).toNat)
    case atStart => exact ⟨0, 0, Nat.zero_le _, rfl, rfl, rfl⟩
    case round =>
      obtain ⟨j, m0, hj, rfl, ha, hwr⟩ := hrel
      have HA := Lib.hid ha
      have k1 : FS .f32 wr a n c X := hwr ▸ FS.drewN h
      have k2 : FS .f32 wr a2 n c2 Y := hwr ▸ FS.drewN h2
      have HW := Lib.hid hwr
      clear ha hwr
      by_cases hlt : j < n
      · obtain ⟨b, off, rfl, hbl, hc, hfv⟩ := k1.at hlt
        obtain ⟨b2, off2, rfl, hbl2, hc2, hfv2⟩ := k2.at hlt
        clear hbl h hbl2 h2 k1 k2
        have hcall : ∀ W, Calls Try.prog 45 #[.float .f32 (X j), .float .f32 (Y j)] W fun e w' => e = .returned (.bool (sameAt X Y j)) ∧ W = w' := fun W => implSameNumber_any _ hfv.2 _ hfv2.2 W
        have hd2 : decide ((j : Int) < (n : Int)) = true := decide_eq_true (by omega)
        cases hs : sameAt X Y j with
        | true =>
          have HF := Lib.hid (sameTo_succ HA.out hs)
          rw [hs] at hcall
          clear hs
          go_wp2_with (go_at_call 45; refine (hcall _).mono ?_; rintro e w' ⟨rfl, rfl⟩)
          go_roundw
          case rel => exact ⟨j + 1, _, by omega, by go_num, HF.out, by first | exact HW.out | rw [HW.out, World.drewN_drewN]⟩
          case measure => simp [intOf]; omega
        | false =>
          have HN := Lib.hid (sameTo_no hlt hs)
          rw [hs] at hcall
          clear hs
          go_wp2_with (go_at_call 45; refine (hcall _).mono ?_; rintro e w' ⟨rfl, rfl⟩)
          go_ret
          exact ⟨by rw [HN.out]; rfl, _, by first | exact HW.out | rw [HW.out, World.drewN_drewN]⟩
      · obtain rfl : j = n := by omega
        have hd2 : decide ((j : Int) < (j : Int)) = false := decide_eq_false (by omega)
        go_wp2
        go_ret
        exact ⟨by rw [HA.out]; rfl, _, HW.out⟩
  · rw [decide_eq_false he, Bool.false_and]
    have hd : ((n : Int) != (n2 : Int)) = true := by simp; omega
    go_enter Try.func44, Try.ntmps44
    go_wp2
    go_ret
    exact ⟨rfl, 0, rfl⟩
set_option maxHeartbeats 1000000 in
theorem l00Same_any (a b : Option Addr) (n c n2 d : Nat) (Z Y : Nat → Int) (w : World) (hn : n ≤ 1048576) (hn2 : n2 ≤ 1048576) (ha : IS .i64 w a n c Z) (hb : IS .i64 w b n2 d Y) :
    Calls Try.prog 41 #[.slice a n c, .slice b n2 d] w fun e w' => e = .returned (.bool (eqB n Z n2 Y)) ∧ ∃ m, w' = w.drewN m := by
  by_cases hnn : n = n2
  case neg =>
    have HB : Hid (eqB n Z n2 Y = false) := Lib.hid (by unfold eqB; rw [decide_eq_false hnn]; rfl)
    have e1 : ((n : Int) == (n2 : Int)) = false := beq_eq_false_iff_ne.2 (by omega)
    have f1 : ((n : Int) != (n2 : Int)) = true := bne_iff_ne.2 (by omega)
    go_enter Try.func41, Try.ntmps41
    go_wp2
    go_ret
    exact ⟨by rw [HB.out]; rfl, 0, rfl⟩
  subst hnn
  have HB : Hid (eqB n Z n Y = eqTo Z Y n) := Lib.hid (by unfold eqB; simp)
  have f1 : ((n : Int) != (n : Int)) = false := by simp
  go_enter Try.func41, Try.ntmps41
  go_wp2
  go_loopw [5] (fun s wr => ∃ j m : Nat, j ≤ n ∧ s = .int .i64 j ∧ wr = w.drewN m ∧ Hid (eqTo Z Y j = true)) (fun s _ => n - (intOf s).toNat)
  case atStart => exact ⟨0, 0, Nat.zero_le _, rfl, rfl, Lib.hid rfl⟩
  case round =>
    obtain ⟨j, m, hj, rfl, rfl, ho⟩ := hrel
    by_cases hlt : j < n
    · obtain ⟨b1, off1, rfl, hbl, hc, hw⟩ := IS.at ha hlt
      obtain ⟨b2, off2, rfl, hbl2, hc2, hw2⟩ := IS.at hb hlt
      clear ha hb hbl hbl2 hw hw2
      have hdec : decide ((j : Int) < n) = true := decide_eq_true (by omega)
      cases hq : (Z j == Y j) with
      | false =>
        have HN := Lib.hid (eqTo_bad hq hlt)
        have hq3 : (Z j != Y j) = true := by unfold bne; rw [hq]; rfl
        generalize Z j = x at hc hq hq3
        generalize Y j = y at hc2 hq hq3
        go_wp2
        go_quiet (fail)
        go_wp2
        go_ret
        exact ⟨by rw [HB.out, HN.out]; rfl, _, by first | rfl | exact World.drewN_drewN ..⟩
      | true =>
        have HN : Hid (eqTo Z Y (j + 1) = true) := Lib.hid (by simp only [eqTo, ho.out, hq]; rfl)
        generalize Z j = x at hc hq
        generalize Y j = y at hc2 hq
        have hq2 := beq_iff_eq.1 hq
        subst hq2
        have hq3 : (x != x) = false := by simp
        clear hq
        go_wp2
        go_quiet (fail)
        go_wp2
        go_roundw
        case rel => exact ⟨j + 1, _, by omega, by go_num, rfl, HN⟩
        case measure => simp [intOf]; omega
    · obtain rfl : j = n := by omega
      go_wp2
      go_ret
      exact ⟨by rw [HB.out, ho.out]; rfl, _, rfl⟩
/-- Whether two sparse squares are the same. -/
def sameSpB (xa : Int) (nb : Nat) (Zb : Nat → Int) (nc : Nat) (Zc : Nat → Int) (nd : Nat) (Zd : Nat → Nat) (ya : Int) (mb : Nat) (Yb : Nat → Int) (mc : Nat) (Yc : Nat → Int) (md : Nat) (Yd : Nat → Nat) : Bool := decide (xa = ya) && (eqB nb Zb mb Yb && (eqB nc Zc mc Yc && (decide (nd = md) && sameTo Zd Yd nd)))
set_option maxRecDepth 20000 in
set_option maxHeartbeats 2000000 in
theorem implSameSparse_any (xa : Int) (ab : Option Addr) (nb cb : Nat) (Zb : Nat → Int) (ac : Option Addr) (nc cc : Nat) (Zc : Nat → Int) (ad : Option Addr) (nd cd : Nat) (Zd : Nat → Nat) (ya : Int) (bb : Option Addr) (mb db : Nat) (Yb : Nat → Int) (bc : Option Addr) (mc dc : Nat) (Yc : Nat → Int) (bd : Option Addr) (md dd : Nat) (Yd : Nat → Nat) (w : World) (hnb : nb ≤ 1048576) (hnc : nc ≤ 1048576) (hnd : nd ≤ 1048576) (hmb : mb ≤ 1048576) (hmc : mc ≤ 1048576) (hmd : md ≤ 1048576) (hb : IS .i64 w ab nb cb Zb) (hc : IS .i64 w ac nc cc Zc) (hd : FS .f32 w ad nd cd Zd) (kb : IS .i64 w bb mb db Yb) (kc : IS .i64 w bc mc dc Yc) (kd : FS .f32 w bd md dd Yd) :
    Calls Try.prog 15 #[.agg #[.int .i64 xa, .slice ab nb cb, .slice ac nc cc, .slice ad nd cd], .agg #[.int .i64 ya, .slice bb mb db, .slice bc mc dc, .slice bd md dd]] w fun e w' => e = .returned (.bool (sameSpB xa nb Zb nc Zc nd Zd ya mb Yb mc Yc md Yd)) ∧ Below w.heap.size w w' := by
  by_cases hR : xa = ya
  case neg =>
    have HB : Hid (sameSpB xa nb Zb nc Zc nd Zd ya mb Yb mc Yc md Yd = false) := Lib.hid (by unfold sameSpB; rw [decide_eq_false hR]; rfl)
    have e1 : (xa == ya) = false := beq_eq_false_iff_ne.2 hR
    have hR2 := Lib.hid hR
    clear hR
    go_enter Try.func15, Try.ntmps15
    go_wp2_with fail
    go_ret
    exact ⟨by rw [HB.out]; rfl, (by repeat first | (with_reducible exact Below.refl _ _) | (with_reducible refine Below.setCell ?_ (by first | exact Nat.le_refl _ | (simp; done) | (simp; omega) | omega) _) | (with_reducible refine Below.alloc ?_ (by first | exact Nat.le_refl _ | (simp; done) | (simp; omega) | omega) _) | (with_reducible refine below_drewN ?_ _) | (with_reducible refine Below.drew ?_))⟩
  subst hR
  cases hpB : eqB nb Zb mb Yb with
  | false =>
    have HB : Hid (sameSpB xa nb Zb nc Zc nd Zd xa mb Yb mc Yc md Yd = false) := Lib.hid (by unfold sameSpB; rw [hpB]; simp)
    have e1 : (xa == xa) = true := beq_self_eq_true _
    go_enter Try.func15, Try.ntmps15
    go_wp2_with fail
    have XA : BoxL ((w.alloc (.cells #[.int .i64 xa, .slice ab nb cb, .slice ac nc cc, .slice ad nd cd] 28)).alloc (.cells #[.int .i64 xa, .slice bb mb db, .slice bc mc dc, .slice bd md dd] 28)) w.heap.size [.int .i64 xa, .slice ab nb cb, .slice ac nc cc, .slice ad nd cd] := (BoxL.four (by simp [go_sem]) (by simp [go_sem]) (by simp [go_sem]) (by simp [go_sem]))
    have XB : BoxL ((w.alloc (.cells #[.int .i64 xa, .slice ab nb cb, .slice ac nc cc, .slice ad nd cd] 28)).alloc (.cells #[.int .i64 xa, .slice bb mb db, .slice bc mc dc, .slice bd md dd] 28)) (w.heap.size + 1) [.int .i64 xa, .slice bb mb db, .slice bc mc dc, .slice bd md dd] := (BoxL.four (by simp [go_sem]) (by simp [go_sem]) (by simp [go_sem]) (by simp [go_sem]))
    have B0 : Below w.heap.size w ((w.alloc (.cells #[.int .i64 xa, .slice ab nb cb, .slice ac nc cc, .slice ad nd cd] 28)).alloc (.cells #[.int .i64 xa, .slice bb mb db, .slice bc mc dc, .slice bd md dd] 28)) := (by repeat first | (with_reducible exact Below.refl _ _) | (with_reducible refine Below.setCell ?_ (by first | exact Nat.le_refl _ | (simp; done) | (simp; omega) | omega) _) | (with_reducible refine Below.alloc ?_ (by first | exact Nat.le_refl _ | (simp; done) | (simp; omega) | omega) _) | (with_reducible refine below_drewN ?_ _) | (with_reducible refine Below.drew ?_))
    have l0 : w.heap.size + 1 < ((w.alloc (.cells #[.int .i64 xa, .slice ab nb cb, .slice ac nc cc, .slice ad nd cd] 28)).alloc (.cells #[.int .i64 xa, .slice bb mb db, .slice bc mc dc, .slice bd md dd] 28)).heap.size := by simp
    go_at_call 43
    refine (slicesEqual_any ab bb nb cb mb db Zb Yb _ hnb hmb (hb.below B0 (Nat.le_refl _)) (kb.below B0 (Nat.le_refl _))).mono ?_
    rw [hpB]
    rintro e w1 ⟨rfl, q1, hw1⟩
    have b1 := below_of_drewN hw1
    clear hw1
    have B1 := B0.trans (b1.mono B0.size)
    have XA1 := XA.below b1 (by omega)
    have XB1 := XB.below b1 (by omega)
    have l1 : w.heap.size + 1 < w1.heap.size := Nat.lt_of_lt_of_le l0 b1.size
    clear b1 XA XB 
    have x2 := XA1 2 _ rfl
    have y2 := XB1 2 _ rfl
    go_wp2_with fail
    go_ret
    exact ⟨by rw [HB.out]; rfl, (by repeat first | (with_reducible exact B1) | (with_reducible refine Below.setCell ?_ (by first | exact Nat.le_refl _ | (simp; done) | (simp; omega) | omega) _) | (with_reducible refine Below.alloc ?_ (by first | exact Nat.le_refl _ | (simp; done) | (simp; omega) | omega) _) | (with_reducible refine below_drewN ?_ _) | (with_reducible refine Below.drew ?_))⟩
  | true =>
    cases hpC : eqB nc Zc mc Yc with
    | false =>
      have HB : Hid (sameSpB xa nb Zb nc Zc nd Zd xa mb Yb mc Yc md Yd = false) := Lib.hid (by unfold sameSpB; rw [hpB, hpC]; simp)
      have e1 : (xa == xa) = true := beq_self_eq_true _
      go_enter Try.func15, Try.ntmps15
      go_wp2_with fail
      have XA : BoxL ((w.alloc (.cells #[.int .i64 xa, .slice ab nb cb, .slice ac nc cc, .slice ad nd cd] 28)).alloc (.cells #[.int .i64 xa, .slice bb mb db, .slice bc mc dc, .slice bd md dd] 28)) w.heap.size [.int .i64 xa, .slice ab nb cb, .slice ac nc cc, .slice ad nd cd] := (BoxL.four (by simp [go_sem]) (by simp [go_sem]) (by simp [go_sem]) (by simp [go_sem]))
      have XB : BoxL ((w.alloc (.cells #[.int .i64 xa, .slice ab nb cb, .slice ac nc cc, .slice ad nd cd] 28)).alloc (.cells #[.int .i64 xa, .slice bb mb db, .slice bc mc dc, .slice bd md dd] 28)) (w.heap.size + 1) [.int .i64 xa, .slice bb mb db, .slice bc mc dc, .slice bd md dd] := (BoxL.four (by simp [go_sem]) (by simp [go_sem]) (by simp [go_sem]) (by simp [go_sem]))
      have B0 : Below w.heap.size w ((w.alloc (.cells #[.int .i64 xa, .slice ab nb cb, .slice ac nc cc, .slice ad nd cd] 28)).alloc (.cells #[.int .i64 xa, .slice bb mb db, .slice bc mc dc, .slice bd md dd] 28)) := (by repeat first | (with_reducible exact Below.refl _ _) | (with_reducible refine Below.setCell ?_ (by first | exact Nat.le_refl _ | (simp; done) | (simp; omega) | omega) _) | (with_reducible refine Below.alloc ?_ (by first | exact Nat.le_refl _ | (simp; done) | (simp; omega) | omega) _) | (with_reducible refine below_drewN ?_ _) | (with_reducible refine Below.drew ?_))
      have l0 : w.heap.size + 1 < ((w.alloc (.cells #[.int .i64 xa, .slice ab nb cb, .slice ac nc cc, .slice ad nd cd] 28)).alloc (.cells #[.int .i64 xa, .slice bb mb db, .slice bc mc dc, .slice bd md dd] 28)).heap.size := by simp
      go_at_call 43
      refine (slicesEqual_any ab bb nb cb mb db Zb Yb _ hnb hmb (hb.below B0 (Nat.le_refl _)) (kb.below B0 (Nat.le_refl _))).mono ?_
      rw [hpB]
      rintro e w1 ⟨rfl, q1, hw1⟩
      have b1 := below_of_drewN hw1
      clear hw1
      have B1 := B0.trans (b1.mono B0.size)
      have XA1 := XA.below b1 (by omega)
      have XB1 := XB.below b1 (by omega)
      have l1 : w.heap.size + 1 < w1.heap.size := Nat.lt_of_lt_of_le l0 b1.size
      clear b1 XA XB 
      have x2 := XA1 2 _ rfl
      have y2 := XB1 2 _ rfl
      go_wp2_with fail
      go_at_call 43
      refine (slicesEqual_any ac bc nc cc mc dc Zc Yc _ hnc hmc (hc.below B1 (Nat.le_refl _)) (kc.below B1 (Nat.le_refl _))).mono ?_
      rw [hpC]
      rintro e w2 ⟨rfl, q2, hw2⟩
      have b2 := below_of_drewN hw2
      clear hw2
      have B2 := B1.trans (b2.mono B1.size)
      have XA2 := XA1.below b2 (by omega)
      have XB2 := XB1.below b2 (by omega)
      have l2 : w.heap.size + 1 < w2.heap.size := Nat.lt_of_lt_of_le l1 b2.size
      clear b2 XA1 XB1 x2 y2
      have x3 := XA2 3 _ rfl
      have y3 := XB2 3 _ rfl
      go_wp2_with fail
      go_ret
      exact ⟨by rw [HB.out]; rfl, (by repeat first | (with_reducible exact B2) | (with_reducible refine Below.setCell ?_ (by first | exact Nat.le_refl _ | (simp; done) | (simp; omega) | omega) _) | (with_reducible refine Below.alloc ?_ (by first | exact Nat.le_refl _ | (simp; done) | (simp; omega) | omega) _) | (with_reducible refine below_drewN ?_ _) | (with_reducible refine Below.drew ?_))⟩
    | true =>
      cases hpD : (decide (nd = md) && sameTo Zd Yd nd) with
      | false =>
        have HB : Hid (sameSpB xa nb Zb nc Zc nd Zd xa mb Yb mc Yc md Yd = false) := Lib.hid (by unfold sameSpB; rw [hpB, hpC, hpD]; simp)
        have e1 : (xa == xa) = true := beq_self_eq_true _
        go_enter Try.func15, Try.ntmps15
        go_wp2_with fail
        have XA : BoxL ((w.alloc (.cells #[.int .i64 xa, .slice ab nb cb, .slice ac nc cc, .slice ad nd cd] 28)).alloc (.cells #[.int .i64 xa, .slice bb mb db, .slice bc mc dc, .slice bd md dd] 28)) w.heap.size [.int .i64 xa, .slice ab nb cb, .slice ac nc cc, .slice ad nd cd] := (BoxL.four (by simp [go_sem]) (by simp [go_sem]) (by simp [go_sem]) (by simp [go_sem]))
        have XB : BoxL ((w.alloc (.cells #[.int .i64 xa, .slice ab nb cb, .slice ac nc cc, .slice ad nd cd] 28)).alloc (.cells #[.int .i64 xa, .slice bb mb db, .slice bc mc dc, .slice bd md dd] 28)) (w.heap.size + 1) [.int .i64 xa, .slice bb mb db, .slice bc mc dc, .slice bd md dd] := (BoxL.four (by simp [go_sem]) (by simp [go_sem]) (by simp [go_sem]) (by simp [go_sem]))
        have B0 : Below w.heap.size w ((w.alloc (.cells #[.int .i64 xa, .slice ab nb cb, .slice ac nc cc, .slice ad nd cd] 28)).alloc (.cells #[.int .i64 xa, .slice bb mb db, .slice bc mc dc, .slice bd md dd] 28)) := (by repeat first | (with_reducible exact Below.refl _ _) | (with_reducible refine Below.setCell ?_ (by first | exact Nat.le_refl _ | (simp; done) | (simp; omega) | omega) _) | (with_reducible refine Below.alloc ?_ (by first | exact Nat.le_refl _ | (simp; done) | (simp; omega) | omega) _) | (with_reducible refine below_drewN ?_ _) | (with_reducible refine Below.drew ?_))
        have l0 : w.heap.size + 1 < ((w.alloc (.cells #[.int .i64 xa, .slice ab nb cb, .slice ac nc cc, .slice ad nd cd] 28)).alloc (.cells #[.int .i64 xa, .slice bb mb db, .slice bc mc dc, .slice bd md dd] 28)).heap.size := by simp
        go_at_call 43
        refine (slicesEqual_any ab bb nb cb mb db Zb Yb _ hnb hmb (hb.below B0 (Nat.le_refl _)) (kb.below B0 (Nat.le_refl _))).mono ?_
        rw [hpB]
        rintro e w1 ⟨rfl, q1, hw1⟩
        have b1 := below_of_drewN hw1
        clear hw1
        have B1 := B0.trans (b1.mono B0.size)
        have XA1 := XA.below b1 (by omega)
        have XB1 := XB.below b1 (by omega)
        have l1 : w.heap.size + 1 < w1.heap.size := Nat.lt_of_lt_of_le l0 b1.size
        clear b1 XA XB 
        have x2 := XA1 2 _ rfl
        have y2 := XB1 2 _ rfl
        go_wp2_with fail
        go_at_call 43
        refine (slicesEqual_any ac bc nc cc mc dc Zc Yc _ hnc hmc (hc.below B1 (Nat.le_refl _)) (kc.below B1 (Nat.le_refl _))).mono ?_
        rw [hpC]
        rintro e w2 ⟨rfl, q2, hw2⟩
        have b2 := below_of_drewN hw2
        clear hw2
        have B2 := B1.trans (b2.mono B1.size)
        have XA2 := XA1.below b2 (by omega)
        have XB2 := XB1.below b2 (by omega)
        have l2 : w.heap.size + 1 < w2.heap.size := Nat.lt_of_lt_of_le l1 b2.size
        clear b2 XA1 XB1 x2 y2
        have x3 := XA2 3 _ rfl
        have y3 := XB2 3 _ rfl
        go_wp2_with fail
        go_at_call 44
        refine (equalFuncS_any ad bd nd cd md dd Zd Yd _ hnd hmd (hd.below B2 (Nat.le_refl _)) (kd.below B2 (Nat.le_refl _))).mono ?_
        rw [hpD]
        rintro e w3 ⟨rfl, q3, hw3⟩
        have b3 := below_of_drewN hw3
        clear hw3
        have B3 := B2.trans (b3.mono B2.size)
        have XA3 := XA2.below b3 (by omega)
        have XB3 := XB2.below b3 (by omega)
        have l3 : w.heap.size + 1 < w3.heap.size := Nat.lt_of_lt_of_le l2 b3.size
        clear b3 XA2 XB2 x3 y3
        go_wp2_with fail
        go_ret
        exact ⟨by rw [HB.out]; rfl, (by repeat first | (with_reducible exact B3) | (with_reducible refine Below.setCell ?_ (by first | exact Nat.le_refl _ | (simp; done) | (simp; omega) | omega) _) | (with_reducible refine Below.alloc ?_ (by first | exact Nat.le_refl _ | (simp; done) | (simp; omega) | omega) _) | (with_reducible refine below_drewN ?_ _) | (with_reducible refine Below.drew ?_))⟩
      | true =>
        have HB : Hid (sameSpB xa nb Zb nc Zc nd Zd xa mb Yb mc Yc md Yd = true) := Lib.hid (by unfold sameSpB; rw [hpB, hpC, hpD]; simp)
        have e1 : (xa == xa) = true := beq_self_eq_true _
        go_enter Try.func15, Try.ntmps15
        go_wp2_with fail
        have XA : BoxL ((w.alloc (.cells #[.int .i64 xa, .slice ab nb cb, .slice ac nc cc, .slice ad nd cd] 28)).alloc (.cells #[.int .i64 xa, .slice bb mb db, .slice bc mc dc, .slice bd md dd] 28)) w.heap.size [.int .i64 xa, .slice ab nb cb, .slice ac nc cc, .slice ad nd cd] := (BoxL.four (by simp [go_sem]) (by simp [go_sem]) (by simp [go_sem]) (by simp [go_sem]))
        have XB : BoxL ((w.alloc (.cells #[.int .i64 xa, .slice ab nb cb, .slice ac nc cc, .slice ad nd cd] 28)).alloc (.cells #[.int .i64 xa, .slice bb mb db, .slice bc mc dc, .slice bd md dd] 28)) (w.heap.size + 1) [.int .i64 xa, .slice bb mb db, .slice bc mc dc, .slice bd md dd] := (BoxL.four (by simp [go_sem]) (by simp [go_sem]) (by simp [go_sem]) (by simp [go_sem]))
        have B0 : Below w.heap.size w ((w.alloc (.cells #[.int .i64 xa, .slice ab nb cb, .slice ac nc cc, .slice ad nd cd] 28)).alloc (.cells #[.int .i64 xa, .slice bb mb db, .slice bc mc dc, .slice bd md dd] 28)) := (by repeat first | (with_reducible exact Below.refl _ _) | (with_reducible refine Below.setCell ?_ (by first | exact Nat.le_refl _ | (simp; done) | (simp; omega) | omega) _) | (with_reducible refine Below.alloc ?_ (by first | exact Nat.le_refl _ | (simp; done) | (simp; omega) | omega) _) | (with_reducible refine below_drewN ?_ _) | (with_reducible refine Below.drew ?_))
        have l0 : w.heap.size + 1 < ((w.alloc (.cells #[.int .i64 xa, .slice ab nb cb, .slice ac nc cc, .slice ad nd cd] 28)).alloc (.cells #[.int .i64 xa, .slice bb mb db, .slice bc mc dc, .slice bd md dd] 28)).heap.size := by simp
        go_at_call 43
        refine (slicesEqual_any ab bb nb cb mb db Zb Yb _ hnb hmb (hb.below B0 (Nat.le_refl _)) (kb.below B0 (Nat.le_refl _))).mono ?_
        rw [hpB]
        rintro e w1 ⟨rfl, q1, hw1⟩
        have b1 := below_of_drewN hw1
        clear hw1
        have B1 := B0.trans (b1.mono B0.size)
        have XA1 := XA.below b1 (by omega)
        have XB1 := XB.below b1 (by omega)
        have l1 : w.heap.size + 1 < w1.heap.size := Nat.lt_of_lt_of_le l0 b1.size
        clear b1 XA XB 
        have x2 := XA1 2 _ rfl
        have y2 := XB1 2 _ rfl
        go_wp2_with fail
        go_at_call 43
        refine (slicesEqual_any ac bc nc cc mc dc Zc Yc _ hnc hmc (hc.below B1 (Nat.le_refl _)) (kc.below B1 (Nat.le_refl _))).mono ?_
        rw [hpC]
        rintro e w2 ⟨rfl, q2, hw2⟩
        have b2 := below_of_drewN hw2
        clear hw2
        have B2 := B1.trans (b2.mono B1.size)
        have XA2 := XA1.below b2 (by omega)
        have XB2 := XB1.below b2 (by omega)
        have l2 : w.heap.size + 1 < w2.heap.size := Nat.lt_of_lt_of_le l1 b2.size
        clear b2 XA1 XB1 x2 y2
        have x3 := XA2 3 _ rfl
        have y3 := XB2 3 _ rfl
        go_wp2_with fail
        go_at_call 44
        refine (equalFuncS_any ad bd nd cd md dd Zd Yd _ hnd hmd (hd.below B2 (Nat.le_refl _)) (kd.below B2 (Nat.le_refl _))).mono ?_
        rw [hpD]
        rintro e w3 ⟨rfl, q3, hw3⟩
        have b3 := below_of_drewN hw3
        clear hw3
        have B3 := B2.trans (b3.mono B2.size)
        have XA3 := XA2.below b3 (by omega)
        have XB3 := XB2.below b3 (by omega)
        have l3 : w.heap.size + 1 < w3.heap.size := Nat.lt_of_lt_of_le l2 b3.size
        clear b3 XA2 XB2 x3 y3
        go_wp2_with fail
        go_ret
        exact ⟨by rw [HB.out]; rfl, (by repeat first | (with_reducible exact B3) | (with_reducible refine Below.setCell ?_ (by first | exact Nat.le_refl _ | (simp; done) | (simp; omega) | omega) _) | (with_reducible refine Below.alloc ?_ (by first | exact Nat.le_refl _ | (simp; done) | (simp; omega) | omega) _) | (with_reducible refine below_drewN ?_ _) | (with_reducible refine Below.drew ?_))⟩
set_option maxRecDepth 20000 in
set_option maxHeartbeats 2000000 in
theorem specSameSparse_any (xa : Int) (ab : Option Addr) (nb cb : Nat) (Zb : Nat → Int) (ac : Option Addr) (nc cc : Nat) (Zc : Nat → Int) (ad : Option Addr) (nd cd : Nat) (Zd : Nat → Nat) (ya : Int) (bb : Option Addr) (mb db : Nat) (Yb : Nat → Int) (bc : Option Addr) (mc dc : Nat) (Yc : Nat → Int) (bd : Option Addr) (md dd : Nat) (Yd : Nat → Nat) (w : World) (hnb : nb ≤ 1048576) (hnc : nc ≤ 1048576) (hnd : nd ≤ 1048576) (hmb : mb ≤ 1048576) (hmc : mc ≤ 1048576) (hmd : md ≤ 1048576) (hb : IS .i64 w ab nb cb Zb) (hc : IS .i64 w ac nc cc Zc) (hd : FS .f32 w ad nd cd Zd) (kb : IS .i64 w bb mb db Yb) (kc : IS .i64 w bc mc dc Yc) (kd : FS .f32 w bd md dd Yd) :
    Calls Try.prog 14 #[.agg #[.int .i64 xa, .slice ab nb cb, .slice ac nc cc, .slice ad nd cd], .agg #[.int .i64 ya, .slice bb mb db, .slice bc mc dc, .slice bd md dd]] w fun e w' => e = .returned (.bool (sameSpB xa nb Zb nc Zc nd Zd ya mb Yb mc Yc md Yd)) ∧ Below w.heap.size w w' := by
  by_cases hR : xa = ya
  case neg =>
    have HB : Hid (sameSpB xa nb Zb nc Zc nd Zd ya mb Yb mc Yc md Yd = false) := Lib.hid (by unfold sameSpB; rw [decide_eq_false hR]; rfl)
    have e1 : (xa == ya) = false := beq_eq_false_iff_ne.2 hR
    have hR2 := Lib.hid hR
    clear hR
    go_enter Try.func14, Try.ntmps14
    go_wp2_with fail
    go_ret
    exact ⟨by rw [HB.out]; rfl, (by repeat first | (with_reducible exact Below.refl _ _) | (with_reducible refine Below.setCell ?_ (by first | exact Nat.le_refl _ | (simp; done) | (simp; omega) | omega) _) | (with_reducible refine Below.alloc ?_ (by first | exact Nat.le_refl _ | (simp; done) | (simp; omega) | omega) _) | (with_reducible refine below_drewN ?_ _) | (with_reducible refine Below.drew ?_))⟩
  subst hR
  cases hpB : eqB nb Zb mb Yb with
  | false =>
    have HB : Hid (sameSpB xa nb Zb nc Zc nd Zd xa mb Yb mc Yc md Yd = false) := Lib.hid (by unfold sameSpB; rw [hpB]; simp)
    have e1 : (xa == xa) = true := beq_self_eq_true _
    go_enter Try.func14, Try.ntmps14
    go_wp2_with fail
    have XA : BoxL ((w.alloc (.cells #[.int .i64 xa, .slice ab nb cb, .slice ac nc cc, .slice ad nd cd] 28)).alloc (.cells #[.int .i64 xa, .slice bb mb db, .slice bc mc dc, .slice bd md dd] 28)) w.heap.size [.int .i64 xa, .slice ab nb cb, .slice ac nc cc, .slice ad nd cd] := (BoxL.four (by simp [go_sem]) (by simp [go_sem]) (by simp [go_sem]) (by simp [go_sem]))
    have XB : BoxL ((w.alloc (.cells #[.int .i64 xa, .slice ab nb cb, .slice ac nc cc, .slice ad nd cd] 28)).alloc (.cells #[.int .i64 xa, .slice bb mb db, .slice bc mc dc, .slice bd md dd] 28)) (w.heap.size + 1) [.int .i64 xa, .slice bb mb db, .slice bc mc dc, .slice bd md dd] := (BoxL.four (by simp [go_sem]) (by simp [go_sem]) (by simp [go_sem]) (by simp [go_sem]))
    have B0 : Below w.heap.size w ((w.alloc (.cells #[.int .i64 xa, .slice ab nb cb, .slice ac nc cc, .slice ad nd cd] 28)).alloc (.cells #[.int .i64 xa, .slice bb mb db, .slice bc mc dc, .slice bd md dd] 28)) := (by repeat first | (with_reducible exact Below.refl _ _) | (with_reducible refine Below.setCell ?_ (by first | exact Nat.le_refl _ | (simp; done) | (simp; omega) | omega) _) | (with_reducible refine Below.alloc ?_ (by first | exact Nat.le_refl _ | (simp; done) | (simp; omega) | omega) _) | (with_reducible refine below_drewN ?_ _) | (with_reducible refine Below.drew ?_))
    have l0 : w.heap.size + 1 < ((w.alloc (.cells #[.int .i64 xa, .slice ab nb cb, .slice ac nc cc, .slice ad nd cd] 28)).alloc (.cells #[.int .i64 xa, .slice bb mb db, .slice bc mc dc, .slice bd md dd] 28)).heap.size := by simp
    go_at_call 41
    refine (l00Same_any ab bb nb cb mb db Zb Yb _ hnb hmb (hb.below B0 (Nat.le_refl _)) (kb.below B0 (Nat.le_refl _))).mono ?_
    rw [hpB]
    rintro e w1 ⟨rfl, q1, hw1⟩
    have b1 := below_of_drewN hw1
    clear hw1
    have B1 := B0.trans (b1.mono B0.size)
    have XA1 := XA.below b1 (by omega)
    have XB1 := XB.below b1 (by omega)
    have l1 : w.heap.size + 1 < w1.heap.size := Nat.lt_of_lt_of_le l0 b1.size
    clear b1 XA XB 
    have x2 := XA1 2 _ rfl
    have y2 := XB1 2 _ rfl
    go_wp2_with fail
    go_ret
    exact ⟨by rw [HB.out]; rfl, (by repeat first | (with_reducible exact B1) | (with_reducible refine Below.setCell ?_ (by first | exact Nat.le_refl _ | (simp; done) | (simp; omega) | omega) _) | (with_reducible refine Below.alloc ?_ (by first | exact Nat.le_refl _ | (simp; done) | (simp; omega) | omega) _) | (with_reducible refine below_drewN ?_ _) | (with_reducible refine Below.drew ?_))⟩
  | true =>
    cases hpC : eqB nc Zc mc Yc with
    | false =>
      have HB : Hid (sameSpB xa nb Zb nc Zc nd Zd xa mb Yb mc Yc md Yd = false) := Lib.hid (by unfold sameSpB; rw [hpB, hpC]; simp)
      have e1 : (xa == xa) = true := beq_self_eq_true _
      go_enter Try.func14, Try.ntmps14
      go_wp2_with fail
      have XA : BoxL ((w.alloc (.cells #[.int .i64 xa, .slice ab nb cb, .slice ac nc cc, .slice ad nd cd] 28)).alloc (.cells #[.int .i64 xa, .slice bb mb db, .slice bc mc dc, .slice bd md dd] 28)) w.heap.size [.int .i64 xa, .slice ab nb cb, .slice ac nc cc, .slice ad nd cd] := (BoxL.four (by simp [go_sem]) (by simp [go_sem]) (by simp [go_sem]) (by simp [go_sem]))
      have XB : BoxL ((w.alloc (.cells #[.int .i64 xa, .slice ab nb cb, .slice ac nc cc, .slice ad nd cd] 28)).alloc (.cells #[.int .i64 xa, .slice bb mb db, .slice bc mc dc, .slice bd md dd] 28)) (w.heap.size + 1) [.int .i64 xa, .slice bb mb db, .slice bc mc dc, .slice bd md dd] := (BoxL.four (by simp [go_sem]) (by simp [go_sem]) (by simp [go_sem]) (by simp [go_sem]))
      have B0 : Below w.heap.size w ((w.alloc (.cells #[.int .i64 xa, .slice ab nb cb, .slice ac nc cc, .slice ad nd cd] 28)).alloc (.cells #[.int .i64 xa, .slice bb mb db, .slice bc mc dc, .slice bd md dd] 28)) := (by repeat first | (with_reducible exact Below.refl _ _) | (with_reducible refine Below.setCell ?_ (by first | exact Nat.le_refl _ | (simp; done) | (simp; omega) | omega) _) | (with_reducible refine Below.alloc ?_ (by first | exact Nat.le_refl _ | (simp; done) | (simp; omega) | omega) _) | (with_reducible refine below_drewN ?_ _) | (with_reducible refine Below.drew ?_))
      have l0 : w.heap.size + 1 < ((w.alloc (.cells #[.int .i64 xa, .slice ab nb cb, .slice ac nc cc, .slice ad nd cd] 28)).alloc (.cells #[.int .i64 xa, .slice bb mb db, .slice bc mc dc, .slice bd md dd] 28)).heap.size := by simp
      go_at_call 41
      refine (l00Same_any ab bb nb cb mb db Zb Yb _ hnb hmb (hb.below B0 (Nat.le_refl _)) (kb.below B0 (Nat.le_refl _))).mono ?_
      rw [hpB]
      rintro e w1 ⟨rfl, q1, hw1⟩
      have b1 := below_of_drewN hw1
      clear hw1
      have B1 := B0.trans (b1.mono B0.size)
      have XA1 := XA.below b1 (by omega)
      have XB1 := XB.below b1 (by omega)
      have l1 : w.heap.size + 1 < w1.heap.size := Nat.lt_of_lt_of_le l0 b1.size
      clear b1 XA XB 
      have x2 := XA1 2 _ rfl
      have y2 := XB1 2 _ rfl
      go_wp2_with fail
      go_at_call 41
      refine (l00Same_any ac bc nc cc mc dc Zc Yc _ hnc hmc (hc.below B1 (Nat.le_refl _)) (kc.below B1 (Nat.le_refl _))).mono ?_
      rw [hpC]
      rintro e w2 ⟨rfl, q2, hw2⟩
      have b2 := below_of_drewN hw2
      clear hw2
      have B2 := B1.trans (b2.mono B1.size)
      have XA2 := XA1.below b2 (by omega)
      have XB2 := XB1.below b2 (by omega)
      have l2 : w.heap.size + 1 < w2.heap.size := Nat.lt_of_lt_of_le l1 b2.size
      clear b2 XA1 XB1 x2 y2
      have x3 := XA2 3 _ rfl
      have y3 := XB2 3 _ rfl
      go_wp2_with fail
      go_ret
      exact ⟨by rw [HB.out]; rfl, (by repeat first | (with_reducible exact B2) | (with_reducible refine Below.setCell ?_ (by first | exact Nat.le_refl _ | (simp; done) | (simp; omega) | omega) _) | (with_reducible refine Below.alloc ?_ (by first | exact Nat.le_refl _ | (simp; done) | (simp; omega) | omega) _) | (with_reducible refine below_drewN ?_ _) | (with_reducible refine Below.drew ?_))⟩
    | true =>
      cases hpD : (decide (nd = md) && sameTo Zd Yd nd) with
      | false =>
        have HB : Hid (sameSpB xa nb Zb nc Zc nd Zd xa mb Yb mc Yc md Yd = false) := Lib.hid (by unfold sameSpB; rw [hpB, hpC, hpD]; simp)
        have e1 : (xa == xa) = true := beq_self_eq_true _
        go_enter Try.func14, Try.ntmps14
        go_wp2_with fail
        have XA : BoxL ((w.alloc (.cells #[.int .i64 xa, .slice ab nb cb, .slice ac nc cc, .slice ad nd cd] 28)).alloc (.cells #[.int .i64 xa, .slice bb mb db, .slice bc mc dc, .slice bd md dd] 28)) w.heap.size [.int .i64 xa, .slice ab nb cb, .slice ac nc cc, .slice ad nd cd] := (BoxL.four (by simp [go_sem]) (by simp [go_sem]) (by simp [go_sem]) (by simp [go_sem]))
        have XB : BoxL ((w.alloc (.cells #[.int .i64 xa, .slice ab nb cb, .slice ac nc cc, .slice ad nd cd] 28)).alloc (.cells #[.int .i64 xa, .slice bb mb db, .slice bc mc dc, .slice bd md dd] 28)) (w.heap.size + 1) [.int .i64 xa, .slice bb mb db, .slice bc mc dc, .slice bd md dd] := (BoxL.four (by simp [go_sem]) (by simp [go_sem]) (by simp [go_sem]) (by simp [go_sem]))
        have B0 : Below w.heap.size w ((w.alloc (.cells #[.int .i64 xa, .slice ab nb cb, .slice ac nc cc, .slice ad nd cd] 28)).alloc (.cells #[.int .i64 xa, .slice bb mb db, .slice bc mc dc, .slice bd md dd] 28)) := (by repeat first | (with_reducible exact Below.refl _ _) | (with_reducible refine Below.setCell ?_ (by first | exact Nat.le_refl _ | (simp; done) | (simp; omega) | omega) _) | (with_reducible refine Below.alloc ?_ (by first | exact Nat.le_refl _ | (simp; done) | (simp; omega) | omega) _) | (with_reducible refine below_drewN ?_ _) | (with_reducible refine Below.drew ?_))
        have l0 : w.heap.size + 1 < ((w.alloc (.cells #[.int .i64 xa, .slice ab nb cb, .slice ac nc cc, .slice ad nd cd] 28)).alloc (.cells #[.int .i64 xa, .slice bb mb db, .slice bc mc dc, .slice bd md dd] 28)).heap.size := by simp
        go_at_call 41
        refine (l00Same_any ab bb nb cb mb db Zb Yb _ hnb hmb (hb.below B0 (Nat.le_refl _)) (kb.below B0 (Nat.le_refl _))).mono ?_
        rw [hpB]
        rintro e w1 ⟨rfl, q1, hw1⟩
        have b1 := below_of_drewN hw1
        clear hw1
        have B1 := B0.trans (b1.mono B0.size)
        have XA1 := XA.below b1 (by omega)
        have XB1 := XB.below b1 (by omega)
        have l1 : w.heap.size + 1 < w1.heap.size := Nat.lt_of_lt_of_le l0 b1.size
        clear b1 XA XB 
        have x2 := XA1 2 _ rfl
        have y2 := XB1 2 _ rfl
        go_wp2_with fail
        go_at_call 41
        refine (l00Same_any ac bc nc cc mc dc Zc Yc _ hnc hmc (hc.below B1 (Nat.le_refl _)) (kc.below B1 (Nat.le_refl _))).mono ?_
        rw [hpC]
        rintro e w2 ⟨rfl, q2, hw2⟩
        have b2 := below_of_drewN hw2
        clear hw2
        have B2 := B1.trans (b2.mono B1.size)
        have XA2 := XA1.below b2 (by omega)
        have XB2 := XB1.below b2 (by omega)
        have l2 : w.heap.size + 1 < w2.heap.size := Nat.lt_of_lt_of_le l1 b2.size
        clear b2 XA1 XB1 x2 y2
        have x3 := XA2 3 _ rfl
        have y3 := XB2 3 _ rfl
        go_wp2_with fail
        go_at_call 42
        refine (specSameAll_any ad bd nd cd md dd Zd Yd _ hnd hmd (hd.below B2 (Nat.le_refl _)) (kd.below B2 (Nat.le_refl _))).mono ?_
        rw [hpD]
        rintro e w3 ⟨rfl, q3, hw3⟩
        have b3 := below_of_drewN hw3
        clear hw3
        have B3 := B2.trans (b3.mono B2.size)
        have XA3 := XA2.below b3 (by omega)
        have XB3 := XB2.below b3 (by omega)
        have l3 : w.heap.size + 1 < w3.heap.size := Nat.lt_of_lt_of_le l2 b3.size
        clear b3 XA2 XB2 x3 y3
        go_wp2_with fail
        go_ret
        exact ⟨by rw [HB.out]; rfl, (by repeat first | (with_reducible exact B3) | (with_reducible refine Below.setCell ?_ (by first | exact Nat.le_refl _ | (simp; done) | (simp; omega) | omega) _) | (with_reducible refine Below.alloc ?_ (by first | exact Nat.le_refl _ | (simp; done) | (simp; omega) | omega) _) | (with_reducible refine below_drewN ?_ _) | (with_reducible refine Below.drew ?_))⟩
      | true =>
        have HB : Hid (sameSpB xa nb Zb nc Zc nd Zd xa mb Yb mc Yc md Yd = true) := Lib.hid (by unfold sameSpB; rw [hpB, hpC, hpD]; simp)
        have e1 : (xa == xa) = true := beq_self_eq_true _
        go_enter Try.func14, Try.ntmps14
        go_wp2_with fail
        have XA : BoxL ((w.alloc (.cells #[.int .i64 xa, .slice ab nb cb, .slice ac nc cc, .slice ad nd cd] 28)).alloc (.cells #[.int .i64 xa, .slice bb mb db, .slice bc mc dc, .slice bd md dd] 28)) w.heap.size [.int .i64 xa, .slice ab nb cb, .slice ac nc cc, .slice ad nd cd] := (BoxL.four (by simp [go_sem]) (by simp [go_sem]) (by simp [go_sem]) (by simp [go_sem]))
        have XB : BoxL ((w.alloc (.cells #[.int .i64 xa, .slice ab nb cb, .slice ac nc cc, .slice ad nd cd] 28)).alloc (.cells #[.int .i64 xa, .slice bb mb db, .slice bc mc dc, .slice bd md dd] 28)) (w.heap.size + 1) [.int .i64 xa, .slice bb mb db, .slice bc mc dc, .slice bd md dd] := (BoxL.four (by simp [go_sem]) (by simp [go_sem]) (by simp [go_sem]) (by simp [go_sem]))
        have B0 : Below w.heap.size w ((w.alloc (.cells #[.int .i64 xa, .slice ab nb cb, .slice ac nc cc, .slice ad nd cd] 28)).alloc (.cells #[.int .i64 xa, .slice bb mb db, .slice bc mc dc, .slice bd md dd] 28)) := (by repeat first | (with_reducible exact Below.refl _ _) | (with_reducible refine Below.setCell ?_ (by first | exact Nat.le_refl _ | (simp; done) | (simp; omega) | omega) _) | (with_reducible refine Below.alloc ?_ (by first | exact Nat.le_refl _ | (simp; done) | (simp; omega) | omega) _) | (with_reducible refine below_drewN ?_ _) | (with_reducible refine Below.drew ?_))
        have l0 : w.heap.size + 1 < ((w.alloc (.cells #[.int .i64 xa, .slice ab nb cb, .slice ac nc cc, .slice ad nd cd] 28)).alloc (.cells #[.int .i64 xa, .slice bb mb db, .slice bc mc dc, .slice bd md dd] 28)).heap.size := by simp
        go_at_call 41
        refine (l00Same_any ab bb nb cb mb db Zb Yb _ hnb hmb (hb.below B0 (Nat.le_refl _)) (kb.below B0 (Nat.le_refl _))).mono ?_
        rw [hpB]
        rintro e w1 ⟨rfl, q1, hw1⟩
        have b1 := below_of_drewN hw1
        clear hw1
        have B1 := B0.trans (b1.mono B0.size)
        have XA1 := XA.below b1 (by omega)
        have XB1 := XB.below b1 (by omega)
        have l1 : w.heap.size + 1 < w1.heap.size := Nat.lt_of_lt_of_le l0 b1.size
        clear b1 XA XB 
        have x2 := XA1 2 _ rfl
        have y2 := XB1 2 _ rfl
        go_wp2_with fail
        go_at_call 41
        refine (l00Same_any ac bc nc cc mc dc Zc Yc _ hnc hmc (hc.below B1 (Nat.le_refl _)) (kc.below B1 (Nat.le_refl _))).mono ?_
        rw [hpC]
        rintro e w2 ⟨rfl, q2, hw2⟩
        have b2 := below_of_drewN hw2
        clear hw2
        have B2 := B1.trans (b2.mono B1.size)
        have XA2 := XA1.below b2 (by omega)
        have XB2 := XB1.below b2 (by omega)
        have l2 : w.heap.size + 1 < w2.heap.size := Nat.lt_of_lt_of_le l1 b2.size
        clear b2 XA1 XB1 x2 y2
        have x3 := XA2 3 _ rfl
        have y3 := XB2 3 _ rfl
        go_wp2_with fail
        go_at_call 42
        refine (specSameAll_any ad bd nd cd md dd Zd Yd _ hnd hmd (hd.below B2 (Nat.le_refl _)) (kd.below B2 (Nat.le_refl _))).mono ?_
        rw [hpD]
        rintro e w3 ⟨rfl, q3, hw3⟩
        have b3 := below_of_drewN hw3
        clear hw3
        have B3 := B2.trans (b3.mono B2.size)
        have XA3 := XA2.below b3 (by omega)
        have XB3 := XB2.below b3 (by omega)
        have l3 : w.heap.size + 1 < w3.heap.size := Nat.lt_of_lt_of_le l2 b3.size
        clear b3 XA2 XB2 x3 y3
        go_wp2_with fail
        go_ret
        exact ⟨by rw [HB.out]; rfl, (by repeat first | (with_reducible exact B3) | (with_reducible refine Below.setCell ?_ (by first | exact Nat.le_refl _ | (simp; done) | (simp; omega) | omega) _) | (with_reducible refine Below.alloc ?_ (by first | exact Nat.le_refl _ | (simp; done) | (simp; omega) | omega) _) | (with_reducible refine below_drewN ?_ _) | (with_reducible refine Below.drew ?_))⟩
theorem keySameSparse (xa : Int) (nb : Nat) (Zb : Nat → Int) (nc : Nat) (Zc : Nat → Int) (nd : Nat) (Zd : Nat → Nat) (ya : Int) (mb : Nat) (Yb : Nat → Int) (mc : Nat) (Yc : Nat → Int) (md : Nat) (Yd : Nat → Nat) (wxa : (Lit.int .i64 xa).wf = true) (hnb : nb ≤ 1048576) (hnc : nc ≤ 1048576) (hnd : nd ≤ 1048576) (wya : (Lit.int .i64 ya).wf = true) (hmb : mb ≤ 1048576) (hmc : mc ≤ 1048576) (hmd : md ≤ 1048576) : ∃ ok : Bool,
    (∀ ab cb ac cc ad cd bb db bc dc bd dd W, IS .i64 W ab nb cb Zb → IS .i64 W ac nc cc Zc → FS .f32 W ad nd cd Zd → IS .i64 W bb mb db Yb → IS .i64 W bc mc dc Yc → FS .f32 W bd md dd Yd → Calls Try.prog 14 #[.agg #[.int .i64 xa, .slice ab nb cb, .slice ac nc cc, .slice ad nd cd], .agg #[.int .i64 ya, .slice bb mb db, .slice bc mc dc, .slice bd md dd]] W (BoolBel ok W)) ∧
    (∀ ab cb ac cc ad cd bb db bc dc bd dd W, IS .i64 W ab nb cb Zb → IS .i64 W ac nc cc Zc → FS .f32 W ad nd cd Zd → IS .i64 W bb mb db Yb → IS .i64 W bc mc dc Yc → FS .f32 W bd md dd Yd → Calls Try.prog 15 #[.agg #[.int .i64 xa, .slice ab nb cb, .slice ac nc cc, .slice ad nd cd], .agg #[.int .i64 ya, .slice bb mb db, .slice bc mc dc, .slice bd md dd]] W (BoolBel ok W)) :=
  ⟨sameSpB xa nb Zb nc Zc nd Zd ya mb Yb mc Yc md Yd, fun ab cb ac cc ad cd bb db bc dc bd dd W hb hc hd kb kc kd => specSameSparse_any xa ab nb cb Zb ac nc cc Zc ad nd cd Zd ya bb mb db Yb bc mc dc Yc bd md dd Yd W hnb hnc hnd hmb hmc hmd hb hc hd kb kc kd, fun ab cb ac cc ad cd bb db bc dc bd dd W hb hc hd kb kc kd => implSameSparse_any xa ab nb cb Zb ac nc cc Zc ad nd cd Zd ya bb mb db Yb bc mc dc Yc bd md dd Yd W hnb hnc hnd hmb hmc hmd hb hc hd kb kc kd⟩
end Go.Proofs.Ytmddhhmgfhljiad
