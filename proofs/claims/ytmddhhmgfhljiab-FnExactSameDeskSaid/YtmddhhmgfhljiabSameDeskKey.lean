/- Helper: whether two desks are the same, of the program and of its reference. Conditions: none. -/
import Derived.Test.YtmddhhmgfhljiabDeskAt
import Derived.Test.YtmddhhmgfhljiabSameKey
set_option linter.unusedVariables false
set_option linter.unusedSimpArgs false
namespace Go.Proofs.Ytmddhhmgfhljiab
open Go.RowKit

/-- Whether two desks are the same. -/
def sameDeskB (xa : Int) (xb : Int) (nc : Nat) (Zc : Nat → Nat) (nd : Nat) (Zd : Nat → Nat) (ne : Nat) (Ze : Nat → Nat) (nf : Nat) (Zf : Nat → Nat) (xg : Int) (xh : Int) (ni : Nat) (Zi : Nat → Int) (ya : Int) (yb : Int) (mc : Nat) (Yc : Nat → Nat) (md : Nat) (Yd : Nat → Nat) (me : Nat) (Ye : Nat → Nat) (mf : Nat) (Yf : Nat → Nat) (yg : Int) (yh : Int) (mi : Nat) (Yi : Nat → Int) : Bool := sameM xa xb ya yb nc mc Zc Yc && ((decide (nd = md) && sameTo Zd Yd nd) && (sameC ne me Ze Ye nf mf Zf Yf && sameB xg xh ni Zi yg yh mi Yi))
set_option maxRecDepth 20000 in
set_option maxHeartbeats 2000000 in
theorem implSameDesk_any (xa : Int) (xb : Int) (ac : Option Addr) (nc cc : Nat) (Zc : Nat → Nat) (ad : Option Addr) (nd cd : Nat) (Zd : Nat → Nat) (ae : Option Addr) (ne ce : Nat) (Ze : Nat → Nat) (af : Option Addr) (nf cf : Nat) (Zf : Nat → Nat) (xg : Int) (xh : Int) (ai : Option Addr) (ni ci : Nat) (Zi : Nat → Int) (ya : Int) (yb : Int) (bc : Option Addr) (mc dc : Nat) (Yc : Nat → Nat) (bd : Option Addr) (md dd : Nat) (Yd : Nat → Nat) (be : Option Addr) (me de : Nat) (Ye : Nat → Nat) (bf : Option Addr) (mf df : Nat) (Yf : Nat → Nat) (yg : Int) (yh : Int) (bi : Option Addr) (mi di : Nat) (Yi : Nat → Int) (w : World) (hnc : nc ≤ 1048576) (hnd : nd ≤ 1048576) (hne : ne ≤ 1048576) (hnf : nf ≤ 1048576) (hni : ni ≤ 1048576) (hmc : mc ≤ 1048576) (hmd : md ≤ 1048576) (hme : me ≤ 1048576) (hmf : mf ≤ 1048576) (hmi : mi ≤ 1048576) (hc : FS .f32 w ac nc cc Zc) (hd : FS .f32 w ad nd cd Zd) (he : FS .f32 w ae ne ce Ze) (hf : FS .f32 w af nf cf Zf) (hi : IS .i64 w ai ni ci Zi) (kc : FS .f32 w bc mc dc Yc) (kd : FS .f32 w bd md dd Yd) (ke : FS .f32 w be me de Ye) (kf : FS .f32 w bf mf df Yf) (ki : IS .i64 w bi mi di Yi) :
    Calls Try.prog 13 #[.agg #[.int .i64 xa, .int .i64 xb, .slice ac nc cc, .slice ad nd cd, .slice ae ne ce, .slice af nf cf, .int .i64 xg, .int .i64 xh, .slice ai ni ci], .agg #[.int .i64 ya, .int .i64 yb, .slice bc mc dc, .slice bd md dd, .slice be me de, .slice bf mf df, .int .i64 yg, .int .i64 yh, .slice bi mi di]] w fun e w' => e = .returned (.bool (sameDeskB xa xb nc Zc nd Zd ne Ze nf Zf xg xh ni Zi ya yb mc Yc md Yd me Ye mf Yf yg yh mi Yi)) ∧ Below w.heap.size w w' := by
  cases hpV : (decide (nd = md) && sameTo Zd Yd nd) with
  | false =>
    have HB : Hid (sameDeskB xa xb nc Zc nd Zd ne Ze nf Zf xg xh ni Zi ya yb mc Yc md Yd me Ye mf Yf yg yh mi Yi = false) := Lib.hid (by unfold sameDeskB; rw [hpV]; simp)
    go_enter Try.func13, Try.ntmps13
    go_wp2_with fail
    have XA : BoxL ((w.alloc (.cells #[.int .i64 xa, .int .i64 xb, .slice ac nc cc, .slice ad nd cd, .slice ae ne ce, .slice af nf cf, .int .i64 xg, .int .i64 xh, .slice ai ni ci] 38)).alloc (.cells #[.int .i64 ya, .int .i64 yb, .slice bc mc dc, .slice bd md dd, .slice be me de, .slice bf mf df, .int .i64 yg, .int .i64 yh, .slice bi mi di] 38)) w.heap.size [.int .i64 xa, .int .i64 xb, .slice ac nc cc, .slice ad nd cd, .slice ae ne ce, .slice af nf cf, .int .i64 xg, .int .i64 xh, .slice ai ni ci] := (BoxL.nine (by simp [go_sem]) (by simp [go_sem]) (by simp [go_sem]) (by simp [go_sem]) (by simp [go_sem]) (by simp [go_sem]) (by simp [go_sem]) (by simp [go_sem]) (by simp [go_sem]))
    have XB : BoxL ((w.alloc (.cells #[.int .i64 xa, .int .i64 xb, .slice ac nc cc, .slice ad nd cd, .slice ae ne ce, .slice af nf cf, .int .i64 xg, .int .i64 xh, .slice ai ni ci] 38)).alloc (.cells #[.int .i64 ya, .int .i64 yb, .slice bc mc dc, .slice bd md dd, .slice be me de, .slice bf mf df, .int .i64 yg, .int .i64 yh, .slice bi mi di] 38)) (w.heap.size + 1) [.int .i64 ya, .int .i64 yb, .slice bc mc dc, .slice bd md dd, .slice be me de, .slice bf mf df, .int .i64 yg, .int .i64 yh, .slice bi mi di] := (BoxL.nine (by simp [go_sem]) (by simp [go_sem]) (by simp [go_sem]) (by simp [go_sem]) (by simp [go_sem]) (by simp [go_sem]) (by simp [go_sem]) (by simp [go_sem]) (by simp [go_sem]))
    have B0 : Below w.heap.size w ((w.alloc (.cells #[.int .i64 xa, .int .i64 xb, .slice ac nc cc, .slice ad nd cd, .slice ae ne ce, .slice af nf cf, .int .i64 xg, .int .i64 xh, .slice ai ni ci] 38)).alloc (.cells #[.int .i64 ya, .int .i64 yb, .slice bc mc dc, .slice bd md dd, .slice be me de, .slice bf mf df, .int .i64 yg, .int .i64 yh, .slice bi mi di] 38)) := (by repeat first | (with_reducible exact Below.refl _ _) | (with_reducible refine Below.setCell ?_ (by first | exact Nat.le_refl _ | (simp; done) | (simp; omega) | omega) _) | (with_reducible refine Below.alloc ?_ (by first | exact Nat.le_refl _ | (simp; done) | (simp; omega) | omega) _) | (with_reducible refine below_drewN ?_ _) | (with_reducible refine Below.drew ?_))
    have l0 : w.heap.size + 1 < ((w.alloc (.cells #[.int .i64 xa, .int .i64 xb, .slice ac nc cc, .slice ad nd cd, .slice ae ne ce, .slice af nf cf, .int .i64 xg, .int .i64 xh, .slice ai ni ci] 38)).alloc (.cells #[.int .i64 ya, .int .i64 yb, .slice bc mc dc, .slice bd md dd, .slice be me de, .slice bf mf df, .int .i64 yg, .int .i64 yh, .slice bi mi di] 38)).heap.size := by simp
    go_at_call 44
    refine (equalFunc_any ad bd nd cd md dd Zd Yd _ hnd hmd (hd.below B0 (Nat.le_refl _)) (kd.below B0 (Nat.le_refl _))).mono ?_
    rw [hpV]
    rintro e w1 ⟨rfl, q1, hw1⟩
    have b1 := below_of_drewN hw1
    clear hw1
    have B1 := B0.trans (b1.mono B0.size)
    have XA1 := XA.below b1 (by omega)
    have XB1 := XB.below b1 (by omega)
    have l1 : w.heap.size + 1 < w1.heap.size := Nat.lt_of_lt_of_le l0 b1.size
    clear b1 XA XB 
    have x0 := XA1 0 _ rfl
    have y0 := XB1 0 _ rfl
    have x1 := XA1 1 _ rfl
    have y1 := XB1 1 _ rfl
    have x2 := XA1 2 _ rfl
    have y2 := XB1 2 _ rfl
    go_wp2_with fail
    go_ret
    exact ⟨by rw [HB.out]; rfl, (by repeat first | (with_reducible exact B1) | (with_reducible refine Below.setCell ?_ (by first | exact Nat.le_refl _ | (simp; done) | (simp; omega) | omega) _) | (with_reducible refine Below.alloc ?_ (by first | exact Nat.le_refl _ | (simp; done) | (simp; omega) | omega) _) | (with_reducible refine below_drewN ?_ _) | (with_reducible refine Below.drew ?_))⟩
  | true =>
    cases hpM : sameM xa xb ya yb nc mc Zc Yc with
    | false =>
      have HB : Hid (sameDeskB xa xb nc Zc nd Zd ne Ze nf Zf xg xh ni Zi ya yb mc Yc md Yd me Ye mf Yf yg yh mi Yi = false) := Lib.hid (by unfold sameDeskB; rw [hpV, hpM]; simp)
      go_enter Try.func13, Try.ntmps13
      go_wp2_with fail
      have XA : BoxL ((w.alloc (.cells #[.int .i64 xa, .int .i64 xb, .slice ac nc cc, .slice ad nd cd, .slice ae ne ce, .slice af nf cf, .int .i64 xg, .int .i64 xh, .slice ai ni ci] 38)).alloc (.cells #[.int .i64 ya, .int .i64 yb, .slice bc mc dc, .slice bd md dd, .slice be me de, .slice bf mf df, .int .i64 yg, .int .i64 yh, .slice bi mi di] 38)) w.heap.size [.int .i64 xa, .int .i64 xb, .slice ac nc cc, .slice ad nd cd, .slice ae ne ce, .slice af nf cf, .int .i64 xg, .int .i64 xh, .slice ai ni ci] := (BoxL.nine (by simp [go_sem]) (by simp [go_sem]) (by simp [go_sem]) (by simp [go_sem]) (by simp [go_sem]) (by simp [go_sem]) (by simp [go_sem]) (by simp [go_sem]) (by simp [go_sem]))
      have XB : BoxL ((w.alloc (.cells #[.int .i64 xa, .int .i64 xb, .slice ac nc cc, .slice ad nd cd, .slice ae ne ce, .slice af nf cf, .int .i64 xg, .int .i64 xh, .slice ai ni ci] 38)).alloc (.cells #[.int .i64 ya, .int .i64 yb, .slice bc mc dc, .slice bd md dd, .slice be me de, .slice bf mf df, .int .i64 yg, .int .i64 yh, .slice bi mi di] 38)) (w.heap.size + 1) [.int .i64 ya, .int .i64 yb, .slice bc mc dc, .slice bd md dd, .slice be me de, .slice bf mf df, .int .i64 yg, .int .i64 yh, .slice bi mi di] := (BoxL.nine (by simp [go_sem]) (by simp [go_sem]) (by simp [go_sem]) (by simp [go_sem]) (by simp [go_sem]) (by simp [go_sem]) (by simp [go_sem]) (by simp [go_sem]) (by simp [go_sem]))
      have B0 : Below w.heap.size w ((w.alloc (.cells #[.int .i64 xa, .int .i64 xb, .slice ac nc cc, .slice ad nd cd, .slice ae ne ce, .slice af nf cf, .int .i64 xg, .int .i64 xh, .slice ai ni ci] 38)).alloc (.cells #[.int .i64 ya, .int .i64 yb, .slice bc mc dc, .slice bd md dd, .slice be me de, .slice bf mf df, .int .i64 yg, .int .i64 yh, .slice bi mi di] 38)) := (by repeat first | (with_reducible exact Below.refl _ _) | (with_reducible refine Below.setCell ?_ (by first | exact Nat.le_refl _ | (simp; done) | (simp; omega) | omega) _) | (with_reducible refine Below.alloc ?_ (by first | exact Nat.le_refl _ | (simp; done) | (simp; omega) | omega) _) | (with_reducible refine below_drewN ?_ _) | (with_reducible refine Below.drew ?_))
      have l0 : w.heap.size + 1 < ((w.alloc (.cells #[.int .i64 xa, .int .i64 xb, .slice ac nc cc, .slice ad nd cd, .slice ae ne ce, .slice af nf cf, .int .i64 xg, .int .i64 xh, .slice ai ni ci] 38)).alloc (.cells #[.int .i64 ya, .int .i64 yb, .slice bc mc dc, .slice bd md dd, .slice be me de, .slice bf mf df, .int .i64 yg, .int .i64 yh, .slice bi mi di] 38)).heap.size := by simp
      go_at_call 44
      refine (equalFunc_any ad bd nd cd md dd Zd Yd _ hnd hmd (hd.below B0 (Nat.le_refl _)) (kd.below B0 (Nat.le_refl _))).mono ?_
      rw [hpV]
      rintro e w1 ⟨rfl, q1, hw1⟩
      have b1 := below_of_drewN hw1
      clear hw1
      have B1 := B0.trans (b1.mono B0.size)
      have XA1 := XA.below b1 (by omega)
      have XB1 := XB.below b1 (by omega)
      have l1 : w.heap.size + 1 < w1.heap.size := Nat.lt_of_lt_of_le l0 b1.size
      clear b1 XA XB 
      have x0 := XA1 0 _ rfl
      have y0 := XB1 0 _ rfl
      have x1 := XA1 1 _ rfl
      have y1 := XB1 1 _ rfl
      have x2 := XA1 2 _ rfl
      have y2 := XB1 2 _ rfl
      go_wp2_with fail
      go_at_call 46
      refine (implSame_any xa xb ya yb ac bc nc cc mc dc Zc Yc _ hnc hmc (hc.below B1 (Nat.le_refl _)) (kc.below B1 (Nat.le_refl _))).mono ?_
      rw [hpM]
      rintro e w2 ⟨rfl, b2⟩
      have B2 := B1.trans (b2.mono B1.size)
      have XA2 := XA1.below b2 (by omega)
      have XB2 := XB1.below b2 (by omega)
      have l2 : w.heap.size + 1 < w2.heap.size := Nat.lt_of_lt_of_le l1 b2.size
      clear b2 XA1 XB1 x0 y0 x1 y1 x2 y2
      have x4 := XA2 4 _ rfl
      have y4 := XB2 4 _ rfl
      have x5 := XA2 5 _ rfl
      have y5 := XB2 5 _ rfl
      go_wp2_with fail
      go_ret
      exact ⟨by rw [HB.out]; rfl, (by repeat first | (with_reducible exact B2) | (with_reducible refine Below.setCell ?_ (by first | exact Nat.le_refl _ | (simp; done) | (simp; omega) | omega) _) | (with_reducible refine Below.alloc ?_ (by first | exact Nat.le_refl _ | (simp; done) | (simp; omega) | omega) _) | (with_reducible refine below_drewN ?_ _) | (with_reducible refine Below.drew ?_))⟩
    | true =>
      cases hpC : sameC ne me Ze Ye nf mf Zf Yf with
      | false =>
        have HB : Hid (sameDeskB xa xb nc Zc nd Zd ne Ze nf Zf xg xh ni Zi ya yb mc Yc md Yd me Ye mf Yf yg yh mi Yi = false) := Lib.hid (by unfold sameDeskB; rw [hpV, hpM, hpC]; simp)
        go_enter Try.func13, Try.ntmps13
        go_wp2_with fail
        have XA : BoxL ((w.alloc (.cells #[.int .i64 xa, .int .i64 xb, .slice ac nc cc, .slice ad nd cd, .slice ae ne ce, .slice af nf cf, .int .i64 xg, .int .i64 xh, .slice ai ni ci] 38)).alloc (.cells #[.int .i64 ya, .int .i64 yb, .slice bc mc dc, .slice bd md dd, .slice be me de, .slice bf mf df, .int .i64 yg, .int .i64 yh, .slice bi mi di] 38)) w.heap.size [.int .i64 xa, .int .i64 xb, .slice ac nc cc, .slice ad nd cd, .slice ae ne ce, .slice af nf cf, .int .i64 xg, .int .i64 xh, .slice ai ni ci] := (BoxL.nine (by simp [go_sem]) (by simp [go_sem]) (by simp [go_sem]) (by simp [go_sem]) (by simp [go_sem]) (by simp [go_sem]) (by simp [go_sem]) (by simp [go_sem]) (by simp [go_sem]))
        have XB : BoxL ((w.alloc (.cells #[.int .i64 xa, .int .i64 xb, .slice ac nc cc, .slice ad nd cd, .slice ae ne ce, .slice af nf cf, .int .i64 xg, .int .i64 xh, .slice ai ni ci] 38)).alloc (.cells #[.int .i64 ya, .int .i64 yb, .slice bc mc dc, .slice bd md dd, .slice be me de, .slice bf mf df, .int .i64 yg, .int .i64 yh, .slice bi mi di] 38)) (w.heap.size + 1) [.int .i64 ya, .int .i64 yb, .slice bc mc dc, .slice bd md dd, .slice be me de, .slice bf mf df, .int .i64 yg, .int .i64 yh, .slice bi mi di] := (BoxL.nine (by simp [go_sem]) (by simp [go_sem]) (by simp [go_sem]) (by simp [go_sem]) (by simp [go_sem]) (by simp [go_sem]) (by simp [go_sem]) (by simp [go_sem]) (by simp [go_sem]))
        have B0 : Below w.heap.size w ((w.alloc (.cells #[.int .i64 xa, .int .i64 xb, .slice ac nc cc, .slice ad nd cd, .slice ae ne ce, .slice af nf cf, .int .i64 xg, .int .i64 xh, .slice ai ni ci] 38)).alloc (.cells #[.int .i64 ya, .int .i64 yb, .slice bc mc dc, .slice bd md dd, .slice be me de, .slice bf mf df, .int .i64 yg, .int .i64 yh, .slice bi mi di] 38)) := (by repeat first | (with_reducible exact Below.refl _ _) | (with_reducible refine Below.setCell ?_ (by first | exact Nat.le_refl _ | (simp; done) | (simp; omega) | omega) _) | (with_reducible refine Below.alloc ?_ (by first | exact Nat.le_refl _ | (simp; done) | (simp; omega) | omega) _) | (with_reducible refine below_drewN ?_ _) | (with_reducible refine Below.drew ?_))
        have l0 : w.heap.size + 1 < ((w.alloc (.cells #[.int .i64 xa, .int .i64 xb, .slice ac nc cc, .slice ad nd cd, .slice ae ne ce, .slice af nf cf, .int .i64 xg, .int .i64 xh, .slice ai ni ci] 38)).alloc (.cells #[.int .i64 ya, .int .i64 yb, .slice bc mc dc, .slice bd md dd, .slice be me de, .slice bf mf df, .int .i64 yg, .int .i64 yh, .slice bi mi di] 38)).heap.size := by simp
        go_at_call 44
        refine (equalFunc_any ad bd nd cd md dd Zd Yd _ hnd hmd (hd.below B0 (Nat.le_refl _)) (kd.below B0 (Nat.le_refl _))).mono ?_
        rw [hpV]
        rintro e w1 ⟨rfl, q1, hw1⟩
        have b1 := below_of_drewN hw1
        clear hw1
        have B1 := B0.trans (b1.mono B0.size)
        have XA1 := XA.below b1 (by omega)
        have XB1 := XB.below b1 (by omega)
        have l1 : w.heap.size + 1 < w1.heap.size := Nat.lt_of_lt_of_le l0 b1.size
        clear b1 XA XB 
        have x0 := XA1 0 _ rfl
        have y0 := XB1 0 _ rfl
        have x1 := XA1 1 _ rfl
        have y1 := XB1 1 _ rfl
        have x2 := XA1 2 _ rfl
        have y2 := XB1 2 _ rfl
        go_wp2_with fail
        go_at_call 46
        refine (implSame_any xa xb ya yb ac bc nc cc mc dc Zc Yc _ hnc hmc (hc.below B1 (Nat.le_refl _)) (kc.below B1 (Nat.le_refl _))).mono ?_
        rw [hpM]
        rintro e w2 ⟨rfl, b2⟩
        have B2 := B1.trans (b2.mono B1.size)
        have XA2 := XA1.below b2 (by omega)
        have XB2 := XB1.below b2 (by omega)
        have l2 : w.heap.size + 1 < w2.heap.size := Nat.lt_of_lt_of_le l1 b2.size
        clear b2 XA1 XB1 x0 y0 x1 y1 x2 y2
        have x4 := XA2 4 _ rfl
        have y4 := XB2 4 _ rfl
        have x5 := XA2 5 _ rfl
        have y5 := XB2 5 _ rfl
        go_wp2_with fail
        go_at_call 47
        refine (implSameChain_any ae be ne ce me de Ze Ye af bf nf cf mf df Zf Yf _ hne hme hnf hmf (he.below B2 (Nat.le_refl _)) (ke.below B2 (Nat.le_refl _)) (hf.below B2 (Nat.le_refl _)) (kf.below B2 (Nat.le_refl _))).mono ?_
        rw [hpC]
        rintro e w3 ⟨rfl, b3⟩
        have B3 := B2.trans (b3.mono B2.size)
        have XA3 := XA2.below b3 (by omega)
        have XB3 := XB2.below b3 (by omega)
        have l3 : w.heap.size + 1 < w3.heap.size := Nat.lt_of_lt_of_le l2 b3.size
        clear b3 XA2 XB2 x4 y4 x5 y5
        have x6 := XA3 6 _ rfl
        have y6 := XB3 6 _ rfl
        have x7 := XA3 7 _ rfl
        have y7 := XB3 7 _ rfl
        have x8 := XA3 8 _ rfl
        have y8 := XB3 8 _ rfl
        go_wp2_with fail
        go_ret
        exact ⟨by rw [HB.out]; rfl, (by repeat first | (with_reducible exact B3) | (with_reducible refine Below.setCell ?_ (by first | exact Nat.le_refl _ | (simp; done) | (simp; omega) | omega) _) | (with_reducible refine Below.alloc ?_ (by first | exact Nat.le_refl _ | (simp; done) | (simp; omega) | omega) _) | (with_reducible refine below_drewN ?_ _) | (with_reducible refine Below.drew ?_))⟩
      | true =>
        cases hpW : sameB xg xh ni Zi yg yh mi Yi with
        | false =>
          have HB : Hid (sameDeskB xa xb nc Zc nd Zd ne Ze nf Zf xg xh ni Zi ya yb mc Yc md Yd me Ye mf Yf yg yh mi Yi = false) := Lib.hid (by unfold sameDeskB; rw [hpV, hpM, hpC, hpW]; simp)
          go_enter Try.func13, Try.ntmps13
          go_wp2_with fail
          have XA : BoxL ((w.alloc (.cells #[.int .i64 xa, .int .i64 xb, .slice ac nc cc, .slice ad nd cd, .slice ae ne ce, .slice af nf cf, .int .i64 xg, .int .i64 xh, .slice ai ni ci] 38)).alloc (.cells #[.int .i64 ya, .int .i64 yb, .slice bc mc dc, .slice bd md dd, .slice be me de, .slice bf mf df, .int .i64 yg, .int .i64 yh, .slice bi mi di] 38)) w.heap.size [.int .i64 xa, .int .i64 xb, .slice ac nc cc, .slice ad nd cd, .slice ae ne ce, .slice af nf cf, .int .i64 xg, .int .i64 xh, .slice ai ni ci] := (BoxL.nine (by simp [go_sem]) (by simp [go_sem]) (by simp [go_sem]) (by simp [go_sem]) (by simp [go_sem]) (by simp [go_sem]) (by simp [go_sem]) (by simp [go_sem]) (by simp [go_sem]))
          have XB : BoxL ((w.alloc (.cells #[.int .i64 xa, .int .i64 xb, .slice ac nc cc, .slice ad nd cd, .slice ae ne ce, .slice af nf cf, .int .i64 xg, .int .i64 xh, .slice ai ni ci] 38)).alloc (.cells #[.int .i64 ya, .int .i64 yb, .slice bc mc dc, .slice bd md dd, .slice be me de, .slice bf mf df, .int .i64 yg, .int .i64 yh, .slice bi mi di] 38)) (w.heap.size + 1) [.int .i64 ya, .int .i64 yb, .slice bc mc dc, .slice bd md dd, .slice be me de, .slice bf mf df, .int .i64 yg, .int .i64 yh, .slice bi mi di] := (BoxL.nine (by simp [go_sem]) (by simp [go_sem]) (by simp [go_sem]) (by simp [go_sem]) (by simp [go_sem]) (by simp [go_sem]) (by simp [go_sem]) (by simp [go_sem]) (by simp [go_sem]))
          have B0 : Below w.heap.size w ((w.alloc (.cells #[.int .i64 xa, .int .i64 xb, .slice ac nc cc, .slice ad nd cd, .slice ae ne ce, .slice af nf cf, .int .i64 xg, .int .i64 xh, .slice ai ni ci] 38)).alloc (.cells #[.int .i64 ya, .int .i64 yb, .slice bc mc dc, .slice bd md dd, .slice be me de, .slice bf mf df, .int .i64 yg, .int .i64 yh, .slice bi mi di] 38)) := (by repeat first | (with_reducible exact Below.refl _ _) | (with_reducible refine Below.setCell ?_ (by first | exact Nat.le_refl _ | (simp; done) | (simp; omega) | omega) _) | (with_reducible refine Below.alloc ?_ (by first | exact Nat.le_refl _ | (simp; done) | (simp; omega) | omega) _) | (with_reducible refine below_drewN ?_ _) | (with_reducible refine Below.drew ?_))
          have l0 : w.heap.size + 1 < ((w.alloc (.cells #[.int .i64 xa, .int .i64 xb, .slice ac nc cc, .slice ad nd cd, .slice ae ne ce, .slice af nf cf, .int .i64 xg, .int .i64 xh, .slice ai ni ci] 38)).alloc (.cells #[.int .i64 ya, .int .i64 yb, .slice bc mc dc, .slice bd md dd, .slice be me de, .slice bf mf df, .int .i64 yg, .int .i64 yh, .slice bi mi di] 38)).heap.size := by simp
          go_at_call 44
          refine (equalFunc_any ad bd nd cd md dd Zd Yd _ hnd hmd (hd.below B0 (Nat.le_refl _)) (kd.below B0 (Nat.le_refl _))).mono ?_
          rw [hpV]
          rintro e w1 ⟨rfl, q1, hw1⟩
          have b1 := below_of_drewN hw1
          clear hw1
          have B1 := B0.trans (b1.mono B0.size)
          have XA1 := XA.below b1 (by omega)
          have XB1 := XB.below b1 (by omega)
          have l1 : w.heap.size + 1 < w1.heap.size := Nat.lt_of_lt_of_le l0 b1.size
          clear b1 XA XB 
          have x0 := XA1 0 _ rfl
          have y0 := XB1 0 _ rfl
          have x1 := XA1 1 _ rfl
          have y1 := XB1 1 _ rfl
          have x2 := XA1 2 _ rfl
          have y2 := XB1 2 _ rfl
          go_wp2_with fail
          go_at_call 46
          refine (implSame_any xa xb ya yb ac bc nc cc mc dc Zc Yc _ hnc hmc (hc.below B1 (Nat.le_refl _)) (kc.below B1 (Nat.le_refl _))).mono ?_
          rw [hpM]
          rintro e w2 ⟨rfl, b2⟩
          have B2 := B1.trans (b2.mono B1.size)
          have XA2 := XA1.below b2 (by omega)
          have XB2 := XB1.below b2 (by omega)
          have l2 : w.heap.size + 1 < w2.heap.size := Nat.lt_of_lt_of_le l1 b2.size
          clear b2 XA1 XB1 x0 y0 x1 y1 x2 y2
          have x4 := XA2 4 _ rfl
          have y4 := XB2 4 _ rfl
          have x5 := XA2 5 _ rfl
          have y5 := XB2 5 _ rfl
          go_wp2_with fail
          go_at_call 47
          refine (implSameChain_any ae be ne ce me de Ze Ye af bf nf cf mf df Zf Yf _ hne hme hnf hmf (he.below B2 (Nat.le_refl _)) (ke.below B2 (Nat.le_refl _)) (hf.below B2 (Nat.le_refl _)) (kf.below B2 (Nat.le_refl _))).mono ?_
          rw [hpC]
          rintro e w3 ⟨rfl, b3⟩
          have B3 := B2.trans (b3.mono B2.size)
          have XA3 := XA2.below b3 (by omega)
          have XB3 := XB2.below b3 (by omega)
          have l3 : w.heap.size + 1 < w3.heap.size := Nat.lt_of_lt_of_le l2 b3.size
          clear b3 XA2 XB2 x4 y4 x5 y5
          have x6 := XA3 6 _ rfl
          have y6 := XB3 6 _ rfl
          have x7 := XA3 7 _ rfl
          have y7 := XB3 7 _ rfl
          have x8 := XA3 8 _ rfl
          have y8 := XB3 8 _ rfl
          go_wp2_with fail
          go_at_call 48
          refine (implSameWhole_any xg xh ai ni ci Zi yg yh bi mi di Yi _ hni hmi (hi.below B3 (Nat.le_refl _)) (ki.below B3 (Nat.le_refl _))).mono ?_
          rw [hpW]
          rintro e w4 ⟨rfl, b4⟩
          have B4 := B3.trans (b4.mono B3.size)
          have XA4 := XA3.below b4 (by omega)
          have XB4 := XB3.below b4 (by omega)
          have l4 : w.heap.size + 1 < w4.heap.size := Nat.lt_of_lt_of_le l3 b4.size
          clear b4 XA3 XB3 x6 y6 x7 y7 x8 y8
          go_wp2_with fail
          go_ret
          exact ⟨by rw [HB.out]; rfl, (by repeat first | (with_reducible exact B4) | (with_reducible refine Below.setCell ?_ (by first | exact Nat.le_refl _ | (simp; done) | (simp; omega) | omega) _) | (with_reducible refine Below.alloc ?_ (by first | exact Nat.le_refl _ | (simp; done) | (simp; omega) | omega) _) | (with_reducible refine below_drewN ?_ _) | (with_reducible refine Below.drew ?_))⟩
        | true =>
          have HB : Hid (sameDeskB xa xb nc Zc nd Zd ne Ze nf Zf xg xh ni Zi ya yb mc Yc md Yd me Ye mf Yf yg yh mi Yi = true) := Lib.hid (by unfold sameDeskB; rw [hpV, hpM, hpC, hpW]; rfl)
          go_enter Try.func13, Try.ntmps13
          go_wp2_with fail
          have XA : BoxL ((w.alloc (.cells #[.int .i64 xa, .int .i64 xb, .slice ac nc cc, .slice ad nd cd, .slice ae ne ce, .slice af nf cf, .int .i64 xg, .int .i64 xh, .slice ai ni ci] 38)).alloc (.cells #[.int .i64 ya, .int .i64 yb, .slice bc mc dc, .slice bd md dd, .slice be me de, .slice bf mf df, .int .i64 yg, .int .i64 yh, .slice bi mi di] 38)) w.heap.size [.int .i64 xa, .int .i64 xb, .slice ac nc cc, .slice ad nd cd, .slice ae ne ce, .slice af nf cf, .int .i64 xg, .int .i64 xh, .slice ai ni ci] := (BoxL.nine (by simp [go_sem]) (by simp [go_sem]) (by simp [go_sem]) (by simp [go_sem]) (by simp [go_sem]) (by simp [go_sem]) (by simp [go_sem]) (by simp [go_sem]) (by simp [go_sem]))
          have XB : BoxL ((w.alloc (.cells #[.int .i64 xa, .int .i64 xb, .slice ac nc cc, .slice ad nd cd, .slice ae ne ce, .slice af nf cf, .int .i64 xg, .int .i64 xh, .slice ai ni ci] 38)).alloc (.cells #[.int .i64 ya, .int .i64 yb, .slice bc mc dc, .slice bd md dd, .slice be me de, .slice bf mf df, .int .i64 yg, .int .i64 yh, .slice bi mi di] 38)) (w.heap.size + 1) [.int .i64 ya, .int .i64 yb, .slice bc mc dc, .slice bd md dd, .slice be me de, .slice bf mf df, .int .i64 yg, .int .i64 yh, .slice bi mi di] := (BoxL.nine (by simp [go_sem]) (by simp [go_sem]) (by simp [go_sem]) (by simp [go_sem]) (by simp [go_sem]) (by simp [go_sem]) (by simp [go_sem]) (by simp [go_sem]) (by simp [go_sem]))
          have B0 : Below w.heap.size w ((w.alloc (.cells #[.int .i64 xa, .int .i64 xb, .slice ac nc cc, .slice ad nd cd, .slice ae ne ce, .slice af nf cf, .int .i64 xg, .int .i64 xh, .slice ai ni ci] 38)).alloc (.cells #[.int .i64 ya, .int .i64 yb, .slice bc mc dc, .slice bd md dd, .slice be me de, .slice bf mf df, .int .i64 yg, .int .i64 yh, .slice bi mi di] 38)) := (by repeat first | (with_reducible exact Below.refl _ _) | (with_reducible refine Below.setCell ?_ (by first | exact Nat.le_refl _ | (simp; done) | (simp; omega) | omega) _) | (with_reducible refine Below.alloc ?_ (by first | exact Nat.le_refl _ | (simp; done) | (simp; omega) | omega) _) | (with_reducible refine below_drewN ?_ _) | (with_reducible refine Below.drew ?_))
          have l0 : w.heap.size + 1 < ((w.alloc (.cells #[.int .i64 xa, .int .i64 xb, .slice ac nc cc, .slice ad nd cd, .slice ae ne ce, .slice af nf cf, .int .i64 xg, .int .i64 xh, .slice ai ni ci] 38)).alloc (.cells #[.int .i64 ya, .int .i64 yb, .slice bc mc dc, .slice bd md dd, .slice be me de, .slice bf mf df, .int .i64 yg, .int .i64 yh, .slice bi mi di] 38)).heap.size := by simp
          go_at_call 44
          refine (equalFunc_any ad bd nd cd md dd Zd Yd _ hnd hmd (hd.below B0 (Nat.le_refl _)) (kd.below B0 (Nat.le_refl _))).mono ?_
          rw [hpV]
          rintro e w1 ⟨rfl, q1, hw1⟩
          have b1 := below_of_drewN hw1
          clear hw1
          have B1 := B0.trans (b1.mono B0.size)
          have XA1 := XA.below b1 (by omega)
          have XB1 := XB.below b1 (by omega)
          have l1 : w.heap.size + 1 < w1.heap.size := Nat.lt_of_lt_of_le l0 b1.size
          clear b1 XA XB 
          have x0 := XA1 0 _ rfl
          have y0 := XB1 0 _ rfl
          have x1 := XA1 1 _ rfl
          have y1 := XB1 1 _ rfl
          have x2 := XA1 2 _ rfl
          have y2 := XB1 2 _ rfl
          go_wp2_with fail
          go_at_call 46
          refine (implSame_any xa xb ya yb ac bc nc cc mc dc Zc Yc _ hnc hmc (hc.below B1 (Nat.le_refl _)) (kc.below B1 (Nat.le_refl _))).mono ?_
          rw [hpM]
          rintro e w2 ⟨rfl, b2⟩
          have B2 := B1.trans (b2.mono B1.size)
          have XA2 := XA1.below b2 (by omega)
          have XB2 := XB1.below b2 (by omega)
          have l2 : w.heap.size + 1 < w2.heap.size := Nat.lt_of_lt_of_le l1 b2.size
          clear b2 XA1 XB1 x0 y0 x1 y1 x2 y2
          have x4 := XA2 4 _ rfl
          have y4 := XB2 4 _ rfl
          have x5 := XA2 5 _ rfl
          have y5 := XB2 5 _ rfl
          go_wp2_with fail
          go_at_call 47
          refine (implSameChain_any ae be ne ce me de Ze Ye af bf nf cf mf df Zf Yf _ hne hme hnf hmf (he.below B2 (Nat.le_refl _)) (ke.below B2 (Nat.le_refl _)) (hf.below B2 (Nat.le_refl _)) (kf.below B2 (Nat.le_refl _))).mono ?_
          rw [hpC]
          rintro e w3 ⟨rfl, b3⟩
          have B3 := B2.trans (b3.mono B2.size)
          have XA3 := XA2.below b3 (by omega)
          have XB3 := XB2.below b3 (by omega)
          have l3 : w.heap.size + 1 < w3.heap.size := Nat.lt_of_lt_of_le l2 b3.size
          clear b3 XA2 XB2 x4 y4 x5 y5
          have x6 := XA3 6 _ rfl
          have y6 := XB3 6 _ rfl
          have x7 := XA3 7 _ rfl
          have y7 := XB3 7 _ rfl
          have x8 := XA3 8 _ rfl
          have y8 := XB3 8 _ rfl
          go_wp2_with fail
          go_at_call 48
          refine (implSameWhole_any xg xh ai ni ci Zi yg yh bi mi di Yi _ hni hmi (hi.below B3 (Nat.le_refl _)) (ki.below B3 (Nat.le_refl _))).mono ?_
          rw [hpW]
          rintro e w4 ⟨rfl, b4⟩
          have B4 := B3.trans (b4.mono B3.size)
          have XA4 := XA3.below b4 (by omega)
          have XB4 := XB3.below b4 (by omega)
          have l4 : w.heap.size + 1 < w4.heap.size := Nat.lt_of_lt_of_le l3 b4.size
          clear b4 XA3 XB3 x6 y6 x7 y7 x8 y8
          go_wp2_with fail
          go_ret
          exact ⟨by rw [HB.out]; rfl, (by repeat first | (with_reducible exact B4) | (with_reducible refine Below.setCell ?_ (by first | exact Nat.le_refl _ | (simp; done) | (simp; omega) | omega) _) | (with_reducible refine Below.alloc ?_ (by first | exact Nat.le_refl _ | (simp; done) | (simp; omega) | omega) _) | (with_reducible refine below_drewN ?_ _) | (with_reducible refine Below.drew ?_))⟩
set_option maxRecDepth 20000 in
set_option maxHeartbeats 2000000 in
theorem specSameDesk_any (xa : Int) (xb : Int) (ac : Option Addr) (nc cc : Nat) (Zc : Nat → Nat) (ad : Option Addr) (nd cd : Nat) (Zd : Nat → Nat) (ae : Option Addr) (ne ce : Nat) (Ze : Nat → Nat) (af : Option Addr) (nf cf : Nat) (Zf : Nat → Nat) (xg : Int) (xh : Int) (ai : Option Addr) (ni ci : Nat) (Zi : Nat → Int) (ya : Int) (yb : Int) (bc : Option Addr) (mc dc : Nat) (Yc : Nat → Nat) (bd : Option Addr) (md dd : Nat) (Yd : Nat → Nat) (be : Option Addr) (me de : Nat) (Ye : Nat → Nat) (bf : Option Addr) (mf df : Nat) (Yf : Nat → Nat) (yg : Int) (yh : Int) (bi : Option Addr) (mi di : Nat) (Yi : Nat → Int) (w : World) (hnc : nc ≤ 1048576) (hnd : nd ≤ 1048576) (hne : ne ≤ 1048576) (hnf : nf ≤ 1048576) (hni : ni ≤ 1048576) (hmc : mc ≤ 1048576) (hmd : md ≤ 1048576) (hme : me ≤ 1048576) (hmf : mf ≤ 1048576) (hmi : mi ≤ 1048576) (hc : FS .f32 w ac nc cc Zc) (hd : FS .f32 w ad nd cd Zd) (he : FS .f32 w ae ne ce Ze) (hf : FS .f32 w af nf cf Zf) (hi : IS .i64 w ai ni ci Zi) (kc : FS .f32 w bc mc dc Yc) (kd : FS .f32 w bd md dd Yd) (ke : FS .f32 w be me de Ye) (kf : FS .f32 w bf mf df Yf) (ki : IS .i64 w bi mi di Yi) :
    Calls Try.prog 12 #[.agg #[.int .i64 xa, .int .i64 xb, .slice ac nc cc, .slice ad nd cd, .slice ae ne ce, .slice af nf cf, .int .i64 xg, .int .i64 xh, .slice ai ni ci], .agg #[.int .i64 ya, .int .i64 yb, .slice bc mc dc, .slice bd md dd, .slice be me de, .slice bf mf df, .int .i64 yg, .int .i64 yh, .slice bi mi di]] w fun e w' => e = .returned (.bool (sameDeskB xa xb nc Zc nd Zd ne Ze nf Zf xg xh ni Zi ya yb mc Yc md Yd me Ye mf Yf yg yh mi Yi)) ∧ Below w.heap.size w w' := by
  cases hpM : sameM xa xb ya yb nc mc Zc Yc with
  | false =>
    have HB : Hid (sameDeskB xa xb nc Zc nd Zd ne Ze nf Zf xg xh ni Zi ya yb mc Yc md Yd me Ye mf Yf yg yh mi Yi = false) := Lib.hid (by unfold sameDeskB; rw [hpM]; simp)
    go_enter Try.func12, Try.ntmps12
    go_wp2_with fail
    have XA : BoxL ((w.alloc (.cells #[.int .i64 xa, .int .i64 xb, .slice ac nc cc, .slice ad nd cd, .slice ae ne ce, .slice af nf cf, .int .i64 xg, .int .i64 xh, .slice ai ni ci] 38)).alloc (.cells #[.int .i64 ya, .int .i64 yb, .slice bc mc dc, .slice bd md dd, .slice be me de, .slice bf mf df, .int .i64 yg, .int .i64 yh, .slice bi mi di] 38)) w.heap.size [.int .i64 xa, .int .i64 xb, .slice ac nc cc, .slice ad nd cd, .slice ae ne ce, .slice af nf cf, .int .i64 xg, .int .i64 xh, .slice ai ni ci] := (BoxL.nine (by simp [go_sem]) (by simp [go_sem]) (by simp [go_sem]) (by simp [go_sem]) (by simp [go_sem]) (by simp [go_sem]) (by simp [go_sem]) (by simp [go_sem]) (by simp [go_sem]))
    have XB : BoxL ((w.alloc (.cells #[.int .i64 xa, .int .i64 xb, .slice ac nc cc, .slice ad nd cd, .slice ae ne ce, .slice af nf cf, .int .i64 xg, .int .i64 xh, .slice ai ni ci] 38)).alloc (.cells #[.int .i64 ya, .int .i64 yb, .slice bc mc dc, .slice bd md dd, .slice be me de, .slice bf mf df, .int .i64 yg, .int .i64 yh, .slice bi mi di] 38)) (w.heap.size + 1) [.int .i64 ya, .int .i64 yb, .slice bc mc dc, .slice bd md dd, .slice be me de, .slice bf mf df, .int .i64 yg, .int .i64 yh, .slice bi mi di] := (BoxL.nine (by simp [go_sem]) (by simp [go_sem]) (by simp [go_sem]) (by simp [go_sem]) (by simp [go_sem]) (by simp [go_sem]) (by simp [go_sem]) (by simp [go_sem]) (by simp [go_sem]))
    have B0 : Below w.heap.size w ((w.alloc (.cells #[.int .i64 xa, .int .i64 xb, .slice ac nc cc, .slice ad nd cd, .slice ae ne ce, .slice af nf cf, .int .i64 xg, .int .i64 xh, .slice ai ni ci] 38)).alloc (.cells #[.int .i64 ya, .int .i64 yb, .slice bc mc dc, .slice bd md dd, .slice be me de, .slice bf mf df, .int .i64 yg, .int .i64 yh, .slice bi mi di] 38)) := (by repeat first | (with_reducible exact Below.refl _ _) | (with_reducible refine Below.setCell ?_ (by first | exact Nat.le_refl _ | (simp; done) | (simp; omega) | omega) _) | (with_reducible refine Below.alloc ?_ (by first | exact Nat.le_refl _ | (simp; done) | (simp; omega) | omega) _) | (with_reducible refine below_drewN ?_ _) | (with_reducible refine Below.drew ?_))
    have l0 : w.heap.size + 1 < ((w.alloc (.cells #[.int .i64 xa, .int .i64 xb, .slice ac nc cc, .slice ad nd cd, .slice ae ne ce, .slice af nf cf, .int .i64 xg, .int .i64 xh, .slice ai ni ci] 38)).alloc (.cells #[.int .i64 ya, .int .i64 yb, .slice bc mc dc, .slice bd md dd, .slice be me de, .slice bf mf df, .int .i64 yg, .int .i64 yh, .slice bi mi di] 38)).heap.size := by simp
    have x0 := XA 0 _ rfl
    have y0 := XB 0 _ rfl
    have x1 := XA 1 _ rfl
    have y1 := XB 1 _ rfl
    have x2 := XA 2 _ rfl
    have y2 := XB 2 _ rfl
    go_at_call 40
    refine (l02Same_any _ _ xa xb ya yb ac bc nc cc mc dc Zc Yc _ hnc hmc ⟨x0, x1, x2⟩ ⟨y0, y1, y2⟩ (hc.below B0 (Nat.le_refl _)) (kc.below B0 (Nat.le_refl _))).mono ?_
    rw [hpM]
    rintro e w1 ⟨rfl, q1, hw1⟩
    have b1 := below_of_drewN hw1
    clear hw1
    have B1 := B0.trans (b1.mono B0.size)
    have XA1 := XA.below b1 (by omega)
    have XB1 := XB.below b1 (by omega)
    have l1 : w.heap.size + 1 < w1.heap.size := Nat.lt_of_lt_of_le l0 b1.size
    clear b1 XA XB x0 y0 x1 y1 x2 y2
    go_wp2_with fail
    go_ret
    exact ⟨by rw [HB.out]; rfl, (by repeat first | (with_reducible exact B1) | (with_reducible refine Below.setCell ?_ (by first | exact Nat.le_refl _ | (simp; done) | (simp; omega) | omega) _) | (with_reducible refine Below.alloc ?_ (by first | exact Nat.le_refl _ | (simp; done) | (simp; omega) | omega) _) | (with_reducible refine below_drewN ?_ _) | (with_reducible refine Below.drew ?_))⟩
  | true =>
    cases hpV : (decide (nd = md) && sameTo Zd Yd nd) with
    | false =>
      have HB : Hid (sameDeskB xa xb nc Zc nd Zd ne Ze nf Zf xg xh ni Zi ya yb mc Yc md Yd me Ye mf Yf yg yh mi Yi = false) := Lib.hid (by unfold sameDeskB; rw [hpM, hpV]; simp)
      go_enter Try.func12, Try.ntmps12
      go_wp2_with fail
      have XA : BoxL ((w.alloc (.cells #[.int .i64 xa, .int .i64 xb, .slice ac nc cc, .slice ad nd cd, .slice ae ne ce, .slice af nf cf, .int .i64 xg, .int .i64 xh, .slice ai ni ci] 38)).alloc (.cells #[.int .i64 ya, .int .i64 yb, .slice bc mc dc, .slice bd md dd, .slice be me de, .slice bf mf df, .int .i64 yg, .int .i64 yh, .slice bi mi di] 38)) w.heap.size [.int .i64 xa, .int .i64 xb, .slice ac nc cc, .slice ad nd cd, .slice ae ne ce, .slice af nf cf, .int .i64 xg, .int .i64 xh, .slice ai ni ci] := (BoxL.nine (by simp [go_sem]) (by simp [go_sem]) (by simp [go_sem]) (by simp [go_sem]) (by simp [go_sem]) (by simp [go_sem]) (by simp [go_sem]) (by simp [go_sem]) (by simp [go_sem]))
      have XB : BoxL ((w.alloc (.cells #[.int .i64 xa, .int .i64 xb, .slice ac nc cc, .slice ad nd cd, .slice ae ne ce, .slice af nf cf, .int .i64 xg, .int .i64 xh, .slice ai ni ci] 38)).alloc (.cells #[.int .i64 ya, .int .i64 yb, .slice bc mc dc, .slice bd md dd, .slice be me de, .slice bf mf df, .int .i64 yg, .int .i64 yh, .slice bi mi di] 38)) (w.heap.size + 1) [.int .i64 ya, .int .i64 yb, .slice bc mc dc, .slice bd md dd, .slice be me de, .slice bf mf df, .int .i64 yg, .int .i64 yh, .slice bi mi di] := (BoxL.nine (by simp [go_sem]) (by simp [go_sem]) (by simp [go_sem]) (by simp [go_sem]) (by simp [go_sem]) (by simp [go_sem]) (by simp [go_sem]) (by simp [go_sem]) (by simp [go_sem]))
      have B0 : Below w.heap.size w ((w.alloc (.cells #[.int .i64 xa, .int .i64 xb, .slice ac nc cc, .slice ad nd cd, .slice ae ne ce, .slice af nf cf, .int .i64 xg, .int .i64 xh, .slice ai ni ci] 38)).alloc (.cells #[.int .i64 ya, .int .i64 yb, .slice bc mc dc, .slice bd md dd, .slice be me de, .slice bf mf df, .int .i64 yg, .int .i64 yh, .slice bi mi di] 38)) := (by repeat first | (with_reducible exact Below.refl _ _) | (with_reducible refine Below.setCell ?_ (by first | exact Nat.le_refl _ | (simp; done) | (simp; omega) | omega) _) | (with_reducible refine Below.alloc ?_ (by first | exact Nat.le_refl _ | (simp; done) | (simp; omega) | omega) _) | (with_reducible refine below_drewN ?_ _) | (with_reducible refine Below.drew ?_))
      have l0 : w.heap.size + 1 < ((w.alloc (.cells #[.int .i64 xa, .int .i64 xb, .slice ac nc cc, .slice ad nd cd, .slice ae ne ce, .slice af nf cf, .int .i64 xg, .int .i64 xh, .slice ai ni ci] 38)).alloc (.cells #[.int .i64 ya, .int .i64 yb, .slice bc mc dc, .slice bd md dd, .slice be me de, .slice bf mf df, .int .i64 yg, .int .i64 yh, .slice bi mi di] 38)).heap.size := by simp
      have x0 := XA 0 _ rfl
      have y0 := XB 0 _ rfl
      have x1 := XA 1 _ rfl
      have y1 := XB 1 _ rfl
      have x2 := XA 2 _ rfl
      have y2 := XB 2 _ rfl
      go_at_call 40
      refine (l02Same_any _ _ xa xb ya yb ac bc nc cc mc dc Zc Yc _ hnc hmc ⟨x0, x1, x2⟩ ⟨y0, y1, y2⟩ (hc.below B0 (Nat.le_refl _)) (kc.below B0 (Nat.le_refl _))).mono ?_
      rw [hpM]
      rintro e w1 ⟨rfl, q1, hw1⟩
      have b1 := below_of_drewN hw1
      clear hw1
      have B1 := B0.trans (b1.mono B0.size)
      have XA1 := XA.below b1 (by omega)
      have XB1 := XB.below b1 (by omega)
      have l1 : w.heap.size + 1 < w1.heap.size := Nat.lt_of_lt_of_le l0 b1.size
      clear b1 XA XB x0 y0 x1 y1 x2 y2
      have x3 := XA1 3 _ rfl
      have y3 := XB1 3 _ rfl
      go_wp2_with fail
      go_at_call 41
      refine (specSameAll_any ad bd nd cd md dd Zd Yd _ hnd hmd (hd.below B1 (Nat.le_refl _)) (kd.below B1 (Nat.le_refl _))).mono ?_
      rw [hpV]
      rintro e w2 ⟨rfl, q2, hw2⟩
      have b2 := below_of_drewN hw2
      clear hw2
      have B2 := B1.trans (b2.mono B1.size)
      have XA2 := XA1.below b2 (by omega)
      have XB2 := XB1.below b2 (by omega)
      have l2 : w.heap.size + 1 < w2.heap.size := Nat.lt_of_lt_of_le l1 b2.size
      clear b2 XA1 XB1 x3 y3
      go_wp2_with fail
      go_ret
      exact ⟨by rw [HB.out]; rfl, (by repeat first | (with_reducible exact B2) | (with_reducible refine Below.setCell ?_ (by first | exact Nat.le_refl _ | (simp; done) | (simp; omega) | omega) _) | (with_reducible refine Below.alloc ?_ (by first | exact Nat.le_refl _ | (simp; done) | (simp; omega) | omega) _) | (with_reducible refine below_drewN ?_ _) | (with_reducible refine Below.drew ?_))⟩
    | true =>
      cases hpC : sameC ne me Ze Ye nf mf Zf Yf with
      | false =>
        have HB : Hid (sameDeskB xa xb nc Zc nd Zd ne Ze nf Zf xg xh ni Zi ya yb mc Yc md Yd me Ye mf Yf yg yh mi Yi = false) := Lib.hid (by unfold sameDeskB; rw [hpM, hpV, hpC]; simp)
        go_enter Try.func12, Try.ntmps12
        go_wp2_with fail
        have XA : BoxL ((w.alloc (.cells #[.int .i64 xa, .int .i64 xb, .slice ac nc cc, .slice ad nd cd, .slice ae ne ce, .slice af nf cf, .int .i64 xg, .int .i64 xh, .slice ai ni ci] 38)).alloc (.cells #[.int .i64 ya, .int .i64 yb, .slice bc mc dc, .slice bd md dd, .slice be me de, .slice bf mf df, .int .i64 yg, .int .i64 yh, .slice bi mi di] 38)) w.heap.size [.int .i64 xa, .int .i64 xb, .slice ac nc cc, .slice ad nd cd, .slice ae ne ce, .slice af nf cf, .int .i64 xg, .int .i64 xh, .slice ai ni ci] := (BoxL.nine (by simp [go_sem]) (by simp [go_sem]) (by simp [go_sem]) (by simp [go_sem]) (by simp [go_sem]) (by simp [go_sem]) (by simp [go_sem]) (by simp [go_sem]) (by simp [go_sem]))
        have XB : BoxL ((w.alloc (.cells #[.int .i64 xa, .int .i64 xb, .slice ac nc cc, .slice ad nd cd, .slice ae ne ce, .slice af nf cf, .int .i64 xg, .int .i64 xh, .slice ai ni ci] 38)).alloc (.cells #[.int .i64 ya, .int .i64 yb, .slice bc mc dc, .slice bd md dd, .slice be me de, .slice bf mf df, .int .i64 yg, .int .i64 yh, .slice bi mi di] 38)) (w.heap.size + 1) [.int .i64 ya, .int .i64 yb, .slice bc mc dc, .slice bd md dd, .slice be me de, .slice bf mf df, .int .i64 yg, .int .i64 yh, .slice bi mi di] := (BoxL.nine (by simp [go_sem]) (by simp [go_sem]) (by simp [go_sem]) (by simp [go_sem]) (by simp [go_sem]) (by simp [go_sem]) (by simp [go_sem]) (by simp [go_sem]) (by simp [go_sem]))
        have B0 : Below w.heap.size w ((w.alloc (.cells #[.int .i64 xa, .int .i64 xb, .slice ac nc cc, .slice ad nd cd, .slice ae ne ce, .slice af nf cf, .int .i64 xg, .int .i64 xh, .slice ai ni ci] 38)).alloc (.cells #[.int .i64 ya, .int .i64 yb, .slice bc mc dc, .slice bd md dd, .slice be me de, .slice bf mf df, .int .i64 yg, .int .i64 yh, .slice bi mi di] 38)) := (by repeat first | (with_reducible exact Below.refl _ _) | (with_reducible refine Below.setCell ?_ (by first | exact Nat.le_refl _ | (simp; done) | (simp; omega) | omega) _) | (with_reducible refine Below.alloc ?_ (by first | exact Nat.le_refl _ | (simp; done) | (simp; omega) | omega) _) | (with_reducible refine below_drewN ?_ _) | (with_reducible refine Below.drew ?_))
        have l0 : w.heap.size + 1 < ((w.alloc (.cells #[.int .i64 xa, .int .i64 xb, .slice ac nc cc, .slice ad nd cd, .slice ae ne ce, .slice af nf cf, .int .i64 xg, .int .i64 xh, .slice ai ni ci] 38)).alloc (.cells #[.int .i64 ya, .int .i64 yb, .slice bc mc dc, .slice bd md dd, .slice be me de, .slice bf mf df, .int .i64 yg, .int .i64 yh, .slice bi mi di] 38)).heap.size := by simp
        have x0 := XA 0 _ rfl
        have y0 := XB 0 _ rfl
        have x1 := XA 1 _ rfl
        have y1 := XB 1 _ rfl
        have x2 := XA 2 _ rfl
        have y2 := XB 2 _ rfl
        go_at_call 40
        refine (l02Same_any _ _ xa xb ya yb ac bc nc cc mc dc Zc Yc _ hnc hmc ⟨x0, x1, x2⟩ ⟨y0, y1, y2⟩ (hc.below B0 (Nat.le_refl _)) (kc.below B0 (Nat.le_refl _))).mono ?_
        rw [hpM]
        rintro e w1 ⟨rfl, q1, hw1⟩
        have b1 := below_of_drewN hw1
        clear hw1
        have B1 := B0.trans (b1.mono B0.size)
        have XA1 := XA.below b1 (by omega)
        have XB1 := XB.below b1 (by omega)
        have l1 : w.heap.size + 1 < w1.heap.size := Nat.lt_of_lt_of_le l0 b1.size
        clear b1 XA XB x0 y0 x1 y1 x2 y2
        have x3 := XA1 3 _ rfl
        have y3 := XB1 3 _ rfl
        go_wp2_with fail
        go_at_call 41
        refine (specSameAll_any ad bd nd cd md dd Zd Yd _ hnd hmd (hd.below B1 (Nat.le_refl _)) (kd.below B1 (Nat.le_refl _))).mono ?_
        rw [hpV]
        rintro e w2 ⟨rfl, q2, hw2⟩
        have b2 := below_of_drewN hw2
        clear hw2
        have B2 := B1.trans (b2.mono B1.size)
        have XA2 := XA1.below b2 (by omega)
        have XB2 := XB1.below b2 (by omega)
        have l2 : w.heap.size + 1 < w2.heap.size := Nat.lt_of_lt_of_le l1 b2.size
        clear b2 XA1 XB1 x3 y3
        have x4 := XA2 4 _ rfl
        have y4 := XB2 4 _ rfl
        have x5 := XA2 5 _ rfl
        have y5 := XB2 5 _ rfl
        go_wp2_with fail
        go_at_call 42
        refine (l04Same_at _ _ ae be ne ce me de Ze Ye af bf nf cf mf df Zf Yf _ hne hme hnf hmf x4 x5 y4 y5 (he.below B2 (Nat.le_refl _)) (ke.below B2 (Nat.le_refl _)) (hf.below B2 (Nat.le_refl _)) (kf.below B2 (Nat.le_refl _))).mono ?_
        rw [hpC]
        rintro e w3 ⟨rfl, q3, hw3⟩
        have b3 := below_of_drewN hw3
        clear hw3
        have B3 := B2.trans (b3.mono B2.size)
        have XA3 := XA2.below b3 (by omega)
        have XB3 := XB2.below b3 (by omega)
        have l3 : w.heap.size + 1 < w3.heap.size := Nat.lt_of_lt_of_le l2 b3.size
        clear b3 XA2 XB2 x4 y4 x5 y5
        go_wp2_with fail
        go_ret
        exact ⟨by rw [HB.out]; rfl, (by repeat first | (with_reducible exact B3) | (with_reducible refine Below.setCell ?_ (by first | exact Nat.le_refl _ | (simp; done) | (simp; omega) | omega) _) | (with_reducible refine Below.alloc ?_ (by first | exact Nat.le_refl _ | (simp; done) | (simp; omega) | omega) _) | (with_reducible refine below_drewN ?_ _) | (with_reducible refine Below.drew ?_))⟩
      | true =>
        cases hpW : sameB xg xh ni Zi yg yh mi Yi with
        | false =>
          have HB : Hid (sameDeskB xa xb nc Zc nd Zd ne Ze nf Zf xg xh ni Zi ya yb mc Yc md Yd me Ye mf Yf yg yh mi Yi = false) := Lib.hid (by unfold sameDeskB; rw [hpM, hpV, hpC, hpW]; simp)
          go_enter Try.func12, Try.ntmps12
          go_wp2_with fail
          have XA : BoxL ((w.alloc (.cells #[.int .i64 xa, .int .i64 xb, .slice ac nc cc, .slice ad nd cd, .slice ae ne ce, .slice af nf cf, .int .i64 xg, .int .i64 xh, .slice ai ni ci] 38)).alloc (.cells #[.int .i64 ya, .int .i64 yb, .slice bc mc dc, .slice bd md dd, .slice be me de, .slice bf mf df, .int .i64 yg, .int .i64 yh, .slice bi mi di] 38)) w.heap.size [.int .i64 xa, .int .i64 xb, .slice ac nc cc, .slice ad nd cd, .slice ae ne ce, .slice af nf cf, .int .i64 xg, .int .i64 xh, .slice ai ni ci] := (BoxL.nine (by simp [go_sem]) (by simp [go_sem]) (by simp [go_sem]) (by simp [go_sem]) (by simp [go_sem]) (by simp [go_sem]) (by simp [go_sem]) (by simp [go_sem]) (by simp [go_sem]))
          have XB : BoxL ((w.alloc (.cells #[.int .i64 xa, .int .i64 xb, .slice ac nc cc, .slice ad nd cd, .slice ae ne ce, .slice af nf cf, .int .i64 xg, .int .i64 xh, .slice ai ni ci] 38)).alloc (.cells #[.int .i64 ya, .int .i64 yb, .slice bc mc dc, .slice bd md dd, .slice be me de, .slice bf mf df, .int .i64 yg, .int .i64 yh, .slice bi mi di] 38)) (w.heap.size + 1) [.int .i64 ya, .int .i64 yb, .slice bc mc dc, .slice bd md dd, .slice be me de, .slice bf mf df, .int .i64 yg, .int .i64 yh, .slice bi mi di] := (BoxL.nine (by simp [go_sem]) (by simp [go_sem]) (by simp [go_sem]) (by simp [go_sem]) (by simp [go_sem]) (by simp [go_sem]) (by simp [go_sem]) (by simp [go_sem]) (by simp [go_sem]))
          have B0 : Below w.heap.size w ((w.alloc (.cells #[.int .i64 xa, .int .i64 xb, .slice ac nc cc, .slice ad nd cd, .slice ae ne ce, .slice af nf cf, .int .i64 xg, .int .i64 xh, .slice ai ni ci] 38)).alloc (.cells #[.int .i64 ya, .int .i64 yb, .slice bc mc dc, .slice bd md dd, .slice be me de, .slice bf mf df, .int .i64 yg, .int .i64 yh, .slice bi mi di] 38)) := (by repeat first | (with_reducible exact Below.refl _ _) | (with_reducible refine Below.setCell ?_ (by first | exact Nat.le_refl _ | (simp; done) | (simp; omega) | omega) _) | (with_reducible refine Below.alloc ?_ (by first | exact Nat.le_refl _ | (simp; done) | (simp; omega) | omega) _) | (with_reducible refine below_drewN ?_ _) | (with_reducible refine Below.drew ?_))
          have l0 : w.heap.size + 1 < ((w.alloc (.cells #[.int .i64 xa, .int .i64 xb, .slice ac nc cc, .slice ad nd cd, .slice ae ne ce, .slice af nf cf, .int .i64 xg, .int .i64 xh, .slice ai ni ci] 38)).alloc (.cells #[.int .i64 ya, .int .i64 yb, .slice bc mc dc, .slice bd md dd, .slice be me de, .slice bf mf df, .int .i64 yg, .int .i64 yh, .slice bi mi di] 38)).heap.size := by simp
          have x0 := XA 0 _ rfl
          have y0 := XB 0 _ rfl
          have x1 := XA 1 _ rfl
          have y1 := XB 1 _ rfl
          have x2 := XA 2 _ rfl
          have y2 := XB 2 _ rfl
          go_at_call 40
          refine (l02Same_any _ _ xa xb ya yb ac bc nc cc mc dc Zc Yc _ hnc hmc ⟨x0, x1, x2⟩ ⟨y0, y1, y2⟩ (hc.below B0 (Nat.le_refl _)) (kc.below B0 (Nat.le_refl _))).mono ?_
          rw [hpM]
          rintro e w1 ⟨rfl, q1, hw1⟩
          have b1 := below_of_drewN hw1
          clear hw1
          have B1 := B0.trans (b1.mono B0.size)
          have XA1 := XA.below b1 (by omega)
          have XB1 := XB.below b1 (by omega)
          have l1 : w.heap.size + 1 < w1.heap.size := Nat.lt_of_lt_of_le l0 b1.size
          clear b1 XA XB x0 y0 x1 y1 x2 y2
          have x3 := XA1 3 _ rfl
          have y3 := XB1 3 _ rfl
          go_wp2_with fail
          go_at_call 41
          refine (specSameAll_any ad bd nd cd md dd Zd Yd _ hnd hmd (hd.below B1 (Nat.le_refl _)) (kd.below B1 (Nat.le_refl _))).mono ?_
          rw [hpV]
          rintro e w2 ⟨rfl, q2, hw2⟩
          have b2 := below_of_drewN hw2
          clear hw2
          have B2 := B1.trans (b2.mono B1.size)
          have XA2 := XA1.below b2 (by omega)
          have XB2 := XB1.below b2 (by omega)
          have l2 : w.heap.size + 1 < w2.heap.size := Nat.lt_of_lt_of_le l1 b2.size
          clear b2 XA1 XB1 x3 y3
          have x4 := XA2 4 _ rfl
          have y4 := XB2 4 _ rfl
          have x5 := XA2 5 _ rfl
          have y5 := XB2 5 _ rfl
          go_wp2_with fail
          go_at_call 42
          refine (l04Same_at _ _ ae be ne ce me de Ze Ye af bf nf cf mf df Zf Yf _ hne hme hnf hmf x4 x5 y4 y5 (he.below B2 (Nat.le_refl _)) (ke.below B2 (Nat.le_refl _)) (hf.below B2 (Nat.le_refl _)) (kf.below B2 (Nat.le_refl _))).mono ?_
          rw [hpC]
          rintro e w3 ⟨rfl, q3, hw3⟩
          have b3 := below_of_drewN hw3
          clear hw3
          have B3 := B2.trans (b3.mono B2.size)
          have XA3 := XA2.below b3 (by omega)
          have XB3 := XB2.below b3 (by omega)
          have l3 : w.heap.size + 1 < w3.heap.size := Nat.lt_of_lt_of_le l2 b3.size
          clear b3 XA2 XB2 x4 y4 x5 y5
          have x6 := XA3 6 _ rfl
          have y6 := XB3 6 _ rfl
          have x7 := XA3 7 _ rfl
          have y7 := XB3 7 _ rfl
          have x8 := XA3 8 _ rfl
          have y8 := XB3 8 _ rfl
          go_wp2_with fail
          go_at_call 43
          refine (specSameWhole_at _ xg xh ai ni ci Zi _ yg yh bi mi di Yi _ hni hmi x6 x7 x8 y6 y7 y8 (hi.below B3 (Nat.le_refl _)) (ki.below B3 (Nat.le_refl _))).mono ?_
          rw [hpW]
          rintro e w4 ⟨rfl, q4, hw4⟩
          have b4 := below_of_drewN hw4
          clear hw4
          have B4 := B3.trans (b4.mono B3.size)
          have XA4 := XA3.below b4 (by omega)
          have XB4 := XB3.below b4 (by omega)
          have l4 : w.heap.size + 1 < w4.heap.size := Nat.lt_of_lt_of_le l3 b4.size
          clear b4 XA3 XB3 x6 y6 x7 y7 x8 y8
          go_wp2_with fail
          go_ret
          exact ⟨by rw [HB.out]; rfl, (by repeat first | (with_reducible exact B4) | (with_reducible refine Below.setCell ?_ (by first | exact Nat.le_refl _ | (simp; done) | (simp; omega) | omega) _) | (with_reducible refine Below.alloc ?_ (by first | exact Nat.le_refl _ | (simp; done) | (simp; omega) | omega) _) | (with_reducible refine below_drewN ?_ _) | (with_reducible refine Below.drew ?_))⟩
        | true =>
          have HB : Hid (sameDeskB xa xb nc Zc nd Zd ne Ze nf Zf xg xh ni Zi ya yb mc Yc md Yd me Ye mf Yf yg yh mi Yi = true) := Lib.hid (by unfold sameDeskB; rw [hpM, hpV, hpC, hpW]; rfl)
          go_enter Try.func12, Try.ntmps12
          go_wp2_with fail
          have XA : BoxL ((w.alloc (.cells #[.int .i64 xa, .int .i64 xb, .slice ac nc cc, .slice ad nd cd, .slice ae ne ce, .slice af nf cf, .int .i64 xg, .int .i64 xh, .slice ai ni ci] 38)).alloc (.cells #[.int .i64 ya, .int .i64 yb, .slice bc mc dc, .slice bd md dd, .slice be me de, .slice bf mf df, .int .i64 yg, .int .i64 yh, .slice bi mi di] 38)) w.heap.size [.int .i64 xa, .int .i64 xb, .slice ac nc cc, .slice ad nd cd, .slice ae ne ce, .slice af nf cf, .int .i64 xg, .int .i64 xh, .slice ai ni ci] := (BoxL.nine (by simp [go_sem]) (by simp [go_sem]) (by simp [go_sem]) (by simp [go_sem]) (by simp [go_sem]) (by simp [go_sem]) (by simp [go_sem]) (by simp [go_sem]) (by simp [go_sem]))
          have XB : BoxL ((w.alloc (.cells #[.int .i64 xa, .int .i64 xb, .slice ac nc cc, .slice ad nd cd, .slice ae ne ce, .slice af nf cf, .int .i64 xg, .int .i64 xh, .slice ai ni ci] 38)).alloc (.cells #[.int .i64 ya, .int .i64 yb, .slice bc mc dc, .slice bd md dd, .slice be me de, .slice bf mf df, .int .i64 yg, .int .i64 yh, .slice bi mi di] 38)) (w.heap.size + 1) [.int .i64 ya, .int .i64 yb, .slice bc mc dc, .slice bd md dd, .slice be me de, .slice bf mf df, .int .i64 yg, .int .i64 yh, .slice bi mi di] := (BoxL.nine (by simp [go_sem]) (by simp [go_sem]) (by simp [go_sem]) (by simp [go_sem]) (by simp [go_sem]) (by simp [go_sem]) (by simp [go_sem]) (by simp [go_sem]) (by simp [go_sem]))
          have B0 : Below w.heap.size w ((w.alloc (.cells #[.int .i64 xa, .int .i64 xb, .slice ac nc cc, .slice ad nd cd, .slice ae ne ce, .slice af nf cf, .int .i64 xg, .int .i64 xh, .slice ai ni ci] 38)).alloc (.cells #[.int .i64 ya, .int .i64 yb, .slice bc mc dc, .slice bd md dd, .slice be me de, .slice bf mf df, .int .i64 yg, .int .i64 yh, .slice bi mi di] 38)) := (by repeat first | (with_reducible exact Below.refl _ _) | (with_reducible refine Below.setCell ?_ (by first | exact Nat.le_refl _ | (simp; done) | (simp; omega) | omega) _) | (with_reducible refine Below.alloc ?_ (by first | exact Nat.le_refl _ | (simp; done) | (simp; omega) | omega) _) | (with_reducible refine below_drewN ?_ _) | (with_reducible refine Below.drew ?_))
          have l0 : w.heap.size + 1 < ((w.alloc (.cells #[.int .i64 xa, .int .i64 xb, .slice ac nc cc, .slice ad nd cd, .slice ae ne ce, .slice af nf cf, .int .i64 xg, .int .i64 xh, .slice ai ni ci] 38)).alloc (.cells #[.int .i64 ya, .int .i64 yb, .slice bc mc dc, .slice bd md dd, .slice be me de, .slice bf mf df, .int .i64 yg, .int .i64 yh, .slice bi mi di] 38)).heap.size := by simp
          have x0 := XA 0 _ rfl
          have y0 := XB 0 _ rfl
          have x1 := XA 1 _ rfl
          have y1 := XB 1 _ rfl
          have x2 := XA 2 _ rfl
          have y2 := XB 2 _ rfl
          go_at_call 40
          refine (l02Same_any _ _ xa xb ya yb ac bc nc cc mc dc Zc Yc _ hnc hmc ⟨x0, x1, x2⟩ ⟨y0, y1, y2⟩ (hc.below B0 (Nat.le_refl _)) (kc.below B0 (Nat.le_refl _))).mono ?_
          rw [hpM]
          rintro e w1 ⟨rfl, q1, hw1⟩
          have b1 := below_of_drewN hw1
          clear hw1
          have B1 := B0.trans (b1.mono B0.size)
          have XA1 := XA.below b1 (by omega)
          have XB1 := XB.below b1 (by omega)
          have l1 : w.heap.size + 1 < w1.heap.size := Nat.lt_of_lt_of_le l0 b1.size
          clear b1 XA XB x0 y0 x1 y1 x2 y2
          have x3 := XA1 3 _ rfl
          have y3 := XB1 3 _ rfl
          go_wp2_with fail
          go_at_call 41
          refine (specSameAll_any ad bd nd cd md dd Zd Yd _ hnd hmd (hd.below B1 (Nat.le_refl _)) (kd.below B1 (Nat.le_refl _))).mono ?_
          rw [hpV]
          rintro e w2 ⟨rfl, q2, hw2⟩
          have b2 := below_of_drewN hw2
          clear hw2
          have B2 := B1.trans (b2.mono B1.size)
          have XA2 := XA1.below b2 (by omega)
          have XB2 := XB1.below b2 (by omega)
          have l2 : w.heap.size + 1 < w2.heap.size := Nat.lt_of_lt_of_le l1 b2.size
          clear b2 XA1 XB1 x3 y3
          have x4 := XA2 4 _ rfl
          have y4 := XB2 4 _ rfl
          have x5 := XA2 5 _ rfl
          have y5 := XB2 5 _ rfl
          go_wp2_with fail
          go_at_call 42
          refine (l04Same_at _ _ ae be ne ce me de Ze Ye af bf nf cf mf df Zf Yf _ hne hme hnf hmf x4 x5 y4 y5 (he.below B2 (Nat.le_refl _)) (ke.below B2 (Nat.le_refl _)) (hf.below B2 (Nat.le_refl _)) (kf.below B2 (Nat.le_refl _))).mono ?_
          rw [hpC]
          rintro e w3 ⟨rfl, q3, hw3⟩
          have b3 := below_of_drewN hw3
          clear hw3
          have B3 := B2.trans (b3.mono B2.size)
          have XA3 := XA2.below b3 (by omega)
          have XB3 := XB2.below b3 (by omega)
          have l3 : w.heap.size + 1 < w3.heap.size := Nat.lt_of_lt_of_le l2 b3.size
          clear b3 XA2 XB2 x4 y4 x5 y5
          have x6 := XA3 6 _ rfl
          have y6 := XB3 6 _ rfl
          have x7 := XA3 7 _ rfl
          have y7 := XB3 7 _ rfl
          have x8 := XA3 8 _ rfl
          have y8 := XB3 8 _ rfl
          go_wp2_with fail
          go_at_call 43
          refine (specSameWhole_at _ xg xh ai ni ci Zi _ yg yh bi mi di Yi _ hni hmi x6 x7 x8 y6 y7 y8 (hi.below B3 (Nat.le_refl _)) (ki.below B3 (Nat.le_refl _))).mono ?_
          rw [hpW]
          rintro e w4 ⟨rfl, q4, hw4⟩
          have b4 := below_of_drewN hw4
          clear hw4
          have B4 := B3.trans (b4.mono B3.size)
          have XA4 := XA3.below b4 (by omega)
          have XB4 := XB3.below b4 (by omega)
          have l4 : w.heap.size + 1 < w4.heap.size := Nat.lt_of_lt_of_le l3 b4.size
          clear b4 XA3 XB3 x6 y6 x7 y7 x8 y8
          go_wp2_with fail
          go_ret
          exact ⟨by rw [HB.out]; rfl, (by repeat first | (with_reducible exact B4) | (with_reducible refine Below.setCell ?_ (by first | exact Nat.le_refl _ | (simp; done) | (simp; omega) | omega) _) | (with_reducible refine Below.alloc ?_ (by first | exact Nat.le_refl _ | (simp; done) | (simp; omega) | omega) _) | (with_reducible refine below_drewN ?_ _) | (with_reducible refine Below.drew ?_))⟩
theorem keySameDesk (xa : Int) (xb : Int) (nc : Nat) (Zc : Nat → Nat) (nd : Nat) (Zd : Nat → Nat) (ne : Nat) (Ze : Nat → Nat) (nf : Nat) (Zf : Nat → Nat) (xg : Int) (xh : Int) (ni : Nat) (Zi : Nat → Int) (ya : Int) (yb : Int) (mc : Nat) (Yc : Nat → Nat) (md : Nat) (Yd : Nat → Nat) (me : Nat) (Ye : Nat → Nat) (mf : Nat) (Yf : Nat → Nat) (yg : Int) (yh : Int) (mi : Nat) (Yi : Nat → Int) (wxa : (Lit.int .i64 xa).wf = true) (wxb : (Lit.int .i64 xb).wf = true) (hnc : nc ≤ 1048576) (hnd : nd ≤ 1048576) (hne : ne ≤ 1048576) (hnf : nf ≤ 1048576) (wxg : (Lit.int .i64 xg).wf = true) (wxh : (Lit.int .i64 xh).wf = true) (hni : ni ≤ 1048576) (wya : (Lit.int .i64 ya).wf = true) (wyb : (Lit.int .i64 yb).wf = true) (hmc : mc ≤ 1048576) (hmd : md ≤ 1048576) (hme : me ≤ 1048576) (hmf : mf ≤ 1048576) (wyg : (Lit.int .i64 yg).wf = true) (wyh : (Lit.int .i64 yh).wf = true) (hmi : mi ≤ 1048576) : ∃ ok : Bool,
    (∀ ac cc ad cd ae ce af cf ai ci bc dc bd dd be de bf df bi di W, FS .f32 W ac nc cc Zc → FS .f32 W ad nd cd Zd → FS .f32 W ae ne ce Ze → FS .f32 W af nf cf Zf → IS .i64 W ai ni ci Zi → FS .f32 W bc mc dc Yc → FS .f32 W bd md dd Yd → FS .f32 W be me de Ye → FS .f32 W bf mf df Yf → IS .i64 W bi mi di Yi → Calls Try.prog 12 #[.agg #[.int .i64 xa, .int .i64 xb, .slice ac nc cc, .slice ad nd cd, .slice ae ne ce, .slice af nf cf, .int .i64 xg, .int .i64 xh, .slice ai ni ci], .agg #[.int .i64 ya, .int .i64 yb, .slice bc mc dc, .slice bd md dd, .slice be me de, .slice bf mf df, .int .i64 yg, .int .i64 yh, .slice bi mi di]] W (BoolBel ok W)) ∧
    (∀ ac cc ad cd ae ce af cf ai ci bc dc bd dd be de bf df bi di W, FS .f32 W ac nc cc Zc → FS .f32 W ad nd cd Zd → FS .f32 W ae ne ce Ze → FS .f32 W af nf cf Zf → IS .i64 W ai ni ci Zi → FS .f32 W bc mc dc Yc → FS .f32 W bd md dd Yd → FS .f32 W be me de Ye → FS .f32 W bf mf df Yf → IS .i64 W bi mi di Yi → Calls Try.prog 13 #[.agg #[.int .i64 xa, .int .i64 xb, .slice ac nc cc, .slice ad nd cd, .slice ae ne ce, .slice af nf cf, .int .i64 xg, .int .i64 xh, .slice ai ni ci], .agg #[.int .i64 ya, .int .i64 yb, .slice bc mc dc, .slice bd md dd, .slice be me de, .slice bf mf df, .int .i64 yg, .int .i64 yh, .slice bi mi di]] W (BoolBel ok W)) :=
  ⟨sameDeskB xa xb nc Zc nd Zd ne Ze nf Zf xg xh ni Zi ya yb mc Yc md Yd me Ye mf Yf yg yh mi Yi, fun ac cc ad cd ae ce af cf ai ci bc dc bd dd be de bf df bi di W hc hd he hf hi kc kd ke kf ki => specSameDesk_any xa xb ac nc cc Zc ad nd cd Zd ae ne ce Ze af nf cf Zf xg xh ai ni ci Zi ya yb bc mc dc Yc bd md dd Yd be me de Ye bf mf df Yf yg yh bi mi di Yi W hnc hnd hne hnf hni hmc hmd hme hmf hmi hc hd he hf hi kc kd ke kf ki, fun ac cc ad cd ae ce af cf ai ci bc dc bd dd be de bf df bi di W hc hd he hf hi kc kd ke kf ki => implSameDesk_any xa xb ac nc cc Zc ad nd cd Zd ae ne ce Ze af nf cf Zf xg xh ai ni ci Zi ya yb bc mc dc Yc bd md dd Yd be me de Ye bf mf df Yf yg yh bi mi di Yi W hnc hnd hne hnf hni hmc hmd hme hmf hmi hc hd he hf hi kc kd ke kf ki⟩
end Go.Proofs.Ytmddhhmgfhljiab
