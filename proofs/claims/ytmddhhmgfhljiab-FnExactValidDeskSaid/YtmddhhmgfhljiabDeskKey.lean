/- Helper: ValidDesk, of the program and of its reference. Conditions: none. -/
import Derived.Test.YtmddhhmgfhljiabDeskAt
import Derived.Test.YtmddhhmgfhljiabDesk
import Derived.Test.YtmddhhmgfhljiabFinWalks
import Derived.Test.YtmddhhmgfhljiabMatValid
import Derived.Test.YtmddhhmgfhljiabKeys
set_option linter.unusedVariables false
set_option linter.unusedSimpArgs false
namespace Go.Proofs.Ytmddhhmgfhljiab
open Go.RowKit

/-- What valid desks are. -/
def deskB (xa xb : Int) (nc : Nat) (Vc : Nat → Option Nat) (nd : Nat) (Vd : Nat → Option Nat) (ne : Nat) (Ve : Nat → Option Nat) (nf : Nat) (Vf : Nat → Option Nat) (xg xh : Int) (ni : Nat) (Zi : Nat → Int) : Bool :=
  validB xa xb nc Vc && (vecB nd Vd && (chainB ne Ve nf Vf && wholeB 1000000 xg xh ni Zi))
set_option maxRecDepth 20000 in
set_option maxHeartbeats 2000000 in
theorem implDesk_any (xa xb : Int) (ac : Option Addr) (nc cc : Nat) (Zc : Nat → Nat) (ad : Option Addr) (nd cd : Nat) (Zd : Nat → Nat) (ae : Option Addr) (ne ce : Nat) (Ze : Nat → Nat) (af : Option Addr) (nf cf : Nat) (Zf : Nat → Nat) (xg xh : Int) (ai : Option Addr) (ni ci : Nat) (Zi : Nat → Int) (w : World) (hnc : nc ≤ 1048576) (hnd : nd ≤ 1048576) (hne : ne ≤ 1048576) (hnf : nf ≤ 1048576) (hni : ni ≤ 1048576) (hc : FS .f32 w ac nc cc Zc) (hd : FS .f32 w ad nd cd Zd) (he : FS .f32 w ae ne ce Ze) (hf : FS .f32 w af nf cf Zf) (hi : IS .i64 w ai ni ci Zi) :
    Calls Try.prog 10 #[.agg #[.int .i64 xa, .int .i64 xb, .slice ac nc cc, .slice ad nd cd, .slice ae ne ce, .slice af nf cf, .int .i64 xg, .int .i64 xh, .slice ai ni ci]] w fun e w' => e = .returned (.bool (deskB xa xb nc (vals Zc) nd (vals Zd) ne (vals Ze) nf (vals Zf) xg xh ni Zi)) ∧ Below w.heap.size w w' := by
  have X0 : BoxL (w.alloc (.cells #[.int .i64 xa, .int .i64 xb, .slice ac nc cc, .slice ad nd cd, .slice ae ne ce, .slice af nf cf, .int .i64 xg, .int .i64 xh, .slice ai ni ci] 38)) w.heap.size [.int .i64 xa, .int .i64 xb, .slice ac nc cc, .slice ad nd cd, .slice ae ne ce, .slice af nf cf, .int .i64 xg, .int .i64 xh, .slice ai ni ci] := (BoxL.nine (by simp [go_sem]) (by simp [go_sem]) (by simp [go_sem]) (by simp [go_sem]) (by simp [go_sem]) (by simp [go_sem]) (by simp [go_sem]) (by simp [go_sem]) (by simp [go_sem]))
  cases hp0 : validB xa xb nc (vals Zc) with
  | false =>
    have HB : Hid (deskB xa xb nc (vals Zc) nd (vals Zd) ne (vals Ze) nf (vals Zf) xg xh ni Zi = false) := Lib.hid (by unfold deskB; rw [hp0]; rfl)
    go_enter Try.func10, Try.ntmps10
    go_wp2_with fail
    go_at_call 32
    refine (implValid_any xa xb ac nc cc Zc _ hnc (hc.below (by repeat first | (with_reducible exact Below.refl _ _) | (with_reducible refine Below.setCell ?_ (by first | exact Nat.le_refl _ | (simp; done) | (simp; omega) | omega) _) | (with_reducible refine Below.alloc ?_ (by first | exact Nat.le_refl _ | (simp; done) | (simp; omega) | omega) _) | (with_reducible refine below_drewN ?_ _) | (with_reducible refine Below.drew ?_)) (Nat.le_refl _))).mono ?_
    rw [hp0]
    rintro e w1 ⟨rfl, b1⟩
    have B1 : Below w.heap.size w w1 := Below.trans (by repeat first | (with_reducible exact Below.refl _ _) | (with_reducible refine Below.setCell ?_ (by first | exact Nat.le_refl _ | (simp; done) | (simp; omega) | omega) _) | (with_reducible refine Below.alloc ?_ (by first | exact Nat.le_refl _ | (simp; done) | (simp; omega) | omega) _) | (with_reducible refine below_drewN ?_ _) | (with_reducible refine Below.drew ?_)) (b1.mono (by simp))
    have X1 := X0.below b1 (by simp)
    have l1 : w.heap.size < w1.heap.size := by have := b1.size; simp at this; omega
    clear b1
    have x3 := X1 3 _ rfl
    have x4 := X1 4 _ rfl
    have x5 := X1 5 _ rfl
    have x6 := X1 6 _ rfl
    have x7 := X1 7 _ rfl
    have x8 := X1 8 _ rfl
    go_wp2_with fail
    go_ret
    exact ⟨by rw [HB.out]; rfl, (by repeat first | (with_reducible exact B1) | (with_reducible refine Below.setCell ?_ (by first | exact Nat.le_refl _ | (simp; done) | (simp; omega) | omega) _) | (with_reducible refine Below.alloc ?_ (by first | exact Nat.le_refl _ | (simp; done) | (simp; omega) | omega) _) | (with_reducible refine below_drewN ?_ _) | (with_reducible refine Below.drew ?_))⟩
  | true =>
    cases hp1 : vecB nd (vals Zd) with
    | false =>
      have HB : Hid (deskB xa xb nc (vals Zc) nd (vals Zd) ne (vals Ze) nf (vals Zf) xg xh ni Zi = false) := Lib.hid (by unfold deskB; rw [hp0, hp1]; rfl)
      go_enter Try.func10, Try.ntmps10
      go_wp2_with fail
      go_at_call 32
      refine (implValid_any xa xb ac nc cc Zc _ hnc (hc.below (by repeat first | (with_reducible exact Below.refl _ _) | (with_reducible refine Below.setCell ?_ (by first | exact Nat.le_refl _ | (simp; done) | (simp; omega) | omega) _) | (with_reducible refine Below.alloc ?_ (by first | exact Nat.le_refl _ | (simp; done) | (simp; omega) | omega) _) | (with_reducible refine below_drewN ?_ _) | (with_reducible refine Below.drew ?_)) (Nat.le_refl _))).mono ?_
      rw [hp0]
      rintro e w1 ⟨rfl, b1⟩
      have B1 : Below w.heap.size w w1 := Below.trans (by repeat first | (with_reducible exact Below.refl _ _) | (with_reducible refine Below.setCell ?_ (by first | exact Nat.le_refl _ | (simp; done) | (simp; omega) | omega) _) | (with_reducible refine Below.alloc ?_ (by first | exact Nat.le_refl _ | (simp; done) | (simp; omega) | omega) _) | (with_reducible refine below_drewN ?_ _) | (with_reducible refine Below.drew ?_)) (b1.mono (by simp))
      have X1 := X0.below b1 (by simp)
      have l1 : w.heap.size < w1.heap.size := by have := b1.size; simp at this; omega
      clear b1
      have x3 := X1 3 _ rfl
      have x4 := X1 4 _ rfl
      have x5 := X1 5 _ rfl
      have x6 := X1 6 _ rfl
      have x7 := X1 7 _ rfl
      have x8 := X1 8 _ rfl
      go_wp2_with fail
      go_at_call 33
      refine (implVector_any ad nd cd Zd _ hnd (hd.below B1 (Nat.le_refl _))).mono ?_
      rw [hp1]
      rintro e w2 ⟨rfl, q2, hw2⟩
      have b2 := below_of_drewN hw2
      clear hw2
      have B2 := B1.trans (b2.mono B1.size)
      have X2 := X1.below b2 l1
      have l2 : w.heap.size < w2.heap.size := Nat.lt_of_lt_of_le l1 b2.size
      clear b2 X1 l1 B1 x3 x4 x5 x6 x7 x8
      have x4 := X2 4 _ rfl
      have x5 := X2 5 _ rfl
      have x6 := X2 6 _ rfl
      have x7 := X2 7 _ rfl
      have x8 := X2 8 _ rfl
      go_wp2_with fail
      go_ret
      exact ⟨by rw [HB.out]; rfl, (by repeat first | (with_reducible exact B2) | (with_reducible refine Below.setCell ?_ (by first | exact Nat.le_refl _ | (simp; done) | (simp; omega) | omega) _) | (with_reducible refine Below.alloc ?_ (by first | exact Nat.le_refl _ | (simp; done) | (simp; omega) | omega) _) | (with_reducible refine below_drewN ?_ _) | (with_reducible refine Below.drew ?_))⟩
    | true =>
      cases hp2 : chainB ne (vals Ze) nf (vals Zf) with
      | false =>
        have HB : Hid (deskB xa xb nc (vals Zc) nd (vals Zd) ne (vals Ze) nf (vals Zf) xg xh ni Zi = false) := Lib.hid (by unfold deskB; rw [hp0, hp1, hp2]; rfl)
        go_enter Try.func10, Try.ntmps10
        go_wp2_with fail
        go_at_call 32
        refine (implValid_any xa xb ac nc cc Zc _ hnc (hc.below (by repeat first | (with_reducible exact Below.refl _ _) | (with_reducible refine Below.setCell ?_ (by first | exact Nat.le_refl _ | (simp; done) | (simp; omega) | omega) _) | (with_reducible refine Below.alloc ?_ (by first | exact Nat.le_refl _ | (simp; done) | (simp; omega) | omega) _) | (with_reducible refine below_drewN ?_ _) | (with_reducible refine Below.drew ?_)) (Nat.le_refl _))).mono ?_
        rw [hp0]
        rintro e w1 ⟨rfl, b1⟩
        have B1 : Below w.heap.size w w1 := Below.trans (by repeat first | (with_reducible exact Below.refl _ _) | (with_reducible refine Below.setCell ?_ (by first | exact Nat.le_refl _ | (simp; done) | (simp; omega) | omega) _) | (with_reducible refine Below.alloc ?_ (by first | exact Nat.le_refl _ | (simp; done) | (simp; omega) | omega) _) | (with_reducible refine below_drewN ?_ _) | (with_reducible refine Below.drew ?_)) (b1.mono (by simp))
        have X1 := X0.below b1 (by simp)
        have l1 : w.heap.size < w1.heap.size := by have := b1.size; simp at this; omega
        clear b1
        have x3 := X1 3 _ rfl
        have x4 := X1 4 _ rfl
        have x5 := X1 5 _ rfl
        have x6 := X1 6 _ rfl
        have x7 := X1 7 _ rfl
        have x8 := X1 8 _ rfl
        go_wp2_with fail
        go_at_call 33
        refine (implVector_any ad nd cd Zd _ hnd (hd.below B1 (Nat.le_refl _))).mono ?_
        rw [hp1]
        rintro e w2 ⟨rfl, q2, hw2⟩
        have b2 := below_of_drewN hw2
        clear hw2
        have B2 := B1.trans (b2.mono B1.size)
        have X2 := X1.below b2 l1
        have l2 : w.heap.size < w2.heap.size := Nat.lt_of_lt_of_le l1 b2.size
        clear b2 X1 l1 B1 x3 x4 x5 x6 x7 x8
        have x4 := X2 4 _ rfl
        have x5 := X2 5 _ rfl
        have x6 := X2 6 _ rfl
        have x7 := X2 7 _ rfl
        have x8 := X2 8 _ rfl
        go_wp2_with fail
        go_at_call 34
        refine (implChain_any ae ne ce Ze af nf cf Zf _ hne hnf (he.below B2 (Nat.le_refl _)) (hf.below B2 (Nat.le_refl _))).mono ?_
        rw [hp2]
        rintro e w3 ⟨rfl, b3⟩
        have B3 := B2.trans (b3.mono B2.size)
        have X3 := X2.below b3 l2
        have l3 : w.heap.size < w3.heap.size := Nat.lt_of_lt_of_le l2 b3.size
        clear b3 X2 l2 B2 x4 x5 x6 x7 x8
        have x6 := X3 6 _ rfl
        have x7 := X3 7 _ rfl
        have x8 := X3 8 _ rfl
        go_wp2_with fail
        go_ret
        exact ⟨by rw [HB.out]; rfl, (by repeat first | (with_reducible exact B3) | (with_reducible refine Below.setCell ?_ (by first | exact Nat.le_refl _ | (simp; done) | (simp; omega) | omega) _) | (with_reducible refine Below.alloc ?_ (by first | exact Nat.le_refl _ | (simp; done) | (simp; omega) | omega) _) | (with_reducible refine below_drewN ?_ _) | (with_reducible refine Below.drew ?_))⟩
      | true =>
        cases hp3 : wholeB 1000000 xg xh ni Zi with
        | false =>
          have HB : Hid (deskB xa xb nc (vals Zc) nd (vals Zd) ne (vals Ze) nf (vals Zf) xg xh ni Zi = false) := Lib.hid (by unfold deskB; rw [hp0, hp1, hp2, hp3]; rfl)
          go_enter Try.func10, Try.ntmps10
          go_wp2_with fail
          go_at_call 32
          refine (implValid_any xa xb ac nc cc Zc _ hnc (hc.below (by repeat first | (with_reducible exact Below.refl _ _) | (with_reducible refine Below.setCell ?_ (by first | exact Nat.le_refl _ | (simp; done) | (simp; omega) | omega) _) | (with_reducible refine Below.alloc ?_ (by first | exact Nat.le_refl _ | (simp; done) | (simp; omega) | omega) _) | (with_reducible refine below_drewN ?_ _) | (with_reducible refine Below.drew ?_)) (Nat.le_refl _))).mono ?_
          rw [hp0]
          rintro e w1 ⟨rfl, b1⟩
          have B1 : Below w.heap.size w w1 := Below.trans (by repeat first | (with_reducible exact Below.refl _ _) | (with_reducible refine Below.setCell ?_ (by first | exact Nat.le_refl _ | (simp; done) | (simp; omega) | omega) _) | (with_reducible refine Below.alloc ?_ (by first | exact Nat.le_refl _ | (simp; done) | (simp; omega) | omega) _) | (with_reducible refine below_drewN ?_ _) | (with_reducible refine Below.drew ?_)) (b1.mono (by simp))
          have X1 := X0.below b1 (by simp)
          have l1 : w.heap.size < w1.heap.size := by have := b1.size; simp at this; omega
          clear b1
          have x3 := X1 3 _ rfl
          have x4 := X1 4 _ rfl
          have x5 := X1 5 _ rfl
          have x6 := X1 6 _ rfl
          have x7 := X1 7 _ rfl
          have x8 := X1 8 _ rfl
          go_wp2_with fail
          go_at_call 33
          refine (implVector_any ad nd cd Zd _ hnd (hd.below B1 (Nat.le_refl _))).mono ?_
          rw [hp1]
          rintro e w2 ⟨rfl, q2, hw2⟩
          have b2 := below_of_drewN hw2
          clear hw2
          have B2 := B1.trans (b2.mono B1.size)
          have X2 := X1.below b2 l1
          have l2 : w.heap.size < w2.heap.size := Nat.lt_of_lt_of_le l1 b2.size
          clear b2 X1 l1 B1 x3 x4 x5 x6 x7 x8
          have x4 := X2 4 _ rfl
          have x5 := X2 5 _ rfl
          have x6 := X2 6 _ rfl
          have x7 := X2 7 _ rfl
          have x8 := X2 8 _ rfl
          go_wp2_with fail
          go_at_call 34
          refine (implChain_any ae ne ce Ze af nf cf Zf _ hne hnf (he.below B2 (Nat.le_refl _)) (hf.below B2 (Nat.le_refl _))).mono ?_
          rw [hp2]
          rintro e w3 ⟨rfl, b3⟩
          have B3 := B2.trans (b3.mono B2.size)
          have X3 := X2.below b3 l2
          have l3 : w.heap.size < w3.heap.size := Nat.lt_of_lt_of_le l2 b3.size
          clear b3 X2 l2 B2 x4 x5 x6 x7 x8
          have x6 := X3 6 _ rfl
          have x7 := X3 7 _ rfl
          have x8 := X3 8 _ rfl
          go_wp2_with fail
          go_at_call 35
          refine (implWhole_any xg xh ai ni ci Zi _ hni (hi.below B3 (Nat.le_refl _))).mono ?_
          rw [hp3]
          rintro e w4 ⟨rfl, b4⟩
          have B4 := B3.trans (b4.mono B3.size)
          have X4 := X3.below b4 l3
          have l4 : w.heap.size < w4.heap.size := Nat.lt_of_lt_of_le l3 b4.size
          clear b4 X3 l3 B3 x6 x7 x8
          go_wp2_with fail
          go_ret
          exact ⟨by rw [HB.out]; rfl, (by repeat first | (with_reducible exact B4) | (with_reducible refine Below.setCell ?_ (by first | exact Nat.le_refl _ | (simp; done) | (simp; omega) | omega) _) | (with_reducible refine Below.alloc ?_ (by first | exact Nat.le_refl _ | (simp; done) | (simp; omega) | omega) _) | (with_reducible refine below_drewN ?_ _) | (with_reducible refine Below.drew ?_))⟩
        | true =>
          have HB : Hid (deskB xa xb nc (vals Zc) nd (vals Zd) ne (vals Ze) nf (vals Zf) xg xh ni Zi = true) := Lib.hid (by unfold deskB; rw [hp0, hp1, hp2, hp3]; rfl)
          go_enter Try.func10, Try.ntmps10
          go_wp2_with fail
          go_at_call 32
          refine (implValid_any xa xb ac nc cc Zc _ hnc (hc.below (by repeat first | (with_reducible exact Below.refl _ _) | (with_reducible refine Below.setCell ?_ (by first | exact Nat.le_refl _ | (simp; done) | (simp; omega) | omega) _) | (with_reducible refine Below.alloc ?_ (by first | exact Nat.le_refl _ | (simp; done) | (simp; omega) | omega) _) | (with_reducible refine below_drewN ?_ _) | (with_reducible refine Below.drew ?_)) (Nat.le_refl _))).mono ?_
          rw [hp0]
          rintro e w1 ⟨rfl, b1⟩
          have B1 : Below w.heap.size w w1 := Below.trans (by repeat first | (with_reducible exact Below.refl _ _) | (with_reducible refine Below.setCell ?_ (by first | exact Nat.le_refl _ | (simp; done) | (simp; omega) | omega) _) | (with_reducible refine Below.alloc ?_ (by first | exact Nat.le_refl _ | (simp; done) | (simp; omega) | omega) _) | (with_reducible refine below_drewN ?_ _) | (with_reducible refine Below.drew ?_)) (b1.mono (by simp))
          have X1 := X0.below b1 (by simp)
          have l1 : w.heap.size < w1.heap.size := by have := b1.size; simp at this; omega
          clear b1
          have x3 := X1 3 _ rfl
          have x4 := X1 4 _ rfl
          have x5 := X1 5 _ rfl
          have x6 := X1 6 _ rfl
          have x7 := X1 7 _ rfl
          have x8 := X1 8 _ rfl
          go_wp2_with fail
          go_at_call 33
          refine (implVector_any ad nd cd Zd _ hnd (hd.below B1 (Nat.le_refl _))).mono ?_
          rw [hp1]
          rintro e w2 ⟨rfl, q2, hw2⟩
          have b2 := below_of_drewN hw2
          clear hw2
          have B2 := B1.trans (b2.mono B1.size)
          have X2 := X1.below b2 l1
          have l2 : w.heap.size < w2.heap.size := Nat.lt_of_lt_of_le l1 b2.size
          clear b2 X1 l1 B1 x3 x4 x5 x6 x7 x8
          have x4 := X2 4 _ rfl
          have x5 := X2 5 _ rfl
          have x6 := X2 6 _ rfl
          have x7 := X2 7 _ rfl
          have x8 := X2 8 _ rfl
          go_wp2_with fail
          go_at_call 34
          refine (implChain_any ae ne ce Ze af nf cf Zf _ hne hnf (he.below B2 (Nat.le_refl _)) (hf.below B2 (Nat.le_refl _))).mono ?_
          rw [hp2]
          rintro e w3 ⟨rfl, b3⟩
          have B3 := B2.trans (b3.mono B2.size)
          have X3 := X2.below b3 l2
          have l3 : w.heap.size < w3.heap.size := Nat.lt_of_lt_of_le l2 b3.size
          clear b3 X2 l2 B2 x4 x5 x6 x7 x8
          have x6 := X3 6 _ rfl
          have x7 := X3 7 _ rfl
          have x8 := X3 8 _ rfl
          go_wp2_with fail
          go_at_call 35
          refine (implWhole_any xg xh ai ni ci Zi _ hni (hi.below B3 (Nat.le_refl _))).mono ?_
          rw [hp3]
          rintro e w4 ⟨rfl, b4⟩
          have B4 := B3.trans (b4.mono B3.size)
          have X4 := X3.below b4 l3
          have l4 : w.heap.size < w4.heap.size := Nat.lt_of_lt_of_le l3 b4.size
          clear b4 X3 l3 B3 x6 x7 x8
          go_wp2_with fail
          go_ret
          exact ⟨by rw [HB.out]; rfl, (by repeat first | (with_reducible exact B4) | (with_reducible refine Below.setCell ?_ (by first | exact Nat.le_refl _ | (simp; done) | (simp; omega) | omega) _) | (with_reducible refine Below.alloc ?_ (by first | exact Nat.le_refl _ | (simp; done) | (simp; omega) | omega) _) | (with_reducible refine below_drewN ?_ _) | (with_reducible refine Below.drew ?_))⟩
set_option maxRecDepth 20000 in
set_option maxHeartbeats 2000000 in
theorem specDesk_any (p : Nat) (xa xb : Int) (ac : Option Addr) (nc cc : Nat) (Zc : Nat → Nat) (ad : Option Addr) (nd cd : Nat) (Zd : Nat → Nat) (ae : Option Addr) (ne ce : Nat) (Ze : Nat → Nat) (af : Option Addr) (nf cf : Nat) (Zf : Nat → Nat) (xg xh : Int) (ai : Option Addr) (ni ci : Nat) (Zi : Nat → Int) (w : World) (hnc : nc ≤ 1048576) (hnd : nd ≤ 1048576) (hne : ne ≤ 1048576) (hnf : nf ≤ 1048576) (hni : ni ≤ 1048576) (hbx : BoxL w p [.int .i64 xa, .int .i64 xb, .slice ac nc cc, .slice ad nd cd, .slice ae ne ce, .slice af nf cf, .int .i64 xg, .int .i64 xh, .slice ai ni ci]) (hc : FS .f32 w ac nc cc Zc) (hd : FS .f32 w ad nd cd Zd) (he : FS .f32 w ae ne ce Ze) (hf : FS .f32 w af nf cf Zf) (hi : IS .i64 w ai ni ci Zi) :
    Calls Try.prog 27 #[.pointer (some ⟨p, 0, none⟩)] w fun e w' => e = .returned (.bool (deskB xa xb nc (vals Zc) nd (vals Zd) ne (vals Ze) nf (vals Zf) xg xh ni Zi)) ∧ ∃ m, w' = w.drewN m := by
  have p0 := hbx 0 _ rfl
  have p1 := hbx 1 _ rfl
  have p2 := hbx 2 _ rfl
  have p3 := hbx 3 _ rfl
  have p4 := hbx 4 _ rfl
  have p5 := hbx 5 _ rfl
  have p6 := hbx 6 _ rfl
  have p7 := hbx 7 _ rfl
  have p8 := hbx 8 _ rfl
  cases hp0 : validB xa xb nc (vals Zc) with
  | false =>
    have HB : Hid (deskB xa xb nc (vals Zc) nd (vals Zd) ne (vals Ze) nf (vals Zf) xg xh ni Zi = false) := Lib.hid (by unfold deskB; rw [hp0]; rfl)
    go_enter Try.func27, Try.ntmps27
    go_wp2_with fail
    go_at_call 63
    refine (specIs_any p xa xb ac nc cc Zc _ hnc ⟨p0, p1, p2⟩ hc).mono ?_
    rw [hp0]
    rintro e w' ⟨rfl, m0, rfl⟩
    go_wp2_with fail
    go_ret
    exact ⟨by rw [HB.out]; rfl, _, by first | rfl | simp only [World.drewN_drewN]⟩
  | true =>
    cases hp1 : vecB nd (vals Zd) with
    | false =>
      have HB : Hid (deskB xa xb nc (vals Zc) nd (vals Zd) ne (vals Ze) nf (vals Zf) xg xh ni Zi = false) := Lib.hid (by unfold deskB; rw [hp0, hp1]; rfl)
      go_enter Try.func27, Try.ntmps27
      go_wp2_with fail
      go_at_call 63
      refine (specIs_any p xa xb ac nc cc Zc _ hnc ⟨p0, p1, p2⟩ hc).mono ?_
      rw [hp0]
      rintro e w' ⟨rfl, m0, rfl⟩
      go_wp2_with fail
      go_at_call 64
      refine (specVector_any ad nd cd Zd _ hnd (FS.drewN hd)).mono ?_
      rw [hp1]
      rintro e w' ⟨rfl, m1, rfl⟩
      go_wp2_with fail
      go_ret
      exact ⟨by rw [HB.out]; rfl, _, by first | rfl | simp only [World.drewN_drewN]⟩
    | true =>
      cases hp2 : chainB ne (vals Ze) nf (vals Zf) with
      | false =>
        have HB : Hid (deskB xa xb nc (vals Zc) nd (vals Zd) ne (vals Ze) nf (vals Zf) xg xh ni Zi = false) := Lib.hid (by unfold deskB; rw [hp0, hp1, hp2]; rfl)
        go_enter Try.func27, Try.ntmps27
        go_wp2_with fail
        go_at_call 63
        refine (specIs_any p xa xb ac nc cc Zc _ hnc ⟨p0, p1, p2⟩ hc).mono ?_
        rw [hp0]
        rintro e w' ⟨rfl, m0, rfl⟩
        go_wp2_with fail
        go_at_call 64
        refine (specVector_any ad nd cd Zd _ hnd (FS.drewN hd)).mono ?_
        rw [hp1]
        rintro e w' ⟨rfl, m1, rfl⟩
        go_wp2_with fail
        go_at_call 65
        refine (l04Is_at p ae ne ce Ze af nf cf Zf (w.drewN (m0 + m1)) hne hnf p4 p5 (FS.drewN he) (FS.drewN hf)).mono ?_
        rw [hp2]
        rintro e w' ⟨rfl, m2, rfl⟩
        go_wp2_with fail
        go_ret
        exact ⟨by rw [HB.out]; rfl, _, by first | rfl | simp only [World.drewN_drewN]⟩
      | true =>
        cases hp3 : wholeB 1000000 xg xh ni Zi with
        | false =>
          have HB : Hid (deskB xa xb nc (vals Zc) nd (vals Zd) ne (vals Ze) nf (vals Zf) xg xh ni Zi = false) := Lib.hid (by unfold deskB; rw [hp0, hp1, hp2, hp3]; rfl)
          go_enter Try.func27, Try.ntmps27
          go_wp2_with fail
          go_at_call 63
          refine (specIs_any p xa xb ac nc cc Zc _ hnc ⟨p0, p1, p2⟩ hc).mono ?_
          rw [hp0]
          rintro e w' ⟨rfl, m0, rfl⟩
          go_wp2_with fail
          go_at_call 64
          refine (specVector_any ad nd cd Zd _ hnd (FS.drewN hd)).mono ?_
          rw [hp1]
          rintro e w' ⟨rfl, m1, rfl⟩
          go_wp2_with fail
          go_at_call 65
          refine (l04Is_at p ae ne ce Ze af nf cf Zf (w.drewN (m0 + m1)) hne hnf p4 p5 (FS.drewN he) (FS.drewN hf)).mono ?_
          rw [hp2]
          rintro e w' ⟨rfl, m2, rfl⟩
          go_wp2_with fail
          go_at_call 66
          refine (specWhole_at 1000000 p xg xh ai ni ci Zi (w.drewN (m0 + m1 + m2)) (Nat.le_refl _) hni p6 p7 p8 (IS.drewN hi)).mono ?_
          have hpw : wholeB ((1000000 : Nat) : Int) xg xh ni Zi = _ := hp3
          rw [hpw]
          rintro e w' ⟨rfl, m3, rfl⟩
          go_wp2_with fail
          go_ret
          exact ⟨by rw [HB.out]; rfl, _, by first | rfl | simp only [World.drewN_drewN]⟩
        | true =>
          have HB : Hid (deskB xa xb nc (vals Zc) nd (vals Zd) ne (vals Ze) nf (vals Zf) xg xh ni Zi = true) := Lib.hid (by unfold deskB; rw [hp0, hp1, hp2, hp3]; rfl)
          go_enter Try.func27, Try.ntmps27
          go_wp2_with fail
          go_at_call 63
          refine (specIs_any p xa xb ac nc cc Zc _ hnc ⟨p0, p1, p2⟩ hc).mono ?_
          rw [hp0]
          rintro e w' ⟨rfl, m0, rfl⟩
          go_wp2_with fail
          go_at_call 64
          refine (specVector_any ad nd cd Zd _ hnd (FS.drewN hd)).mono ?_
          rw [hp1]
          rintro e w' ⟨rfl, m1, rfl⟩
          go_wp2_with fail
          go_at_call 65
          refine (l04Is_at p ae ne ce Ze af nf cf Zf (w.drewN (m0 + m1)) hne hnf p4 p5 (FS.drewN he) (FS.drewN hf)).mono ?_
          rw [hp2]
          rintro e w' ⟨rfl, m2, rfl⟩
          go_wp2_with fail
          go_at_call 66
          refine (specWhole_at 1000000 p xg xh ai ni ci Zi (w.drewN (m0 + m1 + m2)) (Nat.le_refl _) hni p6 p7 p8 (IS.drewN hi)).mono ?_
          have hpw : wholeB ((1000000 : Nat) : Int) xg xh ni Zi = _ := hp3
          rw [hpw]
          rintro e w' ⟨rfl, m3, rfl⟩
          go_wp2_with fail
          go_ret
          exact ⟨by rw [HB.out]; rfl, _, by first | rfl | simp only [World.drewN_drewN]⟩
theorem keyValidDesk (xa xb : Int) (nc : Nat) (Zc : Nat → Nat) (nd : Nat) (Zd : Nat → Nat) (ne : Nat) (Ze : Nat → Nat) (nf : Nat) (Zf : Nat → Nat) (xg xh : Int) (ni : Nat) (Zi : Nat → Int) (wxa : (Lit.int .i64 xa).wf = true) (wxb : (Lit.int .i64 xb).wf = true) (hnc : nc ≤ 1048576) (hnd : nd ≤ 1048576) (hne : ne ≤ 1048576) (hnf : nf ≤ 1048576) (wxg : (Lit.int .i64 xg).wf = true) (wxh : (Lit.int .i64 xh).wf = true) (hni : ni ≤ 1048576) : ∃ ok : Bool,
    (∀ ac cc ad cd ae ce af cf ai ci W, FS .f32 W ac nc cc Zc → FS .f32 W ad nd cd Zd → FS .f32 W ae ne ce Ze → FS .f32 W af nf cf Zf → IS .i64 W ai ni ci Zi → Calls Try.prog 8 #[.agg #[.int .i64 xa, .int .i64 xb, .slice ac nc cc, .slice ad nd cd, .slice ae ne ce, .slice af nf cf, .int .i64 xg, .int .i64 xh, .slice ai ni ci]] W (BoolBel ok W)) ∧
    (∀ ac cc ad cd ae ce af cf ai ci W, FS .f32 W ac nc cc Zc → FS .f32 W ad nd cd Zd → FS .f32 W ae ne ce Ze → FS .f32 W af nf cf Zf → IS .i64 W ai ni ci Zi → Calls Try.prog 10 #[.agg #[.int .i64 xa, .int .i64 xb, .slice ac nc cc, .slice ad nd cd, .slice ae ne ce, .slice af nf cf, .int .i64 xg, .int .i64 xh, .slice ai ni ci]] W (BoolBel ok W)) := by
  refine ⟨deskB xa xb nc (vals Zc) nd (vals Zd) ne (vals Ze) nf (vals Zf) xg xh ni Zi, fun ac cc ad cd ae ce af cf ai ci w hc hd he hf hi => ?_, fun ac cc ad cd ae ce af cf ai ci W hc hd he hf hi => implDesk_any xa xb ac nc cc Zc ad nd cd Zd ae ne ce Ze af nf cf Zf xg xh ai ni ci Zi W hnc hnd hne hnf hni hc hd he hf hi⟩
  go_enter Try.func8, Try.ntmps8
  go_wp2_with fail
  go_at_call 27
  refine (specDesk_any w.heap.size xa xb ac nc cc Zc ad nd cd Zd ae ne ce Ze af nf cf Zf xg xh ai ni ci Zi _ hnc hnd hne hnf hni (BoxL.nine (by simp [go_sem]) (by simp [go_sem]) (by simp [go_sem]) (by simp [go_sem]) (by simp [go_sem]) (by simp [go_sem]) (by simp [go_sem]) (by simp [go_sem]) (by simp [go_sem])) (hc.below (by repeat first | (with_reducible exact Below.refl _ _) | (with_reducible refine Below.setCell ?_ (by first | exact Nat.le_refl _ | (simp; done) | (simp; omega) | omega) _) | (with_reducible refine Below.alloc ?_ (by first | exact Nat.le_refl _ | (simp; done) | (simp; omega) | omega) _) | (with_reducible refine below_drewN ?_ _) | (with_reducible refine Below.drew ?_)) (Nat.le_refl _)) (hd.below (by repeat first | (with_reducible exact Below.refl _ _) | (with_reducible refine Below.setCell ?_ (by first | exact Nat.le_refl _ | (simp; done) | (simp; omega) | omega) _) | (with_reducible refine Below.alloc ?_ (by first | exact Nat.le_refl _ | (simp; done) | (simp; omega) | omega) _) | (with_reducible refine below_drewN ?_ _) | (with_reducible refine Below.drew ?_)) (Nat.le_refl _)) (he.below (by repeat first | (with_reducible exact Below.refl _ _) | (with_reducible refine Below.setCell ?_ (by first | exact Nat.le_refl _ | (simp; done) | (simp; omega) | omega) _) | (with_reducible refine Below.alloc ?_ (by first | exact Nat.le_refl _ | (simp; done) | (simp; omega) | omega) _) | (with_reducible refine below_drewN ?_ _) | (with_reducible refine Below.drew ?_)) (Nat.le_refl _)) (hf.below (by repeat first | (with_reducible exact Below.refl _ _) | (with_reducible refine Below.setCell ?_ (by first | exact Nat.le_refl _ | (simp; done) | (simp; omega) | omega) _) | (with_reducible refine Below.alloc ?_ (by first | exact Nat.le_refl _ | (simp; done) | (simp; omega) | omega) _) | (with_reducible refine below_drewN ?_ _) | (with_reducible refine Below.drew ?_)) (Nat.le_refl _)) (hi.below (by repeat first | (with_reducible exact Below.refl _ _) | (with_reducible refine Below.setCell ?_ (by first | exact Nat.le_refl _ | (simp; done) | (simp; omega) | omega) _) | (with_reducible refine Below.alloc ?_ (by first | exact Nat.le_refl _ | (simp; done) | (simp; omega) | omega) _) | (with_reducible refine below_drewN ?_ _) | (with_reducible refine Below.drew ?_)) (Nat.le_refl _))).mono ?_
  rintro e w1 ⟨rfl, m1, rfl⟩
  go_wp2_with fail
  go_ret
  exact ⟨rfl, (by repeat first | (with_reducible exact Below.refl _ _) | (with_reducible refine Below.setCell ?_ (by first | exact Nat.le_refl _ | (simp; done) | (simp; omega) | omega) _) | (with_reducible refine Below.alloc ?_ (by first | exact Nat.le_refl _ | (simp; done) | (simp; omega) | omega) _) | (with_reducible refine below_drewN ?_ _) | (with_reducible refine Below.drew ?_))⟩
end Go.Proofs.Ytmddhhmgfhljiab
