/- Helper: powers of a square, of the reference, and what program and reference both tell. Conditions: none. -/
import Derived.Test.YtffmjfgechdjjacPowImpl
import Derived.Test.YtffmjfgechdjjacPutOwn
set_option linter.unusedVariables false
set_option linter.unusedSimpArgs false
namespace Go.Proofs.Ytffmjfgechdjjac
open Go.RowKit

/-- The boxes of the reference: of the result, of what is told, of the squares. -/
structure PwRef (W0 : World) (rb rr bb : Nat) (wr : World) : Prop where
  res : Box wr rb 0 0 none 0 0
  ib : ∀ i, wr.frozen? ⟨rb, i, none⟩ = false
  ir : ∀ i, wr.frozen? ⟨rr, i, none⟩ = false
  ia : ∀ i, wr.frozen? ⟨bb, i, none⟩ = false
  bel : Below W0.heap.size W0 wr
  lo : W0.heap.size ≤ rb
  h1 : rb < rr
  h2 : rr < bb
  top : bb < wr.heap.size
theorem PwRef.below {W0 wr w' : World} {rb rr bb : Nat} (h : PwRef W0 rb rr bb wr) (hb : Below wr.heap.size wr w') : PwRef W0 rb rr bb w' := by
  have h1 := h.h1
  have h2 := h.h2
  have h3 := h.top
  exact ⟨h.res.below hb (by omega), fun i => (hb.frozen (p := ⟨rb, i, none⟩) (by show rb < wr.heap.size; omega)).trans (h.ib i), fun i => (hb.frozen (p := ⟨rr, i, none⟩) (by show rr < wr.heap.size; omega)).trans (h.ir i), fun i => (hb.frozen (p := ⟨bb, i, none⟩) h3).trans (h.ia i),
    h.bel.trans (hb.mono h.bel.size), h.lo, h1, h2, Nat.lt_of_lt_of_le h3 hb.size⟩
theorem PwRef.put {W0 wr : World} {rb rr bb q : Nat} (h : PwRef W0 rb rr bb wr) (hq : q = bb ∨ q = rr) (R C : Int) (a : Option Addr) (n c : Nat) :
    PwRef W0 rb rr bb (((wr.setCell ⟨q, 0, none⟩ (.int .i64 R)).setCell ⟨q, 1, none⟩ (.int .i64 C)).setCell ⟨q, 2, none⟩ (.slice a n c)) := by
  have h1 := h.h1
  have h2 := h.h2
  have h3 := h.top
  have h4 := h.lo
  have g := put_grown wr q R C a n c
  exact ⟨h.res.grown g (by omega) (fun p hp => by cases hp; omega), put_ice h.ib q R C a n c, put_ice h.ir q R C a n c, put_ice h.ia q R C a n c, h.bel.grown g h.bel.size (fun p hp => by cases hp; omega), h.lo, h1, h2, Nat.lt_of_lt_of_le h3 g.size⟩
theorem PwMat.newAt {ab rr q c n g o d : Nat} {V : Nat → Option Nat} {wr : World} {Z : Nat → Nat} {R0 C0 : Int} {a0 : Option Addr} {n0 c0 : Nat} (hb : Box wr q R0 C0 a0 n0 c0) (f : FS .f32 wr (some ⟨g, o, none⟩) n d Z) (hv : ∀ i, i < n → vals Z i = V i) (hf : allFin V n = true) (h1 : g ≠ ab) (h2 : g ≠ rr) (h3 : q = ab ∨ q = rr) :
    PwMat ab rr q c n V (((wr.setCell ⟨q, 0, none⟩ (.int .i64 c)).setCell ⟨q, 1, none⟩ (.int .i64 c)).setCell ⟨q, 2, none⟩ (.slice (some ⟨g, o, none⟩) n d)) g o d Z := by
  have g1 := put_grown wr q c c (some ⟨g, o, none⟩) n d
  exact ⟨put_box hb _ _ _ _ _, FS.to f g1.size (fun p hp => by
    obtain ⟨off, e⟩ := hp
    simp only [Option.some.injEq, Addr.mk.injEq] at e
    obtain ⟨rfl, _⟩ := e
    have hne : g ≠ q := by omega
    rw [Below.heap_setCell _ _ _ _ hne, Below.heap_setCell _ _ _ _ hne, Below.heap_setCell _ _ _ _ hne]), hv, hf, h1, h2⟩
theorem l02MulSq (pa pb c n p1 o1 d1 p2 o2 d2 ab rr : Nat) (Z Y : Nat → Nat) (U V : Nat → Option Nat) (w : World) (h1 : 1 ≤ c) (h12 : c ≤ 12) (hn : n = c * c) (hpa : pa < w.heap.size) (hpb : pb < w.heap.size)
    (A : PwMat ab rr pa c n U w p1 o1 d1 Z) (B : PwMat ab rr pb c n V w p2 o2 d2 Y) :
    Calls Try.prog 50 #[.pointer (some ⟨pa, 0, none⟩), .pointer (some ⟨pb, 0, none⟩)] w fun e w' => ∃ g o cap X, e = .returned (.agg #[.int .i64 c, .int .i64 c, .slice (some ⟨g, o, none⟩) n cap]) ∧ FS .f32 w' (some ⟨g, o, none⟩) n cap X ∧ w.heap.size ≤ g ∧ (∀ i, i < n → vals X i = mulW c U V i) ∧ Below w.heap.size w w' := by
  have hh := l02Mul_any pa pb c c c n n n p1 o1 d1 p2 o2 d2 Z Y w h1 h12 h1 h12 h1 h12 hn hn hn hpa hpb A.box B.box ((allFin_congr A.val).trans A.fin) ((allFin_congr B.val).trans B.fin) A.fs B.fs
  refine hh.mono fun e w' q => ?_
  obtain ⟨a, cap, X, e1, f, hl, v, b⟩ := q
  obtain ⟨g, o, rfl, _⟩ := f.at (show 0 < n by rw [hn]; exact Nat.mul_pos h1 h1)
  exact ⟨g, o, cap, X, e1, f, hl g o rfl, fun i hi => (v i hi).trans (mulW_congr hn A.val B.val hi), b⟩
set_option maxRecDepth 20000 in
set_option maxHeartbeats 8000000 in
theorem specPow_yes (c n b off cap p0 : Nat) (Z : Nat → Nat) (w : World) (OK : Bool) (VV : Nat → Option Nat) (h1 : 1 ≤ c) (h12 : c ≤ 12) (hn : n = c * c) (hsq : squareB c c n (vals Z) = true) (hfin : allFin (vals Z) n = true) (hp : p0 ≤ 64)
    (ht : pwF c n 7 p0 (unitV c) (vals Z) = (OK, VV)) (h : FS .f32 w (some ⟨b, off, none⟩) n cap Z) :
    Calls Try.prog 18 #[.agg #[.int .i64 c, .int .i64 c, .slice (some ⟨b, off, none⟩) n cap], .int .i64 p0] w (BelIf OK c c n VV w) := by
  have hN := Lib.hid hn
  have hn144 : n ≤ 144 := by have := sides_le h12 h12; omega
  have hpos : 0 < n := by rw [hn]; exact Nat.mul_pos h1 h1
  have HSQ := Lib.hid hsq
  have HFIN := Lib.hid hfin
  have HT := Lib.hid ht
  have hin : ∀ W, Calls Try.prog 42 #[.int .i64 (p0 : Int), .int .i64 0, .int .i64 64] W fun e w' => e = .returned (.bool true) ∧ W = w' := fun W => by
    have hh := l00In_any (p0 : Int) 0 64 W
    have e : inB (p0 : Int) 0 64 = true := by unfold inB; rw [decide_eq_true (by omega), decide_eq_true (by omega)]; rfl
    rw [e] at hh; exact hh
  clear hn hsq hfin ht
  go_enter Try.func18, Try.ntmps18
  go_wp2_with fail
  generalize hwa : w.alloc (.cells #[.int .i64 c, .int .i64 c, .slice (some ⟨b, off, none⟩) n cap] 26) = wa
  have Ba : Below w.heap.size w wa := by rw [← hwa]; exact (by repeat first | (with_reducible exact Below.refl _ _) | (with_reducible refine Below.setCell ?_ (by first | exact Nat.le_refl _ | (simp; done) | (simp; omega) | omega) _) | (with_reducible refine Below.alloc ?_ (by first | exact Nat.le_refl _ | (simp; done) | (simp; omega) | omega) _) | (with_reducible refine below_drewN ?_ _) | (with_reducible refine Below.drew ?_))
  have sa : wa.heap.size = w.heap.size + 1 := by rw [← hwa]; simp
  have Xa : Box wa w.heap.size c c (some ⟨b, off, none⟩) n cap := by rw [← hwa]; exact Box.new _ _ _ _ _ _ _
  have Fa := h.below Ba (Nat.le_refl _)
  rw [← sa]
  clear hwa h
  have la : w.heap.size < wa.heap.size := by omega
  go_at_call 47
  refine (specSquare_any _ c c _ n cap Z _ (by omega) (Xa.below (by repeat first | (with_reducible exact Below.refl _ _) | (with_reducible refine Below.setCell ?_ (by first | exact Nat.le_refl _ | (simp; done) | (simp; omega) | omega) _) | (with_reducible refine Below.alloc ?_ (by first | exact Nat.le_refl _ | (simp; done) | (simp; omega) | omega) _) | (with_reducible refine below_drewN ?_ _) | (with_reducible refine Below.drew ?_)) la) (Fa.below (by repeat first | (with_reducible exact Below.refl _ _) | (with_reducible refine Below.setCell ?_ (by first | exact Nat.le_refl _ | (simp; done) | (simp; omega) | omega) _) | (with_reducible refine Below.alloc ?_ (by first | exact Nat.le_refl _ | (simp; done) | (simp; omega) | omega) _) | (with_reducible refine below_drewN ?_ _) | (with_reducible refine Below.drew ?_)) (Nat.le_refl _))).mono ?_
  rintro e w2 ⟨rfl, m1, rfl⟩
  rw [HSQ.out]
  go_wp2_with fail
  go_at_call 42
  refine (hin _).mono ?_
  rintro e w2 ⟨rfl, rfl⟩
  generalize hw2 : (wa.alloc (.cells #[.int .i64 0, .int .i64 0, .slice none 0 0] 26)).drewN m1 = w2
  have B02 : Below wa.heap.size wa w2 := by rw [← hw2]; exact (by repeat first | (with_reducible exact Below.refl _ _) | (with_reducible refine Below.setCell ?_ (by first | exact Nat.le_refl _ | (simp; done) | (simp; omega) | omega) _) | (with_reducible refine Below.alloc ?_ (by first | exact Nat.le_refl _ | (simp; done) | (simp; omega) | omega) _) | (with_reducible refine below_drewN ?_ _) | (with_reducible refine Below.drew ?_))
  have s2 : wa.heap.size + 1 ≤ w2.heap.size := by rw [← hw2]; simp [World.drewN]
  have XR2 : Box w2 wa.heap.size 0 0 none 0 0 := by rw [← hw2]; exact Box.drewN (Box.new _ _ _ _ _ _ _)
  have IR2 : ∀ i, w2.frozen? ⟨wa.heap.size, i, none⟩ = false := fun i => by rw [← hw2]; simp [go_sem]
  obtain ⟨x0, x1, x2⟩ := Xa.below B02 la
  clear hw2 hin
  go_wp2_with fail
  go_at_call 48
  refine (l02Unit_any c n _ h1 h12 hN.out).mono ?_
  rintro e w3 ⟨g, rfl, oY, b3⟩
  have s3 := b3.size
  have B03 := B02.trans (b3.mono B02.size)
  obtain ⟨_, _, e, hbw, _, _⟩ := Fa.at hpos
  simp only [Option.some.injEq, Addr.mk.injEq, and_true] at e
  obtain ⟨rfl, rfl⟩ := e
  have hbw' : b < wa.heap.size := hbw
  obtain ⟨ga, e, hg1, hg2, hg3⟩ := oY.place hpos
  simp only [Option.some.injEq, Addr.mk.injEq, and_true] at e
  subst e
  have b4 : Below w3.heap.size w3 (w3.alloc (.cells #[.int .i64 c, .int .i64 c, .slice (some ⟨g, 0, none⟩) n n] 26)) := (by repeat first | (with_reducible exact Below.refl _ _) | (with_reducible refine Below.setCell ?_ (by first | exact Nat.le_refl _ | (simp; done) | (simp; omega) | omega) _) | (with_reducible refine Below.alloc ?_ (by first | exact Nat.le_refl _ | (simp; done) | (simp; omega) | omega) _) | (with_reducible refine below_drewN ?_ _) | (with_reducible refine Below.drew ?_))
  obtain ⟨w4, hw4⟩ : ∃ w4, w4 = (w3.alloc (.cells #[.int .i64 c, .int .i64 c, .slice (some ⟨g, 0, none⟩) n n] 26)) := ⟨_, rfl⟩
  have s4 : w4.heap.size = w3.heap.size + 1 := by rw [hw4]; simp
  have XRR : Box w4 w3.heap.size c c (some ⟨g, 0, none⟩) n n := by rw [hw4]; exact Box.new _ _ _ _ _ _ _
  have IRR : ∀ i, w4.frozen? ⟨w3.heap.size, i, none⟩ = false := fun i => by rw [hw4]; simp [go_sem]
  rw [← hw4] at b4
  have fU := oY.fs.below b4 (Nat.le_refl _)
  have B04 := B03.trans (b4.mono B03.size)
  have XB4 : Box w4 (w.heap.size + 1) 0 0 none 0 0 := by rw [← sa]; exact (XR2.below b3 (by omega)).below b4 (by omega)
  have IB4 : ∀ i, w4.frozen? ⟨w.heap.size + 1, i, none⟩ = false := fun i => by rw [← sa]; exact (b4.frozen (p := ⟨wa.heap.size, i, none⟩) (by show wa.heap.size < w3.heap.size; omega)).trans ((b3.frozen (p := ⟨wa.heap.size, i, none⟩) (by show wa.heap.size < w2.heap.size; omega)).trans (IR2 i))
  have hown := l02Own_any w.heap.size b off n cap c c Z w4 hpos hn144 (by have := B04.size; omega) (Xa.below B04 la) (Fa.below B04 (Nat.le_refl _))
  clear oY b3 b4 XR2 IR2 x0 x1 x2 B02 B03
  go_wp2_with fail
  go_at_call 49
  rw [← hw4]
  refine hown.mono ?_
  rintro e w5 ⟨gB, dB, rfl, oB, b5⟩
  obtain ⟨_, e, hb1, hb2, hb3⟩ := oB.place hpos
  simp only [Option.some.injEq, Addr.mk.injEq, and_true] at e
  subst e
  have s5 := b5.size
  have b6 : Below w5.heap.size w5 (w5.alloc (.cells #[.int .i64 c, .int .i64 c, .slice (some ⟨gB, 0, none⟩) n dB] 26)) := (by repeat first | (with_reducible exact Below.refl _ _) | (with_reducible refine Below.setCell ?_ (by first | exact Nat.le_refl _ | (simp; done) | (simp; omega) | omega) _) | (with_reducible refine Below.alloc ?_ (by first | exact Nat.le_refl _ | (simp; done) | (simp; omega) | omega) _) | (with_reducible refine below_drewN ?_ _) | (with_reducible refine Below.drew ?_))
  have FR : PwRef w (w.heap.size + 1) w3.heap.size w5.heap.size (w5.alloc (.cells #[.int .i64 c, .int .i64 c, .slice (some ⟨gB, 0, none⟩) n dB] 26)) :=
    ⟨(XB4.below b5 (by omega)).below b6 (by omega), fun i => (b6.frozen (p := ⟨w.heap.size + 1, i, none⟩) (by show w.heap.size + 1 < w5.heap.size; omega)).trans ((b5.frozen (p := ⟨w.heap.size + 1, i, none⟩) (by show w.heap.size + 1 < w4.heap.size; omega)).trans (IB4 i)),
      fun i => (b6.frozen (p := ⟨w3.heap.size, i, none⟩) (by show w3.heap.size < w5.heap.size; omega)).trans ((b5.frozen (p := ⟨w3.heap.size, i, none⟩) (by show w3.heap.size < w4.heap.size; omega)).trans (IRR i)), fun i => by simp [go_sem],
      Ba.trans (((B04.trans (b5.mono B04.size)).trans (b6.mono (by have := B04.size; omega))).mono Ba.size), by omega, by omega, by omega, by simp⟩
  have MR : PwMat w5.heap.size w3.heap.size w3.heap.size c n (unitV c) (w5.alloc (.cells #[.int .i64 c, .int .i64 c, .slice (some ⟨gB, 0, none⟩) n dB] 26)) g 0 n (unitZ c c) :=
    ⟨(XRR.below b5 (by omega)).below b6 (by omega), (fU.below b5 (Nat.le_refl _)).below b6 (Nat.le_refl _), fun i _ => rfl, unit_fin c n, by omega, by omega⟩
  have MA : PwMat w5.heap.size w3.heap.size w5.heap.size c n (vals Z) (w5.alloc (.cells #[.int .i64 c, .int .i64 c, .slice (some ⟨gB, 0, none⟩) n dB] 26)) gB 0 dB Z :=
    ⟨Box.new _ _ _ _ _ _ _, oB.fs.below b6 (Nat.le_refl _), fun i _ => rfl, HFIN.out, by omega, by omega⟩
  clear oB b5 b6 fU XRR IRR XB4 IB4 hown B04 hw4
  go_wp2
  generalize w5.alloc (.cells #[.int .i64 c, .int .i64 c, .slice (some ⟨gB, 0, none⟩) n dB] 26) = wz at FR MR MA ⊢
  go_loopw [1] (fun x wr => ∃ (f p : Nat) (VR VA : Nat → Option Nat) (gR oR dR : Nat) (ZR : Nat → Nat) (gA oA dA : Nat) (ZA : Nat → Nat), x = .int .i64 p ∧ p ≤ 64 ∧ p < 2 ^ f ∧ pwF c n f p VR VA = (OK, VV) ∧ w.heap.size + 1 < gR ∧ PwRef w (w.heap.size + 1) w3.heap.size w5.heap.size wr ∧ PwMat w5.heap.size w3.heap.size w3.heap.size c n VR wr gR oR dR ZR ∧ PwMat w5.heap.size w3.heap.size w5.heap.size c n VA wr gA oA dA ZA) (fun x _ => (intOf x).toNat)
  case atStart => exact ⟨7, p0, unitV c, vals Z, g, 0, n, unitZ c c, gB, 0, dB, Z, rfl, hp, by omega, HT.out, by omega, FR, MR, MA⟩
  case round =>
    clear FR MR MA
    obtain ⟨f, p, VR, VA, gR, oR, dR, ZR, gA, oA, dA, ZA, rfl, hp64, hpf, hpw, hgR, FR, MR, MA⟩ := hrel
    have hrbl := FR.lo
    have hr1 := FR.h1
    have hr2 := FR.h2
    have htop := FR.top
    by_cases hp0 : p = 0
    · subst hp0
      rw [pw_zero] at hpw
      obtain ⟨rfl, rfl⟩ := Prod.mk.inj hpw
      obtain ⟨y0, y1, y2⟩ := MR.box
      obtain ⟨z0, z1, z2⟩ := FR.res
      have hice := FR.ib
      have B2 := FR.bel
      have hv := MR.val
      have F2 := MR.fs
      have hd : decide ((0 : Int) < ((0 : Nat) : Int)) = false := by decide
      have hne : gR ≠ w.heap.size + 1 := by omega
      clear MR MA FR
      go_wp2_with fail
      refine bodyPost_ret (v := .tuple #[.agg #[.int .i64 c, .int .i64 c, .slice (some ⟨gR, oR, none⟩) n dR], .bool true]) (by simp [results, Try.results18, go_sem, y0, y1, y2, z0, z1, z2]) rfl ?_
      exact BelIf.yes rfl ⟨_, _, ZR, rfl, FS.to F2 (by simp [World.setCell]) (fun q hq => by
        obtain ⟨off, e⟩ := hq
        simp only [Option.some.injEq, Addr.mk.injEq] at e
        obtain ⟨rfl, _⟩ := e
        rw [Below.heap_setCell _ _ _ _ hne, Below.heap_setCell _ _ _ _ hne, Below.heap_setCell _ _ _ _ hne]), hv, (by repeat first | (with_reducible exact B2) | (with_reducible refine Below.setCell ?_ (by first | exact Nat.le_refl _ | (simp; done) | (simp; omega) | omega) _) | (with_reducible refine Below.alloc ?_ (by first | exact Nat.le_refl _ | (simp; done) | (simp; omega) | omega) _) | (with_reducible refine below_drewN ?_ _) | (with_reducible refine Below.drew ?_))⟩
    · obtain ⟨f', rfl⟩ : ∃ f', f = f' + 1 := by
        cases f with
        | zero => simp at hpf; omega
        | succ f' => exact ⟨f', rfl⟩
      obtain ⟨q, hq⟩ : ∃ q, q = p / 2 := ⟨_, rfl⟩
      have HQ := Lib.hid hq
      have hq64 : q ≤ 64 := by omega
      have hqf : q < 2 ^ f' := by rw [Nat.pow_succ] at hpf; omega
      have hqp : q < p := by omega
      have hd : decide ((0 : Int) < (p : Int)) = true := decide_eq_true (by omega)
      have hd0 : (0 < p) = True := eq_true (by omega)
      have hq2 : Int.tdiv (p : Int) 2 = (q : Int) := by rw [Int.tdiv_eq_ediv_of_nonneg (by omega)]; omega
      have hq3 : IntKind.i64.wrap (q : Int) = (q : Int) := IntWalk.i64_in _ (by omega)
      by_cases hodd : p % 2 = 1
      · have hm : Int.tmod (p : Int) 2 = 1 := by rw [Int.tmod_eq_emod_of_nonneg (by omega)]; omega
        have hmul := l02MulSq w3.heap.size w5.heap.size c n gR oR dR gA oA dA _ _ ZR ZA VR VA _ h1 h12 hN.out (by omega) htop MR MA
        have HPW := Lib.hid hpw
        have HODD := Lib.hid hodd
        clear hodd hq hpw
        go_wp2_with fail
        go_at_call 50
        refine hmul.mono ?_
        rintro e w6 ⟨g6, o6, d6, X6, rfl, f6, hg6, v6, b6⟩
        have s6 := b6.size
        have FR6 := FR.below b6
        obtain ⟨t0, t1, t2⟩ := MR.box.below b6 (by omega)
        have hi6 := FR6.ir
        have FR7 := FR6.put (.inr rfl) c c (some ⟨g6, o6, none⟩) n d6
        have MA7 := (MA.below b6 htop).put (by omega) (by omega) (.inr rfl) c c (some ⟨g6, o6, none⟩) n d6
        have BX7 := put_box (MR.box.below b6 (by omega)) c c (some ⟨g6, o6, none⟩) n d6
        have F7 : FS .f32 (((w6.setCell ⟨w3.heap.size, 0, none⟩ (.int .i64 c)).setCell ⟨w3.heap.size, 1, none⟩ (.int .i64 c)).setCell ⟨w3.heap.size, 2, none⟩ (.slice (some ⟨g6, o6, none⟩) n d6)) (some ⟨g6, o6, none⟩) n d6 X6 := FS.to f6 (by simp [World.setCell]) (fun q hq => by
          obtain ⟨off, e⟩ := hq
          simp only [Option.some.injEq, Addr.mk.injEq] at e
          obtain ⟨rfl, _⟩ := e
          have hne : g6 ≠ w3.heap.size := by omega
          rw [Below.heap_setCell _ _ _ _ hne, Below.heap_setCell _ _ _ _ hne, Below.heap_setCell _ _ _ _ hne])
        obtain ⟨w7, hw7⟩ : ∃ w7, w7 = (((w6.setCell ⟨w3.heap.size, 0, none⟩ (.int .i64 c)).setCell ⟨w3.heap.size, 1, none⟩ (.int .i64 c)).setCell ⟨w3.heap.size, 2, none⟩ (.slice (some ⟨g6, o6, none⟩) n d6)) := ⟨_, rfl⟩
        rw [← hw7] at FR7 MA7 BX7 F7
        have his := specIs_any w3.heap.size c c _ n d6 X6 w7 (by omega) BX7 F7
        have hvB : validB c c n (vals X6) = allFin (mulW c VR VA) n := (validB_nat h1 h12 h1 h12 hN.out).trans (allFin_congr v6)
        rw [hvB] at his
        clear hmul b6 FR FR6 MR MA f6 hvB
        go_wp2_with fail
        go_at_call 30
        rw [← hw7]
        cases hf : allFin (mulW c VR VA) n with
        | false =>
          have HO : Hid (OK = false) := Lib.hid (by have hpw := HPW.out; rw [pw_odd_no HODD.out hf] at hpw; exact (Prod.mk.inj hpw).1.symm)
          rw [hf] at his
          clear hf t0 t1 t2 hi6 hw7
          refine his.mono ?_
          rintro e w8 ⟨rfl, m8, rfl⟩
          obtain ⟨z0, z1, z2⟩ := FR7.res
          have hice := FR7.ib
          have B2 := FR7.bel
          clear FR7 MA7 BX7 F7 his
          go_wp2_with fail
          refine bodyPost_ret (v := .tuple #[.agg #[.int .i64 0, .int .i64 0, .slice none 0 0], .bool false]) (by simp [results, Try.results18, go_sem, z0, z1, z2]) rfl ?_
          exact BelIf.no HO.out ⟨none, 0, fun _ => 0, rfl, ⟨Nat.le_refl _, Nat.zero_le _, fun i hi => absurd hi (Nat.not_lt_zero _)⟩, fun i hi => absurd hi (Nat.not_lt_zero _), (by repeat first | (with_reducible exact B2) | (with_reducible refine Below.setCell ?_ (by first | exact Nat.le_refl _ | (simp; done) | (simp; omega) | omega) _) | (with_reducible refine Below.alloc ?_ (by first | exact Nat.le_refl _ | (simp; done) | (simp; omega) | omega) _) | (with_reducible refine below_drewN ?_ _) | (with_reducible refine Below.drew ?_))⟩
        | true =>
          have HF := Lib.hid hf
          have MR7 : PwMat w5.heap.size w3.heap.size w3.heap.size c n (mulW c VR VA) w7 g6 o6 d6 X6 := ⟨BX7, F7, v6, hf, by omega, by omega⟩
          rw [hf] at his
          clear hf t0 t1 t2 hi6 hw7 BX7 F7
          refine his.mono ?_
          rintro e w8 ⟨rfl, m8, rfl⟩
          have b8 : Below w7.heap.size w7 (w7.drewN m8) := below_drewN (Below.refl _ _) _
          have ht7 := FR7.top
          have FRw := FR7.below b8
          have MRw := MR7.below b8 (by omega)
          have MAw := MA7.below b8 (by omega)
          clear FR7 MR7 MA7 b8 his
          by_cases hq0 : q = 0
          · have HP : Hid (pwF c n f' q (mulW c VR VA) VA = (OK, VV)) := Lib.hid (by have hpw := HPW.out; rw [pw_odd_end HODD.out HF.out (by have := HQ.out; omega)] at hpw; rw [hq0, pw_zero]; exact hpw)
            subst hq0
            have hdq : decide ((0 : Int) < ((0 : Nat) : Int)) = false := by decide
            have FR8 := Lib.hid FRw
            have MR8 := Lib.hid MRw
            have MA8 := Lib.hid MAw
            clear FRw MRw MAw
            go_wp2_with fail
            go_roundw
            case rel => exact ⟨f', 0, _, _, _, _, _, _, _, _, _, _, by first | rfl | go_num, by omega, hqf, HP.out, by omega, FR8.out, MR8.out, MA8.out⟩
            case measure => simp [intOf]; omega
          · have hq0' : ¬ p / 2 = 0 := by have := HQ.out; omega
            have hdq : decide ((0 : Int) < (q : Int)) = true := decide_eq_true (by omega)
            have hdq0 : (0 < q) = True := eq_true (by omega)
            have hmul2 := l02MulSq w5.heap.size w5.heap.size c n gA oA dA gA oA dA _ _ ZA ZA VA VA _ h1 h12 hN.out FRw.top FRw.top MAw MAw
            have hbad : Hid (allFin (mulW c VA VA) n = false → OK = false) := Lib.hid (fun hf2 => by have hpw := HPW.out; rw [pw_odd_bad HODD.out HF.out hq0' hf2] at hpw; exact (Prod.mk.inj hpw).1.symm)
            have hgood : Hid (allFin (mulW c VA VA) n = true → pwF c n f' q (mulW c VR VA) (mulW c VA VA) = (OK, VV)) := Lib.hid (fun hf2 => by have hpw := HPW.out; rw [pw_odd HODD.out HF.out hq0' hf2] at hpw; rw [HQ.out]; exact hpw)
            clear hq0'
            go_wp2_with fail
            go_at_call 50
            refine hmul2.mono ?_
            rintro e w10 ⟨g10, o10, d10, X10, rfl, f10, hg10, v10, b10⟩
            have s10 := b10.size
            have htopw := FRw.top
            have FR10 := FRw.below b10
            obtain ⟨t0, t1, t2⟩ := MAw.box.below b10 htopw
            have hi10 := FR10.ia
            have FR11 := FR10.put (.inl rfl) c c (some ⟨g10, o10, none⟩) n d10
            have MR11 := (MRw.below b10 (by omega)).put (by omega) (by omega) (.inl rfl) c c (some ⟨g10, o10, none⟩) n d10
            have BX11 := put_box (MAw.box.below b10 htopw) c c (some ⟨g10, o10, none⟩) n d10
            have F11 : FS .f32 (((w10.setCell ⟨w5.heap.size, 0, none⟩ (.int .i64 c)).setCell ⟨w5.heap.size, 1, none⟩ (.int .i64 c)).setCell ⟨w5.heap.size, 2, none⟩ (.slice (some ⟨g10, o10, none⟩) n d10)) (some ⟨g10, o10, none⟩) n d10 X10 := FS.to f10 (by simp [World.setCell]) (fun q hq => by
              obtain ⟨off, e⟩ := hq
              simp only [Option.some.injEq, Addr.mk.injEq] at e
              obtain ⟨rfl, _⟩ := e
              have hne : g10 ≠ w5.heap.size := by omega
              rw [Below.heap_setCell _ _ _ _ hne, Below.heap_setCell _ _ _ _ hne, Below.heap_setCell _ _ _ _ hne])
            obtain ⟨w11, hw11⟩ : ∃ w11, w11 = (((w10.setCell ⟨w5.heap.size, 0, none⟩ (.int .i64 c)).setCell ⟨w5.heap.size, 1, none⟩ (.int .i64 c)).setCell ⟨w5.heap.size, 2, none⟩ (.slice (some ⟨g10, o10, none⟩) n d10)) := ⟨_, rfl⟩
            rw [← hw11] at FR11 MR11 BX11 F11
            have his2 := specIs_any w5.heap.size c c _ n d10 X10 w11 (by omega) BX11 F11
            have hvB2 : validB c c n (vals X10) = allFin (mulW c VA VA) n := (validB_nat h1 h12 h1 h12 hN.out).trans (allFin_congr v10)
            rw [hvB2] at his2
            clear hmul2 b10 FRw FR10 MRw MAw f10 hvB2
            go_wp2_with fail
            go_at_call 30
            rw [← hw11]
            cases hf2 : allFin (mulW c VA VA) n with
            | false =>
              have HO := Lib.hid (hbad.out hf2)
              rw [hf2] at his2
              clear hf2 t0 t1 t2 hi10 hw11
              refine his2.mono ?_
              rintro e w12 ⟨rfl, m12, rfl⟩
              obtain ⟨z0, z1, z2⟩ := FR11.res
              have hice := FR11.ib
              have B2 := FR11.bel
              clear FR11 MR11 BX11 F11 his2
              go_wp2_with fail
              refine bodyPost_ret (v := .tuple #[.agg #[.int .i64 0, .int .i64 0, .slice none 0 0], .bool false]) (by simp [results, Try.results18, go_sem, z0, z1, z2]) rfl ?_
              exact BelIf.no HO.out ⟨none, 0, fun _ => 0, rfl, ⟨Nat.le_refl _, Nat.zero_le _, fun i hi => absurd hi (Nat.not_lt_zero _)⟩, fun i hi => absurd hi (Nat.not_lt_zero _), (by repeat first | (with_reducible exact B2) | (with_reducible refine Below.setCell ?_ (by first | exact Nat.le_refl _ | (simp; done) | (simp; omega) | omega) _) | (with_reducible refine Below.alloc ?_ (by first | exact Nat.le_refl _ | (simp; done) | (simp; omega) | omega) _) | (with_reducible refine below_drewN ?_ _) | (with_reducible refine Below.drew ?_))⟩
            | true =>
              have HP := Lib.hid (hgood.out hf2)
              have MA11 : PwMat w5.heap.size w3.heap.size w5.heap.size c n (mulW c VA VA) w11 g10 o10 d10 X10 := ⟨BX11, F11, v10, hf2, by omega, by omega⟩
              rw [hf2] at his2
              clear hf2 t0 t1 t2 hi10 hw11 BX11 F11
              refine his2.mono ?_
              rintro e w12 ⟨rfl, m12, rfl⟩
              have b12 : Below w11.heap.size w11 (w11.drewN m12) := below_drewN (Below.refl _ _) _
              have ht11 := FR11.top
              have FR12 := Lib.hid (FR11.below b12)
              have MR12 := Lib.hid (MR11.below b12 (by omega))
              have MA12 := Lib.hid (MA11.below b12 (by omega))
              clear FR11 MR11 MA11 b12 his2
              go_wp2_with fail
              go_roundw
              case rel => exact ⟨f', q, _, _, _, _, _, _, _, _, _, _, by first | rfl | go_num, hq64, hqf, HP.out, by omega, FR12.out, MR12.out, MA12.out⟩
              case measure => simp [intOf]; omega
      · have hm : Int.tmod (p : Int) 2 = 0 := by rw [Int.tmod_eq_emod_of_nonneg (by omega)]; omega
        have hdq : decide ((0 : Int) < (q : Int)) = true := decide_eq_true (by omega)
        have hdq0 : (0 < q) = True := eq_true (by omega)
        have HPW := Lib.hid hpw
        have FRw := FR
        have MRw := MR
        have MAw := MA
        clear FR MR MA
        have hmul2 := l02MulSq w5.heap.size w5.heap.size c n gA oA dA gA oA dA _ _ ZA ZA VA VA _ h1 h12 hN.out FRw.top FRw.top MAw MAw
        have hbad : Hid (allFin (mulW c VA VA) n = false → OK = false) := Lib.hid (fun hf2 => by have hpw := HPW.out; rw [pw_even_bad hodd hp0 hf2] at hpw; exact (Prod.mk.inj hpw).1.symm)
        have hgood : Hid (allFin (mulW c VA VA) n = true → pwF c n f' q VR (mulW c VA VA) = (OK, VV)) := Lib.hid (fun hf2 => by have hpw := HPW.out; rw [pw_even hodd hp0 hf2] at hpw; rw [HQ.out]; exact hpw)
        clear hodd hq hpw
        go_wp2_with fail
        go_at_call 50
        refine hmul2.mono ?_
        rintro e w10 ⟨g10, o10, d10, X10, rfl, f10, hg10, v10, b10⟩
        have s10 := b10.size
        have htopw := FRw.top
        have FR10 := FRw.below b10
        obtain ⟨t0, t1, t2⟩ := MAw.box.below b10 htopw
        have hi10 := FR10.ia
        have FR11 := FR10.put (.inl rfl) c c (some ⟨g10, o10, none⟩) n d10
        have MR11 := (MRw.below b10 (by omega)).put (by omega) (by omega) (.inl rfl) c c (some ⟨g10, o10, none⟩) n d10
        have BX11 := put_box (MAw.box.below b10 htopw) c c (some ⟨g10, o10, none⟩) n d10
        have F11 : FS .f32 (((w10.setCell ⟨w5.heap.size, 0, none⟩ (.int .i64 c)).setCell ⟨w5.heap.size, 1, none⟩ (.int .i64 c)).setCell ⟨w5.heap.size, 2, none⟩ (.slice (some ⟨g10, o10, none⟩) n d10)) (some ⟨g10, o10, none⟩) n d10 X10 := FS.to f10 (by simp [World.setCell]) (fun q hq => by
          obtain ⟨off, e⟩ := hq
          simp only [Option.some.injEq, Addr.mk.injEq] at e
          obtain ⟨rfl, _⟩ := e
          have hne : g10 ≠ w5.heap.size := by omega
          rw [Below.heap_setCell _ _ _ _ hne, Below.heap_setCell _ _ _ _ hne, Below.heap_setCell _ _ _ _ hne])
        obtain ⟨w11, hw11⟩ : ∃ w11, w11 = (((w10.setCell ⟨w5.heap.size, 0, none⟩ (.int .i64 c)).setCell ⟨w5.heap.size, 1, none⟩ (.int .i64 c)).setCell ⟨w5.heap.size, 2, none⟩ (.slice (some ⟨g10, o10, none⟩) n d10)) := ⟨_, rfl⟩
        rw [← hw11] at FR11 MR11 BX11 F11
        have his2 := specIs_any w5.heap.size c c _ n d10 X10 w11 (by omega) BX11 F11
        have hvB2 : validB c c n (vals X10) = allFin (mulW c VA VA) n := (validB_nat h1 h12 h1 h12 hN.out).trans (allFin_congr v10)
        rw [hvB2] at his2
        clear hmul2 b10 FRw FR10 MRw MAw f10 hvB2
        go_wp2_with fail
        go_at_call 30
        rw [← hw11]
        cases hf2 : allFin (mulW c VA VA) n with
        | false =>
          have HO := Lib.hid (hbad.out hf2)
          rw [hf2] at his2
          clear hf2 t0 t1 t2 hi10 hw11
          refine his2.mono ?_
          rintro e w12 ⟨rfl, m12, rfl⟩
          obtain ⟨z0, z1, z2⟩ := FR11.res
          have hice := FR11.ib
          have B2 := FR11.bel
          clear FR11 MR11 BX11 F11 his2
          go_wp2_with fail
          refine bodyPost_ret (v := .tuple #[.agg #[.int .i64 0, .int .i64 0, .slice none 0 0], .bool false]) (by simp [results, Try.results18, go_sem, z0, z1, z2]) rfl ?_
          exact BelIf.no HO.out ⟨none, 0, fun _ => 0, rfl, ⟨Nat.le_refl _, Nat.zero_le _, fun i hi => absurd hi (Nat.not_lt_zero _)⟩, fun i hi => absurd hi (Nat.not_lt_zero _), (by repeat first | (with_reducible exact B2) | (with_reducible refine Below.setCell ?_ (by first | exact Nat.le_refl _ | (simp; done) | (simp; omega) | omega) _) | (with_reducible refine Below.alloc ?_ (by first | exact Nat.le_refl _ | (simp; done) | (simp; omega) | omega) _) | (with_reducible refine below_drewN ?_ _) | (with_reducible refine Below.drew ?_))⟩
        | true =>
          have HP := Lib.hid (hgood.out hf2)
          have MA11 : PwMat w5.heap.size w3.heap.size w5.heap.size c n (mulW c VA VA) w11 g10 o10 d10 X10 := ⟨BX11, F11, v10, hf2, by omega, by omega⟩
          rw [hf2] at his2
          clear hf2 t0 t1 t2 hi10 hw11 BX11 F11
          refine his2.mono ?_
          rintro e w12 ⟨rfl, m12, rfl⟩
          have b12 : Below w11.heap.size w11 (w11.drewN m12) := below_drewN (Below.refl _ _) _
          have ht11 := FR11.top
          have FR12 := Lib.hid (FR11.below b12)
          have MR12 := Lib.hid (MR11.below b12 (by omega))
          have MA12 := Lib.hid (MA11.below b12 (by omega))
          clear FR11 MR11 MA11 b12 his2
          go_wp2_with fail
          go_roundw
          case rel => exact ⟨f', q, _, _, _, _, _, _, _, _, _, _, by first | rfl | go_num, hq64, hqf, HP.out, by omega, FR12.out, MR12.out, MA12.out⟩
          case measure => simp [intOf]; omega
/-- Which powers are told. -/
def pkOk (R C : Int) (n : Nat) (V : Nat → Option Nat) (x : Int) : Bool := squareB R C n V && (decide (0 ≤ x) && decide (x ≤ 64))
theorem implPow_no (R C : Int) (a : Option Addr) (n c : Nat) (Z : Nat → Nat) (x : Int) (w : World) (hn : n ≤ 1048576) (h : FS .f32 w a n c Z) (ho : pkOk R C n (vals Z) x = false) :
    Calls Try.prog 19 #[.agg #[.int .i64 R, .int .i64 C, .slice a n c], .int .i64 x] w (MatOwn false 0 0 0 (fun _ => none) w) := by
  cases hs : squareB R C n (vals Z) with
  | false =>
    have HSQ := Lib.hid hs
    clear ho hs
    go_enter Try.func19, Try.ntmps19
    go_wp2_with fail
    go_at_call 51
    refine (implSquare_any R C a n c Z _ hn (h.below (by repeat first | (with_reducible exact Below.refl _ _) | (with_reducible refine Below.setCell ?_ (by first | exact Nat.le_refl _ | (simp; done) | (simp; omega) | omega) _) | (with_reducible refine Below.alloc ?_ (by first | exact Nat.le_refl _ | (simp; done) | (simp; omega) | omega) _) | (with_reducible refine below_drewN ?_ _) | (with_reducible refine Below.drew ?_)) (Nat.le_refl _))).mono ?_
    rintro e w1 ⟨rfl, b1⟩
    rw [HSQ.out]
    have B1 : Below w.heap.size w w1 := Below.trans (by repeat first | (with_reducible exact Below.refl _ _) | (with_reducible refine Below.setCell ?_ (by first | exact Nat.le_refl _ | (simp; done) | (simp; omega) | omega) _) | (with_reducible refine Below.alloc ?_ (by first | exact Nat.le_refl _ | (simp; done) | (simp; omega) | omega) _) | (with_reducible refine below_drewN ?_ _) | (with_reducible refine Below.drew ?_)) (b1.mono (by simp; omega))
    have s1 : w.heap.size + 1 + 1 ≤ w1.heap.size := by have := b1.size; simp at this; omega
    obtain ⟨hc, hf⟩ := bcell b1
    go_wp2_with fail
    refine bodyPost_ret (v := .tuple #[.agg #[.int .i64 0, .int .i64 0, .slice none 0 0], .bool false]) (by simp [results, Try.results19, go_sem, hc]) rfl ?_
    exact ⟨none, 0, fun _ => 0, rfl, .inl ⟨rfl, rfl, rfl⟩, fun i hi => absurd hi (Nat.not_lt_zero _), (by repeat first | (with_reducible exact B1) | (with_reducible refine Below.setCell ?_ (by first | exact Nat.le_refl _ | (simp; done) | (simp; omega) | omega) _) | (with_reducible refine Below.alloc ?_ (by first | exact Nat.le_refl _ | (simp; done) | (simp; omega) | omega) _) | (with_reducible refine below_drewN ?_ _) | (with_reducible refine Below.drew ?_))⟩
  | true =>
    have HSQ := Lib.hid hs
    have hx : ¬ (0 ≤ x ∧ x ≤ 64) := by
      intro hx
      unfold pkOk at ho
      rw [hs, decide_eq_true hx.1, decide_eq_true hx.2] at ho
      cases ho
    clear ho hs
    by_cases h0 : 0 ≤ x
    · have hd1 : decide (x < 0) = false := decide_eq_false (by omega)
      have hd2 : decide ((64 : Int) < x) = true := decide_eq_true (by omega)
      clear hx h0
      go_enter Try.func19, Try.ntmps19
      go_wp2_with fail
      go_at_call 51
      refine (implSquare_any R C a n c Z _ hn (h.below (by repeat first | (with_reducible exact Below.refl _ _) | (with_reducible refine Below.setCell ?_ (by first | exact Nat.le_refl _ | (simp; done) | (simp; omega) | omega) _) | (with_reducible refine Below.alloc ?_ (by first | exact Nat.le_refl _ | (simp; done) | (simp; omega) | omega) _) | (with_reducible refine below_drewN ?_ _) | (with_reducible refine Below.drew ?_)) (Nat.le_refl _))).mono ?_
      rintro e w1 ⟨rfl, b1⟩
      rw [HSQ.out]
      have B1 : Below w.heap.size w w1 := Below.trans (by repeat first | (with_reducible exact Below.refl _ _) | (with_reducible refine Below.setCell ?_ (by first | exact Nat.le_refl _ | (simp; done) | (simp; omega) | omega) _) | (with_reducible refine Below.alloc ?_ (by first | exact Nat.le_refl _ | (simp; done) | (simp; omega) | omega) _) | (with_reducible refine below_drewN ?_ _) | (with_reducible refine Below.drew ?_)) (b1.mono (by simp; omega))
      have s1 : w.heap.size + 1 + 1 ≤ w1.heap.size := by have := b1.size; simp at this; omega
      obtain ⟨hc, hf⟩ := bcell b1
      go_wp2_with fail
      refine bodyPost_ret (v := .tuple #[.agg #[.int .i64 0, .int .i64 0, .slice none 0 0], .bool false]) (by simp [results, Try.results19, go_sem, hc]) rfl ?_
      exact ⟨none, 0, fun _ => 0, rfl, .inl ⟨rfl, rfl, rfl⟩, fun i hi => absurd hi (Nat.not_lt_zero _), (by repeat first | (with_reducible exact B1) | (with_reducible refine Below.setCell ?_ (by first | exact Nat.le_refl _ | (simp; done) | (simp; omega) | omega) _) | (with_reducible refine Below.alloc ?_ (by first | exact Nat.le_refl _ | (simp; done) | (simp; omega) | omega) _) | (with_reducible refine below_drewN ?_ _) | (with_reducible refine Below.drew ?_))⟩
    · have hd1 : decide (x < 0) = true := decide_eq_true (by omega)
      clear hx h0
      go_enter Try.func19, Try.ntmps19
      go_wp2_with fail
      go_at_call 51
      refine (implSquare_any R C a n c Z _ hn (h.below (by repeat first | (with_reducible exact Below.refl _ _) | (with_reducible refine Below.setCell ?_ (by first | exact Nat.le_refl _ | (simp; done) | (simp; omega) | omega) _) | (with_reducible refine Below.alloc ?_ (by first | exact Nat.le_refl _ | (simp; done) | (simp; omega) | omega) _) | (with_reducible refine below_drewN ?_ _) | (with_reducible refine Below.drew ?_)) (Nat.le_refl _))).mono ?_
      rintro e w1 ⟨rfl, b1⟩
      rw [HSQ.out]
      have B1 : Below w.heap.size w w1 := Below.trans (by repeat first | (with_reducible exact Below.refl _ _) | (with_reducible refine Below.setCell ?_ (by first | exact Nat.le_refl _ | (simp; done) | (simp; omega) | omega) _) | (with_reducible refine Below.alloc ?_ (by first | exact Nat.le_refl _ | (simp; done) | (simp; omega) | omega) _) | (with_reducible refine below_drewN ?_ _) | (with_reducible refine Below.drew ?_)) (b1.mono (by simp; omega))
      have s1 : w.heap.size + 1 + 1 ≤ w1.heap.size := by have := b1.size; simp at this; omega
      obtain ⟨hc, hf⟩ := bcell b1
      go_wp2_with fail
      refine bodyPost_ret (v := .tuple #[.agg #[.int .i64 0, .int .i64 0, .slice none 0 0], .bool false]) (by simp [results, Try.results19, go_sem, hc]) rfl ?_
      exact ⟨none, 0, fun _ => 0, rfl, .inl ⟨rfl, rfl, rfl⟩, fun i hi => absurd hi (Nat.not_lt_zero _), (by repeat first | (with_reducible exact B1) | (with_reducible refine Below.setCell ?_ (by first | exact Nat.le_refl _ | (simp; done) | (simp; omega) | omega) _) | (with_reducible refine Below.alloc ?_ (by first | exact Nat.le_refl _ | (simp; done) | (simp; omega) | omega) _) | (with_reducible refine below_drewN ?_ _) | (with_reducible refine Below.drew ?_))⟩
theorem specPow_no (R C : Int) (a : Option Addr) (n c : Nat) (Z : Nat → Nat) (x : Int) (w : World) (hn : n ≤ 1048576) (h : FS .f32 w a n c Z) (ho : pkOk R C n (vals Z) x = false) :
    Calls Try.prog 18 #[.agg #[.int .i64 R, .int .i64 C, .slice a n c], .int .i64 x] w (MatBel false 0 0 0 (fun _ => none) w) := by
  cases hs : squareB R C n (vals Z) with
  | false =>
    have HSQ := Lib.hid hs
    clear ho hs
    go_enter Try.func18, Try.ntmps18
    go_wp2_with fail
    go_at_call 47
    refine (specSquare_any _ R C a n c Z _ hn (by refine ⟨?_, ?_, ?_⟩ <;> simp [go_sem]) (h.below (by repeat first | (with_reducible exact Below.refl _ _) | (with_reducible refine Below.setCell ?_ (by first | exact Nat.le_refl _ | (simp; done) | (simp; omega) | omega) _) | (with_reducible refine Below.alloc ?_ (by first | exact Nat.le_refl _ | (simp; done) | (simp; omega) | omega) _) | (with_reducible refine below_drewN ?_ _) | (with_reducible refine Below.drew ?_)) (Nat.le_refl _))).mono ?_
    rintro e w1 ⟨rfl, m1, rfl⟩
    rw [HSQ.out]
    go_wp2_with fail
    refine bodyPost_ret (v := .tuple #[.agg #[.int .i64 0, .int .i64 0, .slice none 0 0], .bool false]) (by simp [results, Try.results18, go_sem]) rfl ?_
    exact ⟨none, 0, fun _ => 0, rfl, ⟨Nat.le_refl _, Nat.zero_le _, fun i hi => absurd hi (Nat.not_lt_zero _)⟩, fun i hi => absurd hi (Nat.not_lt_zero _), (by repeat first | (with_reducible exact Below.refl _ _) | (with_reducible refine Below.setCell ?_ (by first | exact Nat.le_refl _ | (simp; done) | (simp; omega) | omega) _) | (with_reducible refine Below.alloc ?_ (by first | exact Nat.le_refl _ | (simp; done) | (simp; omega) | omega) _) | (with_reducible refine below_drewN ?_ _) | (with_reducible refine Below.drew ?_))⟩
  | true =>
    have HSQ := Lib.hid hs
    have hin : inB x 0 64 = false := by
      unfold pkOk at ho
      rw [hs] at ho
      exact ho
    have hic := fun W => l00In_any x 0 64 W
    rw [hin] at hic
    clear ho hs hin
    go_enter Try.func18, Try.ntmps18
    go_wp2_with fail
    go_at_call 47
    refine (specSquare_any _ R C a n c Z _ hn (by refine ⟨?_, ?_, ?_⟩ <;> simp [go_sem]) (h.below (by repeat first | (with_reducible exact Below.refl _ _) | (with_reducible refine Below.setCell ?_ (by first | exact Nat.le_refl _ | (simp; done) | (simp; omega) | omega) _) | (with_reducible refine Below.alloc ?_ (by first | exact Nat.le_refl _ | (simp; done) | (simp; omega) | omega) _) | (with_reducible refine below_drewN ?_ _) | (with_reducible refine Below.drew ?_)) (Nat.le_refl _))).mono ?_
    rintro e w1 ⟨rfl, m1, rfl⟩
    rw [HSQ.out]
    go_wp2_with fail
    go_at_call 42
    refine (hic _).mono ?_
    rintro e w2 ⟨rfl, rfl⟩
    go_wp2_with fail
    refine bodyPost_ret (v := .tuple #[.agg #[.int .i64 0, .int .i64 0, .slice none 0 0], .bool false]) (by simp [results, Try.results18, go_sem]) rfl ?_
    exact ⟨none, 0, fun _ => 0, rfl, ⟨Nat.le_refl _, Nat.zero_le _, fun i hi => absurd hi (Nat.not_lt_zero _)⟩, fun i hi => absurd hi (Nat.not_lt_zero _), (by repeat first | (with_reducible exact Below.refl _ _) | (with_reducible refine Below.setCell ?_ (by first | exact Nat.le_refl _ | (simp; done) | (simp; omega) | omega) _) | (with_reducible refine Below.alloc ?_ (by first | exact Nat.le_refl _ | (simp; done) | (simp; omega) | omega) _) | (with_reducible refine below_drewN ?_ _) | (with_reducible refine Below.drew ?_))⟩
theorem keyPowerMatrix (R0 C0 : Int) (n0 : Nat) (Z0 : Nat → Nat) (x : Int) (hn0 : n0 ≤ 1048576) (wx : (Lit.int .i64 x).wf = true) : ∃ (ok : Bool) (R C : Int) (n : Nat) (V : Nat → Option Nat), n ≤ 144 ∧
    (∀ a c W, FS .f32 W a n0 c Z0 → Calls Try.prog 18 #[.agg #[.int .i64 R0, .int .i64 C0, .slice a n0 c], .int .i64 x] W (MatBel ok R C n V W)) ∧
    (∀ a c W, FS .f32 W a n0 c Z0 → Calls Try.prog 19 #[.agg #[.int .i64 R0, .int .i64 C0, .slice a n0 c], .int .i64 x] W (MatOwn ok R C n V W)) := by
  cases ho : pkOk R0 C0 n0 (vals Z0) x with
  | false => exact ⟨false, 0, 0, 0, fun _ => none, by omega, fun a c W h => specPow_no R0 C0 a n0 c Z0 x W hn0 h ho, fun a c W h => implPow_no R0 C0 a n0 c Z0 x W hn0 h ho⟩
  | true =>
    unfold pkOk at ho
    simp only [Bool.and_eq_true, decide_eq_true_eq] at ho
    obtain ⟨hs, hx0, hx1⟩ := ho
    obtain ⟨p, rfl⟩ : ∃ p : Nat, x = p := ⟨x.toNat, by omega⟩
    obtain ⟨s, rfl, rfl, hr1, hr, hnr, hfin⟩ := square_nat hs
    obtain ⟨OK, VV, ht⟩ : ∃ OK VV, pwF s n0 7 p (unitV s) (vals Z0) = (OK, VV) := ⟨_, _, rfl⟩
    have k1 : ∀ a c W, FS .f32 W a n0 c Z0 → Calls Try.prog 18 #[.agg #[.int .i64 s, .int .i64 s, .slice a n0 c], .int .i64 p] W (BelIf OK s s n0 VV W) := fun a c W h => by
      obtain ⟨b, off, rfl, _⟩ := h.at (show 0 < n0 by rw [hnr]; exact Nat.mul_pos hr1 hr1)
      exact specPow_yes s n0 b off c p Z0 W OK VV hr1 hr hnr hs hfin (by omega) ht h
    have k2 : ∀ a c W, FS .f32 W a n0 c Z0 → Calls Try.prog 19 #[.agg #[.int .i64 s, .int .i64 s, .slice a n0 c], .int .i64 p] W (OwnIf OK s s n0 VV W) := fun a c W h => by
      obtain ⟨b, off, rfl, _⟩ := h.at (show 0 < n0 by rw [hnr]; exact Nat.mul_pos hr1 hr1)
      exact implPow_yes s n0 b off c p Z0 W OK VV hr1 hr hnr hs hfin (by omega) ht h
    have hle : n0 ≤ 144 := by have := sides_le hr hr; omega
    cases OK
    · exact ⟨false, 0, 0, 0, fun _ => none, by omega, k1, k2⟩
    · exact ⟨true, s, s, n0, VV, hle, k1, k2⟩
end Go.Proofs.Ytffmjfgechdjjac
