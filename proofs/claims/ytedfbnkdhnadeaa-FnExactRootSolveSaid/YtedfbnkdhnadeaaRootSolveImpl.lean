/- Helper: what a root and its flipped square make a list of, of the program. Conditions: none. -/
import Derived.Test.YtedfbnkdhnadeaaUpperKey
import Derived.Test.YtedfbnkdhnadeaaLow
import Derived.Test.YtedfbnkdhnadeaaMin
import Derived.Test.YtedfbnkdhnadeaaFlipWalks
set_option linter.unusedVariables false
namespace Go.Proofs.Ytedfbnkdhnadeaa
open Go.RowKit

/-- What is told: solved from the first row on, and then with the flipped square. -/
def rootY (n : Nat) (Z Y : Nat → Nat) (t : Nat) : Option Nat := upY (fun i k => sq n Z k i) true n (lowY (sq n Z) true (vals Y) n) n t
def rsOk (R C : Int) (n n2 : Nat) (Z Y : Nat → Nat) : Bool := squareB R C n (vals Z) && (fitsB R n2 (vals Y) && (allPos (fun i => sq n2 Z i i) n2 && allFin (rootY n2 Z Y) n2))
theorem sq_flip {n i k : Nat} {Z : Nat → Nat} (hi : i < n) (hk : k < n) : sq n (flipZ n n Z) i k = sq n Z k i := by
  unfold sq vals flipZ
  obtain ⟨h1, h2⟩ := place_div (j := i) hk
  rw [h1, h2]
theorem allFin_of {V : Nat → Option Nat} : ∀ {n : Nat}, (∀ i, i < n → finite .f32 (V i) = true) → allFin V n = true
  | 0, _ => rfl
  | n + 1, h => by
    have h1 := allFin_of (V := V) (n := n) fun i hi => h i (by omega)
    simp only [allFin, h1, h n (by omega), Bool.and_self]

set_option maxRecDepth 20000 in
set_option maxHeartbeats 2000000 in
theorem implRootSolve_any (R C : Int) (a b : Option Addr) (n c n2 d : Nat) (Z Y : Nat → Nat) (w : World) (hn : n ≤ 1048576) (hm : n2 ≤ 1048576) (h : FS .f32 w a n c Z) (h2 : FS .f32 w b n2 d Y) :
    Calls Try.prog 26 #[.agg #[.int .i64 R, .int .i64 C, .slice a n c], .slice b n2 d] w (NOwnIf (rsOk R C n n2 Z Y) n2 (rootY n2 Z Y) w) := by
  obtain ⟨ok, hok⟩ : ∃ ok, ok = rsOk R C n n2 Z Y := ⟨_, rfl⟩
  rw [← hok]
  have HK := Lib.hid hok
  clear hok
  cases hs : squareB R C n (vals Z) with
  | false =>
    have HS := Lib.hid hs
    go_enter Try.func26, Try.ntmps26
    go_wp2_with fail
    go_at_call 57
    refine (implSquare_any R C a n c Z _ hn (h.below (by repeat first | (with_reducible exact Below.refl _ _) | (with_reducible refine Below.setCell ?_ (by first | exact Nat.le_refl _ | (simp; done) | (simp; omega) | omega) _) | (with_reducible refine Below.alloc ?_ (by first | exact Nat.le_refl _ | (simp; done) | (simp; omega) | omega) _) | (with_reducible refine below_drewN ?_ _) | (with_reducible refine Below.drew ?_)) (Nat.le_refl _))).mono ?_
    rintro e w1 ⟨rfl, b1⟩
    have B1 := Lib.hid (show Below w.heap.size w w1 from Below.trans (by repeat first | (with_reducible exact Below.refl _ _) | (with_reducible refine Below.setCell ?_ (by first | exact Nat.le_refl _ | (simp; done) | (simp; omega) | omega) _) | (with_reducible refine Below.alloc ?_ (by first | exact Nat.le_refl _ | (simp; done) | (simp; omega) | omega) _) | (with_reducible refine below_drewN ?_ _) | (with_reducible refine Below.drew ?_)) (b1.mono (by simp)))
    clear b1
    go_wp2_with fail
    go_ret2
    exact NOwnIf.no (by rw [HK.out]; unfold rsOk; rw [HS.out]; rfl) (NumsNo.own ⟨rfl, B1.out⟩)
  | true =>
    have HS := Lib.hid hs
    obtain ⟨r, rfl, rfl, hr1, hr, hnr, hfinZ⟩ := square_nat hs
    obtain ⟨b0, off, rfl, _, _, _⟩ := h.at (show 0 < n by rw [hnr]; exact Nat.mul_pos hr1 hr1)
    have hN := Lib.hid hnr
    have HFZ := Lib.hid hfinZ
    clear hnr hfinZ
    go_enter Try.func26, Try.ntmps26
    go_wp2_with fail
    go_at_call 57
    refine (implSquare_any r r _ n c Z _ hn (h.below (by repeat first | (with_reducible exact Below.refl _ _) | (with_reducible refine Below.setCell ?_ (by first | exact Nat.le_refl _ | (simp; done) | (simp; omega) | omega) _) | (with_reducible refine Below.alloc ?_ (by first | exact Nat.le_refl _ | (simp; done) | (simp; omega) | omega) _) | (with_reducible refine below_drewN ?_ _) | (with_reducible refine Below.drew ?_)) (Nat.le_refl _))).mono ?_
    rintro e w1 ⟨rfl, b1⟩
    have B1 : Below w.heap.size w w1 := Below.trans (by repeat first | (with_reducible exact Below.refl _ _) | (with_reducible refine Below.setCell ?_ (by first | exact Nat.le_refl _ | (simp; done) | (simp; omega) | omega) _) | (with_reducible refine Below.alloc ?_ (by first | exact Nat.le_refl _ | (simp; done) | (simp; omega) | omega) _) | (with_reducible refine below_drewN ?_ _) | (with_reducible refine Below.drew ?_)) (b1.mono (by simp))
    have X1 := (Box.new _ _ _ _ _ _ _).below b1 (by simp)
    have s1 : w.heap.size < w1.heap.size := by have := b1.size; simp at this; omega
    obtain ⟨x0, x1, x2⟩ := X1
    clear b1
    cases hf : fitsB (r : Int) n2 (vals Y) with
    | false =>
      have HF := Lib.hid hf
      go_wp2_with fail
      go_at_call 58
      refine (fitsRows_any r r _ b n c n2 d Y _ hm (h2.below B1 (Nat.le_refl _))).mono ?_
      rintro e w2 ⟨rfl, b2⟩
      have B2 := Lib.hid (B1.trans (b2.mono B1.size))
      clear b2 B1 x0 x1 x2
      go_wp2_with fail
      go_ret2
      exact NOwnIf.no (by rw [HK.out]; unfold rsOk; rw [HS.out, HF.out]; rfl) (NumsNo.own ⟨rfl, B2.out⟩)
    | true =>
      have HF := Lib.hid hf
      obtain ⟨hnn, hvec⟩ := fits_nat hf
      subst hnn
      go_wp2_with fail
      go_at_call 58
      refine (fitsRows_any n2 n2 _ b n c n2 d Y _ hm (h2.below B1 (Nat.le_refl _))).mono ?_
      rintro e w2 ⟨rfl, b2⟩
      have B2 := B1.trans (b2.mono B1.size)
      have s2 := b2.size
      obtain ⟨y0, y1, y2⟩ := (show Box w1 w.heap.size n2 n2 (some ⟨b0, off, none⟩) n c from ⟨x0, x1, x2⟩).below b2 s1
      clear b2 B1 x0 x1 x2 hvec
      go_wp2_with fail
      go_at_call 60
      refine (middle_any n2 n b0 off c Z _ hr1 hr hN.out (h.below B2 (Nat.le_refl _))).mono ?_
      rintro e w3 ⟨g3, rfl, o3, b3⟩
      have B3 := B2.trans (b3.mono B2.size)
      have s3 := b3.size
      obtain ⟨x0, x1, x2⟩ := (show Box w2 w.heap.size n2 n2 (some ⟨b0, off, none⟩) n c from ⟨y0, y1, y2⟩).below b3 (by omega)
      have f3 := o3.fs
      have hfz := h.below B3 (Nat.le_refl _)
      have hfy := h2.below B3 (Nat.le_refl _)
      clear b3 B2 y0 y1 y2 o3
      have hfm : allFin (vals fun i => Z (i * n2 + i)) n2 = true := allFin_of fun i hi => show finite .f32 (vals Z (i * n2 + i)) = true from allFin_lt HFZ.out (show i * n2 + i < n by rw [hN.out]; exact place_lt hi hi)
      go_wp2_with fail
      go_at_call 66
      refine (min_any _ n2 n2 _ _ hr1 hm f3 hfm).mono ?_
      rintro e w4 ⟨rfl, rm, rfl, hwm, hfrm, hpm⟩
      have hle := leq_pos hfrm
      have c0 : cn .f32 0 = some 0 := by kernel_rfl
      have hpm' : posB (cn .f32 rm) = allPos (fun i => sq n2 Z i i) n2 := hpm
      rw [hpm'] at hle
      clear hpm hpm' hwm hfrm hfm f3
      cases hz : allPos (fun i => sq n2 Z i i) n2 with
      | false =>
        have HZ := Lib.hid hz
        rw [hz] at hle
        have B3' := Lib.hid B3
        clear hz B3 hfz hfy x0 x1 x2
        go_wp2_with fail
        go_ret2
        exact NOwnIf.no (by rw [HK.out]; unfold rsOk; rw [HS.out, HF.out, HZ.out]; rfl) (NumsNo.own ⟨rfl, B3'.out⟩)
      | true =>
        have HZ := Lib.hid hz
        rw [hz] at hle
        clear hz
        obtain ⟨p2, o2, rfl, _, _, _⟩ := h2.at (show 0 < n2 by omega)
        go_wp2_with fail
        go_at_call 61
        refine (clone_any p2 o2 n2 d Y _ (by omega) hm hfy).mono ?_
        rintro e w5 ⟨g, dx, rfl, o5, b5⟩
        have B5 := B3.trans (b5.mono B3.size)
        have s5 := b5.size
        have X5 := (show Box w3 w.heap.size n2 n2 (some ⟨b0, off, none⟩) n c from ⟨x0, x1, x2⟩).below b5 (by omega)
        obtain ⟨y0, y1, y2⟩ := X5
        have hfz5 := hfz.below b5 (Nat.le_refl _)
        obtain ⟨_, _, hBg, hgU, _, _⟩ := o5.cell (t := 0) (by omega)
        obtain ⟨_, _, e, hb0, _, _⟩ := hfz.at (show 0 < n by rw [hN.out]; exact Nat.mul_pos hr1 hr1)
        simp only [Option.some.injEq, Addr.mk.injEq, and_true] at e
        obtain ⟨rfl, rfl⟩ := e
        clear b5 x0 x1 x2 hfy hfz hle c0
        go_wp2_with fail
        go_at_call 67
        refine (lowerSteps_any n2 n b0 off c g dx w3.heap.size w5.heap.size true Z Y _ hr1 hr hN.out hfz5 o5 (by omega)).mono ?_
        rintro e w6 ⟨rfl, X6, o6, hX6, g6⟩
        have B6 := B5.grown g6 B5.size (fun q hq => by cases hq; omega)
        have hfz6 := hfz5.grown g6 (fun q hq => by cases hq; omega)
        have s6 := g6.size
        obtain ⟨x0, x1, x2⟩ := (show Box w5 w.heap.size n2 n2 (some ⟨b0, off, none⟩) n c from ⟨y0, y1, y2⟩).grown g6 (by omega) (fun q hq => by cases hq; omega)
        have HX6 := Lib.hid hX6
        clear g6 B5 y0 y1 y2 o5 hX6 hfz5
        go_wp2_with fail
        go_at_call 68
        refine (flipped_any n2 n2 n b0 off c Z _ hr1 hr hr1 hr hN.out hfz6).mono ?_
        rintro e w7 ⟨gf, rfl, o7, b7⟩
        have B7 := B6.trans (b7.mono B6.size)
        have s7 := b7.size
        have o6' := o6.kept (below_grew b7) (fun q hq => by cases hq)
        obtain ⟨_, _, hBf, hfU, _, _⟩ := o7.cell (t := 0) (by rw [hN.out]; exact Nat.mul_pos hr1 hr1)
        have f7 := o7.fs
        clear b7 B6 x0 x1 x2 o6 hfz6 o7
        go_wp2_with fail
        go_at_call 62
        refine (upperSteps_any n2 n gf 0 n g dx w3.heap.size w5.heap.size true (flipZ n2 n2 Z) X6 _ hr1 hr hN.out f7 o6' (by omega)).mono ?_
        rintro e w8 ⟨rfl, X, o8, hX, g8⟩
        have B8 := B7.grown g8 B7.size (fun q hq => by cases hq; omega)
        have hX' : ∀ t, t < n2 → vals X t = rootY n2 Z Y t := fun t ht => (hX t ht).trans (upY_congr (fun i k hi hk => sq_flip hi hk) (fun i hi => HX6.out i hi) (Nat.le_refl _) ht)
        have hfin : vecB n2 (vals X) = allFin (rootY n2 Z Y) n2 := (vec_of hr1 hr).trans (allFin_congr hX')
        have f8 := o8.fs
        have s8 := g8.size
        have o8' := Lib.hid o8
        have B8' := Lib.hid B8
        have HX := Lib.hid hX'
        clear g8 o8 B8 B7 o6' hX hX' f7
        cases ha : allFin (rootY n2 Z Y) n2 with
        | true =>
          have HA := Lib.hid ha
          rw [ha] at hfin
          clear ha
          go_wp2_with fail
          go_at_call 63
          refine (vectorResult_yes _ n2 dx X _ hm f8 hfin).mono ?_
          rintro e w9 ⟨rfl, m9, rfl⟩
          go_wp2_with fail
          go_ret2
          exact NOwnIf.yes (by rw [HK.out]; unfold rsOk; rw [HS.out, HF.out, HZ.out, HA.out]; rfl) ⟨_, _, X, rfl, Own.mono (U := w5.heap.size) (B := w3.heap.size) o8'.out (by omega) (by show w5.heap.size ≤ w8.heap.size; omega) (Nat.le_refl _), HX.out, below_drewN B8'.out _⟩
        | false =>
          have HA := Lib.hid ha
          rw [ha] at hfin
          clear ha
          go_wp2_with fail
          go_at_call 63
          refine (vectorResult_no _ n2 dx X _ hm f8 hfin).mono ?_
          rintro e w9 ⟨rfl, m9, rfl⟩
          go_wp2_with fail
          go_ret2
          exact NOwnIf.no (by rw [HK.out]; unfold rsOk; rw [HS.out, HF.out, HZ.out, HA.out]; rfl) (NumsNo.own ⟨rfl, below_drewN B8'.out _⟩)
end Go.Proofs.Ytedfbnkdhnadeaa
