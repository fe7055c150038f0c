/- Helper: what an upper square makes a list of, of the program and of its reference. Conditions: none. -/
import Derived.Test.YtcibjkadlndejaaUpSpec
set_option linter.unusedVariables false
set_option linter.unusedSimpArgs false
namespace Go.Proofs.Ytcibjkadlndejaa
open Go.RowKit

theorem fits_nat {r n2 : Nat} {V : Nat → Option Nat} (h : fitsB (r : Int) n2 V = true) : n2 = r ∧ vecB n2 V = true := by
  unfold fitsB at h
  simp only [Bool.and_eq_true, decide_eq_true_eq] at h
  exact ⟨by omega, h.1⟩
theorem vec_of {n : Nat} {V : Nat → Option Nat} (h1 : 1 ≤ n) (h12 : n ≤ 12) : vecB n V = allFin V n := by
  unfold vecB
  rw [decide_eq_true h1, decide_eq_true (show n ≤ 256 by omega)]
  rfl
def upOk (R C : Int) (n n2 : Nat) (Z Y : Nat → Nat) : Bool := squareB R C n (vals Z) && (fitsB R n2 (vals Y) && (!anyZ (fun i => sq n2 Z i i) n2 && allFin (upY (sq n2 Z) true n2 (vals Y) n2) n2))
def NumsNo (w : World) (e : Ending) (w' : World) : Prop := e = .returned (.tuple #[.slice none 0 0, .bool false]) ∧ Below w.heap.size w w'
theorem NumsNo.own {w : World} {e : Ending} {w' : World} (h : NumsNo w e w') : NumsOwn false 0 (fun _ => none) w e w' := by
  obtain ⟨rfl, hb⟩ := h
  exact ⟨none, 0, fun _ => 0, rfl, .inl ⟨rfl, rfl, rfl⟩, fun i hi => by omega, hb⟩
theorem NumsNo.bel {w : World} {e : Ending} {w' : World} (h : NumsNo w e w') : NumsBel false 0 (fun _ => none) w e w' := by
  obtain ⟨rfl, hb⟩ := h
  exact ⟨none, 0, fun _ => 0, rfl, ⟨Nat.le_refl _, Nat.zero_le _, fun i hi => by omega⟩, fun i hi => by omega, hb⟩

set_option maxRecDepth 20000 in
set_option maxHeartbeats 1000000 in
theorem implUpper_any (R C : Int) (a b : Option Addr) (n c n2 d : Nat) (Z Y : Nat → Nat) (w : World) (hn : n ≤ 1048576) (hm : n2 ≤ 1048576) (h : FS .f32 w a n c Z) (h2 : FS .f32 w b n2 d Y) :
    Calls Try.prog 50 #[.agg #[.int .i64 R, .int .i64 C, .slice a n c], .slice b n2 d] w (NOwnIf (upOk R C n n2 Z Y) n2 (upY (sq n2 Z) true n2 (vals Y) n2) w) := by
  obtain ⟨ok, hok⟩ : ∃ ok, ok = upOk R C n n2 Z Y := ⟨_, rfl⟩
  rw [← hok]
  have HK := Lib.hid hok
  clear hok
  cases hs : squareB R C n (vals Z) with
  | false =>
    have HS := Lib.hid hs
    go_enter Try.func50, Try.ntmps50
    go_wp2_with fail
    go_at_call 72
    refine (implSquare_any R C a n c Z _ hn (h.below (by repeat first | (with_reducible exact Below.refl _ _) | (with_reducible refine Below.setCell ?_ (by first | exact Nat.le_refl _ | (simp; done) | (simp; omega) | omega) _) | (with_reducible refine Below.alloc ?_ (by first | exact Nat.le_refl _ | (simp; done) | (simp; omega) | omega) _) | (with_reducible refine below_drewN ?_ _) | (with_reducible refine Below.drew ?_)) (Nat.le_refl _))).mono ?_
    rintro e w1 ⟨rfl, b1⟩
    have B1 := Lib.hid (show Below w.heap.size w w1 from Below.trans (by repeat first | (with_reducible exact Below.refl _ _) | (with_reducible refine Below.setCell ?_ (by first | exact Nat.le_refl _ | (simp; done) | (simp; omega) | omega) _) | (with_reducible refine Below.alloc ?_ (by first | exact Nat.le_refl _ | (simp; done) | (simp; omega) | omega) _) | (with_reducible refine below_drewN ?_ _) | (with_reducible refine Below.drew ?_)) (b1.mono (by simp)))
    clear b1
    go_wp2_with fail
    go_ret2
    exact NOwnIf.no (by rw [HK.out]; unfold upOk; rw [HS.out]; rfl) (NumsNo.own ⟨rfl, B1.out⟩)
  | true =>
    have HS := Lib.hid hs
    obtain ⟨r, rfl, rfl, hr1, hr, hnr, hfinZ⟩ := square_nat hs
    obtain ⟨b0, off, rfl, _, _, _⟩ := h.at (show 0 < n by rw [hnr]; exact Nat.mul_pos hr1 hr1)
    have hN := Lib.hid hnr
    clear hnr hfinZ
    go_enter Try.func50, Try.ntmps50
    go_wp2_with fail
    go_at_call 72
    refine (implSquare_any r r _ n c Z _ hn (h.below (by repeat first | (with_reducible exact Below.refl _ _) | (with_reducible refine Below.setCell ?_ (by first | exact Nat.le_refl _ | (simp; done) | (simp; omega) | omega) _) | (with_reducible refine Below.alloc ?_ (by first | exact Nat.le_refl _ | (simp; done) | (simp; omega) | omega) _) | (with_reducible refine below_drewN ?_ _) | (with_reducible refine Below.drew ?_)) (Nat.le_refl _))).mono ?_
    rintro e w1 ⟨rfl, b1⟩
    have B1 : Below w.heap.size w w1 := Below.trans (by repeat first | (with_reducible exact Below.refl _ _) | (with_reducible refine Below.setCell ?_ (by first | exact Nat.le_refl _ | (simp; done) | (simp; omega) | omega) _) | (with_reducible refine Below.alloc ?_ (by first | exact Nat.le_refl _ | (simp; done) | (simp; omega) | omega) _) | (with_reducible refine below_drewN ?_ _) | (with_reducible refine Below.drew ?_)) (b1.mono (by simp))
    have X1 := (Box.new _ _ _ _ _ _ _).below b1 (by simp)
    have s1 : w.heap.size < w1.heap.size := by have := b1.size; simp at this; omega
    obtain ⟨x0, x1, x2⟩ := X1
    clear b1
    cases hf : fitsB (r : Int) n2 (vals Y) with
    | false =>
      have HF := Lib.hid hf
      go_wp2_with fail
      go_at_call 49
      refine (fitsRows_any r r _ b n c n2 d Y _ hm (h2.below B1 (Nat.le_refl _))).mono ?_
      rintro e w2 ⟨rfl, b2⟩
      have B2 := Lib.hid (B1.trans (b2.mono B1.size))
      clear b2 B1 x0 x1 x2
      go_wp2_with fail
      go_ret2
      exact NOwnIf.no (by rw [HK.out]; unfold upOk; rw [HS.out, HF.out]; rfl) (NumsNo.own ⟨rfl, B2.out⟩)
    | true =>
      have HF := Lib.hid hf
      obtain ⟨hnn, hvec⟩ := fits_nat hf
      subst hnn
      go_wp2_with fail
      go_at_call 49
      refine (fitsRows_any n2 n2 _ b n c n2 d Y _ hm (h2.below B1 (Nat.le_refl _))).mono ?_
      rintro e w2 ⟨rfl, b2⟩
      have B2 := B1.trans (b2.mono B1.size)
      have s2 := b2.size
      obtain ⟨y0, y1, y2⟩ := (show Box w1 w.heap.size n2 n2 (some ⟨b0, off, none⟩) n c from ⟨x0, x1, x2⟩).below b2 s1
      clear b2 B1 x0 x1 x2 hvec
      go_wp2_with fail
      go_at_call 88
      refine (middle_any n2 n b0 off c Z _ hr1 hr hN.out (h.below B2 (Nat.le_refl _))).mono ?_
      rintro e w3 ⟨g3, rfl, o3, b3⟩
      have B3 := B2.trans (b3.mono B2.size)
      have s3 := b3.size
      obtain ⟨x0, x1, x2⟩ := (show Box w2 w.heap.size n2 n2 (some ⟨b0, off, none⟩) n c from ⟨y0, y1, y2⟩).below b3 (by omega)
      have f3 := o3.fs
      have hfz := h.below B3 (Nat.le_refl _)
      have hfy := h2.below B3 (Nat.le_refl _)
      clear b3 B2 y0 y1 y2 o3
      have hmid : anyZ (vals fun i => Z (i * n2 + i)) n2 = anyZ (fun i => sq n2 Z i i) n2 := rfl
      cases hz : anyZ (fun i => sq n2 Z i i) n2 with
      | true =>
        have HZ := Lib.hid hz
        rw [hz] at hmid
        have B3' := Lib.hid B3
        clear hz B3 hfz hfy
        go_wp2_with fail
        go_at_call 87
        refine (contains_any _ n2 n2 _ _ hm f3).mono ?_
        rintro e w4 ⟨rfl, rfl⟩
        go_wp2_with fail
        go_ret2
        exact NOwnIf.no (by rw [HK.out]; unfold upOk; rw [HS.out, HF.out, HZ.out]; rfl) (NumsNo.own ⟨rfl, B3'.out⟩)
      | false =>
        have HZ := Lib.hid hz
        rw [hz] at hmid
        clear hz
        obtain ⟨p2, o2, rfl, _, _, _⟩ := h2.at (show 0 < n2 by omega)
        go_wp2_with fail
        go_at_call 87
        refine (contains_any _ n2 n2 _ _ hm f3).mono ?_
        rintro e w4 ⟨rfl, rfl⟩
        clear f3
        go_wp2_with fail
        go_at_call 57
        refine (clone_any p2 o2 n2 d Y _ (by omega) hm hfy).mono ?_
        rintro e w5 ⟨g, dx, rfl, o5, b5⟩
        have B5 := B3.trans (b5.mono B3.size)
        have s5 := b5.size
        obtain ⟨y0, y1, y2⟩ := (show Box w3 w.heap.size n2 n2 (some ⟨b0, off, none⟩) n c from ⟨x0, x1, x2⟩).below b5 (by omega)
        have hfz5 := hfz.below b5 (Nat.le_refl _)
        obtain ⟨_, _, hBg, hgU, _, _⟩ := o5.cell (t := 0) (by omega)
        obtain ⟨_, _, e, hb0, _, _⟩ := hfz.at (show 0 < n by rw [hN.out]; exact Nat.mul_pos hr1 hr1)
        simp only [Option.some.injEq, Addr.mk.injEq, and_true] at e
        obtain ⟨rfl, rfl⟩ := e
        clear b5 x0 x1 x2 hfy hfz
        go_wp2_with fail
        go_at_call 89
        refine (upperSteps_any n2 n b0 off c g dx w3.heap.size w5.heap.size true Z Y _ hr1 hr hN.out hfz5 o5 (by omega)).mono ?_
        rintro e w6 ⟨rfl, X, o6, hX, g6⟩
        have B6 := B5.grown g6 B5.size (fun q hq => by cases hq; omega)
        have hfin : vecB n2 (vals X) = allFin (upY (sq n2 Z) true n2 (vals Y) n2) n2 := (vec_of hr1 hr).trans (allFin_congr hX)
        have f6 := o6.fs
        have s6 := g6.size
        have o6' := Lib.hid o6
        have B6' := Lib.hid B6
        have hX' := Lib.hid hX
        clear g6 o6 B6 B5 y0 y1 y2 o5 hX
        cases ha : allFin (upY (sq n2 Z) true n2 (vals Y) n2) n2 with
        | true =>
          have HA := Lib.hid ha
          rw [ha] at hfin
          clear ha
          go_wp2_with fail
          go_at_call 90
          refine (vectorResult_yes _ n2 dx X _ hm f6 hfin).mono ?_
          rintro e w7 ⟨rfl, m7, rfl⟩
          go_wp2_with fail
          go_ret2
          exact NOwnIf.yes (by rw [HK.out]; unfold upOk; rw [HS.out, HF.out, HZ.out, HA.out]; rfl) ⟨_, _, X, rfl, Own.mono (U := w5.heap.size) (B := w3.heap.size) o6'.out (by omega) (by show w5.heap.size ≤ w6.heap.size; omega) (Nat.le_refl _), hX'.out, below_drewN B6'.out _⟩
        | false =>
          have HA := Lib.hid ha
          rw [ha] at hfin
          clear ha
          go_wp2_with fail
          go_at_call 90
          refine (vectorResult_no _ n2 dx X _ hm f6 hfin).mono ?_
          rintro e w7 ⟨rfl, m7, rfl⟩
          go_wp2_with fail
          go_ret2
          exact NOwnIf.no (by rw [HK.out]; unfold upOk; rw [HS.out, HF.out, HZ.out, HA.out]; rfl) (NumsNo.own ⟨rfl, below_drewN B6'.out _⟩)
end Go.Proofs.Ytcibjkadlndejaa
