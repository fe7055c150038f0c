/- Helper: what misses least with weights, of the reference. Conditions: none. -/
import Derived.Test.YtcibjkadlndejaaLeastSpec
import Derived.Test.YtcibjkadlndejaaWeighedImpl
import Derived.Test.YtcibjkadlndejaaPutOwn
set_option linter.unusedVariables false
set_option linter.unusedSimpArgs false
namespace Go.Proofs.Ytcibjkadlndejaa
open Go.RowKit

/-- A list that grows beside blocks that change. -/
structure GrowX (W0 : World) (j : Nat) (V : Nat → Option Nat) (wr : World) (v : Value) (xs : List Value) : Prop where
  own : wr.ownsRow W0.heap.size 41 1 v j xs
  val : ∀ t, t < j → ∃ r, xs[t]? = some (.float .f32 r) ∧ FV .f32 r (V t)
  shape : ∃ g cap, v = .slice (some ⟨g, 0, none⟩) j cap ∧ W0.heap.size ≤ g
theorem GrowX.kept {W0 wr w' : World} {j g1 : Nat} {V : Nat → Option Nat} {v : Value} {xs : List Value} (h : GrowX W0 j V wr v xs) (hg : wr.grownBy w' (some g1)) (hl : g1 < W0.heap.size) : GrowX W0 j V w' v xs := by
  obtain ⟨g, cap, e, hle⟩ := h.shape
  exact ⟨h.own.kept hg (.inr (by rw [e]; simp [Value.ownBlock]; omega)), h.val, h.shape⟩
theorem GrowX.below {W0 wr w' : World} {j : Nat} {V : Nat → Option Nat} {v : Value} {xs : List Value} (h : GrowX W0 j V wr v xs) (hb : Below wr.heap.size wr w') : GrowX W0 j V w' v xs := ⟨ownsRow_below h.own hb, h.val, h.shape⟩
theorem GrowX.step {W0 wr w' : World} {j : Nat} {V : Nat → Option Nat} {v : Value} {xs : List Value} (h : GrowX W0 j V wr v xs) {g cap' r : Nat}
    (ho : w'.ownsRow W0.heap.size 41 1 (.slice (some ⟨g, 0, none⟩) (j + 1) cap') (j + 1) (xs ++ [.float .f32 r])) (hr : FV .f32 r (V j)) :
    GrowX W0 (j + 1) V w' (.slice (some ⟨g, 0, none⟩) (j + 1) cap') (xs ++ [.float .f32 r]) := by
  have hlen : xs.length = j := by simpa using h.own.1
  refine ⟨ho, fun t htj => ?_, _, _, rfl, (ho.lt g rfl).1⟩
  by_cases e : t = j
  · subst e
    exact ⟨r, by rw [List.getElem?_append_right (by omega), hlen]; simp, hr⟩
  · obtain ⟨q, h1, h2⟩ := h.val t (by omega)
    exact ⟨q, by rw [List.getElem?_append_left (by omega)]; exact h1, h2⟩
theorem GrowX.fs {W0 wr : World} {j g cap : Nat} {V : Nat → Option Nat} {xs : List Value} (h0 : 0 < j) (h : GrowX W0 j V wr (.slice (some ⟨g, 0, none⟩) j cap) xs) : ∃ Y, FS .f32 wr (some ⟨g, 0, none⟩) j cap Y ∧ ∀ i, i < j → vals Y i = V i := by
  obtain ⟨Y, hY⟩ := choose_upto (p := fun t r => xs[t]? = some (.float .f32 r) ∧ FV .f32 r (V t)) j h.val
  obtain ⟨g', c', e1, o1, _, _⟩ := own_of_row h.own h0 (fun t ht => (hY t ht).1) (fun t ht => (hY t ht).2.2)
  simp only [Value.slice.injEq, Option.some.injEq, Addr.mk.injEq, and_true, true_and] at e1
  obtain ⟨rfl, rfl⟩ := e1
  exact ⟨Y, o1.fs, fun i hi => (hY i hi).2.1⟩
/-- An append changes no block of the world before. -/
theorem Out2.append {W0 wr wx w' : World} {g h gb : Nat} {v : Value} (o : Out2 W0 wr g h) (hb : Below wr.heap.size wr wx) (hg : wx.grownBy w' v.ownBlock) (hv : v.ownBlock = some gb) (hl : W0.heap.size ≤ gb) : Out2 W0 w' g h := by
  have hs := o.size
  have hs2 := hb.size
  exact ⟨hg.os.trans (hb.os.trans o.os), hg.tape.trans (hb.tape.trans o.tape), hg.output.trans (hb.output.trans o.output), Nat.le_trans o.size (Nat.le_trans hb.size hg.size), fun q hq h1 h2 => (hg.block q (by omega) (by rw [hv]; exact fun e => by cases e; omega)).trans ((hb.block q (by omega)).trans (o.block q hq h1 h2))⟩
def wsTop (R C : Int) (n : Nat) (V : Nat → Option Nat) (n2 : Nat) (Y : Nat → Option Nat) (n3 : Nat) (W : Nat → Option Nat) : Bool := mirB R C n V && (fitsB R n2 Y && fitsB R n3 W)
theorem ne_len2 {n2 n3 : Nat} (h : ¬ (n2 : Int) = (n3 : Int)) : ((n2 : Int) != (n3 : Int)) = true := by
  simp [bne, beq_eq_false_iff_ne.2 h]
set_option maxHeartbeats 2000000 in
theorem specWs_no (R C : Int) (a b b3 : Option Addr) (n d n2 d2 n3 d3 : Nat) (Z Y Wt : Nat → Nat) (w : World) (hn : n ≤ 1048576) (hn2 : n2 ≤ 1048576) (hn3 : n3 ≤ 1048576) (h : FS .f32 w a n d Z) (h2 : FS .f32 w b n2 d2 Y) (h3 : FS .f32 w b3 n3 d3 Wt) (hno : wsTop R C n (vals Z) n2 (vals Y) n3 (vals Wt) = false) :
    Calls Try.prog 22 #[.agg #[.int .i64 R, .int .i64 C, .slice a n d], .slice b n2 d2, .slice b3 n3 d3] w (NumsBel false 0 (fun _ => none) w) := by
  have HNO := Lib.hid hno
  clear hno
  go_enter Try.func22, Try.ntmps22
  go_wp2_with fail
  go_at_call 37
  refine (specIs_any _ R C a n d Z _ hn (Box.new _ _ _ _ _ _ _) (h.below (by repeat first | (with_reducible exact Below.refl _ _) | (with_reducible refine Below.setCell ?_ (by first | exact Nat.le_refl _ | (simp; done) | (simp; omega) | omega) _) | (with_reducible refine Below.alloc ?_ (by first | exact Nat.le_refl _ | (simp; done) | (simp; omega) | omega) _) | (with_reducible refine below_drewN ?_ _) | (with_reducible refine Below.drew ?_)) (Nat.le_refl _))).mono ?_
  rintro e w1 ⟨rfl, m1, hw1⟩
  have B1 : Below w.heap.size w w1 := by rw [hw1]; exact (by repeat first | (with_reducible exact Below.refl _ _) | (with_reducible refine Below.setCell ?_ (by first | exact Nat.le_refl _ | (simp; done) | (simp; omega) | omega) _) | (with_reducible refine Below.alloc ?_ (by first | exact Nat.le_refl _ | (simp; done) | (simp; omega) | omega) _) | (with_reducible refine below_drewN ?_ _) | (with_reducible refine Below.drew ?_))
  have XA : Box w1 w.heap.size R C a n d := by rw [hw1]; refine ⟨?_, ?_, ?_⟩ <;> simp [go_sem]
  clear hw1
  cases hv : validB R C n (vals Z) with
  | false =>
    clear hv XA
    go_wp2_with fail
    go_ret2
    exact NumsNo.bel ⟨rfl, (by repeat first | (with_reducible exact B1) | (with_reducible refine Below.setCell ?_ (by first | exact Nat.le_refl _ | (simp; done) | (simp; omega) | omega) _) | (with_reducible refine Below.alloc ?_ (by first | exact Nat.le_refl _ | (simp; done) | (simp; omega) | omega) _) | (with_reducible refine below_drewN ?_ _) | (with_reducible refine Below.drew ?_))⟩
  | true =>
    obtain ⟨x0, x1, x2⟩ := XA
    by_cases hlt : R < C
    · have hd : decide (R < C) = true := decide_eq_true hlt
      clear hlt hv
      go_wp2_with fail
      go_ret2
      exact NumsNo.bel ⟨rfl, (by repeat first | (with_reducible exact B1) | (with_reducible refine Below.setCell ?_ (by first | exact Nat.le_refl _ | (simp; done) | (simp; omega) | omega) _) | (with_reducible refine Below.alloc ?_ (by first | exact Nat.le_refl _ | (simp; done) | (simp; omega) | omega) _) | (with_reducible refine below_drewN ?_ _) | (with_reducible refine Below.drew ?_))⟩
    · have hd : decide (R < C) = false := decide_eq_false hlt
      have hle : decide (C ≤ R) = true := decide_eq_true (by omega)
      clear hlt
      go_wp2_with fail
      go_at_call 47
      refine (specVector_any b n2 d2 Y _ hn2 (h2.below B1 (Nat.le_refl _))).mono ?_
      rintro e w2 ⟨rfl, m2, rfl⟩
      have B2 := below_drewN B1 m2
      have y0 : (w1.drewN m2).cell? ⟨w.heap.size, 0, none⟩ = some (.int .i64 R) := x0
      clear x0 x1 x2 B1
      generalize w1.drewN m2 = w2 at B2 y0 ⊢
      cases hv2 : vecB n2 (vals Y) with
      | false =>
        clear hv hv2
        go_wp2_with fail
        go_ret2
        exact NumsNo.bel ⟨rfl, (by repeat first | (with_reducible exact B2) | (with_reducible refine Below.setCell ?_ (by first | exact Nat.le_refl _ | (simp; done) | (simp; omega) | omega) _) | (with_reducible refine Below.alloc ?_ (by first | exact Nat.le_refl _ | (simp; done) | (simp; omega) | omega) _) | (with_reducible refine below_drewN ?_ _) | (with_reducible refine Below.drew ?_))⟩
      | true =>
        by_cases hne : (n2 : Int) = R
        · have hd2 : ((n2 : Int) != R) = false := by simp [hne]
          go_wp2_with fail
          go_at_call 47
          refine (specVector_any b3 n3 d3 Wt _ hn3 (h3.below B2 (Nat.le_refl _))).mono ?_
          rintro e w3 ⟨rfl, m3, rfl⟩
          have B3 := below_drewN B2 m3
          clear B2 y0
          generalize w2.drewN m3 = w3 at B3 ⊢
          cases hv3 : vecB n3 (vals Wt) with
          | false =>
            clear hv hv2 hv3 hd2 hne
            go_wp2_with fail
            go_ret2
            exact NumsNo.bel ⟨rfl, (by repeat first | (with_reducible exact B3) | (with_reducible refine Below.setCell ?_ (by first | exact Nat.le_refl _ | (simp; done) | (simp; omega) | omega) _) | (with_reducible refine Below.alloc ?_ (by first | exact Nat.le_refl _ | (simp; done) | (simp; omega) | omega) _) | (with_reducible refine below_drewN ?_ _) | (with_reducible refine Below.drew ?_))⟩
          | true =>
            have hne3 : ((n3 : Int) != (n2 : Int)) = true := ne_len2 (fun e => by
              have h5 := HNO.out
              unfold wsTop mirB fitsB at h5
              rw [hv, hv2, hv3, hle, decide_eq_true hne, decide_eq_true (e.trans hne)] at h5
              cases h5)
            clear hv hv2 hv3 hd2 hne
            go_wp2_with fail
            go_ret2
            exact NumsNo.bel ⟨rfl, (by repeat first | (with_reducible exact B3) | (with_reducible refine Below.setCell ?_ (by first | exact Nat.le_refl _ | (simp; done) | (simp; omega) | omega) _) | (with_reducible refine Below.alloc ?_ (by first | exact Nat.le_refl _ | (simp; done) | (simp; omega) | omega) _) | (with_reducible refine below_drewN ?_ _) | (with_reducible refine Below.drew ?_))⟩
        · have hd2 : ((n2 : Int) != R) = true := ne_lenL hne
          clear hv hv2 hne
          go_wp2_with fail
          go_ret2
          exact NumsNo.bel ⟨rfl, (by repeat first | (with_reducible exact B2) | (with_reducible refine Below.setCell ?_ (by first | exact Nat.le_refl _ | (simp; done) | (simp; omega) | omega) _) | (with_reducible refine Below.alloc ?_ (by first | exact Nat.le_refl _ | (simp; done) | (simp; omega) | omega) _) | (with_reducible refine below_drewN ?_ _) | (with_reducible refine Below.drew ?_))⟩
set_option maxRecDepth 20000 in
set_option maxHeartbeats 4000000 in
theorem specWs_yes (r c N p1 o1 d1 p2 o2 d2 p3 o3 d3 : Nat) (Z Y Wt : Nat → Nat) (w : World) (h1 : 1 ≤ r) (h12 : r ≤ 12) (c1 : 1 ≤ c) (c12 : c ≤ 12) (hcr : c ≤ r) (hn : N = r * c) (hv : validB r c N (vals Z) = true) (hf2 : fitsB r r (vals Y) = true) (hf3 : fitsB r r (vals Wt) = true)
    (h : FS .f32 w (some ⟨p1, o1, none⟩) N d1 Z) (h2 : FS .f32 w (some ⟨p2, o2, none⟩) r d2 Y) (h3 : FS .f32 w (some ⟨p3, o3, none⟩) r d3 Wt) :
    Calls Try.prog 22 #[.agg #[.int .i64 r, .int .i64 c, .slice (some ⟨p1, o1, none⟩) N d1], .slice (some ⟨p2, o2, none⟩) r d2, .slice (some ⟨p3, o3, none⟩) r d3] w (NBelIf (!anyLt (vals Wt) r && wsOk r c N (vals Z) (vals Y) (vals Wt)) c (wsV r c (vals Z) (vals Y) (vals Wt)) w) := by
  obtain ⟨i0, hi, hz0, hz1, hz2⟩ := info_parts info32
  have h144 : N ≤ 144 := by have := sides_le h12 c12; omega
  have hpos : 0 < N := by rw [hn]; exact Nat.mul_pos h1 c1
  have c0 : cn .f32 0 = some 0 := by kernel_rfl
  have HN := Lib.hid hn
  have hv2 := (fits_nat hf2).2
  have hv3 := (fits_nat hf3).2
  have hd : decide ((r : Int) < (c : Int)) = false := decide_eq_false (by omega)
  have hd2 : decide (r < c) = false := decide_eq_false (by omega)
  have hne : ((r : Int) != (r : Int)) = false := by simp
  obtain ⟨ok, hok⟩ : ∃ ok, ok = (!anyLt (vals Wt) r && wsOk r c N (vals Z) (vals Y) (vals Wt)) := ⟨_, rfl⟩
  rw [← hok]
  have HK := Lib.hid hok
  obtain ⟨VV, hVV⟩ : ∃ VV, VV = wsV r c (vals Z) (vals Y) (vals Wt) := ⟨_, rfl⟩
  rw [← hVV]
  have HVV := Lib.hid hVV
  clear hok hn hf2 hf3 hVV
  go_enter Try.func22, Try.ntmps22
  go_wp2_with fail
  go_at_call 37
  refine (specIs_any _ r c _ N d1 Z _ (by omega) (Box.new _ _ _ _ _ _ _) (h.below (by repeat first | (with_reducible exact Below.refl _ _) | (with_reducible refine Below.setCell ?_ (by first | exact Nat.le_refl _ | (simp; done) | (simp; omega) | omega) _) | (with_reducible refine Below.alloc ?_ (by first | exact Nat.le_refl _ | (simp; done) | (simp; omega) | omega) _) | (with_reducible refine below_drewN ?_ _) | (with_reducible refine Below.drew ?_)) (Nat.le_refl _))).mono ?_
  rw [hv]
  rintro e w1 ⟨rfl, m1, hw1⟩
  have B1 : Below w.heap.size w w1 := by rw [hw1]; exact (by repeat first | (with_reducible exact Below.refl _ _) | (with_reducible refine Below.setCell ?_ (by first | exact Nat.le_refl _ | (simp; done) | (simp; omega) | omega) _) | (with_reducible refine Below.alloc ?_ (by first | exact Nat.le_refl _ | (simp; done) | (simp; omega) | omega) _) | (with_reducible refine below_drewN ?_ _) | (with_reducible refine Below.drew ?_))
  have l1 : w.heap.size < w1.heap.size := by rw [hw1]; simp [World.drewN]
  have XA : Box w1 w.heap.size r c (some ⟨p1, o1, none⟩) N d1 := by rw [hw1]; refine ⟨?_, ?_, ?_⟩ <;> simp [go_sem]
  clear hw1 hv
  obtain ⟨x0, x1, x2⟩ := XA
  go_wp2_with fail
  go_at_call 47
  refine (specVector_any _ r d2 Y _ (by omega) (h2.below B1 (Nat.le_refl _))).mono ?_
  rw [hv2]
  rintro e w2 ⟨rfl, m2, rfl⟩
  have B2 := below_drewN B1 m2
  have XA2 : Box (w1.drewN m2) w.heap.size r c (some ⟨p1, o1, none⟩) N d1 := ⟨x0, x1, x2⟩
  have l2 : w.heap.size < (w1.drewN m2).heap.size := l1
  clear x0 x1 x2 B1 l1 hv2
  generalize w1.drewN m2 = w2 at B2 XA2 l2 ⊢
  obtain ⟨x0, x1, x2⟩ := XA2
  go_wp2_with fail
  go_at_call 47
  refine (specVector_any _ r d3 Wt _ (by omega) (h3.below B2 (Nat.le_refl _))).mono ?_
  rw [hv3]
  rintro e w3 ⟨rfl, m3, rfl⟩
  have B3 := below_drewN B2 m3
  have XA3 : Box (w2.drewN m3) w.heap.size r c (some ⟨p1, o1, none⟩) N d1 := ⟨x0, x1, x2⟩
  have l3 : w.heap.size < (w2.drewN m3).heap.size := l2
  clear x0 x1 x2 B2 l2 hv3
  generalize w2.drewN m3 = w3 at B3 XA3 l3 ⊢
  go_wp2_with fail
  go_at_call 52
  refine (l02Own_any w.heap.size p1 o1 N d1 r c Z _ hpos h144 l3 XA3 (h.below B3 (Nat.le_refl _))).mono ?_
  rintro e w4 ⟨g1, q1, rfl, oM, b4⟩
  have B4 := B3.trans (b4.mono B3.size)
  have XA4 := XA3.below b4 l3
  have oM1 := oM.alone hpos
  obtain ⟨_, _, t1, t2, _, _⟩ := oM.cell hpos
  have s4 := b4.size
  clear hd hd2 hne b4 oM XA3
  have b5 : Below w4.heap.size w4 (w4.alloc (.cells #[.int .i64 r, .int .i64 c, .slice (some ⟨g1, 0, none⟩) N q1] 26)) := (by repeat first | (with_reducible exact Below.refl _ _) | (with_reducible refine Below.setCell ?_ (by first | exact Nat.le_refl _ | (simp; done) | (simp; omega) | omega) _) | (with_reducible refine Below.alloc ?_ (by first | exact Nat.le_refl _ | (simp; done) | (simp; omega) | omega) _) | (with_reducible refine below_drewN ?_ _) | (with_reducible refine Below.drew ?_))
  have XM := Box.new w4 26 r c (some ⟨g1, 0, none⟩) N q1
  have s5 : w4.heap.size < (w4.alloc (.cells #[.int .i64 r, .int .i64 c, .slice (some ⟨g1, 0, none⟩) N q1] 26)).heap.size := by simp
  go_upto_region 4 with (fail)
  generalize (w4.alloc (.cells #[.int .i64 r, .int .i64 c, .slice (some ⟨g1, 0, none⟩) N q1] 26)) = w5 at b5 XM s5 ⊢
  have B5 := B4.trans (b5.mono B4.size)
  have XA5 := XA4.below b5 (by omega)
  have oM5 := oM1.kept (below_grew b5) (fun q hq => by cases hq)
  obtain ⟨mb, hmb⟩ : ∃ mb, mb = w4.heap.size := ⟨_, rfl⟩
  rw [← hmb] at XM s5 ⊢
  have ng : mb ≠ g1 := by omega
  have nw : w.heap.size ≠ g1 := by omega
  have lg : g1 < w5.heap.size := by omega
  have lw : w.heap.size ≤ g1 := by omega
  have lA : w.heap.size < w5.heap.size := by omega
  clear hmb b5 oM1 t1 t2 s4 B3 B4 XA4 l3
  have hL := World.ownsRow_lit (base := w5.heap.size) (e := 41) (size := 1) w5 #[] 0 (by simp) (Nat.zero_le _) rfl
  have oL : Out2 w5 (w5.alloc (.cells #[] 41)) g1 g1 := (Out2.refl _ _ _).more (by repeat first | (with_reducible exact Below.refl _ _) | (with_reducible refine Below.setCell ?_ (by first | exact Nat.le_refl _ | (simp; done) | (simp; omega) | omega) _) | (with_reducible refine Below.alloc ?_ (by first | exact Nat.le_refl _ | (simp; done) | (simp; omega) | omega) _) | (with_reducible refine below_drewN ?_ _) | (with_reducible refine Below.drew ?_))
  have oM6 := oM5.kept (below_grew (show Below w5.heap.size w5 (w5.alloc (.cells #[] 41)) from (by repeat first | (with_reducible exact Below.refl _ _) | (with_reducible refine Below.setCell ?_ (by first | exact Nat.le_refl _ | (simp; done) | (simp; omega) | omega) _) | (with_reducible refine Below.alloc ?_ (by first | exact Nat.le_refl _ | (simp; done) | (simp; omega) | omega) _) | (with_reducible refine below_drewN ?_ _) | (with_reducible refine Below.drew ?_)))) (fun q hq => by cases hq)
  go_wp2
  go_loopw [9, 51] (fun v i wr => ∃ (k : Nat) (X : Nat → Nat) (xs : List Value), k ≤ r ∧ i = .int .i64 k ∧ GrowX w5 k (wsB (vals Y) (vals Wt)) wr v xs ∧ Own 41 .f32 g1 (g1 + 1) wr (some ⟨g1, 0, none⟩) N q1 X ∧ (∀ t, t < N → vals X t = if t < k * c then wsA c (vals Z) (vals Wt) t else vals Z t) ∧ Hid (anyLt (vals Wt) k = false) ∧ Out2 w5 wr g1 g1) (fun _ i _ => r - (intOf i).toNat)
  case atStart => exact ⟨0, Z, [], Nat.zero_le _, rfl, ⟨by simpa using hL, fun t ht => absurd ht (Nat.not_lt_zero _), _, _, rfl, Nat.le_refl _⟩, oM6, fun t _ => by rw [Nat.zero_mul, if_neg (Nat.not_lt_zero _)], Lib.hid rfl, oL⟩
  case round =>
    obtain ⟨k, X, xs, hk, rfl, hg, k1, v1, hlo, ho⟩ := hrel
    clear hL oL oM5 oM6
    have XMr := ho.box XM s5 ng ng
    have XAr := ho.box XA5 lA nw nw
    have hsr := ho.size
    obtain ⟨gr, cp, rfl, hgr⟩ := hg.shape
    by_cases hlt : k < r
    · have hdk : decide ((k : Int) < (r : Int)) = true := decide_eq_true (by omega)
      have Br := B5.trans (ho.bel (B := w.heap.size) lw lw B5.size)
      obtain ⟨pb, po, ea, hbl, hcw, hfvw⟩ := (h3.below Br (Nat.le_refl _)).at hlt
      simp only [Option.some.injEq, Addr.mk.injEq, and_true] at ea
      obtain ⟨rfl, rfl⟩ := ea
      have fw : FV .f32 (Wt k) (vals Wt k) := hfvw
      have HO := Lib.hid ho
      have HK1 := Lib.hid k1
      have HG := Lib.hid hg
      have HV1 := Lib.hid v1
      have hcw0 : cn .f32 (Wt k) = vals Wt k := rfl
      clear k1 v1 ho hg
      cases hlb : ltB (vals Wt k) with
      | true =>
        have hno : ok = false := by rw [HK.out, anyLt_at hlt hlb]; rfl
        have HNO := Lib.hid hno
        have hlb2 : (ford .f32 (vals Wt k) (some 0) == some .lt) = true := hlb
        have BrH := Lib.hid Br
        clear hlb hno
        generalize hxw : Wt k = xw at hcw fw hcw0
        generalize vals Wt k = xv at fw hcw0 hlb2
        clear XMr XAr hxw
        go_wp2_with fail
        go_ret2
        exact NBelIf.no HNO.out (NumsNo.bel ⟨rfl, (by repeat first | (with_reducible exact BrH.out) | (with_reducible refine Below.setCell ?_ (by first | exact Nat.le_refl _ | (simp; done) | (simp; omega) | omega) _) | (with_reducible refine Below.alloc ?_ (by first | exact Nat.le_refl _ | (simp; done) | (simp; omega) | omega) _) | (with_reducible refine below_drewN ?_ _) | (with_reducible refine Below.drew ?_))⟩)
      | false =>
        have HLO : Hid (anyLt (vals Wt) (k + 1) = false) := Lib.hid (by show (anyLt (vals Wt) k || ltB (vals Wt k)) = false; rw [hlo.out, hlb]; rfl)
        have hlb2 : (ford .f32 (vals Wt k) (some 0) == some .lt) = false := hlb
        obtain ⟨pb2, po2, ea, hbl2, hcy, hfvy⟩ := (h2.below Br (Nat.le_refl _)).at hlt
        simp only [Option.some.injEq, Addr.mk.injEq, and_true] at ea
        obtain ⟨rfl, rfl⟩ := ea
        have fy : FV .f32 (Y k) (vals Y k) := hfvy
        obtain ⟨F, hF⟩ : ∃ F, F = rtN (vals Wt k) := ⟨_, rfl⟩
        have hFF : ∀ x, FV .f32 x (narrow (fsqrt (widen (vals Wt k)))) → FV .f32 x F := fun x hx => FV.of_eq hx hF.symm
        have hYF : ∀ x, FV .f32 x (fop .mul .f32 F (vals Y k)) → FV .f32 x (wsB (vals Y) (vals Wt) k) := fun x hx => FV.of_eq hx (by rw [fmul_comm, hF]; rfl)
        have HF := Lib.hid hF
        have HFZ := Lib.hid (h.below Br (Nat.le_refl _))
        have BrH := Lib.hid Br
        clear hlb hlo hF hbl hbl2 hfvw hfvy Br
        generalize hxw : Wt k = xw at hcw fw hcw0
        generalize hyw : Y k = yw at hcy fy
        generalize vals Wt k = xv at fw hcw0 hlb2 hFF
        generalize vals Y k = yv at fy hYF
        clear hxw hyw
        go_wp2_with fail
        go_at_call 53
        refine (specRoot_any _ fw _).mono ?_
        rintro e w8' ⟨rh, rfl, hrh0, mh, rfl⟩
        have hrh := hFF _ hrh0
        have hcy8 : (wr.drewN mh).cell? ⟨p2, o2 + k, none⟩ = some (.float .f32 yw) := hcy
        have b8 : Below wr.heap.size wr (wr.drewN mh) := below_drewN (Below.refl _ _) mh
        clear hFF hrh0 hcw hcw0 hlb2 hcy fw
        have s8 : wr.heap.size ≤ (wr.drewN mh).heap.size := Nat.le_refl _
        have XM8 : Box (wr.drewN mh) mb r c (some ⟨g1, 0, none⟩) N q1 := XMr
        have XA8 : Box (wr.drewN mh) w.heap.size r c (some ⟨p1, o1, none⟩) N d1 := XAr
        generalize wr.drewN mh = w8 at hcy8 b8 s8 XM8 XA8 ⊢
        clear XMr XAr
        have hrow := (GrowX.below HG.out b8).own
        go_wp2_with (first
          | (refine wpList_farith rfl _ _ _ _ _ rfl rfl _ _ _ rfl rfl hrh fy ?_; intro r6 m6 hr6)
          | (at_builtin
             refine wpList_append_lies _ rfl _ _ _ rfl w5.heap.size 41 i0 _ 1 4 Try.underlying22 hi hz0 hz1 hz2 rfl (by omega) (.slice (some ⟨gr, 0, none⟩) k cp) k xs rfl (by exact ownsRow_below hrow (by repeat first | (with_reducible exact Below.refl _ _) | (with_reducible refine Below.setCell ?_ (by first | exact Nat.le_refl _ | (simp; done) | (simp; omega) | omega) _) | (with_reducible refine Below.alloc ?_ (by first | exact Nat.le_refl _ | (simp; done) | (simp; omega) | omega) _) | (with_reducible refine below_drewN ?_ _) | (with_reducible refine Below.drew ?_))) ⟨w8.heap.size, 0, none⟩ 1 1 [.float .f32 r6] rfl rfl
                    (by exact World.news_of_block (cs := #[.float .f32 r6]) (t := 41) (fr := (0, 0)) (heap_alloc_new _ _)) (by simp [Value.oneCell']) (by omega) (by unfold maxLen; omega) (by omega) (by simp; omega) (w8.heap.size + 1) (by simp) ?_
             intro gg cp2 w9 hown2 hgrow2 hat2 hlt3
             have hneg : gr ≠ g1 := by omega
             have D9 : Out2 w5 w9 g1 g1 := HO.out.append (by repeat first | (with_reducible exact b8) | (with_reducible refine Below.setCell ?_ (by first | exact Nat.le_refl _ | (simp; done) | (simp; omega) | omega) _) | (with_reducible refine Below.alloc ?_ (by first | exact Nat.le_refl _ | (simp; done) | (simp; omega) | omega) _) | (with_reducible refine below_drewN ?_ _) | (with_reducible refine Below.drew ?_)) hgrow2 (gb := gr) rfl hgr
             have K19 : Own 41 .f32 g1 (g1 + 1) w9 (some ⟨g1, 0, none⟩) N q1 X := (HK1.out.kept (below_grew (show Below wr.heap.size wr _ from (by repeat first | (with_reducible exact b8) | (with_reducible refine Below.setCell ?_ (by first | exact Nat.le_refl _ | (simp; done) | (simp; omega) | omega) _) | (with_reducible refine Below.alloc ?_ (by first | exact Nat.le_refl _ | (simp; done) | (simp; omega) | omega) _) | (with_reducible refine below_drewN ?_ _) | (with_reducible refine Below.drew ?_)))) (fun q hq => by cases hq)).kept hgrow2 (fun q hq => by simp only [Value.ownBlock, Option.some.injEq] at hq; omega)
             have G9 := Lib.hid (HG.out.step hown2 (hYF _ hr6))
             clear hown2 hgrow2 hat2 hlt3))
        have XM9 := D9.box XM s5 ng ng
        have XA9 := D9.box XA5 lA nw nw
        have s9 := D9.size
        have BW9 := B5.trans (D9.bel (B := w.heap.size) lw lw B5.size)
        have HD9 := Lib.hid D9
        obtain ⟨kc, hkc⟩ : ∃ kc, kc = k * c := ⟨_, rfl⟩
        have hkN : kc + c ≤ N := by
          have e1 : (k + 1) * c ≤ r * c := Nat.mul_le_mul_right c hlt
          rw [Nat.succ_mul] at e1
          rw [hkc, HN.out]; exact e1
        have hw1 : IntKind.i64.wrap ((k : Int) * (c : Int)) = (kc : Int) := by rw [hkc, ← Int.natCast_mul]; exact IntWalk.i64_in _ (by omega)
        have HKC := Lib.hid hkc
        have hzx : ∀ j, j < c → vals X (kc + j) = vals Z (kc + j) := fun j hj => by rw [HV1.out (kc + j) (by omega), if_neg (by rw [hkc]; omega)]
        have HZX := Lib.hid hzx
        have HHZ := Lib.hid (h.below BW9 (Nat.le_refl _))
        clear HFZ HO HK1 HG hkc hzx D9 BrH XM8 XA8 hcy8 b8 s8 fy hYF hrow
        go_wp2
        go_loopw [12] (fun i wr => ∃ (j : Nat) (X2 : Nat → Nat), j ≤ c ∧ i = .int .i64 j ∧ Own 41 .f32 g1 (g1 + 1) wr (some ⟨g1, 0, none⟩) N q1 X2 ∧ (∀ t, t < N → vals X2 t = mlS F kc (vals X) j t) ∧ w9.grownBy wr (some g1)) (fun i _ => c - (intOf i).toNat)
        case atStart => exact ⟨0, X, Nat.zero_le _, rfl, K19, fun t _ => mlS_zero.symm, World.grownBy.refl _ _⟩
        case round =>
          obtain ⟨j, X2, hj, rfl, k3, v3, g3⟩ := hrel
          clear K19
          have OX := Out2.left (Out2.refl w9 g1 g1) g3
          obtain ⟨x0, x1, x2⟩ := OX.box XA9 (by omega) nw nw
          by_cases hlj : j < c
          · have hdj : decide ((j : Int) < (c : Int)) = true := decide_eq_true (by omega)
            obtain ⟨y0, y1, y2⟩ := OX.box XM9 (by omega) ng ng
            have hpj : kc + j < N := by omega
            obtain ⟨pb, po, ea, hbl, hcz, hfz⟩ := (h.below (BW9.trans (OX.bel (B := w.heap.size) lw lw BW9.size)) (Nat.le_refl _)).at hpj
            simp only [Option.some.injEq, Addr.mk.injEq, and_true] at ea
            obtain ⟨rfl, rfl⟩ := ea
            have fz : FV .f32 (Z (kc + j)) (vals Z (kc + j)) := hfz
            have HP : Hid (∀ u, FV .f32 u (fop .mul .f32 F (vals Z (kc + j))) → ∀ t, t < N → vals (fun t => if t = kc + j then u else X2 t) t = mlS F kc (vals X) (j + 1) t) := Lib.hid fun u hu => mlS_put v3 (FV.of_eq hu (by rw [fmul_comm, HZX.out j hlj]))
            have hw2 : IntKind.i64.wrap ((kc : Int) + (j : Int)) = ((kc + j : Nat) : Int) := by rw [← Int.natCast_add]; exact IntWalk.i64_in _ (by omega)
            obtain ⟨_, hfr, _, _, _, _⟩ := k3.cell hpj
            have HK3 := Lib.hid k3
            have HG3 := Lib.hid g3
            generalize hzz : Z (kc + j) = zz at hcz fz
            generalize vals Z (kc + j) = zv at fz HP
            clear k3 v3 g3 hbl hfz hzz OX hfr
            generalize kc + j = J at hpj hcz hw2 HP
            go_wp2
            refine wp_region_kinds (fun w' => ∃ m, w' = wr.drewN m) (fun i => if i = 9 then 1 else 0) 11 ⟨1, rfl⟩ (by kernel_rfl) (by kernel_rfl) (by kernel_rfl) ?_
            simp only [List.take_succ_cons, List.take_zero, List.drop_succ_cons, List.drop_zero]
            ((with_reducible refine wpKinds_plain ?hwant ?hkind ?hplain (fun K hK => ?_)); (case hwant => first | (simp [Region.wanted, yielded]; done) | rfl); (case hkind => rfl); (case hplain => rfl); go_big_quiet_op; (first | refine hK _ ?_ | refine ⟨_, fun _ _ => rfl, hK _ ?_⟩); clear hK K)
            (refine wpKinds_run (.slice (some ⟨g1, 0, none⟩) N q1) rfl rfl (by rintro W ⟨m, rfl⟩; simp [go_sem, y2]) ?_; simp only [Act.put, List.setIfInBounds_toArray, List.set_cons_succ, List.set_cons_zero])
            ((with_reducible refine wpKinds_plain ?hwant ?hkind ?hplain (fun K hK => ?_)); (case hwant => first | (simp [Region.wanted, yielded]; done) | rfl); (case hkind => rfl); (case hplain => rfl); go_big_quiet_op; (first | refine hK _ ?_ | refine ⟨_, fun _ _ => rfl, hK _ ?_⟩); clear hK K)
            ((with_reducible refine wpKinds_plain ?hwant ?hkind ?hplain (fun K hK => ?_)); (case hwant => first | (simp [Region.wanted, yielded]; done) | rfl); (case hkind => rfl); (case hplain => rfl); go_big_quiet_op; (first | refine hK _ ?_ | refine ⟨_, fun _ _ => rfl, hK _ ?_⟩); clear hK K)
            ((with_reducible refine wpKinds_plain ?hwant ?hkind ?hplain (fun K hK => ?_)); (case hwant => first | (simp [Region.wanted, yielded]; done) | rfl); (case hkind => rfl); (case hplain => rfl); go_big_quiet_op; (first | refine hK _ ?_ | refine ⟨_, fun _ _ => rfl, hK _ ?_⟩); clear hK K)
            (refine wpKinds_run (.slice (some ⟨p1, o1, none⟩) N d1) rfl rfl (by rintro W ⟨m, rfl⟩; simp [go_sem, x2]) ?_; simp only [Act.put, List.setIfInBounds_toArray, List.set_cons_succ, List.set_cons_zero])
            ((with_reducible refine wpKinds_plain ?hwant ?hkind ?hplain (fun K hK => ?_)); (case hwant => first | (simp [Region.wanted, yielded]; done) | rfl); (case hkind => rfl); (case hplain => rfl); go_big_quiet_op; (first | refine hK _ ?_ | refine ⟨_, fun _ _ => rfl, hK _ ?_⟩); clear hK K)
            (refine wpKinds_run (.pointer (some ⟨p1, o1 + J, none⟩)) rfl rfl (by rintro W ⟨m, rfl⟩; simp [go_sem, hpj]) ?_; simp only [Act.put, List.setIfInBounds_toArray, List.set_cons_succ, List.set_cons_zero])
            (refine wpKinds_run (.float .f32 zz) rfl rfl (by rintro W ⟨m, rfl⟩; simp [go_sem, hcz]) ?_; simp only [Act.put, List.setIfInBounds_toArray, List.set_cons_succ, List.set_cons_zero])
            refine wpKinds_farith (fun W m hW => by obtain ⟨x, rfl⟩ := hW; exact ⟨x + m, drewN_two⟩) rfl rfl _ _ _ _ _ rfl rfl _ _ _ rfl rfl hrh fz (fun r7 hr7 => ?_)
            simp only [Act.put, List.setIfInBounds_toArray, List.set_cons_succ, List.set_cons_zero]
            (refine wpKinds_run (.pointer (some ⟨g1, J, none⟩)) rfl rfl (by rintro W ⟨m, rfl⟩; simp [go_sem, hpj]) ?_; simp only [Act.put, List.setIfInBounds_toArray, List.set_cons_succ, List.set_cons_zero])
            refine wpKinds_nil ?_
            rintro w12' ⟨m12, rfl⟩
            obtain ⟨O5, G5⟩ := (show Own 41 .f32 g1 (g1 + 1) (wr.drewN m12) (some ⟨g1, 0, none⟩) N q1 X2 from HK3.out).stored hpj hr7.2
            obtain ⟨ce2, fr2, _, _, _, _⟩ := (show Own 41 .f32 g1 (g1 + 1) (wr.drewN m12) (some ⟨g1, 0, none⟩) N q1 X2 from HK3.out).cell hpj
            have HG5 : Hid (w9.grownBy ((wr.drewN m12).setCell ⟨g1, J, none⟩ (.float .f32 r7)) (some g1)) := Lib.hid (grownBy_trans HG3.out ⟨G5.os, G5.tape, G5.output, G5.size, G5.block⟩)
            have HK5 := Lib.hid O5
            have HV7 := Lib.hid (HP.out r7 hr7)
            clear O5 G5 HP
            go_wp2
            go_roundw
            case rel => exact ⟨j + 1, _, by omega, by go_num, HK5.out, HV7.out, HG5.out⟩
            case measure => simp [intOf]; omega
          · obtain rfl : j = c := by omega
            have hdj : decide ((j : Int) < (j : Int)) = false := decide_eq_false (by omega)
            have K1N := Lib.hid k3
            have GN := Lib.hid (G9.out.kept g3 lg)
            have HON := Lib.hid (HD9.out.left g3)
            have HVN : Hid (∀ t, t < N → vals X2 t = if t < (k + 1) * j then wsA j (vals Z) (vals Wt) t else vals Z t) := Lib.hid fun t ht => by
              rw [v3 t ht, HF.out, HKC.out]
              exact ws_row c1 HV1.out ht
            clear k3 v3 g3 OX
            go_wp2
            go_roundw
            case rel => exact ⟨k + 1, X2, _, by omega, by go_num, GN.out, K1N.out, HVN.out, HLO, HON.out⟩
            case measure => simp [intOf]; omega
    · obtain rfl : k = r := by omega
      have hdk : decide ((k : Int) < (k : Int)) = false := decide_eq_false (by omega)
      have BW := Lib.hid (B5.trans (ho.bel (B := w.heap.size) lw lw B5.size))
      have hvX : ∀ t, t < N → vals X t = wsA c (vals Z) (vals Wt) t := fun t ht => by rw [v1 t ht, if_pos (by rw [← HN.out]; exact ht)]
      obtain ⟨S, fS, hvS⟩ := GrowX.fs (by omega) hg
      have fX := k1.fs
      have hvb : validB k c N (vals X) = allFin (wsA c (vals Z) (vals Wt)) N := (validB_nat h1 h12 c1 c12 HN.out).trans (allFin_congr hvX)
      have hvs : allFin (vals S) k = allFin (wsB (vals Y) (vals Wt)) k := allFin_congr hvS
      have lm : mb < wr.heap.size := by omega
      obtain ⟨y0, y1, y2⟩ := XMr
      have XM1 : Box wr mb k c (some ⟨g1, 0, none⟩) N q1 := ⟨y0, y1, y2⟩
      clear k1 v1 ho hg XAr
      cases hfa : allFin (wsA c (vals Z) (vals Wt)) N with
      | false =>
        have hno : ok = false := by rw [HK.out]; unfold wsOk; rw [hfa]; simp
        have HNO := Lib.hid hno
        rw [hfa] at hvb
        clear hno hvX hvS hvs hfa fS
        go_wp2_with fail
        go_at_call 37
        refine (specIs_any mb k c _ N q1 X _ (by omega) XM1 fX).mono ?_
        rw [hvb]
        rintro e w8 ⟨rfl, m8, rfl⟩
        go_wp2_with fail
        go_ret2
        exact NBelIf.no HNO.out (NumsNo.bel ⟨rfl, below_drewN BW.out _⟩)
      | true =>
        rw [hfa] at hvb
        cases hfs : allFin (wsB (vals Y) (vals Wt)) k with
        | false =>
          have hno : ok = false := by rw [HK.out]; unfold wsOk; rw [hfs]; simp
          have HNO := Lib.hid hno
          rw [hfs] at hvs
          clear hno hvX hvS hfa hfs
          go_wp2_with fail
          go_at_call 37
          refine (specIs_any mb k c _ N q1 X _ (by omega) XM1 fX).mono ?_
          rw [hvb]
          rintro e w8 ⟨rfl, m8, rfl⟩
          go_wp2_with fail
          go_at_call 54
          refine (specFin_any _ k cp S _ (by omega) (FS.drewN fS)).mono ?_
          rw [hvs]
          rintro e w9 ⟨rfl, m9, rfl⟩
          go_wp2_with fail
          go_ret2
          exact NBelIf.no HNO.out (NumsNo.bel ⟨rfl, below_drewN BW.out _⟩)
        | true =>
          have fX' := fX.sameL (same_datL fX hvX hfa)
          have fS' := fS.sameL (same_datL fS hvS hfs)
          have hq : (mirOk k c (mirP k c (datL (wsA c (vals Z) (vals Wt)))) && lqU k c (gsC k c (mirP k c (datL (wsA c (vals Z) (vals Wt)))) c) (vals (datL (wsB (vals Y) (vals Wt))))) = ok := by
            have e1 : fitsB (k : Int) k (vals (datL (wsB (vals Y) (vals Wt)))) = true := by
              unfold fitsB
              rw [decide_eq_true rfl, vec_of h1 h12, allFin_congr (vals_datL fS hvS hfs), hfs]
              rfl
            rw [HK.out, hlo.out]; unfold wsOk lqOk
            rw [hfa, hfs, decide_eq_true hcr, e1]
            rfl
          have hcall := fun W (hW : Box W mb k c (some ⟨g1, 0, none⟩) N q1) (hl : mb < W.heap.size) hf1 hf2 => l03Least_any mb k c N (c * c) g1 0 q1 gr 0 cp (datL (wsA c (vals Z) (vals Wt))) (datL (wsB (vals Y) (vals Wt))) W h1 h12 c1 c12 HN.out rfl hl hW hf1 hf2
          rw [hq] at hcall
          rw [hfs] at hvs
          have FX := Lib.hid fX'
          have FSS := Lib.hid fS'
          have HC : Hid (∀ W, Box W mb k c (some ⟨g1, 0, none⟩) N q1 → mb < W.heap.size → FS .f32 W (some ⟨g1, 0, none⟩) N q1 (datL (wsA c (vals Z) (vals Wt))) → FS .f32 W (some ⟨gr, 0, none⟩) k cp (datL (wsB (vals Y) (vals Wt))) → Calls Try.prog 48 #[.pointer (some ⟨mb, 0, none⟩), .slice (some ⟨gr, 0, none⟩) k cp] W (NBelIf ok c VV W)) := Lib.hid (by rw [HVV.out]; exact hcall)
          clear hq hcall fX' fS' hvX hvS hfa hfs
          go_wp2_with fail
          go_at_call 37
          refine (specIs_any mb k c _ N q1 X _ (by omega) XM1 fX).mono ?_
          rw [hvb]
          rintro e w8 ⟨rfl, m8, rfl⟩
          go_wp2_with fail
          go_at_call 54
          refine (specFin_any _ k cp S _ (by omega) (FS.drewN fS)).mono ?_
          rw [hvs]
          rintro e w9 ⟨rfl, m9, rfl⟩
          have B9 := Lib.hid (below_drewN (below_drewN BW.out m8) m9)
          have C9 : Calls Try.prog 48 #[.pointer (some ⟨mb, 0, none⟩), .slice (some ⟨gr, 0, none⟩) k cp] ((wr.drewN m8).drewN m9) (NBelIf ok c VV ((wr.drewN m8).drewN m9)) := HC.out _ XM1 lm FX.out FSS.out
          clear HC fX fS XM1 y0 y1 y2
          generalize (wr.drewN m8).drewN m9 = w9 at B9 C9 ⊢
          go_wp2_with fail
          go_at_call 48
          refine C9.mono ?_
          intro e w10 hh
          obtain ⟨g', n', d', rfl⟩ := hh.shape
          have HH := Lib.hid (hh.lift B9.out)
          clear hh C9
          go_wp2_with fail
          go_ret2
          exact HH.out
theorem keyWeighedSquares (R C : Int) (n : Nat) (Z : Nat → Nat) (n2 : Nat) (Y : Nat → Nat) (n3 : Nat) (Wt : Nat → Nat) (hn : n ≤ 1048576) (hm : n2 ≤ 1048576) (hm3 : n3 ≤ 1048576) : ∃ (ok : Bool) (n' : Nat) (V : Nat → Option Nat), n' ≤ 144 ∧
    (∀ a c b d b3 d3 W, FS .f32 W a n c Z → FS .f32 W b n2 d Y → FS .f32 W b3 n3 d3 Wt → Calls Try.prog 22 #[.agg #[.int .i64 R, .int .i64 C, .slice a n c], .slice b n2 d, .slice b3 n3 d3] W (NumsBel ok n' V W)) ∧
    (∀ a c b d b3 d3 W, FS .f32 W a n c Z → FS .f32 W b n2 d Y → FS .f32 W b3 n3 d3 Wt → Calls Try.prog 23 #[.agg #[.int .i64 R, .int .i64 C, .slice a n c], .slice b n2 d, .slice b3 n3 d3] W (NumsOwn ok n' V W)) := by
  cases ht : (validB R C n (vals Z) && (fitsB R n2 (vals Y) && fitsB R n3 (vals Wt))) with
  | false =>
    have h1 : wsTop R C n (vals Z) n2 (vals Y) n3 (vals Wt) = false := by
      unfold wsTop mirB
      cases hd : decide (C ≤ R) with
      | false => simp
      | true => rw [Bool.and_true]; exact ht
    have h2 : wsIn R C n (vals Z) n2 (vals Y) n3 (vals Wt) = false := by
      unfold wsIn
      cases ha : validB R C n (vals Z) with
      | false => rfl
      | true =>
        rw [ha] at ht
        cases hb : fitsB R n2 (vals Y) with
        | false => rfl
        | true =>
          rw [hb] at ht
          cases hc : fitsB R n3 (vals Wt) with
          | false => rfl
          | true => rw [hc] at ht; cases ht
    exact ⟨false, 0, fun _ => none, by omega, fun a c b d b3 d3 W h h' h'' => specWs_no R C a b b3 n c n2 d n3 d3 Z Y Wt W hn hm hm3 h h' h'' h1, fun a c b d b3 d3 W h h' h'' => implWs_no R C a b b3 n c n2 d n3 d3 Z Y Wt W hn hm hm3 h h' h'' h2⟩
  | true =>
    simp only [Bool.and_eq_true] at ht
    obtain ⟨hv, hf2, hf3⟩ := ht
    obtain ⟨r, c, rfl, rfl, h1, h12, c1, c12, hN, _⟩ := valid_nat hv
    obtain ⟨e2, _⟩ := fits_nat hf2
    obtain ⟨e3, _⟩ := fits_nat hf3
    have h0 : 0 < n := by rw [hN]; exact Nat.mul_pos h1 c1
    cases hany : anyLt (vals Wt) n3 with
    | true =>
      have q2 : wsIn r c n (vals Z) n2 (vals Y) n3 (vals Wt) = false := by unfold wsIn; rw [hv, hf2, hf3, hany]; rfl
      refine ⟨false, 0, fun _ => none, by omega, fun a c' b d b3 d3 W h h' h'' => ?_, fun a c' b d b3 d3 W h h' h'' => implWs_no r c a b b3 n c' n2 d n3 d3 Z Y Wt W hn hm hm3 h h' h'' q2⟩
      by_cases hcr : c ≤ r
      · subst e2 e3
        obtain ⟨p, o, rfl, _⟩ := h.at h0
        obtain ⟨p2, o2, rfl, _⟩ := h'.at (show 0 < n3 by omega)
        obtain ⟨p3, o3, rfl, _⟩ := h''.at (show 0 < n3 by omega)
        have hh := specWs_yes n3 c n p o c' p2 o2 d p3 o3 d3 Z Y Wt W h1 h12 c1 c12 hcr hN hv hf2 hf3 h h' h''
        rw [hany] at hh
        exact hh
      · exact specWs_no r c a b b3 n c' n2 d n3 d3 Z Y Wt W hn hm hm3 h h' h'' (by unfold wsTop mirB; rw [decide_eq_false (show ¬ ((c : Int) ≤ (r : Int)) by omega)]; simp)
    | false =>
      have q2 : wsIn r c n (vals Z) n2 (vals Y) n3 (vals Wt) = true := by unfold wsIn; rw [hv, hf2, hf3, hany]; rfl
      subst e2
      subst e3
      have ki : ∀ a d b d2 b3 d3 W, FS .f32 W a n d Z → FS .f32 W b n3 d2 Y → FS .f32 W b3 n3 d3 Wt → Calls Try.prog 23 #[.agg #[.int .i64 n3, .int .i64 c, .slice a n d], .slice b n3 d2, .slice b3 n3 d3] W (NOwnIf (wsOk n3 c n (vals Z) (vals Y) (vals Wt)) c (wsV n3 c (vals Z) (vals Y) (vals Wt)) W) := fun a d b d2 b3 d3 W h h' h'' => by
        obtain ⟨p, o, rfl, _⟩ := h.at h0
        obtain ⟨p2, o2, rfl, _⟩ := h'.at (show 0 < n3 by omega)
        obtain ⟨p3, o3, rfl, _⟩ := h''.at (show 0 < n3 by omega)
        exact implWs_yes n3 c n p o d p2 o2 d2 p3 o3 d3 Z Y Wt W h1 h12 c1 c12 hN q2 h h' h''
      by_cases hcr : c ≤ n3
      · have ks : ∀ a d b d2 b3 d3 W, FS .f32 W a n d Z → FS .f32 W b n3 d2 Y → FS .f32 W b3 n3 d3 Wt → Calls Try.prog 22 #[.agg #[.int .i64 n3, .int .i64 c, .slice a n d], .slice b n3 d2, .slice b3 n3 d3] W (NBelIf (wsOk n3 c n (vals Z) (vals Y) (vals Wt)) c (wsV n3 c (vals Z) (vals Y) (vals Wt)) W) := fun a d b d2 b3 d3 W h h' h'' => by
          obtain ⟨p, o, rfl, _⟩ := h.at h0
          obtain ⟨p2, o2, rfl, _⟩ := h'.at (show 0 < n3 by omega)
          obtain ⟨p3, o3, rfl, _⟩ := h''.at (show 0 < n3 by omega)
          have hh := specWs_yes n3 c n p o d p2 o2 d2 p3 o3 d3 Z Y Wt W h1 h12 c1 c12 hcr hN hv hf2 hf3 h h' h''
          rw [hany] at hh
          exact hh
        cases hq : wsOk n3 c n (vals Z) (vals Y) (vals Wt) with
        | false =>
          rw [hq] at ki ks
          exact ⟨false, 0, fun _ => none, by omega, ks, ki⟩
        | true =>
          rw [hq] at ki ks
          exact ⟨true, c, _, by omega, ks, ki⟩
      · have hq : wsOk n3 c n (vals Z) (vals Y) (vals Wt) = false := by unfold wsOk; rw [decide_eq_false hcr]; rfl
        rw [hq] at ki
        exact ⟨false, 0, fun _ => none, by omega, fun a c' b d b3 d3 W h h' h'' => specWs_no n3 c a b b3 n c' n3 d n3 d3 Z Y Wt W hn hm hm3 h h' h'' (by unfold wsTop mirB; rw [decide_eq_false (show ¬ ((c : Int) ≤ (n3 : Int)) by omega)]; simp), ki⟩
end Go.Proofs.Ytcibjkadlndejaa
