/- Helper: what the square of a factor makes a list of, of the program. Conditions: none. -/
import Derived.Test.YtmddhhmgfhljiaaFactorKey
import Derived.Test.YtmddhhmgfhljiaaLow
import Derived.Test.YtmddhhmgfhljiaaWork
set_option linter.unusedVariables false
set_option linter.unusedSimpArgs false
namespace Go.Proofs.Ytmddhhmgfhljiaa
open Go.RowKit

theorem fits_natF {r n2 : Nat} {V : Nat → Option Nat} (h : fitsB (r : Int) n2 V = true) : n2 = r ∧ vecB n2 V = true := by
  unfold fitsB at h
  simp only [Bool.and_eq_true, decide_eq_true_eq] at h
  exact ⟨by omega, h.1⟩
theorem vec_ofF {n : Nat} {V : Nat → Option Nat} (h1 : 1 ≤ n) (h12 : n ≤ 12) : vecB n V = allFin V n := by
  unfold vecB
  rw [decide_eq_true h1, decide_eq_true (show n ≤ 256 by omega)]
  rfl
theorem NumsOwn.noF {w w' : World} {V : Nat → Option Nat} (h : Below w.heap.size w w') : NumsOwn false 0 V w (.returned (.tuple #[.slice none 0 0, .bool false])) w' :=
  ⟨none, 0, fun _ => 0, rfl, .inl ⟨rfl, rfl, rfl⟩, fun i hi => absurd hi (Nat.not_lt_zero _), h⟩
theorem ord_range {O : Nat → Int} {r t : Nat} (h : ordB O r = true) (ht : t < r) : ∃ k : Nat, O t = (k : Int) ∧ k < r := by
  unfold ordB at h
  simp only [Bool.and_eq_true] at h
  have hh := okTo_lt h.2.2 ht
  exact ⟨(O t).toNat, by omega, by omega⟩
/-- The list in the order of the pivots. -/
def ordV (O : Nat → Int) (V : Nat → Option Nat) (t : Nat) : Option Nat := V (O t).toNat
def solV (r : Nat) (A : Nat → Nat → Option Nat) (O : Nat → Int) (V : Nat → Option Nat) : Nat → Option Nat := upY A true r (lowY A false (ordV O V) r) r
def solOk (R C : Int) (n m n2 : Nat) (Z : Nat → Nat) (O : Nat → Int) (Y : Nat → Nat) : Bool := factorB R C n (vals Z) m O && (fitsB R n2 (vals Y) && allFin (solV n2 (sq n2 Z) O (vals Y)) n2)
set_option maxRecDepth 20000 in
set_option maxHeartbeats 2000000 in
theorem implSolve_no (R C : Int) (a : Option Addr) (n c : Nat) (Z : Nat → Nat) (b : Option Addr) (m d : Nat) (O : Nat → Int) (b2 : Option Addr) (n2 d2 : Nat) (Y : Nat → Nat) (w : World) (hn : n ≤ 1048576) (hm : m ≤ 1048576) (hn2 : n2 ≤ 1048576) (h : FS .f32 w a n c Z) (h2 : IS .i64 w b m d O) (h3 : FS .f32 w b2 n2 d2 Y)
    (ho : (factorB R C n (vals Z) m O && fitsB R n2 (vals Y)) = false) :
    Calls Try.prog 51 #[.agg #[.int .i64 R, .int .i64 C, .slice a n c, .slice b m d], .slice b2 n2 d2] w (NumsOwn false 0 (fun _ => none) w) := by
  cases hf : factorB R C n (vals Z) m O with
  | false =>
    go_enter Try.func51, Try.ntmps51
    go_wp2_with fail
    go_at_call 40
    refine (implFactor_any R C a n c Z b m d O _ hn hm (h.below (by repeat first | (with_reducible exact Below.refl _ _) | (with_reducible refine Below.setCell ?_ (by first | exact Nat.le_refl _ | (simp; done) | (simp; omega) | omega) _) | (with_reducible refine Below.alloc ?_ (by first | exact Nat.le_refl _ | (simp; done) | (simp; omega) | omega) _) | (with_reducible refine below_drewN ?_ _) | (with_reducible refine Below.drew ?_)) (Nat.le_refl _)) (h2.below (by repeat first | (with_reducible exact Below.refl _ _) | (with_reducible refine Below.setCell ?_ (by first | exact Nat.le_refl _ | (simp; done) | (simp; omega) | omega) _) | (with_reducible refine Below.alloc ?_ (by first | exact Nat.le_refl _ | (simp; done) | (simp; omega) | omega) _) | (with_reducible refine below_drewN ?_ _) | (with_reducible refine Below.drew ?_)) (Nat.le_refl _))).mono ?_
    rintro e w1 ⟨rfl, b1⟩
    rw [hf]
    have B1 : Below w.heap.size w w1 := Below.trans (by repeat first | (with_reducible exact Below.refl _ _) | (with_reducible refine Below.setCell ?_ (by first | exact Nat.le_refl _ | (simp; done) | (simp; omega) | omega) _) | (with_reducible refine Below.alloc ?_ (by first | exact Nat.le_refl _ | (simp; done) | (simp; omega) | omega) _) | (with_reducible refine below_drewN ?_ _) | (with_reducible refine Below.drew ?_)) (b1.mono (by simp))
    clear b1
    go_wp2_with fail
    go_ret2
    exact NumsOwn.noF B1
  | true =>
    have hft : fitsB R n2 (vals Y) = false := by rw [hf] at ho; simpa using ho
    go_enter Try.func51, Try.ntmps51
    go_wp2_with fail
    go_at_call 40
    refine (implFactor_any R C a n c Z b m d O _ hn hm (h.below (by repeat first | (with_reducible exact Below.refl _ _) | (with_reducible refine Below.setCell ?_ (by first | exact Nat.le_refl _ | (simp; done) | (simp; omega) | omega) _) | (with_reducible refine Below.alloc ?_ (by first | exact Nat.le_refl _ | (simp; done) | (simp; omega) | omega) _) | (with_reducible refine below_drewN ?_ _) | (with_reducible refine Below.drew ?_)) (Nat.le_refl _)) (h2.below (by repeat first | (with_reducible exact Below.refl _ _) | (with_reducible refine Below.setCell ?_ (by first | exact Nat.le_refl _ | (simp; done) | (simp; omega) | omega) _) | (with_reducible refine Below.alloc ?_ (by first | exact Nat.le_refl _ | (simp; done) | (simp; omega) | omega) _) | (with_reducible refine below_drewN ?_ _) | (with_reducible refine Below.drew ?_)) (Nat.le_refl _))).mono ?_
    rintro e w1 ⟨rfl, b1⟩
    rw [hf]
    have B1 : Below w.heap.size w w1 := Below.trans (by repeat first | (with_reducible exact Below.refl _ _) | (with_reducible refine Below.setCell ?_ (by first | exact Nat.le_refl _ | (simp; done) | (simp; omega) | omega) _) | (with_reducible refine Below.alloc ?_ (by first | exact Nat.le_refl _ | (simp; done) | (simp; omega) | omega) _) | (with_reducible refine below_drewN ?_ _) | (with_reducible refine Below.drew ?_)) (b1.mono (by simp))
    have s1 : w.heap.size < w1.heap.size := by have := b1.size; simp at this; omega
    have X1 : BoxL w1 w.heap.size [.int .i64 R, .int .i64 C, .slice a n c, .slice b m d] := BoxL.below (BoxL.four (by simp [go_sem]) (by simp [go_sem]) (by simp [go_sem]) (by simp [go_sem])) b1 (by simp)
    have x0 := X1 0 _ rfl
    have x1 := X1 1 _ rfl
    have x2 := X1 2 _ rfl
    clear b1 X1 hf ho
    go_wp2_with fail
    go_at_call 41
    refine (fitsRows_any R C a b2 n c n2 d2 Y _ hn2 (h3.below B1 (Nat.le_refl _))).mono ?_
    rintro e w2 ⟨rfl, b2'⟩
    rw [hft]
    have B2 := B1.trans (b2'.mono B1.size)
    clear b2' x0 x1 x2 B1
    go_wp2_with fail
    go_ret2
    exact NumsOwn.noF B2
set_option maxRecDepth 20000 in
set_option maxHeartbeats 4000000 in
theorem implSolve_yes (r n ba oa c bb ob d bc oc d2 : Nat) (Z : Nat → Nat) (O : Nat → Int) (Y : Nat → Nat) (w : World) (hf : factorB r r n (vals Z) r O = true) (hft : fitsB r r (vals Y) = true) (h : FS .f32 w (some ⟨ba, oa, none⟩) n c Z) (h2 : IS .i64 w (some ⟨bb, ob, none⟩) r d O) (h3 : FS .f32 w (some ⟨bc, oc, none⟩) r d2 Y) :
    Calls Try.prog 51 #[.agg #[.int .i64 (r : Int), .int .i64 (r : Int), .slice (some ⟨ba, oa, none⟩) n c, .slice (some ⟨bb, ob, none⟩) r d], .slice (some ⟨bc, oc, none⟩) r d2] w (NOwnIf (allFin (solV r (sq r Z) O (vals Y)) r) r (solV r (sq r Z) O (vals Y)) w) := by
  obtain ⟨r', e1, _, _, h1, h12, hN, _, _, hord, _⟩ := factor_nat hf
  have e2 : r = r' := by omega
  subst e2
  have HN := Lib.hid hN
  have hn144 : n ≤ 144 := by have := sides_le h12 h12; omega
  have hpos : 0 < n := by rw [hN]; exact Nat.mul_pos h1 h1
  clear hN e1
  obtain ⟨i0, hi, hz0, hz1, hz2⟩ := info_parts info32
  obtain ⟨VX, hVX⟩ : ∃ F, F = solV r (sq r Z) O (vals Y) := ⟨_, rfl⟩
  rw [← hVX]
  obtain ⟨OK, hOK⟩ : ∃ F, F = allFin VX r := ⟨_, rfl⟩
  rw [← hOK]
  have HVX := Lib.hid hVX
  have HOK := Lib.hid hOK
  clear hVX hOK
  go_enter Try.func51, Try.ntmps51
  go_wp2_with fail
  go_at_call 40
  refine (implFactor_any (r : Int) (r : Int) (some ⟨ba, oa, none⟩) n c Z (some ⟨bb, ob, none⟩) r d O _ (by omega) (by omega) (h.below (by repeat first | (with_reducible exact Below.refl _ _) | (with_reducible refine Below.setCell ?_ (by first | exact Nat.le_refl _ | (simp; done) | (simp; omega) | omega) _) | (with_reducible refine Below.alloc ?_ (by first | exact Nat.le_refl _ | (simp; done) | (simp; omega) | omega) _) | (with_reducible refine below_drewN ?_ _) | (with_reducible refine Below.drew ?_)) (Nat.le_refl _)) (h2.below (by repeat first | (with_reducible exact Below.refl _ _) | (with_reducible refine Below.setCell ?_ (by first | exact Nat.le_refl _ | (simp; done) | (simp; omega) | omega) _) | (with_reducible refine Below.alloc ?_ (by first | exact Nat.le_refl _ | (simp; done) | (simp; omega) | omega) _) | (with_reducible refine below_drewN ?_ _) | (with_reducible refine Below.drew ?_)) (Nat.le_refl _))).mono ?_
  rintro e w1 ⟨rfl, b1⟩
  rw [hf]
  have B1 : Below w.heap.size w w1 := Below.trans (by repeat first | (with_reducible exact Below.refl _ _) | (with_reducible refine Below.setCell ?_ (by first | exact Nat.le_refl _ | (simp; done) | (simp; omega) | omega) _) | (with_reducible refine Below.alloc ?_ (by first | exact Nat.le_refl _ | (simp; done) | (simp; omega) | omega) _) | (with_reducible refine below_drewN ?_ _) | (with_reducible refine Below.drew ?_)) (b1.mono (by simp))
  have s1 : w.heap.size < w1.heap.size := by have := b1.size; simp at this; omega
  have X1 : BoxL w1 w.heap.size [.int .i64 (r : Int), .int .i64 (r : Int), .slice (some ⟨ba, oa, none⟩) n c, .slice (some ⟨bb, ob, none⟩) r d] := BoxL.below (BoxL.four (by simp [go_sem]) (by simp [go_sem]) (by simp [go_sem]) (by simp [go_sem])) b1 (by simp)
  have x0 := X1 0 _ rfl
  have x1 := X1 1 _ rfl
  have x2 := X1 2 _ rfl
  clear b1 hf
  go_wp2_with fail
  go_at_call 41
  refine (fitsRows_any (r : Int) (r : Int) (some ⟨ba, oa, none⟩) (some ⟨bc, oc, none⟩) n c r d2 Y _ (by omega) (h3.below B1 (Nat.le_refl _))).mono ?_
  rintro e w2 ⟨rfl, b2'⟩
  rw [hft]
  have B2 := B1.trans (b2'.mono B1.size)
  have X2 := X1.below b2' s1
  have s2 : w.heap.size < w2.heap.size := Nat.lt_of_lt_of_le s1 b2'.size
  clear b2' x0 x1 x2 X1 B1 s1 hft
  go_wp2_with (at_make; refine wpList_make_full _ rfl _ _ 22 rfl w2.heap.size 44 i0 (.float .f32 0) 1 Try.underlying22 hi hz0 hz1 _ _ _ _ r rfl rfl rfl rfl ?b2 ?b3 (Nat.le_refl _) ?_)
  case b2 => rw [hz2]; omega
  case b3 => unfold maxLen; omega
  intro w0 hown0 hgrow0
  have hU := (hown0.lt w2.heap.size rfl).2
  have o0 := own_zero (w := w2) (U := w0.heap.size) hown0 (Nat.le_refl _) hU (Nat.le_refl _) (by unfold maxLen; omega)
  have b0 : Below w2.heap.size w2 w0 := (Below.refl _ _).grown hgrow0 (Nat.le_refl _) (fun k h => by cases h)
  clear hown0 hgrow0 hi hz0 hz1 hz2
  obtain ⟨g, hg⟩ : ∃ g, g = w2.heap.size := ⟨_, rfl⟩
  rw [← hg] at o0 hU ⊢
  have hgw : w.heap.size < g := by omega
  have hgE : w2.heap.size ≤ g := by omega
  clear hg
  have X0 := X2.below b0 s2
  have x3 := X0 3 _ rfl
  go_wp2
  clear x3 X0
  go_loopw [25] (fun i wr => ∃ (j : Nat) (X : Nat → Nat), j ≤ r ∧ i = .int .i64 j ∧ (∀ t, t < j → vals X t = ordV O (vals Y) t) ∧ Own 44 .f32 g w0.heap.size wr (some ⟨g, 0, none⟩) r r X ∧ Below w2.heap.size w2 wr) (fun i _ => r - (intOf i).toNat)
  case atStart => exact ⟨0, _, Nat.zero_le _, rfl, fun t ht => absurd ht (Nat.not_lt_zero _), o0, b0⟩
  case round =>
    obtain ⟨j, X, hj, rfl, hX, hk, hbw⟩ := hrel
    have HX := Lib.hid hX
    clear o0 b0 hX
    by_cases hlt : j < r
    · have hBw : Below w.heap.size w wr := B2.trans (hbw.mono B2.size)
      obtain ⟨k, hOk, hkr⟩ := ord_range hord hlt
      obtain ⟨b', off', e, hbl, hco, hwo⟩ := (h2.below hBw (Nat.le_refl _)).at hlt
      simp only [Option.some.injEq, Addr.mk.injEq, and_true] at e
      obtain ⟨rfl, rfl⟩ := e
      rw [hOk] at hco
      clear hbl hwo
      obtain ⟨b', off', e, hbl, hcy, hfy⟩ := (h3.below hBw (Nat.le_refl _)).at hkr
      simp only [Option.some.injEq, Addr.mk.injEq, and_true] at e
      obtain ⟨rfl, rfl⟩ := e
      clear hbl
      obtain ⟨cX, rX, _, _, hgU, wX⟩ := hk.cell hlt
      obtain ⟨hk2, gg⟩ := hk.stored (t := j) (v := Y k) hlt hfy.2
      have hbw2 : Below w2.heap.size w2 (wr.setCell ⟨g, j, none⟩ (.float .f32 (Y k))) := hbw.setCell hgE _
      have hX2 : ∀ t, t < j + 1 → vals (fun t => if t = j then Y k else X t) t = ordV O (vals Y) t := by
        intro t ht
        by_cases e : t = j
        · subst e
          show cn .f32 (if t = t then Y k else X t) = _
          rw [if_pos rfl]; unfold ordV; rw [hOk]; rfl
        · show cn .f32 (if t = j then Y k else X t) = _
          rw [if_neg e]; exact HX.out t (by omega)
      have hk' := Lib.hid hk2
      have hb' := Lib.hid hbw2
      have hX' := Lib.hid hX2
      clear hk2 hbw2 hX2 gg hk hbw hOk wX
      go_wp2_with fail
      go_roundw
      case rel => exact ⟨j + 1, _, by omega, by go_num, hX'.out, hk'.out, hb'.out⟩
      case measure => simp [intOf]; omega
    · obtain rfl : j = r := by omega
      have hBw : Below w.heap.size w wr := B2.trans (hbw.mono B2.size)
      have Xw := X2.below hbw s2
      have sw : w.heap.size < wr.heap.size := Nat.lt_of_lt_of_le s2 hbw.size
      have y0 := Xw 0 _ rfl
      have y1 := Xw 1 _ rfl
      have y2 := Xw 2 _ rfl
      have F1 := h.below hBw (Nat.le_refl _)
      obtain ⟨_, _, e, hba, _, _⟩ := h.at hpos
      simp only [Option.some.injEq, Addr.mk.injEq, and_true] at e
      obtain ⟨rfl, rfl⟩ := e
      have hne : ba ≠ g := by omega
      have HK := Lib.hid hk
      have HB := Lib.hid hbw
      clear hBw hbw hk
      go_wp2_with fail
      go_at_call 44
      refine (lowerSteps_any j n ba oa c g j g w0.heap.size false Z X _ h1 h12 HN.out F1 HK.out hne).mono ?_
      rintro e w3 ⟨rfl, X3, o3, hX3, g3⟩
      have b3 : Below w2.heap.size w2 w3 := HB.out.grown g3 HB.out.size (fun q hq => by cases hq; omega)
      have B3 := B2.trans (b3.mono B2.size)
      have Xw3 := X2.below b3 s2
      have z0 := Xw3 0 _ rfl
      have z1 := Xw3 1 _ rfl
      have z2 := Xw3 2 _ rfl
      have F3 := h.below B3 (Nat.le_refl _)
      have O3 := Lib.hid o3
      have HB3 := Lib.hid b3
      have HX3 := Lib.hid hX3
      clear g3 b3 o3 hX3 y0 y1 y2 Xw Xw3 F1 HK HB B3
      go_wp2_with fail
      go_at_call 45
      refine (upperSteps_any j n ba oa c g j g w0.heap.size true Z X3 _ h1 h12 HN.out F3 O3.out hne).mono ?_
      rintro e w4 ⟨rfl, X4, o4, hX4, g4⟩
      have b4 : Below w2.heap.size w2 w4 := HB3.out.grown g4 HB3.out.size (fun q hq => by cases hq; omega)
      have B4 := B2.trans (b4.mono B2.size)
      have hXV : ∀ t, t < j → vals X4 t = VX t := by
        intro t ht
        rw [hX4 t ht, HVX.out]
        unfold solV
        refine upY_congr (n := j) (fun i k _ _ => rfl) (fun i hi => ?_) (Nat.le_refl _) ht
        rw [HX3.out i hi]
        exact lowY_congr (n := j) (fun i k _ _ => rfl) (fun i hi => HX.out i hi) (Nat.le_refl _) hi
      have hvec : vecB j (vals X4) = OK := by rw [HOK.out]; exact (vec_ofF h1 h12).trans (allFin_congr hXV)
      have f4 := o4.fs
      have O4 := Lib.hid o4
      have HB4 := Lib.hid B4
      have HXV := Lib.hid hXV
      have s4 : w0.heap.size ≤ w4.heap.size := by
        obtain ⟨_, _, _, _, q, _⟩ := o4.cell (t := 0) (by omega)
        exact q
      clear g4 b4 o4 B4 hX4 hXV z0 z1 z2 F3 O3 HB3 HX3
      cases ha : OK with
      | true =>
        rw [ha] at hvec
        go_wp2_with fail
        go_at_call 46
        refine (vectorResult_yes _ j j X4 _ (by omega) f4 hvec).mono ?_
        rintro e w5 ⟨rfl, m5, rfl⟩
        go_wp2_with fail
        go_ret2
        exact NOwnIf.yes ha ⟨_, _, X4, rfl, Own.mono (U := w0.heap.size) (B := g) O4.out (by omega) s4 (Nat.le_refl _), HXV.out, below_drewN HB4.out _⟩
      | false =>
        rw [ha] at hvec
        go_wp2_with fail
        go_at_call 46
        refine (vectorResult_no _ j j X4 _ (by omega) f4 hvec).mono ?_
        rintro e w5 ⟨rfl, m5, rfl⟩
        go_wp2_with fail
        go_ret2
        exact NOwnIf.no ha (NumsOwn.noF (below_drewN HB4.out _))
end Go.Proofs.Ytmddhhmgfhljiaa
