/- Helper: the products of a square of shifts and a list, of the program and of its reference. Conditions: none. -/
import Derived.Test.YtpmilaemmdcfaaaRingMatrixKey
import Derived.Test.YtpmilaemmdcfaaaTimesKey
import Derived.Test.YtpmilaemmdcfaaaApart
set_option linter.unusedVariables false
set_option linter.unusedSimpArgs false
namespace Go.Proofs.Ytpmilaemmdcfaaa
open Go.RowKit

def stB (c m : Nat) (V W : Nat → Option Nat) : Bool := rowB c V && (rowB m W && decide (m = c))
theorem dotG_same {A A' B : Nat → Option Nat} : ∀ {n : Nat}, (∀ k, k < n → A k = A' k) → dotG A B n = dotG A' B n
  | 0, _ => rfl
  | n + 1, h => by simp only [dotG]; rw [dotG_same fun k hk => h k (by omega), h n (by omega)]
theorem tv_same {c n : Nat} {Z X Y : Nat → Nat} (hn : n = c * c) (h : ∀ t, t < n → vals X t = vals Z t) {i : Nat} (hi : i < c) : tv c X Y i = tv c Z Y i :=
  dotG_same fun k hk => h (i * c + k) (by rw [hn]; exact place_lt hi hk)
theorem row_vec {c : Nat} {V : Nat → Option Nat} (h : rowB c V = true) : vecB c V = true := by
  obtain ⟨h1, h2, h3⟩ := rowB_yes h
  rw [vec_len h1 (by omega)]; exact h3
theorem st_tm {c m n : Nat} {W X : Nat → Option Nat} (h1 : 1 ≤ c) (h2 : c ≤ 12) (h : (rowB m W && decide (m = c)) = false) : tmOk (c : Int) (c : Int) n m X W = false := by
  unfold tmOk
  cases hv : validB (c : Int) (c : Int) n X with
  | false => rfl
  | true =>
    by_cases e : m = c
    · subst e
      have hr : rowB m W = false := by simpa using h
      have : vecB m W = false := by
        rw [vec_len h1 (by omega)]
        unfold rowB at hr
        rw [sideB_yes (by omega) (by omega)] at hr
        exact hr
      rw [this]; rfl
    · rw [decide_eq_false (show ¬ (m : Int) = (c : Int) by omega)]; simp
set_option maxHeartbeats 1000000 in
theorem implShT_no (a b : Option Addr) (c d m e2 : Nat) (Z Y : Nat → Nat) (w : World) (hc : c ≤ 1048576) (hm : m ≤ 1048576) (h : FS .f32 w a c d Z) (h2 : FS .f32 w b m e2 Y) (ho : stB c m (vals Z) (vals Y) = false) :
    Calls Try.prog 26 #[.slice a c d, .slice b m e2] w (NumsOwn false 0 (fun _ => none) w) := by
  cases hr : rowB c (vals Z) with
  | false =>
    clear ho
    go_enter Try.func26, Try.ntmps26
    go_wp2_with fail
    go_at_call 24
    refine (implShift_any a c d Z _ _ _ _ _ _ (fun W h => squareShift_no a c d Z W hc hr h) h).mono ?_
    rintro e w1 ⟨g, q, X, rfl, o1, hV, b1⟩
    have s1 := b1.size
    go_wp2_with fail
    go_ret2
    exact NumsOwn.no (by repeat first | (with_reducible exact b1) | (with_reducible refine Below.setCell ?_ (by first | exact Nat.le_refl _ | (simp; done) | (simp; omega) | omega) _) | (with_reducible refine Below.alloc ?_ (by first | exact Nat.le_refl _ | (simp; done) | (simp; omega) | omega) _) | (with_reducible refine below_drewN ?_ _) | (with_reducible refine Below.drew ?_))
  | true =>
    obtain ⟨h1, h12, _⟩ := rowB_yes hr
    have hn144 := sides_le h12 h12
    have hm2 : (rowB m (vals Y) && decide (m = c)) = false := by unfold stB at ho; rw [hr] at ho; exact ho
    obtain ⟨b0, o0, rfl, _, _, _⟩ := h.at (show 0 < c by omega)
    obtain ⟨n, hn⟩ : ∃ n, n = c * c := ⟨_, rfl⟩
    rw [← hn] at hn144
    have HM := Lib.hid hm2
    have HN := Lib.hid hn
    clear ho hm2 hn
    go_enter Try.func26, Try.ntmps26
    go_wp2_with fail
    go_at_call 24
    refine (implShift_any _ c d Z _ _ _ _ _ _ (fun W h => squareShift_yes b0 o0 c d n Z W h1 h12 HN.out hr h) h).mono ?_
    rintro e w1 ⟨g, q, X, rfl, o1, hV, b1⟩
    have s1 := b1.size
    have FX := Lib.hid (Own.fs o1)
    have B1 := Lib.hid b1
    have HV := Lib.hid hV
    clear o1 b1 hV
    go_wp2_with fail
    go_at_call 47
    refine (implTimes_no (c : Int) (c : Int) g b n q m e2 X Y _ (by omega) hm (FX.out.below (by repeat first | (with_reducible exact Below.refl _ _) | (with_reducible refine Below.setCell ?_ (by first | exact Nat.le_refl _ | (simp; done) | (simp; omega) | omega) _) | (with_reducible refine Below.alloc ?_ (by first | exact Nat.le_refl _ | (simp; done) | (simp; omega) | omega) _) | (with_reducible refine below_drewN ?_ _) | (with_reducible refine Below.drew ?_)) (Nat.le_refl _)) (h2.below (by repeat first | (with_reducible exact B1.out) | (with_reducible refine Below.setCell ?_ (by first | exact Nat.le_refl _ | (simp; done) | (simp; omega) | omega) _) | (with_reducible refine Below.alloc ?_ (by first | exact Nat.le_refl _ | (simp; done) | (simp; omega) | omega) _) | (with_reducible refine below_drewN ?_ _) | (with_reducible refine Below.drew ?_)) (Nat.le_refl _)) (st_tm h1 h12 HM.out)).mono ?_
    rintro e w2 ⟨g2, q2, X2, rfl, o2, hV2, b2⟩
    have B2 : Below w.heap.size w w2 := Below.trans (by repeat first | (with_reducible exact B1.out) | (with_reducible refine Below.setCell ?_ (by first | exact Nat.le_refl _ | (simp; done) | (simp; omega) | omega) _) | (with_reducible refine Below.alloc ?_ (by first | exact Nat.le_refl _ | (simp; done) | (simp; omega) | omega) _) | (with_reducible refine below_drewN ?_ _) | (with_reducible refine Below.drew ?_)) (b2.mono (by simp; omega))
    have o3 := Own.mono (B' := w.heap.size) o2 (by simp; omega) (Nat.le_refl _) (Nat.le_refl _)
    clear o2 b2
    go_wp2_with fail
    go_ret2
    exact ⟨_, _, X2, rfl, o3, hV2, B2⟩
set_option maxHeartbeats 1000000 in
theorem implShT_yes (b0 o0 p2 o2 c d e2 n : Nat) (Z Y : Nat → Nat) (w : World) (OK : Bool) (VX : Nat → Option Nat) (h1 : 1 ≤ c) (h12 : c ≤ 12) (hn : n = c * c) (hr : rowB c (vals Z) = true) (hr2 : rowB c (vals Y) = true)
    (hVX : VX = tv c (byZ c Z shiftI) Y) (hOK : OK = allFin VX c) (h : FS .f32 w (some ⟨b0, o0, none⟩) c d Z) (h2 : FS .f32 w (some ⟨p2, o2, none⟩) c e2 Y) :
    Calls Try.prog 26 #[.slice (some ⟨b0, o0, none⟩) c d, .slice (some ⟨p2, o2, none⟩) c e2] w (NOwnIf OK c VX w) := by
  have hn144 := sides_le h12 h12
  rw [← hn] at hn144
  have hpos : 0 < n := by rw [hn]; exact Nat.mul_pos h1 h1
  have HN := Lib.hid hn
  have HVX := Lib.hid hVX
  have HOK := Lib.hid hOK
  have HR2 := Lib.hid (row_vec hr2)
  clear hn hVX hOK hr2
  go_enter Try.func26, Try.ntmps26
  go_wp2_with fail
  go_at_call 24
  refine (implShift_any _ c d Z _ _ _ _ _ _ (fun W h => squareShift_yes b0 o0 c d n Z W h1 h12 HN.out hr h) h).mono ?_
  rintro e w1 ⟨g, q, X, rfl, o1, hV, b1⟩
  have s1 := b1.size
  have fx := Own.fs o1
  obtain ⟨gb, go, rfl, _, _, _⟩ := fx.at hpos
  have hval : validB c c n (vals X) = true := by
    rw [validB_congr hV, validB_nat h1 h12 h1 h12 HN.out]
    exact byZ_fin HN.out (fun i k hi hk => shiftI_lt hi hk) (rowB_yes hr).2.2
  have FX := Lib.hid fx
  have B1 := Lib.hid b1
  have HV := Lib.hid hV
  have HVAL := Lib.hid hval
  clear o1 b1 hV fx hval hr
  go_wp2_with fail
  go_at_call 47
  refine (implTimes_yes c c n gb go q p2 o2 e2 X Y _ h1 h12 h1 h12 HN.out HVAL.out HR2.out (FX.out.below (by repeat first | (with_reducible exact Below.refl _ _) | (with_reducible refine Below.setCell ?_ (by first | exact Nat.le_refl _ | (simp; done) | (simp; omega) | omega) _) | (with_reducible refine Below.alloc ?_ (by first | exact Nat.le_refl _ | (simp; done) | (simp; omega) | omega) _) | (with_reducible refine below_drewN ?_ _) | (with_reducible refine Below.drew ?_)) (Nat.le_refl _)) (h2.below (by repeat first | (with_reducible exact B1.out) | (with_reducible refine Below.setCell ?_ (by first | exact Nat.le_refl _ | (simp; done) | (simp; omega) | omega) _) | (with_reducible refine Below.alloc ?_ (by first | exact Nat.le_refl _ | (simp; done) | (simp; omega) | omega) _) | (with_reducible refine below_drewN ?_ _) | (with_reducible refine Below.drew ?_)) (Nat.le_refl _))).mono ?_
  intro e w2 hh
  have hT : ∀ i, i < c → tv c X Y i = VX i := fun i hi => by rw [HVX.out]; exact tv_same HN.out HV.out hi
  have hA : allFin (tv c X Y) c = OK := by rw [HOK.out]; exact allFin_congr hT
  have HT := Lib.hid hT
  rw [hA] at hh
  clear hA hT
  cases OK with
  | true =>
    obtain ⟨g2, q2, X2, rfl, o2, hV2, b2⟩ := hh
    have B2 : Below w.heap.size w w2 := Below.trans (by repeat first | (with_reducible exact B1.out) | (with_reducible refine Below.setCell ?_ (by first | exact Nat.le_refl _ | (simp; done) | (simp; omega) | omega) _) | (with_reducible refine Below.alloc ?_ (by first | exact Nat.le_refl _ | (simp; done) | (simp; omega) | omega) _) | (with_reducible refine below_drewN ?_ _) | (with_reducible refine Below.drew ?_)) (b2.mono (by simp; omega))
    have o3 := Own.mono (B' := w.heap.size) o2 (by simp; omega) (Nat.le_refl _) (Nat.le_refl _)
    clear o2 b2
    go_wp2_with fail
    go_ret2
    exact ⟨_, _, X2, rfl, o3, fun i hi => (hV2 i hi).trans (HT.out i hi), B2⟩
  | false =>
    obtain ⟨g2, q2, X2, rfl, o2, hV2, b2⟩ := hh
    have B2 : Below w.heap.size w w2 := Below.trans (by repeat first | (with_reducible exact B1.out) | (with_reducible refine Below.setCell ?_ (by first | exact Nat.le_refl _ | (simp; done) | (simp; omega) | omega) _) | (with_reducible refine Below.alloc ?_ (by first | exact Nat.le_refl _ | (simp; done) | (simp; omega) | omega) _) | (with_reducible refine below_drewN ?_ _) | (with_reducible refine Below.drew ?_)) (b2.mono (by simp; omega))
    have o3 := Own.mono (B' := w.heap.size) o2 (by simp; omega) (Nat.le_refl _) (Nat.le_refl _)
    clear o2 b2
    go_wp2_with fail
    go_ret2
    exact ⟨_, _, X2, rfl, o3, hV2, B2⟩
set_option maxHeartbeats 1000000 in
theorem specShT_no (a b : Option Addr) (c d m e2 : Nat) (Z Y : Nat → Nat) (w : World) (hc : c ≤ 1048576) (hm : m ≤ 1048576) (h : FS .f32 w a c d Z) (h2 : FS .f32 w b m e2 Y) (ho : stB c m (vals Z) (vals Y) = false) :
    Calls Try.prog 25 #[.slice a c d, .slice b m e2] w (NumsBel false 0 (fun _ => none) w) := by
  have ka : ∀ W, FS .f32 W a c d Z → Calls Try.prog 39 #[.slice a c d] W fun e w' => e = .returned (.bool (rowB c (vals Z))) ∧ ∃ q, w' = W.drewN q := fun W h => specRow_any a c d Z W hc h
  have kb : ∀ W, FS .f32 W b m e2 Y → Calls Try.prog 39 #[.slice b m e2] W fun e w' => e = .returned (.bool (rowB m (vals Y))) ∧ ∃ q, w' = W.drewN q := fun W h => specRow_any b m e2 Y W hm h
  cases hr : rowB c (vals Z) with
  | false =>
    rw [hr] at ka
    clear ho
    go_enter Try.func25, Try.ntmps25
    go_wp2_with fail
    go_at_call 39
    refine (ka _ h).mono ?_
    rintro e w1 ⟨rfl, q, rfl⟩
    go_wp2_with fail
    go_ret2
    exact NumsBel.no (by repeat first | (with_reducible exact Below.refl _ _) | (with_reducible refine Below.setCell ?_ (by first | exact Nat.le_refl _ | (simp; done) | (simp; omega) | omega) _) | (with_reducible refine Below.alloc ?_ (by first | exact Nat.le_refl _ | (simp; done) | (simp; omega) | omega) _) | (with_reducible refine below_drewN ?_ _) | (with_reducible refine Below.drew ?_))
  | true =>
    rw [hr] at ka
    cases hr2 : rowB m (vals Y) with
    | false =>
      rw [hr2] at kb
      clear ho
      go_enter Try.func25, Try.ntmps25
      go_wp2_with fail
      go_at_call 39
      refine (ka _ h).mono ?_
      rintro e w1 ⟨rfl, q, rfl⟩
      go_wp2_with fail
      go_at_call 39
      refine (kb _ (FS.drewN h2)).mono ?_
      rintro e w2 ⟨rfl, q2, rfl⟩
      go_wp2_with fail
      go_ret2
      exact NumsBel.no (by repeat first | (with_reducible exact Below.refl _ _) | (with_reducible refine Below.setCell ?_ (by first | exact Nat.le_refl _ | (simp; done) | (simp; omega) | omega) _) | (with_reducible refine Below.alloc ?_ (by first | exact Nat.le_refl _ | (simp; done) | (simp; omega) | omega) _) | (with_reducible refine below_drewN ?_ _) | (with_reducible refine Below.drew ?_))
    | true =>
      rw [hr2] at kb
      have hne : ¬ m = c := by
        intro e
        unfold stB at ho
        rw [hr, hr2, decide_eq_true e] at ho
        cases ho
      have hd : ((c : Int) != (m : Int)) = true := by simp; omega
      have hne' := Lib.hid hne
      clear hne ho
      go_enter Try.func25, Try.ntmps25
      go_wp2_with fail
      go_at_call 39
      refine (ka _ h).mono ?_
      rintro e w1 ⟨rfl, q, rfl⟩
      go_wp2_with fail
      go_at_call 39
      refine (kb _ (FS.drewN h2)).mono ?_
      rintro e w2 ⟨rfl, q2, rfl⟩
      go_wp2_with fail
      go_ret2
      exact NumsBel.no (by repeat first | (with_reducible exact Below.refl _ _) | (with_reducible refine Below.setCell ?_ (by first | exact Nat.le_refl _ | (simp; done) | (simp; omega) | omega) _) | (with_reducible refine Below.alloc ?_ (by first | exact Nat.le_refl _ | (simp; done) | (simp; omega) | omega) _) | (with_reducible refine below_drewN ?_ _) | (with_reducible refine Below.drew ?_))
set_option maxHeartbeats 1000000 in
theorem specShT_yes (b0 o0 p2 o2 c d e2 n : Nat) (Z Y : Nat → Nat) (w : World) (OK : Bool) (VX : Nat → Option Nat) (h1 : 1 ≤ c) (h12 : c ≤ 12) (hn : n = c * c) (hr : rowB c (vals Z) = true) (hr2 : rowB c (vals Y) = true)
    (hVX : VX = tv c (byZ c Z shiftI) Y) (hOK : OK = allFin VX c) (h : FS .f32 w (some ⟨b0, o0, none⟩) c d Z) (h2 : FS .f32 w (some ⟨p2, o2, none⟩) c e2 Y) :
    Calls Try.prog 25 #[.slice (some ⟨b0, o0, none⟩) c d, .slice (some ⟨p2, o2, none⟩) c e2] w (NBelIf OK c VX w) := by
  have hn144 := sides_le h12 h12
  rw [← hn] at hn144
  have hpos : 0 < n := by rw [hn]; exact Nat.mul_pos h1 h1
  have hcm : c ≤ 1048576 := by omega
  have HN := Lib.hid hn
  have HVX := Lib.hid hVX
  have HOK := Lib.hid hOK
  have hd : ((c : Int) != (c : Int)) = false := by simp
  clear hn hVX hOK
  go_enter Try.func25, Try.ntmps25
  go_wp2_with fail
  go_at_call 39
  refine (specRow_any _ c d Z _ hcm h).mono ?_
  rintro e w1 ⟨rfl, q1, rfl⟩
  rw [hr]
  go_wp2_with fail
  go_at_call 39
  refine (specRow_any _ c e2 Y _ hcm (FS.drewN h2)).mono ?_
  rintro e w2 ⟨rfl, q2, rfl⟩
  rw [hr2]
  go_wp2_with fail
  go_at_call 44
  refine (l07Shift_any b0 o0 c d n Z _ h1 h12 HN.out (h.below (by repeat first | (with_reducible exact Below.refl _ _) | (with_reducible refine Below.setCell ?_ (by first | exact Nat.le_refl _ | (simp; done) | (simp; omega) | omega) _) | (with_reducible refine Below.alloc ?_ (by first | exact Nat.le_refl _ | (simp; done) | (simp; omega) | omega) _) | (with_reducible refine below_drewN ?_ _) | (with_reducible refine Below.drew ?_)) (Nat.le_refl _))).mono ?_
  rintro e w3 ⟨ga, q, X, rfl, fx, _, hV, b3⟩
  obtain ⟨gb, go, rfl, _, _, _⟩ := fx.at hpos
  have B3 : Below w.heap.size w w3 := Below.trans (by repeat first | (with_reducible exact Below.refl _ _) | (with_reducible refine Below.setCell ?_ (by first | exact Nat.le_refl _ | (simp; done) | (simp; omega) | omega) _) | (with_reducible refine Below.alloc ?_ (by first | exact Nat.le_refl _ | (simp; done) | (simp; omega) | omega) _) | (with_reducible refine below_drewN ?_ _) | (with_reducible refine Below.drew ?_)) (b3.mono (Nat.le_refl _))
  have s3 := B3.size
  have FX := Lib.hid fx
  have HB3 := Lib.hid B3
  have HV := Lib.hid hV
  clear b3 fx hV hr hr2 B3
  go_wp2_with fail
  go_at_call 46
  refine (l02Times_any _ c c n gb go q p2 o2 e2 X Y _ h1 h12 h1 h12 HN.out (by simp) (Box.new _ _ _ _ _ _ _) (FX.out.below (by repeat first | (with_reducible exact Below.refl _ _) | (with_reducible refine Below.setCell ?_ (by first | exact Nat.le_refl _ | (simp; done) | (simp; omega) | omega) _) | (with_reducible refine Below.alloc ?_ (by first | exact Nat.le_refl _ | (simp; done) | (simp; omega) | omega) _) | (with_reducible refine below_drewN ?_ _) | (with_reducible refine Below.drew ?_)) (Nat.le_refl _)) (h2.below (by repeat first | (with_reducible exact HB3.out) | (with_reducible refine Below.setCell ?_ (by first | exact Nat.le_refl _ | (simp; done) | (simp; omega) | omega) _) | (with_reducible refine Below.alloc ?_ (by first | exact Nat.le_refl _ | (simp; done) | (simp; omega) | omega) _) | (with_reducible refine below_drewN ?_ _) | (with_reducible refine Below.drew ?_)) (Nat.le_refl _))).mono ?_
  rintro e w4 ⟨ra, rc, XX, rfl, fX, hT, b4⟩
  have B4 : Below w.heap.size w w4 := Below.trans (by repeat first | (with_reducible exact HB3.out) | (with_reducible refine Below.setCell ?_ (by first | exact Nat.le_refl _ | (simp; done) | (simp; omega) | omega) _) | (with_reducible refine Below.alloc ?_ (by first | exact Nat.le_refl _ | (simp; done) | (simp; omega) | omega) _) | (with_reducible refine below_drewN ?_ _) | (with_reducible refine Below.drew ?_)) (b4.mono (by simp; omega))
  have hT2 : ∀ i, i < c → vals XX i = VX i := fun i hi => (hT i hi).trans (by rw [HVX.out]; exact tv_same HN.out HV.out hi)
  have hfin : allFin (vals XX) c = OK := by rw [HOK.out]; exact allFin_congr hT2
  have HT2 := Lib.hid hT2
  clear hT hT2 b4
  cases OK with
  | true =>
    go_wp2_with fail
    go_at_call 35
    refine (l02List_yes ra c rc XX _ hcm fX hfin).mono ?_
    rintro e w9 ⟨rfl, m9, rfl⟩
    go_wp2_with fail
    go_ret2
    exact ⟨_, _, XX, rfl, FS.drewN fX, HT2.out, below_drewN B4 _⟩
  | false =>
    go_wp2_with fail
    go_at_call 35
    refine (l02List_no ra c rc XX _ hcm fX hfin).mono ?_
    rintro e w9 ⟨rfl, m9, rfl⟩
    go_wp2_with fail
    go_ret2
    exact NumsBel.no (below_drewN B4 _)
theorem keyShiftTimes (c : Nat) (Z : Nat → Nat) (m : Nat) (Y : Nat → Nat) (hc : c ≤ 1048576) (hm : m ≤ 1048576) : ∃ (ok : Bool) (n' : Nat) (V : Nat → Option Nat), n' ≤ 144 ∧
    (∀ a d b e2 W, FS .f32 W a c d Z → FS .f32 W b m e2 Y → Calls Try.prog 25 #[.slice a c d, .slice b m e2] W (NumsBel ok n' V W)) ∧
    (∀ a d b e2 W, FS .f32 W a c d Z → FS .f32 W b m e2 Y → Calls Try.prog 26 #[.slice a c d, .slice b m e2] W (NumsOwn ok n' V W)) := by
  cases ho : stB c m (vals Z) (vals Y) with
  | false => exact ⟨false, 0, fun _ => none, by omega, fun a d b e2 W h h2 => specShT_no a b c d m e2 Z Y W hc hm h h2 ho, fun a d b e2 W h h2 => implShT_no a b c d m e2 Z Y W hc hm h h2 ho⟩
  | true =>
    unfold stB at ho
    simp only [Bool.and_eq_true, decide_eq_true_eq] at ho
    obtain ⟨hr, hr2, rfl⟩ := ho
    obtain ⟨h1, h12, _⟩ := rowB_yes hr
    have k1 : ∀ a d b e2 W, FS .f32 W a m d Z → FS .f32 W b m e2 Y → Calls Try.prog 25 #[.slice a m d, .slice b m e2] W (NBelIf (allFin (tv m (byZ m Z shiftI) Y) m) m (tv m (byZ m Z shiftI) Y) W) := fun a d b e2 W h h2 => by
      obtain ⟨b1, o1, rfl, _, _, _⟩ := h.at (show 0 < m by omega)
      obtain ⟨b2, o2, rfl, _, _, _⟩ := h2.at (show 0 < m by omega)
      exact specShT_yes b1 o1 b2 o2 m d e2 _ Z Y W _ _ h1 h12 rfl hr hr2 rfl rfl h h2
    have k2 : ∀ a d b e2 W, FS .f32 W a m d Z → FS .f32 W b m e2 Y → Calls Try.prog 26 #[.slice a m d, .slice b m e2] W (NOwnIf (allFin (tv m (byZ m Z shiftI) Y) m) m (tv m (byZ m Z shiftI) Y) W) := fun a d b e2 W h h2 => by
      obtain ⟨b1, o1, rfl, _, _, _⟩ := h.at (show 0 < m by omega)
      obtain ⟨b2, o2, rfl, _, _, _⟩ := h2.at (show 0 < m by omega)
      exact implShT_yes b1 o1 b2 o2 m d e2 _ Z Y W _ _ h1 h12 rfl hr hr2 rfl rfl h h2
    generalize allFin (tv m (byZ m Z shiftI) Y) m = ok at k1 k2
    cases ok
    · exact ⟨false, 0, fun _ => none, by omega, k1, k2⟩
    · exact ⟨true, m, tv m (byZ m Z shiftI) Y, by omega, k1, k2⟩
end Go.Proofs.Ytpmilaemmdcfaaa
