/- Helper: thirds: what is valid, of the program and of its reference. Conditions: none. -/
import Derived.Test.YtpmilaemmdcfaabNodes
import Derived.Test.YtpmilaemmdcfaabTri
import Derived.Test.YtpmilaemmdcfaabKeys
import Derived.Test.YtpmilaemmdcfaabBoxes
set_option linter.unusedVariables false
set_option linter.unusedSimpArgs false
namespace Go.Proofs.Ytpmilaemmdcfaab
open Go.RowKit

/-- What valid thirds are. -/
def thirdsB (na : Nat) (A : Nat → Option Nat) (nb : Nat) (B : Nat → Option Nat) (nc : Nat) (C : Nat → Option Nat) : Bool :=
  lenB nb && (decide (na = nb) && (decide (nc = nb) && (allFin A na && (allFin B nb && (allFin C nc && (isZero (A 0) && isZero (C (nb - 1))))))))
theorem thirds_yes {na : Nat} {A : Nat → Option Nat} {nb : Nat} {B : Nat → Option Nat} {nc : Nat} {C : Nat → Option Nat} (h : thirdsB na A nb B nc C = true) :
    (1 ≤ nb ∧ nb ≤ 32) ∧ na = nb ∧ nc = nb ∧ allFin A na = true ∧ allFin B nb = true ∧ allFin C nc = true ∧ isZero (A 0) = true ∧ isZero (C (nb - 1)) = true := by
  unfold thirdsB at h
  simp only [Bool.and_eq_true, decide_eq_true_eq] at h
  exact ⟨lenB_yes h.1, h.2⟩

set_option maxRecDepth 20000 in
set_option maxHeartbeats 2000000 in
theorem implThirds_any (aa : Option Addr) (na ca : Nat) (Za : Nat → Nat) (ab : Option Addr) (nb cb : Nat) (Zb : Nat → Nat) (ac : Option Addr) (nc cc : Nat) (Zc : Nat → Nat) (w : World) (hna : na ≤ 1048576) (hnb : nb ≤ 1048576) (hnc : nc ≤ 1048576) (ha : FS .f32 w aa na ca Za) (hb : FS .f32 w ab nb cb Zb) (hc : FS .f32 w ac nc cc Zc) :
    Calls Try.prog 12 #[.agg #[.slice aa na ca, .slice ab nb cb, .slice ac nc cc]] w fun e w' => e = .returned (.bool (thirdsB na (vals Za) nb (vals Zb) nc (vals Zc))) ∧ Below w.heap.size w w' := by
  have c0 : cn .f32 0 = some 0 := by kernel_rfl
  cases hl : lenB nb with
  | false =>
    have HB : Hid (thirdsB na (vals Za) nb (vals Zb) nc (vals Zc) = false) := Lib.hid (by unfold thirdsB; simp only [hl, Bool.false_and] <;> simp)
    go_enter Try.func12, Try.ntmps12
    go_wp2_with (first | (go_at_call 34; refine (ringLength_any _ _ (by assumption)).mono ?_; rintro e w' ⟨rfl, rfl⟩) | (go_at_call 35; first | ((with_reducible refine (implFin_any aa _ ca Za _ hna (ha.below (by repeat first | (with_reducible exact Below.refl _ _) | (with_reducible refine Below.setCell ?_ (by first | exact Nat.le_refl _ | (simp; done) | (simp; omega) | omega) _) | (with_reducible refine Below.alloc ?_ (by first | exact Nat.le_refl _ | (simp; done) | (simp; omega) | omega) _) | (with_reducible refine below_drewN ?_ _) | (with_reducible refine Below.drew ?_)) (Nat.le_refl _))).mono ?_); rintro e w' ⟨rfl, qa, rfl⟩) | ((with_reducible refine (implFin_any ab _ cb Zb _ hnb (hb.below (by repeat first | (with_reducible exact Below.refl _ _) | (with_reducible refine Below.setCell ?_ (by first | exact Nat.le_refl _ | (simp; done) | (simp; omega) | omega) _) | (with_reducible refine Below.alloc ?_ (by first | exact Nat.le_refl _ | (simp; done) | (simp; omega) | omega) _) | (with_reducible refine below_drewN ?_ _) | (with_reducible refine Below.drew ?_)) (Nat.le_refl _))).mono ?_); rintro e w' ⟨rfl, qb, rfl⟩) | ((with_reducible refine (implFin_any ac _ cc Zc _ hnc (hc.below (by repeat first | (with_reducible exact Below.refl _ _) | (with_reducible refine Below.setCell ?_ (by first | exact Nat.le_refl _ | (simp; done) | (simp; omega) | omega) _) | (with_reducible refine Below.alloc ?_ (by first | exact Nat.le_refl _ | (simp; done) | (simp; omega) | omega) _) | (with_reducible refine below_drewN ?_ _) | (with_reducible refine Below.drew ?_)) (Nat.le_refl _))).mono ?_); rintro e w' ⟨rfl, qc, rfl⟩)))
    go_ret
    exact ⟨by rw [HB.out]; rfl, (by repeat first | (with_reducible exact Below.refl _ _) | (with_reducible refine Below.setCell ?_ (by first | exact Nat.le_refl _ | (simp; done) | (simp; omega) | omega) _) | (with_reducible refine Below.alloc ?_ (by first | exact Nat.le_refl _ | (simp; done) | (simp; omega) | omega) _) | (with_reducible refine below_drewN ?_ _) | (with_reducible refine Below.drew ?_))⟩
  | true =>
    obtain ⟨g1, g2⟩ := lenB_yes hl
    by_cases ea : na = nb
    case neg =>
      have d3 : ((na : Int) != nb) = true := by simp; omega
      have ea' : decide (na = nb) = false := decide_eq_false ea
      have HB : Hid (thirdsB na (vals Za) nb (vals Zb) nc (vals Zc) = false) := Lib.hid (by unfold thirdsB; simp only [hl, ea', Bool.false_and, Bool.true_and] <;> simp)
      clear ea' ea
      go_enter Try.func12, Try.ntmps12
      go_wp2_with (first | (go_at_call 34; refine (ringLength_any _ _ (by assumption)).mono ?_; rintro e w' ⟨rfl, rfl⟩) | (go_at_call 35; first | ((with_reducible refine (implFin_any aa _ ca Za _ hna (ha.below (by repeat first | (with_reducible exact Below.refl _ _) | (with_reducible refine Below.setCell ?_ (by first | exact Nat.le_refl _ | (simp; done) | (simp; omega) | omega) _) | (with_reducible refine Below.alloc ?_ (by first | exact Nat.le_refl _ | (simp; done) | (simp; omega) | omega) _) | (with_reducible refine below_drewN ?_ _) | (with_reducible refine Below.drew ?_)) (Nat.le_refl _))).mono ?_); rintro e w' ⟨rfl, qa, rfl⟩) | ((with_reducible refine (implFin_any ab _ cb Zb _ hnb (hb.below (by repeat first | (with_reducible exact Below.refl _ _) | (with_reducible refine Below.setCell ?_ (by first | exact Nat.le_refl _ | (simp; done) | (simp; omega) | omega) _) | (with_reducible refine Below.alloc ?_ (by first | exact Nat.le_refl _ | (simp; done) | (simp; omega) | omega) _) | (with_reducible refine below_drewN ?_ _) | (with_reducible refine Below.drew ?_)) (Nat.le_refl _))).mono ?_); rintro e w' ⟨rfl, qb, rfl⟩) | ((with_reducible refine (implFin_any ac _ cc Zc _ hnc (hc.below (by repeat first | (with_reducible exact Below.refl _ _) | (with_reducible refine Below.setCell ?_ (by first | exact Nat.le_refl _ | (simp; done) | (simp; omega) | omega) _) | (with_reducible refine Below.alloc ?_ (by first | exact Nat.le_refl _ | (simp; done) | (simp; omega) | omega) _) | (with_reducible refine below_drewN ?_ _) | (with_reducible refine Below.drew ?_)) (Nat.le_refl _))).mono ?_); rintro e w' ⟨rfl, qc, rfl⟩)))
      go_ret
      exact ⟨by rw [HB.out]; rfl, (by repeat first | (with_reducible exact Below.refl _ _) | (with_reducible refine Below.setCell ?_ (by first | exact Nat.le_refl _ | (simp; done) | (simp; omega) | omega) _) | (with_reducible refine Below.alloc ?_ (by first | exact Nat.le_refl _ | (simp; done) | (simp; omega) | omega) _) | (with_reducible refine below_drewN ?_ _) | (with_reducible refine Below.drew ?_))⟩
    subst ea
    have d3 : ((na : Int) != na) = false := by simp
    by_cases ec : nc = na
    case neg =>
      have d4 : ((nc : Int) != na) = true := by simp; omega
      have ec' : decide (nc = na) = false := decide_eq_false ec
      have HB : Hid (thirdsB na (vals Za) na (vals Zb) nc (vals Zc) = false) := Lib.hid (by unfold thirdsB; simp only [hl, ec', Bool.false_and, Bool.true_and, Bool.and_false] <;> simp)
      clear ec' ec
      go_enter Try.func12, Try.ntmps12
      go_wp2_with (first | (go_at_call 34; refine (ringLength_any _ _ (by assumption)).mono ?_; rintro e w' ⟨rfl, rfl⟩) | (go_at_call 35; first | ((with_reducible refine (implFin_any aa _ ca Za _ hna (ha.below (by repeat first | (with_reducible exact Below.refl _ _) | (with_reducible refine Below.setCell ?_ (by first | exact Nat.le_refl _ | (simp; done) | (simp; omega) | omega) _) | (with_reducible refine Below.alloc ?_ (by first | exact Nat.le_refl _ | (simp; done) | (simp; omega) | omega) _) | (with_reducible refine below_drewN ?_ _) | (with_reducible refine Below.drew ?_)) (Nat.le_refl _))).mono ?_); rintro e w' ⟨rfl, qa, rfl⟩) | ((with_reducible refine (implFin_any ab _ cb Zb _ hnb (hb.below (by repeat first | (with_reducible exact Below.refl _ _) | (with_reducible refine Below.setCell ?_ (by first | exact Nat.le_refl _ | (simp; done) | (simp; omega) | omega) _) | (with_reducible refine Below.alloc ?_ (by first | exact Nat.le_refl _ | (simp; done) | (simp; omega) | omega) _) | (with_reducible refine below_drewN ?_ _) | (with_reducible refine Below.drew ?_)) (Nat.le_refl _))).mono ?_); rintro e w' ⟨rfl, qb, rfl⟩) | ((with_reducible refine (implFin_any ac _ cc Zc _ hnc (hc.below (by repeat first | (with_reducible exact Below.refl _ _) | (with_reducible refine Below.setCell ?_ (by first | exact Nat.le_refl _ | (simp; done) | (simp; omega) | omega) _) | (with_reducible refine Below.alloc ?_ (by first | exact Nat.le_refl _ | (simp; done) | (simp; omega) | omega) _) | (with_reducible refine below_drewN ?_ _) | (with_reducible refine Below.drew ?_)) (Nat.le_refl _))).mono ?_); rintro e w' ⟨rfl, qc, rfl⟩)))
      go_ret
      exact ⟨by rw [HB.out]; rfl, (by repeat first | (with_reducible exact Below.refl _ _) | (with_reducible refine Below.setCell ?_ (by first | exact Nat.le_refl _ | (simp; done) | (simp; omega) | omega) _) | (with_reducible refine Below.alloc ?_ (by first | exact Nat.le_refl _ | (simp; done) | (simp; omega) | omega) _) | (with_reducible refine below_drewN ?_ _) | (with_reducible refine Below.drew ?_))⟩
    subst ec
    cases fa : allFin (vals Za) nc with
    | false =>
      have HB : Hid (thirdsB nc (vals Za) nc (vals Zb) nc (vals Zc) = false) := Lib.hid (by unfold thirdsB; simp only [hl, decide_true, Bool.true_and, fa, Bool.false_and] <;> simp)
      go_enter Try.func12, Try.ntmps12
      go_wp2_with (first | (go_at_call 34; refine (ringLength_any _ _ (by assumption)).mono ?_; rintro e w' ⟨rfl, rfl⟩) | (go_at_call 35; first | ((with_reducible refine (implFin_any aa _ ca Za _ hna (ha.below (by repeat first | (with_reducible exact Below.refl _ _) | (with_reducible refine Below.setCell ?_ (by first | exact Nat.le_refl _ | (simp; done) | (simp; omega) | omega) _) | (with_reducible refine Below.alloc ?_ (by first | exact Nat.le_refl _ | (simp; done) | (simp; omega) | omega) _) | (with_reducible refine below_drewN ?_ _) | (with_reducible refine Below.drew ?_)) (Nat.le_refl _))).mono ?_); rintro e w' ⟨rfl, qa, rfl⟩) | ((with_reducible refine (implFin_any ab _ cb Zb _ hnb (hb.below (by repeat first | (with_reducible exact Below.refl _ _) | (with_reducible refine Below.setCell ?_ (by first | exact Nat.le_refl _ | (simp; done) | (simp; omega) | omega) _) | (with_reducible refine Below.alloc ?_ (by first | exact Nat.le_refl _ | (simp; done) | (simp; omega) | omega) _) | (with_reducible refine below_drewN ?_ _) | (with_reducible refine Below.drew ?_)) (Nat.le_refl _))).mono ?_); rintro e w' ⟨rfl, qb, rfl⟩) | ((with_reducible refine (implFin_any ac _ cc Zc _ hnc (hc.below (by repeat first | (with_reducible exact Below.refl _ _) | (with_reducible refine Below.setCell ?_ (by first | exact Nat.le_refl _ | (simp; done) | (simp; omega) | omega) _) | (with_reducible refine Below.alloc ?_ (by first | exact Nat.le_refl _ | (simp; done) | (simp; omega) | omega) _) | (with_reducible refine below_drewN ?_ _) | (with_reducible refine Below.drew ?_)) (Nat.le_refl _))).mono ?_); rintro e w' ⟨rfl, qc, rfl⟩)))
      go_ret
      exact ⟨by rw [HB.out]; rfl, (by repeat first | (with_reducible exact Below.refl _ _) | (with_reducible refine Below.setCell ?_ (by first | exact Nat.le_refl _ | (simp; done) | (simp; omega) | omega) _) | (with_reducible refine Below.alloc ?_ (by first | exact Nat.le_refl _ | (simp; done) | (simp; omega) | omega) _) | (with_reducible refine below_drewN ?_ _) | (with_reducible refine Below.drew ?_))⟩
    | true =>
      cases fb : allFin (vals Zb) nc with
      | false =>
        have HB : Hid (thirdsB nc (vals Za) nc (vals Zb) nc (vals Zc) = false) := Lib.hid (by unfold thirdsB; simp only [hl, decide_true, Bool.true_and, fa, fb, Bool.false_and] <;> simp)
        go_enter Try.func12, Try.ntmps12
        go_wp2_with (first | (go_at_call 34; refine (ringLength_any _ _ (by assumption)).mono ?_; rintro e w' ⟨rfl, rfl⟩) | (go_at_call 35; first | ((with_reducible refine (implFin_any aa _ ca Za _ hna (ha.below (by repeat first | (with_reducible exact Below.refl _ _) | (with_reducible refine Below.setCell ?_ (by first | exact Nat.le_refl _ | (simp; done) | (simp; omega) | omega) _) | (with_reducible refine Below.alloc ?_ (by first | exact Nat.le_refl _ | (simp; done) | (simp; omega) | omega) _) | (with_reducible refine below_drewN ?_ _) | (with_reducible refine Below.drew ?_)) (Nat.le_refl _))).mono ?_); rintro e w' ⟨rfl, qa, rfl⟩) | ((with_reducible refine (implFin_any ab _ cb Zb _ hnb (hb.below (by repeat first | (with_reducible exact Below.refl _ _) | (with_reducible refine Below.setCell ?_ (by first | exact Nat.le_refl _ | (simp; done) | (simp; omega) | omega) _) | (with_reducible refine Below.alloc ?_ (by first | exact Nat.le_refl _ | (simp; done) | (simp; omega) | omega) _) | (with_reducible refine below_drewN ?_ _) | (with_reducible refine Below.drew ?_)) (Nat.le_refl _))).mono ?_); rintro e w' ⟨rfl, qb, rfl⟩) | ((with_reducible refine (implFin_any ac _ cc Zc _ hnc (hc.below (by repeat first | (with_reducible exact Below.refl _ _) | (with_reducible refine Below.setCell ?_ (by first | exact Nat.le_refl _ | (simp; done) | (simp; omega) | omega) _) | (with_reducible refine Below.alloc ?_ (by first | exact Nat.le_refl _ | (simp; done) | (simp; omega) | omega) _) | (with_reducible refine below_drewN ?_ _) | (with_reducible refine Below.drew ?_)) (Nat.le_refl _))).mono ?_); rintro e w' ⟨rfl, qc, rfl⟩)))
        go_ret
        exact ⟨by rw [HB.out]; rfl, (by repeat first | (with_reducible exact Below.refl _ _) | (with_reducible refine Below.setCell ?_ (by first | exact Nat.le_refl _ | (simp; done) | (simp; omega) | omega) _) | (with_reducible refine Below.alloc ?_ (by first | exact Nat.le_refl _ | (simp; done) | (simp; omega) | omega) _) | (with_reducible refine below_drewN ?_ _) | (with_reducible refine Below.drew ?_))⟩
      | true =>
        cases fc : allFin (vals Zc) nc with
        | false =>
          have HB : Hid (thirdsB nc (vals Za) nc (vals Zb) nc (vals Zc) = false) := Lib.hid (by unfold thirdsB; simp only [hl, decide_true, Bool.true_and, fa, fb, fc, Bool.false_and] <;> simp)
          go_enter Try.func12, Try.ntmps12
          go_wp2_with (first | (go_at_call 34; refine (ringLength_any _ _ (by assumption)).mono ?_; rintro e w' ⟨rfl, rfl⟩) | (go_at_call 35; first | ((with_reducible refine (implFin_any aa _ ca Za _ hna (ha.below (by repeat first | (with_reducible exact Below.refl _ _) | (with_reducible refine Below.setCell ?_ (by first | exact Nat.le_refl _ | (simp; done) | (simp; omega) | omega) _) | (with_reducible refine Below.alloc ?_ (by first | exact Nat.le_refl _ | (simp; done) | (simp; omega) | omega) _) | (with_reducible refine below_drewN ?_ _) | (with_reducible refine Below.drew ?_)) (Nat.le_refl _))).mono ?_); rintro e w' ⟨rfl, qa, rfl⟩) | ((with_reducible refine (implFin_any ab _ cb Zb _ hnb (hb.below (by repeat first | (with_reducible exact Below.refl _ _) | (with_reducible refine Below.setCell ?_ (by first | exact Nat.le_refl _ | (simp; done) | (simp; omega) | omega) _) | (with_reducible refine Below.alloc ?_ (by first | exact Nat.le_refl _ | (simp; done) | (simp; omega) | omega) _) | (with_reducible refine below_drewN ?_ _) | (with_reducible refine Below.drew ?_)) (Nat.le_refl _))).mono ?_); rintro e w' ⟨rfl, qb, rfl⟩) | ((with_reducible refine (implFin_any ac _ cc Zc _ hnc (hc.below (by repeat first | (with_reducible exact Below.refl _ _) | (with_reducible refine Below.setCell ?_ (by first | exact Nat.le_refl _ | (simp; done) | (simp; omega) | omega) _) | (with_reducible refine Below.alloc ?_ (by first | exact Nat.le_refl _ | (simp; done) | (simp; omega) | omega) _) | (with_reducible refine below_drewN ?_ _) | (with_reducible refine Below.drew ?_)) (Nat.le_refl _))).mono ?_); rintro e w' ⟨rfl, qc, rfl⟩)))
          go_ret
          exact ⟨by rw [HB.out]; rfl, (by repeat first | (with_reducible exact Below.refl _ _) | (with_reducible refine Below.setCell ?_ (by first | exact Nat.le_refl _ | (simp; done) | (simp; omega) | omega) _) | (with_reducible refine Below.alloc ?_ (by first | exact Nat.le_refl _ | (simp; done) | (simp; omega) | omega) _) | (with_reducible refine below_drewN ?_ _) | (with_reducible refine Below.drew ?_))⟩
        | true =>
          obtain ⟨b1, o1, e1, hl1, hc1, hf1⟩ := ha.at (show 0 < nc by omega)
          obtain ⟨P, hp⟩ : ∃ P, P + 1 = nc := ⟨nc - 1, by omega⟩
          obtain ⟨b3, o3, e3, hl3, hc3, hf3⟩ := hc.at (show P < nc by omega)
          have hpi : (nc : Int) - 1 = (P : Int) := by omega
          have hpn : P < nc := by omega
          have hpe : nc - 1 = P := by omega
          have HPE := Lib.hid hpe
          have HP := Lib.hid hp
          rw [Nat.add_zero] at hc1
          clear hpe hp
          subst e1 e3
          cases za : isZero (vals Za 0) with
          | false =>
            have HB : Hid (thirdsB nc (vals Za) nc (vals Zb) nc (vals Zc) = false) := Lib.hid (by unfold thirdsB; rw [HPE.out]; simp only [hl, decide_true, Bool.true_and, fa, fb, fc, za, Bool.false_and] <;> simp)
            have za' : (ford .f32 (cn .f32 (Za 0)) (some 0) == some .eq) = false := za
            clear za
            go_enter Try.func12, Try.ntmps12
            go_wp2_with (first | (go_at_call 34; refine (ringLength_any _ _ (by assumption)).mono ?_; rintro e w' ⟨rfl, rfl⟩) | (go_at_call 35; first | ((with_reducible refine (implFin_any (some ⟨b1, o1, none⟩) _ ca Za _ hna (ha.below (by repeat first | (with_reducible exact Below.refl _ _) | (with_reducible refine Below.setCell ?_ (by first | exact Nat.le_refl _ | (simp; done) | (simp; omega) | omega) _) | (with_reducible refine Below.alloc ?_ (by first | exact Nat.le_refl _ | (simp; done) | (simp; omega) | omega) _) | (with_reducible refine below_drewN ?_ _) | (with_reducible refine Below.drew ?_)) (Nat.le_refl _))).mono ?_); rintro e w' ⟨rfl, qa, rfl⟩) | ((with_reducible refine (implFin_any ab _ cb Zb _ hnb (hb.below (by repeat first | (with_reducible exact Below.refl _ _) | (with_reducible refine Below.setCell ?_ (by first | exact Nat.le_refl _ | (simp; done) | (simp; omega) | omega) _) | (with_reducible refine Below.alloc ?_ (by first | exact Nat.le_refl _ | (simp; done) | (simp; omega) | omega) _) | (with_reducible refine below_drewN ?_ _) | (with_reducible refine Below.drew ?_)) (Nat.le_refl _))).mono ?_); rintro e w' ⟨rfl, qb, rfl⟩) | ((with_reducible refine (implFin_any (some ⟨b3, o3, none⟩) _ cc Zc _ hnc (hc.below (by repeat first | (with_reducible exact Below.refl _ _) | (with_reducible refine Below.setCell ?_ (by first | exact Nat.le_refl _ | (simp; done) | (simp; omega) | omega) _) | (with_reducible refine Below.alloc ?_ (by first | exact Nat.le_refl _ | (simp; done) | (simp; omega) | omega) _) | (with_reducible refine below_drewN ?_ _) | (with_reducible refine Below.drew ?_)) (Nat.le_refl _))).mono ?_); rintro e w' ⟨rfl, qc, rfl⟩)))
            go_ret
            exact ⟨by rw [HB.out]; rfl, (by repeat first | (with_reducible exact Below.refl _ _) | (with_reducible refine Below.setCell ?_ (by first | exact Nat.le_refl _ | (simp; done) | (simp; omega) | omega) _) | (with_reducible refine Below.alloc ?_ (by first | exact Nat.le_refl _ | (simp; done) | (simp; omega) | omega) _) | (with_reducible refine below_drewN ?_ _) | (with_reducible refine Below.drew ?_))⟩
          | true =>
            cases zc : isZero (vals Zc P) with
            | false =>
              have HB : Hid (thirdsB nc (vals Za) nc (vals Zb) nc (vals Zc) = false) := Lib.hid (by unfold thirdsB; rw [HPE.out]; simp only [hl, decide_true, Bool.true_and, fa, fb, fc, za, zc, Bool.false_and] <;> simp)
              have za' : (ford .f32 (cn .f32 (Za 0)) (some 0) == some .eq) = true := za
              have zc' : (ford .f32 (cn .f32 (Zc P)) (some 0) == some .eq) = false := zc
              clear za
              clear zc
              go_enter Try.func12, Try.ntmps12
              go_wp2_with (first | (go_at_call 34; refine (ringLength_any _ _ (by assumption)).mono ?_; rintro e w' ⟨rfl, rfl⟩) | (go_at_call 35; first | ((with_reducible refine (implFin_any (some ⟨b1, o1, none⟩) _ ca Za _ hna (ha.below (by repeat first | (with_reducible exact Below.refl _ _) | (with_reducible refine Below.setCell ?_ (by first | exact Nat.le_refl _ | (simp; done) | (simp; omega) | omega) _) | (with_reducible refine Below.alloc ?_ (by first | exact Nat.le_refl _ | (simp; done) | (simp; omega) | omega) _) | (with_reducible refine below_drewN ?_ _) | (with_reducible refine Below.drew ?_)) (Nat.le_refl _))).mono ?_); rintro e w' ⟨rfl, qa, rfl⟩) | ((with_reducible refine (implFin_any ab _ cb Zb _ hnb (hb.below (by repeat first | (with_reducible exact Below.refl _ _) | (with_reducible refine Below.setCell ?_ (by first | exact Nat.le_refl _ | (simp; done) | (simp; omega) | omega) _) | (with_reducible refine Below.alloc ?_ (by first | exact Nat.le_refl _ | (simp; done) | (simp; omega) | omega) _) | (with_reducible refine below_drewN ?_ _) | (with_reducible refine Below.drew ?_)) (Nat.le_refl _))).mono ?_); rintro e w' ⟨rfl, qb, rfl⟩) | ((with_reducible refine (implFin_any (some ⟨b3, o3, none⟩) _ cc Zc _ hnc (hc.below (by repeat first | (with_reducible exact Below.refl _ _) | (with_reducible refine Below.setCell ?_ (by first | exact Nat.le_refl _ | (simp; done) | (simp; omega) | omega) _) | (with_reducible refine Below.alloc ?_ (by first | exact Nat.le_refl _ | (simp; done) | (simp; omega) | omega) _) | (with_reducible refine below_drewN ?_ _) | (with_reducible refine Below.drew ?_)) (Nat.le_refl _))).mono ?_); rintro e w' ⟨rfl, qc, rfl⟩)))
              go_ret
              exact ⟨by rw [HB.out]; rfl, (by repeat first | (with_reducible exact Below.refl _ _) | (with_reducible refine Below.setCell ?_ (by first | exact Nat.le_refl _ | (simp; done) | (simp; omega) | omega) _) | (with_reducible refine Below.alloc ?_ (by first | exact Nat.le_refl _ | (simp; done) | (simp; omega) | omega) _) | (with_reducible refine below_drewN ?_ _) | (with_reducible refine Below.drew ?_))⟩
            | true =>
              have HB : Hid (thirdsB nc (vals Za) nc (vals Zb) nc (vals Zc) = true) := Lib.hid (by unfold thirdsB; rw [HPE.out]; simp only [hl, decide_true, Bool.true_and, fa, fb, fc, za, zc] <;> simp)
              have za' : (ford .f32 (cn .f32 (Za 0)) (some 0) == some .eq) = true := za
              have zc' : (ford .f32 (cn .f32 (Zc P)) (some 0) == some .eq) = true := zc
              clear za
              clear zc
              go_enter Try.func12, Try.ntmps12
              go_wp2_with (first | (go_at_call 34; refine (ringLength_any _ _ (by assumption)).mono ?_; rintro e w' ⟨rfl, rfl⟩) | (go_at_call 35; first | ((with_reducible refine (implFin_any (some ⟨b1, o1, none⟩) _ ca Za _ hna (ha.below (by repeat first | (with_reducible exact Below.refl _ _) | (with_reducible refine Below.setCell ?_ (by first | exact Nat.le_refl _ | (simp; done) | (simp; omega) | omega) _) | (with_reducible refine Below.alloc ?_ (by first | exact Nat.le_refl _ | (simp; done) | (simp; omega) | omega) _) | (with_reducible refine below_drewN ?_ _) | (with_reducible refine Below.drew ?_)) (Nat.le_refl _))).mono ?_); rintro e w' ⟨rfl, qa, rfl⟩) | ((with_reducible refine (implFin_any ab _ cb Zb _ hnb (hb.below (by repeat first | (with_reducible exact Below.refl _ _) | (with_reducible refine Below.setCell ?_ (by first | exact Nat.le_refl _ | (simp; done) | (simp; omega) | omega) _) | (with_reducible refine Below.alloc ?_ (by first | exact Nat.le_refl _ | (simp; done) | (simp; omega) | omega) _) | (with_reducible refine below_drewN ?_ _) | (with_reducible refine Below.drew ?_)) (Nat.le_refl _))).mono ?_); rintro e w' ⟨rfl, qb, rfl⟩) | ((with_reducible refine (implFin_any (some ⟨b3, o3, none⟩) _ cc Zc _ hnc (hc.below (by repeat first | (with_reducible exact Below.refl _ _) | (with_reducible refine Below.setCell ?_ (by first | exact Nat.le_refl _ | (simp; done) | (simp; omega) | omega) _) | (with_reducible refine Below.alloc ?_ (by first | exact Nat.le_refl _ | (simp; done) | (simp; omega) | omega) _) | (with_reducible refine below_drewN ?_ _) | (with_reducible refine Below.drew ?_)) (Nat.le_refl _))).mono ?_); rintro e w' ⟨rfl, qc, rfl⟩)))
              go_ret
              exact ⟨by rw [HB.out]; rfl, (by repeat first | (with_reducible exact Below.refl _ _) | (with_reducible refine Below.setCell ?_ (by first | exact Nat.le_refl _ | (simp; done) | (simp; omega) | omega) _) | (with_reducible refine Below.alloc ?_ (by first | exact Nat.le_refl _ | (simp; done) | (simp; omega) | omega) _) | (with_reducible refine below_drewN ?_ _) | (with_reducible refine Below.drew ?_))⟩
set_option maxRecDepth 20000 in
set_option maxHeartbeats 2000000 in
theorem specThirds_any (p : Nat) (aa : Option Addr) (na ca : Nat) (Za : Nat → Nat) (ab : Option Addr) (nb cb : Nat) (Zb : Nat → Nat) (ac : Option Addr) (nc cc : Nat) (Zc : Nat → Nat) (w : World) (hna : na ≤ 1048576) (hnb : nb ≤ 1048576) (hnc : nc ≤ 1048576) (hp : BoxL w p [.slice aa na ca, .slice ab nb cb, .slice ac nc cc]) (ha : FS .f32 w aa na ca Za) (hb : FS .f32 w ab nb cb Zb) (hc : FS .f32 w ac nc cc Zc) :
    Calls Try.prog 33 #[.pointer (some ⟨p, 0, none⟩)] w fun e w' => e = .returned (.bool (thirdsB na (vals Za) nb (vals Zb) nc (vals Zc))) ∧ ∃ m, w' = w.drewN m := by
  have p0 := hp 0 _ rfl
  have p1 := hp 1 _ rfl
  have p2 := hp 2 _ rfl
  clear hp
  have c0 : cn .f32 0 = some 0 := by kernel_rfl
  by_cases g1 : nb < 1
  case pos =>
    have d1 : decide ((nb : Int) < 1) = true := decide_eq_true (by omega)
    have hl : lenB nb = false := by unfold lenB; rw [decide_eq_false (show ¬ 1 ≤ nb by omega)]; rfl
    have HB : Hid (thirdsB na (vals Za) nb (vals Zb) nc (vals Zc) = false) := Lib.hid (by unfold thirdsB; simp only [hl, Bool.false_and] <;> simp)
    clear hl
    go_enter Try.func33, Try.ntmps33
    go_wp2_with (go_at_call 59; first | ((with_reducible refine (specFin_any aa _ ca Za _ hna (ha.below (by repeat first | (with_reducible exact Below.refl _ _) | (with_reducible refine Below.setCell ?_ (by first | exact Nat.le_refl _ | (simp; done) | (simp; omega) | omega) _) | (with_reducible refine Below.alloc ?_ (by first | exact Nat.le_refl _ | (simp; done) | (simp; omega) | omega) _) | (with_reducible refine below_drewN ?_ _) | (with_reducible refine Below.drew ?_)) (Nat.le_refl _))).mono ?_); rintro e w' ⟨rfl, qa, rfl⟩) | ((with_reducible refine (specFin_any ab _ cb Zb _ hnb (hb.below (by repeat first | (with_reducible exact Below.refl _ _) | (with_reducible refine Below.setCell ?_ (by first | exact Nat.le_refl _ | (simp; done) | (simp; omega) | omega) _) | (with_reducible refine Below.alloc ?_ (by first | exact Nat.le_refl _ | (simp; done) | (simp; omega) | omega) _) | (with_reducible refine below_drewN ?_ _) | (with_reducible refine Below.drew ?_)) (Nat.le_refl _))).mono ?_); rintro e w' ⟨rfl, qb, rfl⟩) | ((with_reducible refine (specFin_any ac _ cc Zc _ hnc (hc.below (by repeat first | (with_reducible exact Below.refl _ _) | (with_reducible refine Below.setCell ?_ (by first | exact Nat.le_refl _ | (simp; done) | (simp; omega) | omega) _) | (with_reducible refine Below.alloc ?_ (by first | exact Nat.le_refl _ | (simp; done) | (simp; omega) | omega) _) | (with_reducible refine below_drewN ?_ _) | (with_reducible refine Below.drew ?_)) (Nat.le_refl _))).mono ?_); rintro e w' ⟨rfl, qc, rfl⟩))
    go_ret
    exact ⟨by rw [HB.out]; rfl, by first | exact ⟨0, rfl⟩ | exact ⟨_, rfl⟩ | exact ⟨_, World.drewN_drewN _ _ _⟩ | exact ⟨_, by rw [World.drewN_drewN, World.drewN_drewN]⟩⟩
  have d1 : decide ((nb : Int) < 1) = false := decide_eq_false (by omega)
  by_cases g2 : 32 < nb
  case pos =>
    have d2 : decide ((32 : Int) < nb) = true := decide_eq_true (by omega)
    have hl : lenB nb = false := by unfold lenB; rw [decide_eq_false (show ¬ nb ≤ 32 by omega)]; simp
    have HB : Hid (thirdsB na (vals Za) nb (vals Zb) nc (vals Zc) = false) := Lib.hid (by unfold thirdsB; simp only [hl, Bool.false_and] <;> simp)
    clear hl
    go_enter Try.func33, Try.ntmps33
    go_wp2_with (go_at_call 59; first | ((with_reducible refine (specFin_any aa _ ca Za _ hna (ha.below (by repeat first | (with_reducible exact Below.refl _ _) | (with_reducible refine Below.setCell ?_ (by first | exact Nat.le_refl _ | (simp; done) | (simp; omega) | omega) _) | (with_reducible refine Below.alloc ?_ (by first | exact Nat.le_refl _ | (simp; done) | (simp; omega) | omega) _) | (with_reducible refine below_drewN ?_ _) | (with_reducible refine Below.drew ?_)) (Nat.le_refl _))).mono ?_); rintro e w' ⟨rfl, qa, rfl⟩) | ((with_reducible refine (specFin_any ab _ cb Zb _ hnb (hb.below (by repeat first | (with_reducible exact Below.refl _ _) | (with_reducible refine Below.setCell ?_ (by first | exact Nat.le_refl _ | (simp; done) | (simp; omega) | omega) _) | (with_reducible refine Below.alloc ?_ (by first | exact Nat.le_refl _ | (simp; done) | (simp; omega) | omega) _) | (with_reducible refine below_drewN ?_ _) | (with_reducible refine Below.drew ?_)) (Nat.le_refl _))).mono ?_); rintro e w' ⟨rfl, qb, rfl⟩) | ((with_reducible refine (specFin_any ac _ cc Zc _ hnc (hc.below (by repeat first | (with_reducible exact Below.refl _ _) | (with_reducible refine Below.setCell ?_ (by first | exact Nat.le_refl _ | (simp; done) | (simp; omega) | omega) _) | (with_reducible refine Below.alloc ?_ (by first | exact Nat.le_refl _ | (simp; done) | (simp; omega) | omega) _) | (with_reducible refine below_drewN ?_ _) | (with_reducible refine Below.drew ?_)) (Nat.le_refl _))).mono ?_); rintro e w' ⟨rfl, qc, rfl⟩))
    go_ret
    exact ⟨by rw [HB.out]; rfl, by first | exact ⟨0, rfl⟩ | exact ⟨_, rfl⟩ | exact ⟨_, World.drewN_drewN _ _ _⟩ | exact ⟨_, by rw [World.drewN_drewN, World.drewN_drewN]⟩⟩
  have d2 : decide ((32 : Int) < nb) = false := decide_eq_false (by omega)
  have hl : lenB nb = true := lenB_of (by omega) (by omega)
  by_cases ea : na = nb
  case neg =>
    have d3 : ((na : Int) != nb) = true := by simp; omega
    have ea' : decide (na = nb) = false := decide_eq_false ea
    have HB : Hid (thirdsB na (vals Za) nb (vals Zb) nc (vals Zc) = false) := Lib.hid (by unfold thirdsB; simp only [hl, ea', Bool.false_and, Bool.true_and] <;> simp)
    clear hl
    clear ea' ea
    go_enter Try.func33, Try.ntmps33
    go_wp2_with (go_at_call 59; first | ((with_reducible refine (specFin_any aa _ ca Za _ hna (ha.below (by repeat first | (with_reducible exact Below.refl _ _) | (with_reducible refine Below.setCell ?_ (by first | exact Nat.le_refl _ | (simp; done) | (simp; omega) | omega) _) | (with_reducible refine Below.alloc ?_ (by first | exact Nat.le_refl _ | (simp; done) | (simp; omega) | omega) _) | (with_reducible refine below_drewN ?_ _) | (with_reducible refine Below.drew ?_)) (Nat.le_refl _))).mono ?_); rintro e w' ⟨rfl, qa, rfl⟩) | ((with_reducible refine (specFin_any ab _ cb Zb _ hnb (hb.below (by repeat first | (with_reducible exact Below.refl _ _) | (with_reducible refine Below.setCell ?_ (by first | exact Nat.le_refl _ | (simp; done) | (simp; omega) | omega) _) | (with_reducible refine Below.alloc ?_ (by first | exact Nat.le_refl _ | (simp; done) | (simp; omega) | omega) _) | (with_reducible refine below_drewN ?_ _) | (with_reducible refine Below.drew ?_)) (Nat.le_refl _))).mono ?_); rintro e w' ⟨rfl, qb, rfl⟩) | ((with_reducible refine (specFin_any ac _ cc Zc _ hnc (hc.below (by repeat first | (with_reducible exact Below.refl _ _) | (with_reducible refine Below.setCell ?_ (by first | exact Nat.le_refl _ | (simp; done) | (simp; omega) | omega) _) | (with_reducible refine Below.alloc ?_ (by first | exact Nat.le_refl _ | (simp; done) | (simp; omega) | omega) _) | (with_reducible refine below_drewN ?_ _) | (with_reducible refine Below.drew ?_)) (Nat.le_refl _))).mono ?_); rintro e w' ⟨rfl, qc, rfl⟩))
    go_ret
    exact ⟨by rw [HB.out]; rfl, by first | exact ⟨0, rfl⟩ | exact ⟨_, rfl⟩ | exact ⟨_, World.drewN_drewN _ _ _⟩ | exact ⟨_, by rw [World.drewN_drewN, World.drewN_drewN]⟩⟩
  subst ea
  have d3 : ((na : Int) != na) = false := by simp
  by_cases ec : nc = na
  case neg =>
    have d4 : ((nc : Int) != na) = true := by simp; omega
    have ec' : decide (nc = na) = false := decide_eq_false ec
    have HB : Hid (thirdsB na (vals Za) na (vals Zb) nc (vals Zc) = false) := Lib.hid (by unfold thirdsB; simp only [hl, ec', Bool.false_and, Bool.true_and, Bool.and_false] <;> simp)
    clear hl
    clear ec' ec
    go_enter Try.func33, Try.ntmps33
    go_wp2_with (go_at_call 59; first | ((with_reducible refine (specFin_any aa _ ca Za _ hna (ha.below (by repeat first | (with_reducible exact Below.refl _ _) | (with_reducible refine Below.setCell ?_ (by first | exact Nat.le_refl _ | (simp; done) | (simp; omega) | omega) _) | (with_reducible refine Below.alloc ?_ (by first | exact Nat.le_refl _ | (simp; done) | (simp; omega) | omega) _) | (with_reducible refine below_drewN ?_ _) | (with_reducible refine Below.drew ?_)) (Nat.le_refl _))).mono ?_); rintro e w' ⟨rfl, qa, rfl⟩) | ((with_reducible refine (specFin_any ab _ cb Zb _ hnb (hb.below (by repeat first | (with_reducible exact Below.refl _ _) | (with_reducible refine Below.setCell ?_ (by first | exact Nat.le_refl _ | (simp; done) | (simp; omega) | omega) _) | (with_reducible refine Below.alloc ?_ (by first | exact Nat.le_refl _ | (simp; done) | (simp; omega) | omega) _) | (with_reducible refine below_drewN ?_ _) | (with_reducible refine Below.drew ?_)) (Nat.le_refl _))).mono ?_); rintro e w' ⟨rfl, qb, rfl⟩) | ((with_reducible refine (specFin_any ac _ cc Zc _ hnc (hc.below (by repeat first | (with_reducible exact Below.refl _ _) | (with_reducible refine Below.setCell ?_ (by first | exact Nat.le_refl _ | (simp; done) | (simp; omega) | omega) _) | (with_reducible refine Below.alloc ?_ (by first | exact Nat.le_refl _ | (simp; done) | (simp; omega) | omega) _) | (with_reducible refine below_drewN ?_ _) | (with_reducible refine Below.drew ?_)) (Nat.le_refl _))).mono ?_); rintro e w' ⟨rfl, qc, rfl⟩))
    go_ret
    exact ⟨by rw [HB.out]; rfl, by first | exact ⟨0, rfl⟩ | exact ⟨_, rfl⟩ | exact ⟨_, World.drewN_drewN _ _ _⟩ | exact ⟨_, by rw [World.drewN_drewN, World.drewN_drewN]⟩⟩
  subst ec
  cases fa : allFin (vals Za) nc with
  | false =>
    have HB : Hid (thirdsB nc (vals Za) nc (vals Zb) nc (vals Zc) = false) := Lib.hid (by unfold thirdsB; simp only [hl, decide_true, Bool.true_and, fa, Bool.false_and] <;> simp)
    clear hl
    go_enter Try.func33, Try.ntmps33
    go_wp2_with (go_at_call 59; first | ((with_reducible refine (specFin_any aa _ ca Za _ hna (ha.below (by repeat first | (with_reducible exact Below.refl _ _) | (with_reducible refine Below.setCell ?_ (by first | exact Nat.le_refl _ | (simp; done) | (simp; omega) | omega) _) | (with_reducible refine Below.alloc ?_ (by first | exact Nat.le_refl _ | (simp; done) | (simp; omega) | omega) _) | (with_reducible refine below_drewN ?_ _) | (with_reducible refine Below.drew ?_)) (Nat.le_refl _))).mono ?_); rintro e w' ⟨rfl, qa, rfl⟩) | ((with_reducible refine (specFin_any ab _ cb Zb _ hnb (hb.below (by repeat first | (with_reducible exact Below.refl _ _) | (with_reducible refine Below.setCell ?_ (by first | exact Nat.le_refl _ | (simp; done) | (simp; omega) | omega) _) | (with_reducible refine Below.alloc ?_ (by first | exact Nat.le_refl _ | (simp; done) | (simp; omega) | omega) _) | (with_reducible refine below_drewN ?_ _) | (with_reducible refine Below.drew ?_)) (Nat.le_refl _))).mono ?_); rintro e w' ⟨rfl, qb, rfl⟩) | ((with_reducible refine (specFin_any ac _ cc Zc _ hnc (hc.below (by repeat first | (with_reducible exact Below.refl _ _) | (with_reducible refine Below.setCell ?_ (by first | exact Nat.le_refl _ | (simp; done) | (simp; omega) | omega) _) | (with_reducible refine Below.alloc ?_ (by first | exact Nat.le_refl _ | (simp; done) | (simp; omega) | omega) _) | (with_reducible refine below_drewN ?_ _) | (with_reducible refine Below.drew ?_)) (Nat.le_refl _))).mono ?_); rintro e w' ⟨rfl, qc, rfl⟩))
    go_ret
    exact ⟨by rw [HB.out]; rfl, by first | exact ⟨0, rfl⟩ | exact ⟨_, rfl⟩ | exact ⟨_, World.drewN_drewN _ _ _⟩ | exact ⟨_, by rw [World.drewN_drewN, World.drewN_drewN]⟩⟩
  | true =>
    cases fb : allFin (vals Zb) nc with
    | false =>
      have HB : Hid (thirdsB nc (vals Za) nc (vals Zb) nc (vals Zc) = false) := Lib.hid (by unfold thirdsB; simp only [hl, decide_true, Bool.true_and, fa, fb, Bool.false_and] <;> simp)
      clear hl
      go_enter Try.func33, Try.ntmps33
      go_wp2_with (go_at_call 59; first | ((with_reducible refine (specFin_any aa _ ca Za _ hna (ha.below (by repeat first | (with_reducible exact Below.refl _ _) | (with_reducible refine Below.setCell ?_ (by first | exact Nat.le_refl _ | (simp; done) | (simp; omega) | omega) _) | (with_reducible refine Below.alloc ?_ (by first | exact Nat.le_refl _ | (simp; done) | (simp; omega) | omega) _) | (with_reducible refine below_drewN ?_ _) | (with_reducible refine Below.drew ?_)) (Nat.le_refl _))).mono ?_); rintro e w' ⟨rfl, qa, rfl⟩) | ((with_reducible refine (specFin_any ab _ cb Zb _ hnb (hb.below (by repeat first | (with_reducible exact Below.refl _ _) | (with_reducible refine Below.setCell ?_ (by first | exact Nat.le_refl _ | (simp; done) | (simp; omega) | omega) _) | (with_reducible refine Below.alloc ?_ (by first | exact Nat.le_refl _ | (simp; done) | (simp; omega) | omega) _) | (with_reducible refine below_drewN ?_ _) | (with_reducible refine Below.drew ?_)) (Nat.le_refl _))).mono ?_); rintro e w' ⟨rfl, qb, rfl⟩) | ((with_reducible refine (specFin_any ac _ cc Zc _ hnc (hc.below (by repeat first | (with_reducible exact Below.refl _ _) | (with_reducible refine Below.setCell ?_ (by first | exact Nat.le_refl _ | (simp; done) | (simp; omega) | omega) _) | (with_reducible refine Below.alloc ?_ (by first | exact Nat.le_refl _ | (simp; done) | (simp; omega) | omega) _) | (with_reducible refine below_drewN ?_ _) | (with_reducible refine Below.drew ?_)) (Nat.le_refl _))).mono ?_); rintro e w' ⟨rfl, qc, rfl⟩))
      go_ret
      exact ⟨by rw [HB.out]; rfl, by first | exact ⟨0, rfl⟩ | exact ⟨_, rfl⟩ | exact ⟨_, World.drewN_drewN _ _ _⟩ | exact ⟨_, by rw [World.drewN_drewN, World.drewN_drewN]⟩⟩
    | true =>
      cases fc : allFin (vals Zc) nc with
      | false =>
        have HB : Hid (thirdsB nc (vals Za) nc (vals Zb) nc (vals Zc) = false) := Lib.hid (by unfold thirdsB; simp only [hl, decide_true, Bool.true_and, fa, fb, fc, Bool.false_and] <;> simp)
        clear hl
        go_enter Try.func33, Try.ntmps33
        go_wp2_with (go_at_call 59; first | ((with_reducible refine (specFin_any aa _ ca Za _ hna (ha.below (by repeat first | (with_reducible exact Below.refl _ _) | (with_reducible refine Below.setCell ?_ (by first | exact Nat.le_refl _ | (simp; done) | (simp; omega) | omega) _) | (with_reducible refine Below.alloc ?_ (by first | exact Nat.le_refl _ | (simp; done) | (simp; omega) | omega) _) | (with_reducible refine below_drewN ?_ _) | (with_reducible refine Below.drew ?_)) (Nat.le_refl _))).mono ?_); rintro e w' ⟨rfl, qa, rfl⟩) | ((with_reducible refine (specFin_any ab _ cb Zb _ hnb (hb.below (by repeat first | (with_reducible exact Below.refl _ _) | (with_reducible refine Below.setCell ?_ (by first | exact Nat.le_refl _ | (simp; done) | (simp; omega) | omega) _) | (with_reducible refine Below.alloc ?_ (by first | exact Nat.le_refl _ | (simp; done) | (simp; omega) | omega) _) | (with_reducible refine below_drewN ?_ _) | (with_reducible refine Below.drew ?_)) (Nat.le_refl _))).mono ?_); rintro e w' ⟨rfl, qb, rfl⟩) | ((with_reducible refine (specFin_any ac _ cc Zc _ hnc (hc.below (by repeat first | (with_reducible exact Below.refl _ _) | (with_reducible refine Below.setCell ?_ (by first | exact Nat.le_refl _ | (simp; done) | (simp; omega) | omega) _) | (with_reducible refine Below.alloc ?_ (by first | exact Nat.le_refl _ | (simp; done) | (simp; omega) | omega) _) | (with_reducible refine below_drewN ?_ _) | (with_reducible refine Below.drew ?_)) (Nat.le_refl _))).mono ?_); rintro e w' ⟨rfl, qc, rfl⟩))
        go_ret
        exact ⟨by rw [HB.out]; rfl, by first | exact ⟨0, rfl⟩ | exact ⟨_, rfl⟩ | exact ⟨_, World.drewN_drewN _ _ _⟩ | exact ⟨_, by rw [World.drewN_drewN, World.drewN_drewN]⟩⟩
      | true =>
        obtain ⟨b1, o1, e1, hl1, hc1, hf1⟩ := ha.at (show 0 < nc by omega)
        obtain ⟨P, hp⟩ : ∃ P, P + 1 = nc := ⟨nc - 1, by omega⟩
        obtain ⟨b3, o3, e3, hl3, hc3, hf3⟩ := hc.at (show P < nc by omega)
        have hpi : (nc : Int) - 1 = (P : Int) := by omega
        have hpn : P < nc := by omega
        have hpe : nc - 1 = P := by omega
        have HPE := Lib.hid hpe
        have HP := Lib.hid hp
        rw [Nat.add_zero] at hc1
        clear hpe hp
        subst e1 e3
        cases za : isZero (vals Za 0) with
        | false =>
          have HB : Hid (thirdsB nc (vals Za) nc (vals Zb) nc (vals Zc) = false) := Lib.hid (by unfold thirdsB; rw [HPE.out]; simp only [hl, decide_true, Bool.true_and, fa, fb, fc, za, Bool.false_and] <;> simp)
          clear hl
          have za' : (ford .f32 (cn .f32 (Za 0)) (some 0) == some .eq) = false := za
          clear za
          go_enter Try.func33, Try.ntmps33
          go_wp2_with (go_at_call 59; first | ((with_reducible refine (specFin_any (some ⟨b1, o1, none⟩) _ ca Za _ hna (ha.below (by repeat first | (with_reducible exact Below.refl _ _) | (with_reducible refine Below.setCell ?_ (by first | exact Nat.le_refl _ | (simp; done) | (simp; omega) | omega) _) | (with_reducible refine Below.alloc ?_ (by first | exact Nat.le_refl _ | (simp; done) | (simp; omega) | omega) _) | (with_reducible refine below_drewN ?_ _) | (with_reducible refine Below.drew ?_)) (Nat.le_refl _))).mono ?_); rintro e w' ⟨rfl, qa, rfl⟩) | ((with_reducible refine (specFin_any ab _ cb Zb _ hnb (hb.below (by repeat first | (with_reducible exact Below.refl _ _) | (with_reducible refine Below.setCell ?_ (by first | exact Nat.le_refl _ | (simp; done) | (simp; omega) | omega) _) | (with_reducible refine Below.alloc ?_ (by first | exact Nat.le_refl _ | (simp; done) | (simp; omega) | omega) _) | (with_reducible refine below_drewN ?_ _) | (with_reducible refine Below.drew ?_)) (Nat.le_refl _))).mono ?_); rintro e w' ⟨rfl, qb, rfl⟩) | ((with_reducible refine (specFin_any (some ⟨b3, o3, none⟩) _ cc Zc _ hnc (hc.below (by repeat first | (with_reducible exact Below.refl _ _) | (with_reducible refine Below.setCell ?_ (by first | exact Nat.le_refl _ | (simp; done) | (simp; omega) | omega) _) | (with_reducible refine Below.alloc ?_ (by first | exact Nat.le_refl _ | (simp; done) | (simp; omega) | omega) _) | (with_reducible refine below_drewN ?_ _) | (with_reducible refine Below.drew ?_)) (Nat.le_refl _))).mono ?_); rintro e w' ⟨rfl, qc, rfl⟩))
          go_ret
          exact ⟨by rw [HB.out]; rfl, by first | exact ⟨_, rfl⟩ | exact ⟨_, World.drewN_drewN _ _ _⟩ | exact ⟨_, by rw [World.drewN_drewN, World.drewN_drewN]⟩⟩
        | true =>
          cases zc : isZero (vals Zc P) with
          | false =>
            have HB : Hid (thirdsB nc (vals Za) nc (vals Zb) nc (vals Zc) = false) := Lib.hid (by unfold thirdsB; rw [HPE.out]; simp only [hl, decide_true, Bool.true_and, fa, fb, fc, za, zc, Bool.false_and] <;> simp)
            clear hl
            have za' : (ford .f32 (cn .f32 (Za 0)) (some 0) == some .eq) = true := za
            have zc' : (ford .f32 (cn .f32 (Zc P)) (some 0) == some .eq) = false := zc
            clear za
            clear zc
            go_enter Try.func33, Try.ntmps33
            go_wp2_with (go_at_call 59; first | ((with_reducible refine (specFin_any (some ⟨b1, o1, none⟩) _ ca Za _ hna (ha.below (by repeat first | (with_reducible exact Below.refl _ _) | (with_reducible refine Below.setCell ?_ (by first | exact Nat.le_refl _ | (simp; done) | (simp; omega) | omega) _) | (with_reducible refine Below.alloc ?_ (by first | exact Nat.le_refl _ | (simp; done) | (simp; omega) | omega) _) | (with_reducible refine below_drewN ?_ _) | (with_reducible refine Below.drew ?_)) (Nat.le_refl _))).mono ?_); rintro e w' ⟨rfl, qa, rfl⟩) | ((with_reducible refine (specFin_any ab _ cb Zb _ hnb (hb.below (by repeat first | (with_reducible exact Below.refl _ _) | (with_reducible refine Below.setCell ?_ (by first | exact Nat.le_refl _ | (simp; done) | (simp; omega) | omega) _) | (with_reducible refine Below.alloc ?_ (by first | exact Nat.le_refl _ | (simp; done) | (simp; omega) | omega) _) | (with_reducible refine below_drewN ?_ _) | (with_reducible refine Below.drew ?_)) (Nat.le_refl _))).mono ?_); rintro e w' ⟨rfl, qb, rfl⟩) | ((with_reducible refine (specFin_any (some ⟨b3, o3, none⟩) _ cc Zc _ hnc (hc.below (by repeat first | (with_reducible exact Below.refl _ _) | (with_reducible refine Below.setCell ?_ (by first | exact Nat.le_refl _ | (simp; done) | (simp; omega) | omega) _) | (with_reducible refine Below.alloc ?_ (by first | exact Nat.le_refl _ | (simp; done) | (simp; omega) | omega) _) | (with_reducible refine below_drewN ?_ _) | (with_reducible refine Below.drew ?_)) (Nat.le_refl _))).mono ?_); rintro e w' ⟨rfl, qc, rfl⟩))
            go_ret
            exact ⟨by rw [HB.out]; rfl, by first | exact ⟨_, rfl⟩ | exact ⟨_, World.drewN_drewN _ _ _⟩ | exact ⟨_, by rw [World.drewN_drewN, World.drewN_drewN]⟩⟩
          | true =>
            have HB : Hid (thirdsB nc (vals Za) nc (vals Zb) nc (vals Zc) = true) := Lib.hid (by unfold thirdsB; rw [HPE.out]; simp only [hl, decide_true, Bool.true_and, fa, fb, fc, za, zc] <;> simp)
            clear hl
            have za' : (ford .f32 (cn .f32 (Za 0)) (some 0) == some .eq) = true := za
            have zc' : (ford .f32 (cn .f32 (Zc P)) (some 0) == some .eq) = true := zc
            clear za
            clear zc
            go_enter Try.func33, Try.ntmps33
            go_wp2_with (go_at_call 59; first | ((with_reducible refine (specFin_any (some ⟨b1, o1, none⟩) _ ca Za _ hna (ha.below (by repeat first | (with_reducible exact Below.refl _ _) | (with_reducible refine Below.setCell ?_ (by first | exact Nat.le_refl _ | (simp; done) | (simp; omega) | omega) _) | (with_reducible refine Below.alloc ?_ (by first | exact Nat.le_refl _ | (simp; done) | (simp; omega) | omega) _) | (with_reducible refine below_drewN ?_ _) | (with_reducible refine Below.drew ?_)) (Nat.le_refl _))).mono ?_); rintro e w' ⟨rfl, qa, rfl⟩) | ((with_reducible refine (specFin_any ab _ cb Zb _ hnb (hb.below (by repeat first | (with_reducible exact Below.refl _ _) | (with_reducible refine Below.setCell ?_ (by first | exact Nat.le_refl _ | (simp; done) | (simp; omega) | omega) _) | (with_reducible refine Below.alloc ?_ (by first | exact Nat.le_refl _ | (simp; done) | (simp; omega) | omega) _) | (with_reducible refine below_drewN ?_ _) | (with_reducible refine Below.drew ?_)) (Nat.le_refl _))).mono ?_); rintro e w' ⟨rfl, qb, rfl⟩) | ((with_reducible refine (specFin_any (some ⟨b3, o3, none⟩) _ cc Zc _ hnc (hc.below (by repeat first | (with_reducible exact Below.refl _ _) | (with_reducible refine Below.setCell ?_ (by first | exact Nat.le_refl _ | (simp; done) | (simp; omega) | omega) _) | (with_reducible refine Below.alloc ?_ (by first | exact Nat.le_refl _ | (simp; done) | (simp; omega) | omega) _) | (with_reducible refine below_drewN ?_ _) | (with_reducible refine Below.drew ?_)) (Nat.le_refl _))).mono ?_); rintro e w' ⟨rfl, qc, rfl⟩))
            go_ret
            exact ⟨by rw [HB.out]; rfl, by first | exact ⟨_, rfl⟩ | exact ⟨_, World.drewN_drewN _ _ _⟩ | exact ⟨_, by rw [World.drewN_drewN, World.drewN_drewN]⟩⟩
theorem keyValidThirds (na : Nat) (Za : Nat → Nat) (nb : Nat) (Zb : Nat → Nat) (nc : Nat) (Zc : Nat → Nat) (hna : na ≤ 1048576) (hnb : nb ≤ 1048576) (hnc : nc ≤ 1048576) : ∃ ok : Bool,
    (∀ aa ca ab cb ac cc W, FS .f32 W aa na ca Za → FS .f32 W ab nb cb Zb → FS .f32 W ac nc cc Zc → Calls Try.prog 10 #[.agg #[.slice aa na ca, .slice ab nb cb, .slice ac nc cc]] W (BoolBel ok W)) ∧
    (∀ aa ca ab cb ac cc W, FS .f32 W aa na ca Za → FS .f32 W ab nb cb Zb → FS .f32 W ac nc cc Zc → Calls Try.prog 12 #[.agg #[.slice aa na ca, .slice ab nb cb, .slice ac nc cc]] W (BoolBel ok W)) := by
  refine ⟨thirdsB na (vals Za) nb (vals Zb) nc (vals Zc), fun aa ca ab cb ac cc W ha hb hc => ?_, fun aa ca ab cb ac cc W ha hb hc => implThirds_any aa na ca Za ab nb cb Zb ac nc cc Zc W hna hnb hnc ha hb hc⟩
  go_enter Try.func10, Try.ntmps10
  go_wp2_with fail
  go_at_call 33
  refine (specThirds_any _ aa na ca Za ab nb cb Zb ac nc cc Zc _ hna hnb hnc (BoxL.three (by simp [go_sem]) (by simp [go_sem]) (by simp [go_sem])) (ha.below (by repeat first | (with_reducible exact Below.refl _ _) | (with_reducible refine Below.setCell ?_ (by first | exact Nat.le_refl _ | (simp; done) | (simp; omega) | omega) _) | (with_reducible refine Below.alloc ?_ (by first | exact Nat.le_refl _ | (simp; done) | (simp; omega) | omega) _) | (with_reducible refine below_drewN ?_ _) | (with_reducible refine Below.drew ?_)) (Nat.le_refl _)) (hb.below (by repeat first | (with_reducible exact Below.refl _ _) | (with_reducible refine Below.setCell ?_ (by first | exact Nat.le_refl _ | (simp; done) | (simp; omega) | omega) _) | (with_reducible refine Below.alloc ?_ (by first | exact Nat.le_refl _ | (simp; done) | (simp; omega) | omega) _) | (with_reducible refine below_drewN ?_ _) | (with_reducible refine Below.drew ?_)) (Nat.le_refl _)) (hc.below (by repeat first | (with_reducible exact Below.refl _ _) | (with_reducible refine Below.setCell ?_ (by first | exact Nat.le_refl _ | (simp; done) | (simp; omega) | omega) _) | (with_reducible refine Below.alloc ?_ (by first | exact Nat.le_refl _ | (simp; done) | (simp; omega) | omega) _) | (with_reducible refine below_drewN ?_ _) | (with_reducible refine Below.drew ?_)) (Nat.le_refl _))).mono ?_
  rintro e w' ⟨rfl, m, rfl⟩
  go_wp2_with fail
  go_ret
  exact ⟨rfl, (by repeat first | (with_reducible exact Below.refl _ _) | (with_reducible refine Below.setCell ?_ (by first | exact Nat.le_refl _ | (simp; done) | (simp; omega) | omega) _) | (with_reducible refine Below.alloc ?_ (by first | exact Nat.le_refl _ | (simp; done) | (simp; omega) | omega) _) | (with_reducible refine below_drewN ?_ _) | (with_reducible refine Below.drew ?_))⟩
end Go.Proofs.Ytpmilaemmdcfaab
