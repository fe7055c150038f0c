/- Helper: determinants told by factors, of the program and of its reference. Conditions: none. -/
import Derived.Test.YtpmilaemmdcfaacFactorKey
import Derived.Test.YtpmilaemmdcfaacOrderMore
import Derived.Test.YtpmilaemmdcfaacVecSums
set_option linter.unusedVariables false
set_option linter.unusedSimpArgs false
namespace Go.Proofs.Ytpmilaemmdcfaac
open Go.RowKit

def detV (S : Int) (M : Nat → Option Nat) : Nat → Option Nat
  | 0 => some (floatOfInt .f32 S)
  | k + 1 => fop .mul .f32 (detV S M k) (M k)
def NumPost2 (ok : Bool) (X : Option Nat) (w : World) (e : Ending) (w' : World) : Prop := NumBel ok (pick ok X) w e w'
set_option maxHeartbeats 1000000 in
theorem implDet_no (R C : Int) (a : Option Addr) (n c : Nat) (Z : Nat → Nat) (b : Option Addr) (m d : Nat) (O : Nat → Int) (w : World) (hn : n ≤ 1048576) (hm : m ≤ 1048576) (h : FS .f32 w a n c Z) (h2 : IS .i64 w b m d O) (ho : factorB R C n (vals Z) m O = false) :
    Calls Try.prog 25 #[.agg #[.int .i64 R, .int .i64 C, .slice a n c, .slice b m d]] w (NumPost2 false none w) := by
  go_enter Try.func25, Try.ntmps25
  go_wp2_with fail
  go_at_call 12
  refine (implFactor_any R C a n c Z b m d O _ hn hm (h.below (by repeat first | (with_reducible exact Below.refl _ _) | (with_reducible refine Below.setCell ?_ (by first | exact Nat.le_refl _ | (simp; done) | (simp; omega) | omega) _) | (with_reducible refine Below.alloc ?_ (by first | exact Nat.le_refl _ | (simp; done) | (simp; omega) | omega) _) | (with_reducible refine below_drewN ?_ _) | (with_reducible refine Below.drew ?_)) (Nat.le_refl _)) (h2.below (by repeat first | (with_reducible exact Below.refl _ _) | (with_reducible refine Below.setCell ?_ (by first | exact Nat.le_refl _ | (simp; done) | (simp; omega) | omega) _) | (with_reducible refine Below.alloc ?_ (by first | exact Nat.le_refl _ | (simp; done) | (simp; omega) | omega) _) | (with_reducible refine below_drewN ?_ _) | (with_reducible refine Below.drew ?_)) (Nat.le_refl _))).mono ?_
  rintro e w1 ⟨rfl, b1⟩
  rw [ho]
  have B1 : Below w.heap.size w w1 := Below.trans (by repeat first | (with_reducible exact Below.refl _ _) | (with_reducible refine Below.setCell ?_ (by first | exact Nat.le_refl _ | (simp; done) | (simp; omega) | omega) _) | (with_reducible refine Below.alloc ?_ (by first | exact Nat.le_refl _ | (simp; done) | (simp; omega) | omega) _) | (with_reducible refine below_drewN ?_ _) | (with_reducible refine Below.drew ?_)) (b1.mono (by simp))
  go_wp2_with fail
  go_ret2
  exact ⟨0, rfl, pick_no _ rfl, B1⟩
set_option maxRecDepth 20000 in
set_option maxHeartbeats 2000000 in
theorem implDet_yes (r n ba oa c bb ob d : Nat) (Z : Nat → Nat) (O : Nat → Int) (w : World) (hf : factorB r r n (vals Z) r O = true) (h : FS .f32 w (some ⟨ba, oa, none⟩) n c Z) (h2 : IS .i64 w (some ⟨bb, ob, none⟩) r d O) :
    Calls Try.prog 25 #[.agg #[.int .i64 (r : Int), .int .i64 (r : Int), .slice (some ⟨ba, oa, none⟩) n c, .slice (some ⟨bb, ob, none⟩) r d]] w (NumPost2 (finite .f32 (detV (sg O r r) (midZ r (vals Z)) r)) (detV (sg O r r) (midZ r (vals Z)) r) w) := by
  obtain ⟨r', e1, _, _, h1, h12, hN, _, _, hord, _⟩ := factor_nat hf
  have e2 : r = r' := by omega
  subst e2
  have HN := Lib.hid hN
  have hn144 : n ≤ 144 := by have := sides_le h12 h12; omega
  clear hN
  obtain ⟨DD, hDD⟩ : ∃ F, F = detV (sg O r r) (midZ r (vals Z)) := ⟨_, rfl⟩
  rw [← hDD]
  have HDD := Lib.hid hDD
  clear hDD
  go_enter Try.func25, Try.ntmps25
  go_wp2_with fail
  go_at_call 12
  refine (implFactor_any _ _ _ n c Z _ r d O _ (by omega) (by omega) (h.below (by repeat first | (with_reducible exact Below.refl _ _) | (with_reducible refine Below.setCell ?_ (by first | exact Nat.le_refl _ | (simp; done) | (simp; omega) | omega) _) | (with_reducible refine Below.alloc ?_ (by first | exact Nat.le_refl _ | (simp; done) | (simp; omega) | omega) _) | (with_reducible refine below_drewN ?_ _) | (with_reducible refine Below.drew ?_)) (Nat.le_refl _)) (h2.below (by repeat first | (with_reducible exact Below.refl _ _) | (with_reducible refine Below.setCell ?_ (by first | exact Nat.le_refl _ | (simp; done) | (simp; omega) | omega) _) | (with_reducible refine Below.alloc ?_ (by first | exact Nat.le_refl _ | (simp; done) | (simp; omega) | omega) _) | (with_reducible refine below_drewN ?_ _) | (with_reducible refine Below.drew ?_)) (Nat.le_refl _))).mono ?_
  rintro e w1 ⟨rfl, b1⟩
  rw [hf]
  have B1 : Below w.heap.size w w1 := Below.trans (by repeat first | (with_reducible exact Below.refl _ _) | (with_reducible refine Below.setCell ?_ (by first | exact Nat.le_refl _ | (simp; done) | (simp; omega) | omega) _) | (with_reducible refine Below.alloc ?_ (by first | exact Nat.le_refl _ | (simp; done) | (simp; omega) | omega) _) | (with_reducible refine below_drewN ?_ _) | (with_reducible refine Below.drew ?_)) (b1.mono (by simp))
  have s1 : w.heap.size < w1.heap.size := by have := b1.size; simp at this; omega
  have X1 : BoxL w1 w.heap.size [.int .i64 (r : Int), .int .i64 (r : Int), .slice (some ⟨ba, oa, none⟩) n c, .slice (some ⟨bb, ob, none⟩) r d] := BoxL.below (BoxL.four (by simp [go_sem]) (by simp [go_sem]) (by simp [go_sem]) (by simp [go_sem])) b1 (by simp)
  have x3 := X1 3 _ rfl
  clear b1 hf
  go_wp2_with fail
  go_at_call 57
  refine (implSign_yes bb ob r d O _ h12 (h2.below B1 (Nat.le_refl _)) hord).mono ?_
  rintro e w2 ⟨rfl, b2⟩
  have B2 := B1.trans (b2.mono B1.size)
  have X2 := X1.below b2 s1
  have x0 := X2 0 _ rfl
  have x1 := X2 1 _ rfl
  have x2 := X2 2 _ rfl
  clear b2 X1 x3 B1 s1
  go_wp2_with fail
  go_at_call 41
  refine (middle_any r n ba oa c Z _ h1 h12 HN.out (h.below B2 (Nat.le_refl _))).mono ?_
  rintro e w3 ⟨g, rfl, o3, b3⟩
  have B3 := B2.trans (b3.mono B2.size)
  have FX := Own.fs o3
  clear o3 b3 x0 x1 x2 X2 B2
  go_wp2_with fail
  go_loopw [6, 24] (fun s i wr => ∃ (j q x : Nat), j ≤ r ∧ i = .int .i64 j ∧ s = .float .f32 x ∧ FV .f32 x (DD j) ∧ wr = w3.drewN q) (fun _ i _ => r - (intOf i).toNat)
  case atStart => exact ⟨0, 0, _, Nat.zero_le _, rfl, rfl, by rw [HDD.out]; exact FV.ofInt _ _, rfl⟩
  case round =>
    obtain ⟨j, q, x, hj, rfl, rfl, hx, rfl⟩ := hrel
    by_cases hlt : j < r
    · obtain ⟨bm, om, e, hbl, hcm, hfm⟩ := FX.at hlt
      simp only [Option.some.injEq, Addr.mk.injEq, and_true] at e
      obtain ⟨rfl, rfl⟩ := e
      rw [Nat.zero_add] at hcm
      clear hbl
      go_wp2_with (first | (refine wpList_farith rfl _ _ _ _ _ rfl rfl _ _ _ rfl rfl hx hfm ?_; intro r1 m1 hr1))
      have hnx : Hid (FV .f32 r1 (DD (j + 1))) := Lib.hid (FV.of_eq hr1 (by rw [HDD.out]; rfl))
      go_roundw
      case rel => exact ⟨j + 1, _, _, by omega, by go_num, rfl, hnx.out, by first | rfl | exact World.drewN_drewN _ _ _⟩
      case measure => simp [intOf]; omega
    · obtain rfl : j = r := by omega
      go_wp2_with (go_at_call 58; refine (implNumber_any _ hx _).mono ?_; rintro e w' ⟨r2, rfl, hr2, q2, rfl⟩)
      go_ret2
      exact ⟨_, rfl, hr2, (by repeat first | (with_reducible exact B3) | (with_reducible refine Below.setCell ?_ (by first | exact Nat.le_refl _ | (simp; done) | (simp; omega) | omega) _) | (with_reducible refine Below.alloc ?_ (by first | exact Nat.le_refl _ | (simp; done) | (simp; omega) | omega) _) | (with_reducible refine below_drewN ?_ _) | (with_reducible refine Below.drew ?_))⟩
set_option maxHeartbeats 1000000 in
theorem specDet_no (R C : Int) (a : Option Addr) (n c : Nat) (Z : Nat → Nat) (b : Option Addr) (m d : Nat) (O : Nat → Int) (w : World) (hn : n ≤ 1048576) (hm : m ≤ 1048576) (h : FS .f32 w a n c Z) (h2 : IS .i64 w b m d O) (ho : factorB R C n (vals Z) m O = false) :
    Calls Try.prog 24 #[.agg #[.int .i64 R, .int .i64 C, .slice a n c, .slice b m d]] w (NumPost2 false none w) := by
  obtain ⟨okS, XS, kS, _⟩ := keyOrderSign m O hm
  go_enter Try.func24, Try.ntmps24
  go_wp2_with fail
  go_at_call 55
  refine (kS _ _ _ (h2.below (by repeat first | (with_reducible exact Below.refl _ _) | (with_reducible refine Below.setCell ?_ (by first | exact Nat.le_refl _ | (simp; done) | (simp; omega) | omega) _) | (with_reducible refine Below.alloc ?_ (by first | exact Nat.le_refl _ | (simp; done) | (simp; omega) | omega) _) | (with_reducible refine below_drewN ?_ _) | (with_reducible refine Below.drew ?_)) (Nat.le_refl _))).mono ?_
  rintro e w1 ⟨rfl, b1⟩
  have B1 : Below w.heap.size w w1 := Below.trans (by repeat first | (with_reducible exact Below.refl _ _) | (with_reducible refine Below.setCell ?_ (by first | exact Nat.le_refl _ | (simp; done) | (simp; omega) | omega) _) | (with_reducible refine Below.alloc ?_ (by first | exact Nat.le_refl _ | (simp; done) | (simp; omega) | omega) _) | (with_reducible refine below_drewN ?_ _) | (with_reducible refine Below.drew ?_)) (b1.mono (by simp))
  have s1 : w.heap.size < w1.heap.size := by have := b1.size; simp at this; omega
  have X1 : BoxL w1 w.heap.size [.int .i64 R, .int .i64 C, .slice a n c, .slice b m d] := BoxL.below (BoxL.four (by simp [go_sem]) (by simp [go_sem]) (by simp [go_sem]) (by simp [go_sem])) b1 (by simp)
  clear b1
  go_wp2_with fail
  go_at_call 35
  refine (specFactor_any _ R C a n c Z b m d O _ hn hm s1 X1 (h.below B1 (Nat.le_refl _)) (h2.below B1 (Nat.le_refl _))).mono ?_
  rintro e w2 ⟨rfl, b2⟩
  rw [ho]
  have B2 := B1.trans (b2.mono B1.size)
  go_wp2_with fail
  go_ret2
  exact ⟨0, rfl, pick_no _ rfl, B2⟩
set_option maxRecDepth 20000 in
set_option maxHeartbeats 2000000 in
theorem specDet_yes (r n ba oa c bb ob d : Nat) (Z : Nat → Nat) (O : Nat → Int) (w : World) (hf : factorB r r n (vals Z) r O = true) (h : FS .f32 w (some ⟨ba, oa, none⟩) n c Z) (h2 : IS .i64 w (some ⟨bb, ob, none⟩) r d O) :
    Calls Try.prog 24 #[.agg #[.int .i64 (r : Int), .int .i64 (r : Int), .slice (some ⟨ba, oa, none⟩) n c, .slice (some ⟨bb, ob, none⟩) r d]] w (NumPost2 (finite .f32 (detV (sg O r r) (midZ r (vals Z)) r)) (detV (sg O r r) (midZ r (vals Z)) r) w) := by
  obtain ⟨r', e1, _, _, h1, h12, hN, _, _, hord, _⟩ := factor_nat hf
  have e2 : r = r' := by omega
  subst e2
  have HN := Lib.hid hN
  have hn144 : n ≤ 144 := by have := sides_le h12 h12; omega
  clear hN
  obtain ⟨DD, hDD⟩ : ∃ F, F = detV (sg O r r) (midZ r (vals Z)) := ⟨_, rfl⟩
  rw [← hDD]
  have HDD := Lib.hid hDD
  clear hDD
  go_enter Try.func24, Try.ntmps24
  go_wp2_with fail
  go_at_call 55
  refine (specSign_yes bb ob r d O _ h12 (h2.below (by repeat first | (with_reducible exact Below.refl _ _) | (with_reducible refine Below.setCell ?_ (by first | exact Nat.le_refl _ | (simp; done) | (simp; omega) | omega) _) | (with_reducible refine Below.alloc ?_ (by first | exact Nat.le_refl _ | (simp; done) | (simp; omega) | omega) _) | (with_reducible refine below_drewN ?_ _) | (with_reducible refine Below.drew ?_)) (Nat.le_refl _)) hord).mono ?_
  rintro e w1 ⟨rfl, b1⟩
  have B1 : Below w.heap.size w w1 := Below.trans (by repeat first | (with_reducible exact Below.refl _ _) | (with_reducible refine Below.setCell ?_ (by first | exact Nat.le_refl _ | (simp; done) | (simp; omega) | omega) _) | (with_reducible refine Below.alloc ?_ (by first | exact Nat.le_refl _ | (simp; done) | (simp; omega) | omega) _) | (with_reducible refine below_drewN ?_ _) | (with_reducible refine Below.drew ?_)) (b1.mono (by simp))
  have s1 : w.heap.size < w1.heap.size := by have := b1.size; simp at this; omega
  have X1 : BoxL w1 w.heap.size [.int .i64 (r : Int), .int .i64 (r : Int), .slice (some ⟨ba, oa, none⟩) n c, .slice (some ⟨bb, ob, none⟩) r d] := BoxL.below (BoxL.four (by simp [go_sem]) (by simp [go_sem]) (by simp [go_sem]) (by simp [go_sem])) b1 (by simp)
  clear b1
  go_wp2_with fail
  go_at_call 35
  refine (specFactor_any _ _ _ _ n c Z _ r d O _ (by omega) (by omega) s1 X1 (h.below B1 (Nat.le_refl _)) (h2.below B1 (Nat.le_refl _))).mono ?_
  rintro e w2 ⟨rfl, b2⟩
  rw [hf]
  have B2 := B1.trans (b2.mono B1.size)
  have X2 := X1.below b2 s1
  have s2 : w.heap.size < w2.heap.size := Nat.lt_of_lt_of_le s1 b2.size
  have F2 := h.below B2 (Nat.le_refl _)
  have BX2 : Box w2 w.heap.size (r : Int) (r : Int) (some ⟨ba, oa, none⟩) n c := ⟨X2 0 _ rfl, X2 1 _ rfl, X2 2 _ rfl⟩
  have x0 := X2 0 _ rfl
  clear b2 X1 B1 s1 hf X2
  go_wp2_with fail
  go_loopw [6, 7] (fun s i wr => ∃ (j q x : Nat), j ≤ r ∧ i = .int .i64 j ∧ s = .float .f32 x ∧ FV .f32 x (DD j) ∧ wr = w2.drewN q) (fun _ i _ => r - (intOf i).toNat)
  case atStart => exact ⟨0, 0, _, Nat.zero_le _, rfl, rfl, by rw [HDD.out]; exact FV.ofInt _ _, rfl⟩
  case round =>
    obtain ⟨j, q, x, hj, rfl, rfl, hx, rfl⟩ := hrel
    by_cases hlt : j < r
    · have hdl : decide ((j : Int) < (r : Int)) = true := decide_eq_true (by omega)
      have hpl : j * r + j < n := by have := place_lt hlt hlt; rw [← HN.out] at this; exact this
      have hw2 := ((F2.at hpl).elim fun _ q => q.elim fun _ q => q.2.2.2)
      have hfm : FV .f32 (Z (j * r + j)) (midZ r (vals Z) j) := hw2
      clear hw2
      go_wp2_with (first | (go_at_call 48; refine (specAt_any _ ba oa r r n c j j Z _ h12 h12 HN.out (Box.drewN BX2) (FS.drewN F2) hlt hlt).mono ?_; rintro e w' ⟨rfl, q1, rfl⟩) | (refine wpList_farith rfl _ _ _ _ _ rfl rfl _ _ _ rfl rfl hx hfm ?_; intro r1 m1 hr1))
      have hnx : Hid (FV .f32 r1 (DD (j + 1))) := Lib.hid (FV.of_eq hr1 (by rw [HDD.out]; rfl))
      go_roundw
      case rel => exact ⟨j + 1, _, _, by omega, by go_num, rfl, hnx.out, by first | rfl | (simp only [World.drewN_drewN]; done) | (simp only [World.drewN_drewN]; rfl)⟩
      case measure => simp [intOf]; omega
    · obtain rfl : j = r := by omega
      have hdl : decide ((j : Int) < (j : Int)) = false := decide_eq_false (by omega)
      go_wp2_with (go_at_call 56; refine (specNumber_any _ hx _).mono ?_; rintro e w' ⟨r2, rfl, hr2, q2, rfl⟩)
      go_ret2
      exact ⟨_, rfl, hr2, (by repeat first | (with_reducible exact B2) | (with_reducible refine Below.setCell ?_ (by first | exact Nat.le_refl _ | (simp; done) | (simp; omega) | omega) _) | (with_reducible refine Below.alloc ?_ (by first | exact Nat.le_refl _ | (simp; done) | (simp; omega) | omega) _) | (with_reducible refine below_drewN ?_ _) | (with_reducible refine Below.drew ?_))⟩
theorem keyFactorDet (R C : Int) (n : Nat) (Z : Nat → Nat) (m : Nat) (O : Nat → Int) (wR : (Lit.int .i64 R).wf = true) (wC : (Lit.int .i64 C).wf = true) (hn : n ≤ 1048576) (hm : m ≤ 1048576) : ∃ (ok : Bool) (X : Option Nat),
    (∀ a c b d W, FS .f32 W a n c Z → IS .i64 W b m d O → Calls Try.prog 24 #[.agg #[.int .i64 R, .int .i64 C, .slice a n c, .slice b m d]] W (NumBel ok X W)) ∧
    (∀ a c b d W, FS .f32 W a n c Z → IS .i64 W b m d O → Calls Try.prog 25 #[.agg #[.int .i64 R, .int .i64 C, .slice a n c, .slice b m d]] W (NumBel ok X W)) := by
  cases ho : factorB R C n (vals Z) m O with
  | false => exact ⟨false, some 0, fun a c b d W h h2 => specDet_no R C a n c Z b m d O W hn hm h h2 ho, fun a c b d W h h2 => implDet_no R C a n c Z b m d O W hn hm h h2 ho⟩
  | true =>
    obtain ⟨r, rfl, rfl, rfl, h1, h12, hN, _⟩ := factor_nat ho
    have hpos : 0 < n := by rw [hN]; exact Nat.mul_pos h1 h1
    refine ⟨finite .f32 (detV (sg O m m) (midZ m (vals Z)) m), pick (finite .f32 (detV (sg O m m) (midZ m (vals Z)) m)) (detV (sg O m m) (midZ m (vals Z)) m), fun a c b d W h h2 => ?_, fun a c b d W h h2 => ?_⟩
    · obtain ⟨ba, oa, rfl, _, _, _⟩ := h.at hpos
      obtain ⟨bb, ob, rfl, _⟩ := IS.at h2 (show 0 < m by omega)
      exact specDet_yes m n ba oa c bb ob d Z O W ho h h2
    · obtain ⟨ba, oa, rfl, _, _, _⟩ := h.at hpos
      obtain ⟨bb, ob, rfl, _⟩ := IS.at h2 (show 0 < m by omega)
      exact implDet_yes m n ba oa c bb ob d Z O W ho h h2
end Go.Proofs.Ytpmilaemmdcfaac
