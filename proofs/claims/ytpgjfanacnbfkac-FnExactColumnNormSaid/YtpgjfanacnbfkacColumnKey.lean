/- Helper: the greatest sum of a column, of the program and of its reference. Conditions: none. -/
import Derived.Test.YtpgjfanacnbfkacNormKey
import Derived.Test.YtpgjfanacnbfkacFlipWalks
set_option linter.unusedVariables false
namespace Go.Proofs.Ytpgjfanacnbfkac
open Go.RowKit

theorem rowS_congr {V W : Nat → Option Nat} {c i : Nat} : ∀ {k}, (∀ j, j < k → V (i * c + j) = W (i * c + j)) → rowS V c i k = rowS W c i k
  | 0, _ => rfl
  | k + 1, h => by
    unfold rowS
    rw [rowS_congr fun j hj => h j (by omega), h k (by omega)]
theorem gr_congr {V W : Nat → Option Nat} {c : Nat} : ∀ {i}, (∀ j, j < i * c → V j = W j) → gr V c i = gr W c i
  | 0, _ => rfl
  | i + 1, h => by
    have h1 : (i + 1) * c = i * c + c := by rw [Nat.add_mul, Nat.one_mul]
    unfold gr
    rw [gr_congr fun j hj => h j (by omega), rowS_congr fun j hj => h _ (by omega)]
theorem allFin_of {V : Nat → Option Nat} : ∀ {n : Nat}, (∀ j, j < n → finite .f32 (V j) = true) → allFin V n = true
  | 0, _ => rfl
  | n + 1, h => allFin_succ (allFin_of fun j hj => h j (by omega)) (h n (by omega))
theorem flip_fin {r c n : Nat} {Z : Nat → Nat} (hr1 : 1 ≤ r) (hn : n = r * c) (h : allFin (vals Z) n = true) : allFin (vals (flipZ r c Z)) n = true := by
  refine allFin_of fun j hj => ?_
  have hmod : j % r < r := Nat.mod_lt _ hr1
  have hdiv : j / r < c := Nat.div_lt_of_lt_mul (by rw [← hn]; exact hj)
  have hp := place_lt hmod hdiv
  rw [← hn] at hp
  exact allFin_lt (V := vals Z) h hp
def colOk (R C : Int) (n : Nat) (Z : Nat → Nat) : Bool := validB R C n (vals Z) && finite .f32 (gr (vals (flipZ R.toNat C.toNat Z)) R.toNat C.toNat)
def colV (R C : Int) (n : Nat) (Z : Nat → Nat) : Option Nat := pick (colOk R C n Z) (gr (vals (flipZ R.toNat C.toNat Z)) R.toNat C.toNat)
set_option maxHeartbeats 1000000 in
theorem implColumnNorm_any (R C : Int) (a : Option Addr) (n cap : Nat) (Z : Nat → Nat) (w : World) (hn : n ≤ 1048576) (h : FS .f32 w a n cap Z) :
    Calls Try.prog 16 #[.agg #[.int .i64 R, .int .i64 C, .slice a n cap]] w (NumBel (colOk R C n Z) (colV R C n Z) w) := by
  unfold colV
  cases hv : validB R C n (vals Z) with
  | false =>
    have HK : Hid (colOk R C n Z = false) := Lib.hid (by unfold colOk; rw [hv]; rfl)
    go_enter Try.func16, Try.ntmps16
    go_wp2_with fail
    go_at_call 31
    refine (implValid_any R C a n cap Z _ hn (h.below (by repeat first | (with_reducible exact Below.refl _ _) | (with_reducible refine Below.setCell ?_ (by first | exact Nat.le_refl _ | (simp; done) | (simp; omega) | omega) _) | (with_reducible refine Below.alloc ?_ (by first | exact Nat.le_refl _ | (simp; done) | (simp; omega) | omega) _) | (with_reducible refine below_drewN ?_ _) | (with_reducible refine Below.drew ?_)) (Nat.le_refl _))).mono ?_
    rintro e w1 ⟨rfl, b1⟩
    have B1 : Below w.heap.size w w1 := Below.trans (by repeat first | (with_reducible exact Below.refl _ _) | (with_reducible refine Below.setCell ?_ (by first | exact Nat.le_refl _ | (simp; done) | (simp; omega) | omega) _) | (with_reducible refine Below.alloc ?_ (by first | exact Nat.le_refl _ | (simp; done) | (simp; omega) | omega) _) | (with_reducible refine below_drewN ?_ _) | (with_reducible refine Below.drew ?_)) (b1.mono (by simp))
    go_wp2_with fail
    go_ret2
    rw [HK.out]
    exact ⟨_, rfl, pick_no _ rfl, B1⟩
  | true =>
    have hv' := hv
    obtain ⟨r, c, rfl, rfl, hr1, hr, hc1, hc, hnr, hall⟩ := valid_nat hv
    have HK : Hid (colOk r c n Z = finite .f32 (gr (vals (flipZ r c Z)) r c)) := Lib.hid (by unfold colOk; rw [hv']; simp)
    have h0 : 0 < n := by rw [hnr]; exact Nat.mul_pos hr1 hc1
    obtain ⟨b, off, rfl, _, _, _⟩ := h.at h0
    have hnr' := Lib.hid hnr
    have hnf := Lib.hid (hnr.trans (Nat.mul_comm _ _))
    have hall' := Lib.hid (flip_fin hr1 hnr hall)
    clear hnr h0 hv' hall
    go_enter Try.func16, Try.ntmps16
    go_wp2_with fail
    go_at_call 31
    refine (implValid_any r c _ n cap Z _ hn (h.below (by repeat first | (with_reducible exact Below.refl _ _) | (with_reducible refine Below.setCell ?_ (by first | exact Nat.le_refl _ | (simp; done) | (simp; omega) | omega) _) | (with_reducible refine Below.alloc ?_ (by first | exact Nat.le_refl _ | (simp; done) | (simp; omega) | omega) _) | (with_reducible refine below_drewN ?_ _) | (with_reducible refine Below.drew ?_)) (Nat.le_refl _))).mono ?_
    rintro e w1 ⟨rfl, b1⟩
    have B1 : Below w.heap.size w w1 := Below.trans (by repeat first | (with_reducible exact Below.refl _ _) | (with_reducible refine Below.setCell ?_ (by first | exact Nat.le_refl _ | (simp; done) | (simp; omega) | omega) _) | (with_reducible refine Below.alloc ?_ (by first | exact Nat.le_refl _ | (simp; done) | (simp; omega) | omega) _) | (with_reducible refine below_drewN ?_ _) | (with_reducible refine Below.drew ?_)) (b1.mono (by simp))
    obtain ⟨x0, x1, x2⟩ := (Box.new _ _ _ _ _ _ _).below b1 (by simp)
    have f1 := h.below B1 (Nat.le_refl _)
    clear b1
    go_wp2_with fail
    go_at_call 35
    refine (flipped_any r c n b off cap Z _ hr1 hr hc1 hc hnr'.out f1).mono ?_
    rintro e w2 ⟨g, rfl, o2, b2⟩
    have B2 := B1.trans (b2.mono B1.size)
    clear b2 x0 x1 x2
    go_wp2_with fail
    go_at_call 33
    refine (greatestRow_any c r n g 0 n (flipZ r c Z) _ hc1 hc hr1 hr hnf.out hall'.out o2.fs).mono ?_
    rintro e w3 ⟨q, rfl, hq, b3⟩
    have B3 := Lib.hid (B2.trans (b3.mono B2.size))
    clear b3 o2
    go_wp2_with fail
    go_at_call 32
    refine (implNumber_any _ hq _).mono ?_
    intro e w4 hp
    have hp' := Lib.hid (NumBel.of hp B3.out)
    obtain ⟨q, rfl, hv, m, rfl⟩ := hp
    go_wp2_with fail
    go_ret2
    rw [HK.out]
    exact hp'.out
set_option maxHeartbeats 1000000 in
theorem specColumnNorm_any (R C : Int) (a : Option Addr) (n cap : Nat) (Z : Nat → Nat) (w : World) (hn : n ≤ 1048576) (h : FS .f32 w a n cap Z) :
    Calls Try.prog 15 #[.agg #[.int .i64 R, .int .i64 C, .slice a n cap]] w (NumBel (colOk R C n Z) (colV R C n Z) w) := by
  unfold colV
  cases hv : validB R C n (vals Z) with
  | false =>
    have HK : Hid (colOk R C n Z = false) := Lib.hid (by unfold colOk; rw [hv]; rfl)
    go_enter Try.func15, Try.ntmps15
    go_wp2_with fail
    go_at_call 28
    refine (specIs_any _ R C a n cap Z _ hn (Box.new _ _ _ _ _ _ _) (h.below (by repeat first | (with_reducible exact Below.refl _ _) | (with_reducible refine Below.setCell ?_ (by first | exact Nat.le_refl _ | (simp; done) | (simp; omega) | omega) _) | (with_reducible refine Below.alloc ?_ (by first | exact Nat.le_refl _ | (simp; done) | (simp; omega) | omega) _) | (with_reducible refine below_drewN ?_ _) | (with_reducible refine Below.drew ?_)) (Nat.le_refl _))).mono ?_
    rintro e w1 ⟨rfl, m1, rfl⟩
    go_wp2_with fail
    go_ret2
    rw [HK.out]
    exact ⟨_, rfl, pick_no _ rfl, (by repeat first | (with_reducible exact Below.refl _ _) | (with_reducible refine Below.setCell ?_ (by first | exact Nat.le_refl _ | (simp; done) | (simp; omega) | omega) _) | (with_reducible refine Below.alloc ?_ (by first | exact Nat.le_refl _ | (simp; done) | (simp; omega) | omega) _) | (with_reducible refine below_drewN ?_ _) | (with_reducible refine Below.drew ?_))⟩
  | true =>
    have hv' := hv
    obtain ⟨r, c, rfl, rfl, hr1, hr, hc1, hc, hnr, hall⟩ := valid_nat hv
    have HK : Hid (colOk r c n Z = finite .f32 (gr (vals (flipZ r c Z)) r c)) := Lib.hid (by unfold colOk; rw [hv']; simp)
    have h0 : 0 < n := by rw [hnr]; exact Nat.mul_pos hr1 hc1
    obtain ⟨b, off, rfl, _, _, _⟩ := h.at h0
    have hnr' := Lib.hid hnr
    have hnf := Lib.hid (hnr.trans (Nat.mul_comm _ _))
    have hall' := Lib.hid (flip_fin hr1 hnr hall)
    have hpos := Lib.hid h0
    clear hnr h0 hv' hall
    go_enter Try.func15, Try.ntmps15
    go_wp2_with fail
    go_at_call 28
    refine (specIs_any _ r c _ n cap Z _ hn (Box.new _ _ _ _ _ _ _) (h.below (by repeat first | (with_reducible exact Below.refl _ _) | (with_reducible refine Below.setCell ?_ (by first | exact Nat.le_refl _ | (simp; done) | (simp; omega) | omega) _) | (with_reducible refine Below.alloc ?_ (by first | exact Nat.le_refl _ | (simp; done) | (simp; omega) | omega) _) | (with_reducible refine below_drewN ?_ _) | (with_reducible refine Below.drew ?_)) (Nat.le_refl _))).mono ?_
    rintro e w1 ⟨rfl, m1, rfl⟩
    go_wp2_with fail
    go_at_call 34
    refine (l02Flip_any w.heap.size r c n b off cap Z _ hr1 hr hc1 hc hnr'.out (by simp [World.drewN]) (by refine ⟨?_, ?_, ?_⟩ <;> simp [go_sem]) (h.below (by repeat first | (with_reducible exact Below.refl _ _) | (with_reducible refine Below.setCell ?_ (by first | exact Nat.le_refl _ | (simp; done) | (simp; omega) | omega) _) | (with_reducible refine Below.alloc ?_ (by first | exact Nat.le_refl _ | (simp; done) | (simp; omega) | omega) _) | (with_reducible refine below_drewN ?_ _) | (with_reducible refine Below.drew ?_)) (Nat.le_refl _))).mono ?_
    rintro e w2 ⟨a2, cap2, Y, rfl, f2, hlow, hV, b2⟩
    have B2 : Below w.heap.size w w2 := Below.trans (by repeat first | (with_reducible exact Below.refl _ _) | (with_reducible refine Below.setCell ?_ (by first | exact Nat.le_refl _ | (simp; done) | (simp; omega) | omega) _) | (with_reducible refine Below.alloc ?_ (by first | exact Nat.le_refl _ | (simp; done) | (simp; omega) | omega) _) | (with_reducible refine below_drewN ?_ _) | (with_reducible refine Below.drew ?_)) (b2.mono (by simp [World.drewN]))
    have hall2 : Hid (allFin (vals Y) n = true) := Lib.hid ((allFin_congr hV).trans hall'.out)
    have hgr : Hid (gr (vals Y) r c = gr (vals (flipZ r c Z)) r c) := Lib.hid (gr_congr fun j hj => hV j (by rw [hnf.out]; exact hj))
    obtain ⟨g2, off2, rfl, _, _, _⟩ := f2.at hpos.out
    clear b2 hlow hV
    go_wp2_with fail
    go_at_call 30
    refine (specGreatest_any _ c r n g2 off2 cap2 Y _ hc1 hc hr1 hr hnf.out hall2.out (Box.new _ _ _ _ _ _ _) (f2.below (by repeat first | (with_reducible exact Below.refl _ _) | (with_reducible refine Below.setCell ?_ (by first | exact Nat.le_refl _ | (simp; done) | (simp; omega) | omega) _) | (with_reducible refine Below.alloc ?_ (by first | exact Nat.le_refl _ | (simp; done) | (simp; omega) | omega) _) | (with_reducible refine below_drewN ?_ _) | (with_reducible refine Below.drew ?_)) (Nat.le_refl _))).mono ?_
    rintro e w3 ⟨q, rfl, hq, m2, rfl⟩
    have hq2 := FV.of_eq hq hgr.out
    clear hq
    go_wp2_with fail
    go_at_call 29
    refine (specNumber_any _ hq2 _).mono ?_
    intro e w4 hp
    obtain ⟨q, rfl, hv, m, rfl⟩ := hp
    go_wp2_with fail
    go_ret2
    rw [HK.out]
    have s2 := B2.size
    exact ⟨_, rfl, hv, (by repeat first | (with_reducible exact B2) | (with_reducible refine Below.setCell ?_ (by first | exact Nat.le_refl _ | (simp; done) | (simp; omega) | omega) _) | (with_reducible refine Below.alloc ?_ (by first | exact Nat.le_refl _ | (simp; done) | (simp; omega) | omega) _) | (with_reducible refine below_drewN ?_ _) | (with_reducible refine Below.drew ?_))⟩
theorem keyColumnNorm (R C : Int) (n : Nat) (Z : Nat → Nat) (hn : n ≤ 1048576) : ∃ (ok : Bool) (X : Option Nat),
    (∀ a c W, FS .f32 W a n c Z → Calls Try.prog 15 #[.agg #[.int .i64 R, .int .i64 C, .slice a n c]] W (NumBel ok X W)) ∧
    (∀ a c W, FS .f32 W a n c Z → Calls Try.prog 16 #[.agg #[.int .i64 R, .int .i64 C, .slice a n c]] W (NumBel ok X W)) :=
  ⟨_, _, fun a c W h => specColumnNorm_any R C a n c Z W hn h, fun a c W h => implColumnNorm_any R C a n c Z W hn h⟩
end Go.Proofs.Ytpgjfanacnbfkac
