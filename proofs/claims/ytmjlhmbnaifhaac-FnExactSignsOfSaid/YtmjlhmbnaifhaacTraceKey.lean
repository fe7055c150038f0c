/- Helper: the sum of the middle of a square, of the program and of its reference. Conditions: none. -/
import Derived.Test.YtmjlhmbnaifhaacSquare
import Derived.Test.YtmjlhmbnaifhaacVecSums
set_option linter.unusedVariables false
set_option linter.unusedSimpArgs false
namespace Go.Proofs.Ytmjlhmbnaifhaac
open Go.RowKit

/-- The sum of the middle. -/
def tr (V : Nat → Option Nat) (c : Nat) : Nat → Option Nat
  | 0 => some 0
  | i + 1 => fop .add .f32 (tr V c i) (V (i * c + i))
theorem tr_succ (V : Nat → Option Nat) (c i : Nat) : fop .add .f32 (tr V c i) (V (i * c + i)) = tr V c (i + 1) := rfl
def traceOk (R C : Int) (n : Nat) (Z : Nat → Nat) : Bool := squareB R C n (vals Z) && finite .f32 (tr (vals Z) R.toNat R.toNat)
def traceV (R C : Int) (n : Nat) (Z : Nat → Nat) : Option Nat := pick (traceOk R C n Z) (tr (vals Z) R.toNat R.toNat)
theorem NumBel.of {ok : Bool} {X : Option Nat} {w W w' : World} {e : Ending} (h : NumPost ok X W e w') (hb : Below w.heap.size w W) : NumBel ok (pick ok X) w e w' := by
  obtain ⟨r, he, hr, m, hw⟩ := h
  exact ⟨r, he, hr, by rw [hw]; exact below_drewN hb m⟩

set_option maxHeartbeats 1000000 in
theorem implTrace_any (R C : Int) (a : Option Addr) (n cap : Nat) (Z : Nat → Nat) (w : World) (hn : n ≤ 1048576) (h : FS .f32 w a n cap Z) :
    Calls Try.prog 64 #[.agg #[.int .i64 R, .int .i64 C, .slice a n cap]] w (NumBel (traceOk R C n Z) (traceV R C n Z) w) := by
  unfold traceV
  cases hsq : squareB R C n (vals Z) with
  | false =>
    have HK : Hid (traceOk R C n Z = false) := Lib.hid (by unfold traceOk; rw [hsq]; rfl)
    go_enter Try.func64, Try.ntmps64
    go_wp2_with fail
    go_at_call 54
    refine (implSquare_any R C a n cap Z _ hn (h.below (by repeat first | (with_reducible exact Below.refl _ _) | (with_reducible refine Below.setCell ?_ (by first | exact Nat.le_refl _ | (simp; done) | (simp; omega) | omega) _) | (with_reducible refine Below.alloc ?_ (by first | exact Nat.le_refl _ | (simp; done) | (simp; omega) | omega) _) | (with_reducible refine below_drewN ?_ _) | (with_reducible refine Below.drew ?_)) (Nat.le_refl _))).mono ?_
    rintro e w1 ⟨rfl, b1⟩
    have B1 : Below w.heap.size w w1 := Below.trans (by repeat first | (with_reducible exact Below.refl _ _) | (with_reducible refine Below.setCell ?_ (by first | exact Nat.le_refl _ | (simp; done) | (simp; omega) | omega) _) | (with_reducible refine Below.alloc ?_ (by first | exact Nat.le_refl _ | (simp; done) | (simp; omega) | omega) _) | (with_reducible refine below_drewN ?_ _) | (with_reducible refine Below.drew ?_)) (b1.mono (by simp))
    go_wp2_with fail
    go_ret2
    rw [HK.out]
    exact ⟨_, rfl, pick_no _ rfl, B1⟩
  | true =>
    have hsq' := hsq
    obtain ⟨r, rfl, rfl, hr1, hr, hnr, _⟩ := square_nat hsq
    have HK : Hid (traceOk r r n Z = finite .f32 (tr (vals Z) r r)) := Lib.hid (by unfold traceOk; rw [hsq']; simp)
    have h0 : 0 < n := by rw [hnr]; exact Nat.mul_pos hr1 hr1
    obtain ⟨b, off, rfl, _, _, _⟩ := h.at h0
    have hcap := h.1
    have hmax : cap ≤ 9223372036854775807 := by have := h.2.1; unfold maxLen at this; omega
    have hnr' := Lib.hid hnr
    clear hnr h0 hsq'
    go_enter Try.func64, Try.ntmps64
    go_wp2_with fail
    go_at_call 54
    refine (implSquare_any r r _ n cap Z _ hn (h.below (by repeat first | (with_reducible exact Below.refl _ _) | (with_reducible refine Below.setCell ?_ (by first | exact Nat.le_refl _ | (simp; done) | (simp; omega) | omega) _) | (with_reducible refine Below.alloc ?_ (by first | exact Nat.le_refl _ | (simp; done) | (simp; omega) | omega) _) | (with_reducible refine below_drewN ?_ _) | (with_reducible refine Below.drew ?_)) (Nat.le_refl _))).mono ?_
    rintro e w1 ⟨rfl, b1⟩
    have B1 : Below w.heap.size w w1 := Below.trans (by repeat first | (with_reducible exact Below.refl _ _) | (with_reducible refine Below.setCell ?_ (by first | exact Nat.le_refl _ | (simp; done) | (simp; omega) | omega) _) | (with_reducible refine Below.alloc ?_ (by first | exact Nat.le_refl _ | (simp; done) | (simp; omega) | omega) _) | (with_reducible refine below_drewN ?_ _) | (with_reducible refine Below.drew ?_)) (b1.mono (by simp))
    have s1 : w.heap.size < w1.heap.size := by have := b1.size; simp at this; omega
    have X1 := (Box.new _ _ _ _ _ _ _).below b1 (by simp)
    have X1' := X1
    obtain ⟨x0, x1, x2⟩ := X1'
    have f1 := h.below B1 (Nat.le_refl _)
    clear b1 h
    go_wp2
    clear hsq
    go_loopw [4, 11] (fun s i wr => ∃ j q : Nat, j ≤ r ∧ i = .int .i64 j ∧ s = .float .f32 q ∧ FV .f32 q (tr (vals Z) r j) ∧ Below w1.heap.size w1 wr) (fun _ i _ => r - (intOf i).toNat)
    case atStart => exact ⟨0, 0, Nat.zero_le _, rfl, rfl, FV.lit (by kernel_rfl) (by kernel_rfl), Below.refl _ _⟩
    case round =>
      obtain ⟨j, q0, hj, rfl, rfl, hq0, hb⟩ := hrel
      by_cases hlt : j < r
      · obtain ⟨y0, y1, y2⟩ := X1.below hb s1
        have hpl := place_lt hlt hlt
        rw [← hnr'.out] at hpl
        obtain ⟨b', off', e, hbl, hce, hfv⟩ := (f1.below hb (Nat.le_refl _)).at hpl
        simp only [Option.some.injEq, Addr.mk.injEq, and_true] at e
        obtain ⟨rfl, rfl⟩ := e
        have hce' := Lib.hid hce
        have hb' := Lib.hid hb
        clear hce x0 x1 x2 hb
        go_wp2_with fail
        go_at_call 101
        refine (rowOf_any b off r r n cap j _ hr hr1 hr hnr'.out hcap hmax hlt).mono ?_
        rintro e w2 ⟨rfl, b2⟩
        have hc2 : w2.cell? ⟨b, off + j * r + j, none⟩ = some (.float .f32 (Z (j * r + j))) := by
          have hh := (b2.cell (p := ⟨b, off + (j * r + j), none⟩) hbl).trans hce'.out
          rw [← Nat.add_assoc] at hh
          exact hh
        have b2' := Lib.hid b2
        clear b2
        go_wp2_with (first | (refine wpList_farith rfl _ _ _ _ _ rfl rfl _ _ _ rfl rfl (by first | assumption | (with_reducible exact FV.ofInt _ _) | (with_reducible exact FV.neg (by assumption)) | exact FV.lit (by kernel_rfl) (by kernel_rfl)) (by first | assumption | (with_reducible exact FV.ofInt _ _) | (with_reducible exact FV.neg (by assumption)) | exact FV.lit (by kernel_rfl) (by kernel_rfl)) ?_; intro r m hr))
        go_roundw
        case rel => exact ⟨j + 1, _, by omega, by go_num, rfl, FV.of_eq (by assumption) (tr_succ _ _ _), below_drewN (hb'.out.trans (b2'.out.mono hb'.out.size)) _⟩
        case measure => simp [intOf]; omega
      · obtain rfl : j = r := by omega
        have hb' := Lib.hid hb
        clear hb x0 x1 x2
        go_wp2_with fail
        go_at_call 107
        refine (implNumber_any _ hq0 _).mono ?_
        intro e w2 hp
        have hp' := Lib.hid (NumBel.of hp (B1.trans (hb'.out.mono B1.size)))
        obtain ⟨q, rfl, hv, m, rfl⟩ := hp
        go_wp2_with fail
        go_ret2
        rw [HK.out]
        exact hp'.out
set_option maxHeartbeats 1000000 in
theorem specTrace_any (R C : Int) (a : Option Addr) (n cap : Nat) (Z : Nat → Nat) (w : World) (hn : n ≤ 1048576) (h : FS .f32 w a n cap Z) :
    Calls Try.prog 61 #[.agg #[.int .i64 R, .int .i64 C, .slice a n cap]] w (NumBel (traceOk R C n Z) (traceV R C n Z) w) := by
  unfold traceV
  cases hsq : squareB R C n (vals Z) with
  | false =>
    have HK : Hid (traceOk R C n Z = false) := Lib.hid (by unfold traceOk; rw [hsq]; rfl)
    go_enter Try.func61, Try.ntmps61
    go_wp2_with fail
    go_at_call 46
    refine (specSquare_any _ R C a n cap Z _ hn (Box.new _ _ _ _ _ _ _) (h.below (by repeat first | (with_reducible exact Below.refl _ _) | (with_reducible refine Below.setCell ?_ (by first | exact Nat.le_refl _ | (simp; done) | (simp; omega) | omega) _) | (with_reducible refine Below.alloc ?_ (by first | exact Nat.le_refl _ | (simp; done) | (simp; omega) | omega) _) | (with_reducible refine below_drewN ?_ _) | (with_reducible refine Below.drew ?_)) (Nat.le_refl _))).mono ?_
    rintro e w1 ⟨rfl, m1, rfl⟩
    go_wp2_with fail
    go_ret2
    rw [HK.out]
    exact ⟨_, rfl, pick_no _ rfl, (by repeat first | (with_reducible exact Below.refl _ _) | (with_reducible refine Below.setCell ?_ (by first | exact Nat.le_refl _ | (simp; done) | (simp; omega) | omega) _) | (with_reducible refine Below.alloc ?_ (by first | exact Nat.le_refl _ | (simp; done) | (simp; omega) | omega) _) | (with_reducible refine below_drewN ?_ _) | (with_reducible refine Below.drew ?_))⟩
  | true =>
    have hsq' := hsq
    obtain ⟨r, rfl, rfl, hr1, hr, hnr, _⟩ := square_nat hsq
    have HK : Hid (traceOk r r n Z = finite .f32 (tr (vals Z) r r)) := Lib.hid (by unfold traceOk; rw [hsq']; simp)
    have h0 : 0 < n := by rw [hnr]; exact Nat.mul_pos hr1 hr1
    obtain ⟨b, off, rfl, _, _, _⟩ := h.at h0
    have hnr' := Lib.hid hnr
    clear hnr h0 hsq'
    go_enter Try.func61, Try.ntmps61
    go_wp2_with fail
    go_at_call 46
    have X0 := (Box.new w 26 r r (some ⟨b, off, none⟩) n cap)
    refine (specSquare_any _ r r _ n cap Z _ hn (Box.new _ _ _ _ _ _ _) (h.below (by repeat first | (with_reducible exact Below.refl _ _) | (with_reducible refine Below.setCell ?_ (by first | exact Nat.le_refl _ | (simp; done) | (simp; omega) | omega) _) | (with_reducible refine Below.alloc ?_ (by first | exact Nat.le_refl _ | (simp; done) | (simp; omega) | omega) _) | (with_reducible refine below_drewN ?_ _) | (with_reducible refine Below.drew ?_)) (Nat.le_refl _))).mono ?_
    rintro e w1 ⟨rfl, m1, rfl⟩
    go_wp2
    clear hsq
    go_loopw [4, 5] (fun s i wr => ∃ j q m : Nat, j ≤ r ∧ i = .int .i64 j ∧ s = .float .f32 q ∧ FV .f32 q (tr (vals Z) r j) ∧ wr = (w.alloc (.cells #[.int .i64 r, .int .i64 r, .slice (some ⟨b, off, none⟩) n cap] 26)).drewN m) (fun _ i _ => r - (intOf i).toNat)
    case atStart => exact ⟨0, 0, _, Nat.zero_le _, rfl, rfl, FV.lit (by kernel_rfl) (by kernel_rfl), rfl⟩
    case round =>
      obtain ⟨j, q0, m0, hj, rfl, rfl, hq0, rfl⟩ := hrel
      by_cases hlt : j < r
      · go_wp2_with fail
        go_at_call 105
        refine (specAt_any _ b off r r n cap j j Z _ hr hr hnr'.out X0.drewN (FS.drewN (h.below (by repeat first | (with_reducible exact Below.refl _ _) | (with_reducible refine Below.setCell ?_ (by first | exact Nat.le_refl _ | (simp; done) | (simp; omega) | omega) _) | (with_reducible refine Below.alloc ?_ (by first | exact Nat.le_refl _ | (simp; done) | (simp; omega) | omega) _) | (with_reducible refine below_drewN ?_ _) | (with_reducible refine Below.drew ?_)) (Nat.le_refl _))) hlt hlt).mono ?_
        rintro e w2 ⟨rfl, m2, rfl⟩
        have hfv : FV .f32 (Z (j * r + j)) (vals Z (j * r + j)) := FV.mk' (by
          have hpl := place_lt hlt hlt
          rw [← hnr'.out] at hpl
          exact ((h.2.2 _ hpl).elim fun _ r => r.elim fun _ r => r.2.2.2))
        go_wp2_with (first | (refine wpList_farith rfl _ _ _ _ _ rfl rfl _ _ _ rfl rfl (by first | assumption | (with_reducible exact FV.ofInt _ _) | (with_reducible exact FV.neg (by assumption)) | exact FV.lit (by kernel_rfl) (by kernel_rfl)) (by first | assumption | (with_reducible exact FV.ofInt _ _) | (with_reducible exact FV.neg (by assumption)) | exact FV.lit (by kernel_rfl) (by kernel_rfl)) ?_; intro r m hr))
        go_roundw
        case rel => exact ⟨j + 1, _, _, by omega, by go_num, rfl, FV.of_eq (by assumption) (tr_succ _ _ _), rfl⟩
        case measure => simp [intOf]; omega
      · obtain rfl : j = r := by omega
        go_wp2_with fail
        go_at_call 92
        refine (specNumber_any _ hq0 _).mono ?_
        intro e w2 hp
        obtain ⟨q, rfl, hv, m, rfl⟩ := hp
        go_wp2_with fail
        go_ret2
        rw [HK.out]
        exact ⟨_, rfl, hv, (by repeat first | (with_reducible exact Below.refl _ _) | (with_reducible refine Below.setCell ?_ (by first | exact Nat.le_refl _ | (simp; done) | (simp; omega) | omega) _) | (with_reducible refine Below.alloc ?_ (by first | exact Nat.le_refl _ | (simp; done) | (simp; omega) | omega) _) | (with_reducible refine below_drewN ?_ _) | (with_reducible refine Below.drew ?_))⟩
theorem keyTraceOf (R C : Int) (n : Nat) (Z : Nat → Nat) (hn : n ≤ 1048576) : ∃ (ok : Bool) (X : Option Nat),
    (∀ a c W, FS .f32 W a n c Z → Calls Try.prog 61 #[.agg #[.int .i64 R, .int .i64 C, .slice a n c]] W (NumBel ok X W)) ∧
    (∀ a c W, FS .f32 W a n c Z → Calls Try.prog 64 #[.agg #[.int .i64 R, .int .i64 C, .slice a n c]] W (NumBel ok X W)) :=
  ⟨_, _, fun a c W h => specTrace_any R C a n c Z W hn h, fun a c W h => implTrace_any R C a n c Z W hn h⟩
end Go.Proofs.Ytmjlhmbnaifhaac
