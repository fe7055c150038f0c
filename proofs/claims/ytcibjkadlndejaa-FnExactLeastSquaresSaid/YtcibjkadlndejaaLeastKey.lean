/- Helper: what misses least, of the reference from its start, and of both. Conditions: none. -/
import Derived.Test.YtcibjkadlndejaaLeastImpl
import Derived.Test.YtcibjkadlndejaaLeastSpec
set_option linter.unusedVariables false
set_option linter.unusedSimpArgs false
namespace Go.Proofs.Ytcibjkadlndejaa
open Go.RowKit

set_option maxHeartbeats 1000000 in
theorem specLs_no (R C : Int) (a b : Option Addr) (n d n2 d2 : Nat) (Z Y : Nat → Nat) (w : World) (hn : n ≤ 1048576) (hm : n2 ≤ 1048576) (h : FS .f32 w a n d Z) (h2 : FS .f32 w b n2 d2 Y) (hno : (mirB R C n (vals Z) && fitsB R n2 (vals Y)) = false) :
    Calls Try.prog 16 #[.agg #[.int .i64 R, .int .i64 C, .slice a n d], .slice b n2 d2] w (NumsBel false 0 (fun _ => none) w) := by
  have HNO := Lib.hid hno
  clear hno
  cases hv : validB R C n (vals Z) with
  | false =>
    go_enter Try.func16, Try.ntmps16
    go_wp2_with fail
    go_at_call 37
    refine (specIs_any _ R C a n d Z _ hn (Box.new _ _ _ _ _ _ _) (h.below (by repeat first | (with_reducible exact Below.refl _ _) | (with_reducible refine Below.setCell ?_ (by first | exact Nat.le_refl _ | (simp; done) | (simp; omega) | omega) _) | (with_reducible refine Below.alloc ?_ (by first | exact Nat.le_refl _ | (simp; done) | (simp; omega) | omega) _) | (with_reducible refine below_drewN ?_ _) | (with_reducible refine Below.drew ?_)) (Nat.le_refl _))).mono ?_
    rintro e w1 ⟨rfl, m1, rfl⟩
    go_wp2_with fail
    go_ret2
    exact NumsNo.bel ⟨rfl, (by repeat first | (with_reducible exact Below.refl _ _) | (with_reducible refine Below.setCell ?_ (by first | exact Nat.le_refl _ | (simp; done) | (simp; omega) | omega) _) | (with_reducible refine Below.alloc ?_ (by first | exact Nat.le_refl _ | (simp; done) | (simp; omega) | omega) _) | (with_reducible refine below_drewN ?_ _) | (with_reducible refine Below.drew ?_))⟩
  | true =>
    by_cases hlt : R < C
    · have hd : decide (R < C) = true := decide_eq_true hlt
      clear hlt
      go_enter Try.func16, Try.ntmps16
      go_wp2_with fail
      go_at_call 37
      refine (specIs_any _ R C a n d Z _ hn (Box.new _ _ _ _ _ _ _) (h.below (by repeat first | (with_reducible exact Below.refl _ _) | (with_reducible refine Below.setCell ?_ (by first | exact Nat.le_refl _ | (simp; done) | (simp; omega) | omega) _) | (with_reducible refine Below.alloc ?_ (by first | exact Nat.le_refl _ | (simp; done) | (simp; omega) | omega) _) | (with_reducible refine below_drewN ?_ _) | (with_reducible refine Below.drew ?_)) (Nat.le_refl _))).mono ?_
      rintro e w1 ⟨rfl, m1, rfl⟩
      go_wp2_with fail
      go_ret2
      exact NumsNo.bel ⟨rfl, (by repeat first | (with_reducible exact Below.refl _ _) | (with_reducible refine Below.setCell ?_ (by first | exact Nat.le_refl _ | (simp; done) | (simp; omega) | omega) _) | (with_reducible refine Below.alloc ?_ (by first | exact Nat.le_refl _ | (simp; done) | (simp; omega) | omega) _) | (with_reducible refine below_drewN ?_ _) | (with_reducible refine Below.drew ?_))⟩
    · have hd : decide (R < C) = false := decide_eq_false hlt
      cases hv2 : vecB n2 (vals Y) with
      | false =>
        clear hlt
        go_enter Try.func16, Try.ntmps16
        go_wp2_with fail
        go_at_call 37
        refine (specIs_any _ R C a n d Z _ hn (Box.new _ _ _ _ _ _ _) (h.below (by repeat first | (with_reducible exact Below.refl _ _) | (with_reducible refine Below.setCell ?_ (by first | exact Nat.le_refl _ | (simp; done) | (simp; omega) | omega) _) | (with_reducible refine Below.alloc ?_ (by first | exact Nat.le_refl _ | (simp; done) | (simp; omega) | omega) _) | (with_reducible refine below_drewN ?_ _) | (with_reducible refine Below.drew ?_)) (Nat.le_refl _))).mono ?_
        rintro e w1 ⟨rfl, m1, rfl⟩
        go_wp2_with fail
        go_at_call 47
        refine (specVector_any b n2 d2 Y _ hm (h2.below (by repeat first | (with_reducible exact Below.refl _ _) | (with_reducible refine Below.setCell ?_ (by first | exact Nat.le_refl _ | (simp; done) | (simp; omega) | omega) _) | (with_reducible refine Below.alloc ?_ (by first | exact Nat.le_refl _ | (simp; done) | (simp; omega) | omega) _) | (with_reducible refine below_drewN ?_ _) | (with_reducible refine Below.drew ?_)) (Nat.le_refl _))).mono ?_
        rintro e w2 ⟨rfl, m2, rfl⟩
        go_wp2_with fail
        go_ret2
        exact NumsNo.bel ⟨rfl, (by repeat first | (with_reducible exact Below.refl _ _) | (with_reducible refine Below.setCell ?_ (by first | exact Nat.le_refl _ | (simp; done) | (simp; omega) | omega) _) | (with_reducible refine Below.alloc ?_ (by first | exact Nat.le_refl _ | (simp; done) | (simp; omega) | omega) _) | (with_reducible refine below_drewN ?_ _) | (with_reducible refine Below.drew ?_))⟩
      | true =>
        have hne : ((n2 : Int) != R) = true := ne_lenL (fun e => by
          have h3 := HNO.out
          unfold mirB fitsB at h3
          rw [hv, hv2, decide_eq_true e, decide_eq_true (show C ≤ R by omega)] at h3
          cases h3)
        clear hlt
        go_enter Try.func16, Try.ntmps16
        go_wp2_with fail
        go_at_call 37
        refine (specIs_any _ R C a n d Z _ hn (Box.new _ _ _ _ _ _ _) (h.below (by repeat first | (with_reducible exact Below.refl _ _) | (with_reducible refine Below.setCell ?_ (by first | exact Nat.le_refl _ | (simp; done) | (simp; omega) | omega) _) | (with_reducible refine Below.alloc ?_ (by first | exact Nat.le_refl _ | (simp; done) | (simp; omega) | omega) _) | (with_reducible refine below_drewN ?_ _) | (with_reducible refine Below.drew ?_)) (Nat.le_refl _))).mono ?_
        rintro e w1 ⟨rfl, m1, rfl⟩
        go_wp2_with fail
        go_at_call 47
        refine (specVector_any b n2 d2 Y _ hm (h2.below (by repeat first | (with_reducible exact Below.refl _ _) | (with_reducible refine Below.setCell ?_ (by first | exact Nat.le_refl _ | (simp; done) | (simp; omega) | omega) _) | (with_reducible refine Below.alloc ?_ (by first | exact Nat.le_refl _ | (simp; done) | (simp; omega) | omega) _) | (with_reducible refine below_drewN ?_ _) | (with_reducible refine Below.drew ?_)) (Nat.le_refl _))).mono ?_
        rintro e w2 ⟨rfl, m2, rfl⟩
        go_wp2_with fail
        go_ret2
        exact NumsNo.bel ⟨rfl, (by repeat first | (with_reducible exact Below.refl _ _) | (with_reducible refine Below.setCell ?_ (by first | exact Nat.le_refl _ | (simp; done) | (simp; omega) | omega) _) | (with_reducible refine Below.alloc ?_ (by first | exact Nat.le_refl _ | (simp; done) | (simp; omega) | omega) _) | (with_reducible refine below_drewN ?_ _) | (with_reducible refine Below.drew ?_))⟩
set_option maxHeartbeats 1000000 in
theorem specLs_yes (r c N M p1 o1 d1 p2 o2 e2 : Nat) (Z Yb : Nat → Nat) (w : World) (h1 : 1 ≤ r) (h12 : r ≤ 12) (c1 : 1 ≤ c) (c12 : c ≤ 12) (hcr : c ≤ r) (hn : N = r * c) (hM : M = c * c) (hv : validB r c N (vals Z) = true) (hf : fitsB r r (vals Yb) = true)
    (h : FS .f32 w (some ⟨p1, o1, none⟩) N d1 Z) (h2 : FS .f32 w (some ⟨p2, o2, none⟩) r e2 Yb) :
    Calls Try.prog 16 #[.agg #[.int .i64 r, .int .i64 c, .slice (some ⟨p1, o1, none⟩) N d1], .slice (some ⟨p2, o2, none⟩) r e2] w (NBelIf (lqOk r c r Z (vals Yb)) c (lqV r c (gsC r c (mirP r c Z) c) (vals Yb)) w) := by
  have h144 : N ≤ 144 := by have := sides_le h12 c12; omega
  have hv2 := (fits_nat hf).2
  obtain ⟨ok, hok⟩ : ∃ ok, ok = lqOk r c r Z (vals Yb) := ⟨_, rfl⟩
  have hok2 : (mirOk r c (mirP r c Z) && lqU r c (gsC r c (mirP r c Z) c) (vals Yb)) = ok := by rw [hok]; unfold lqOk; rw [hf, Bool.true_and]
  rw [← hok]
  obtain ⟨VV, hVV⟩ : ∃ VV, VV = lqV r c (gsC r c (mirP r c Z) c) (vals Yb) := ⟨_, rfl⟩
  rw [← hVV]
  have hd : decide ((r : Int) < (c : Int)) = false := decide_eq_false (by omega)
  have hd2 : decide (r < c) = false := decide_eq_false (by omega)
  have hne : ((r : Int) != (r : Int)) = false := by simp
  have hcall := fun W (hW : Box W w.heap.size r c (some ⟨p1, o1, none⟩) N d1) (hl : w.heap.size < W.heap.size) hf1 hf2 => l03Least_any w.heap.size r c N M p1 o1 d1 p2 o2 e2 Z Yb W h1 h12 c1 c12 hn hM hl hW hf1 hf2
  rw [hok2, ← hVV] at hcall
  clear hok hok2 hVV hn hM hf
  go_enter Try.func16, Try.ntmps16
  go_wp2_with fail
  go_at_call 37
  refine (specIs_any _ r c _ N d1 Z _ (by omega) (Box.new _ _ _ _ _ _ _) (h.below (by repeat first | (with_reducible exact Below.refl _ _) | (with_reducible refine Below.setCell ?_ (by first | exact Nat.le_refl _ | (simp; done) | (simp; omega) | omega) _) | (with_reducible refine Below.alloc ?_ (by first | exact Nat.le_refl _ | (simp; done) | (simp; omega) | omega) _) | (with_reducible refine below_drewN ?_ _) | (with_reducible refine Below.drew ?_)) (Nat.le_refl _))).mono ?_
  rintro e w1 ⟨rfl, m1, rfl⟩
  go_wp2_with fail
  go_at_call 47
  refine (specVector_any _ r e2 Yb _ (by omega) (h2.below (by repeat first | (with_reducible exact Below.refl _ _) | (with_reducible refine Below.setCell ?_ (by first | exact Nat.le_refl _ | (simp; done) | (simp; omega) | omega) _) | (with_reducible refine Below.alloc ?_ (by first | exact Nat.le_refl _ | (simp; done) | (simp; omega) | omega) _) | (with_reducible refine below_drewN ?_ _) | (with_reducible refine Below.drew ?_)) (Nat.le_refl _))).mono ?_
  rintro e w2 ⟨rfl, m2, rfl⟩
  clear hv
  go_wp2_with fail
  go_at_call 48
  refine (hcall _ (by refine ⟨?_, ?_, ?_⟩ <;> simp [go_sem]) (by simp [World.drewN]) (h.below (by repeat first | (with_reducible exact Below.refl _ _) | (with_reducible refine Below.setCell ?_ (by first | exact Nat.le_refl _ | (simp; done) | (simp; omega) | omega) _) | (with_reducible refine Below.alloc ?_ (by first | exact Nat.le_refl _ | (simp; done) | (simp; omega) | omega) _) | (with_reducible refine below_drewN ?_ _) | (with_reducible refine Below.drew ?_)) (Nat.le_refl _)) (h2.below (by repeat first | (with_reducible exact Below.refl _ _) | (with_reducible refine Below.setCell ?_ (by first | exact Nat.le_refl _ | (simp; done) | (simp; omega) | omega) _) | (with_reducible refine Below.alloc ?_ (by first | exact Nat.le_refl _ | (simp; done) | (simp; omega) | omega) _) | (with_reducible refine below_drewN ?_ _) | (with_reducible refine Below.drew ?_)) (Nat.le_refl _))).mono ?_
  intro e w3 hh
  obtain ⟨g', n', d', rfl⟩ := hh.shape
  have HH := Lib.hid (hh.lift (w := w) (by repeat first | (with_reducible exact Below.refl _ _) | (with_reducible refine Below.setCell ?_ (by first | exact Nat.le_refl _ | (simp; done) | (simp; omega) | omega) _) | (with_reducible refine Below.alloc ?_ (by first | exact Nat.le_refl _ | (simp; done) | (simp; omega) | omega) _) | (with_reducible refine below_drewN ?_ _) | (with_reducible refine Below.drew ?_)))
  clear hh hcall
  go_wp2_with fail
  go_ret2
  exact HH.out
theorem keyLeastSquares (R C : Int) (n : Nat) (Z : Nat → Nat) (n2 : Nat) (Y : Nat → Nat) (hn : n ≤ 1048576) (hm : n2 ≤ 1048576) : ∃ (ok : Bool) (n' : Nat) (V : Nat → Option Nat), n' ≤ 144 ∧
    (∀ a c b d W, FS .f32 W a n c Z → FS .f32 W b n2 d Y → Calls Try.prog 16 #[.agg #[.int .i64 R, .int .i64 C, .slice a n c], .slice b n2 d] W (NumsBel ok n' V W)) ∧
    (∀ a c b d W, FS .f32 W a n c Z → FS .f32 W b n2 d Y → Calls Try.prog 18 #[.agg #[.int .i64 R, .int .i64 C, .slice a n c], .slice b n2 d] W (NumsOwn ok n' V W)) := by
  cases hmb : mirB R C n (vals Z) with
  | false => exact ⟨false, 0, fun _ => none, by omega, fun a c b d W h h2 => specLs_no R C a b n c n2 d Z Y W hn hm h h2 (by rw [hmb]; rfl), fun a c b d W h h2 => implLs_no R C a b n c n2 d Z Y W hn h hmb⟩
  | true =>
    have hmb2 := hmb
    unfold mirB at hmb2
    simp only [Bool.and_eq_true, decide_eq_true_eq] at hmb2
    obtain ⟨hv, hle⟩ := hmb2
    obtain ⟨r, c, rfl, rfl, h1, h12, c1, c12, hN, _⟩ := valid_nat hv
    have h0 : 0 < n := by rw [hN]; exact Nat.mul_pos h1 c1
    have ki : ∀ a d b d2 W, FS .f32 W a n d Z → FS .f32 W b n2 d2 Y → Calls Try.prog 18 #[.agg #[.int .i64 r, .int .i64 c, .slice a n d], .slice b n2 d2] W (NOwnIf (lqOk r c n2 Z (vals Y)) c (lqV r c (gsC r c (mirP r c Z) c) (vals Y)) W) := fun a d b d2 W h h2 => by
      obtain ⟨p, o, rfl, _⟩ := h.at h0
      exact implLs_yes r c n _ p o d n2 d2 b Z Y W h1 h12 c1 c12 (by omega) hN rfl hm hv h h2
    cases hf : fitsB r n2 (vals Y) with
    | false =>
      have hq : lqOk r c n2 Z (vals Y) = false := by unfold lqOk; rw [hf]; simp
      rw [hq] at ki
      exact ⟨false, 0, fun _ => none, by omega, fun a c' b d W h h2 => specLs_no r c a b n c' n2 d Z Y W hn hm h h2 (by rw [hf]; simp), ki⟩
    | true =>
      obtain ⟨hnr, _⟩ := fits_nat hf
      subst hnr
      have ks : ∀ a d b d2 W, FS .f32 W a n d Z → FS .f32 W b n2 d2 Y → Calls Try.prog 16 #[.agg #[.int .i64 n2, .int .i64 c, .slice a n d], .slice b n2 d2] W (NBelIf (lqOk n2 c n2 Z (vals Y)) c (lqV n2 c (gsC n2 c (mirP n2 c Z) c) (vals Y)) W) := fun a d b d2 W h h2 => by
        obtain ⟨p, o, rfl, _⟩ := h.at h0
        obtain ⟨p2, o2, rfl, _⟩ := h2.at (show 0 < n2 by omega)
        exact specLs_yes n2 c n _ p o d p2 o2 d2 Z Y W h1 h12 c1 c12 (by omega) hN rfl hv hf h h2
      cases hq : lqOk n2 c n2 Z (vals Y) with
      | false =>
        rw [hq] at ki ks
        exact ⟨false, 0, fun _ => none, by omega, ks, ki⟩
      | true =>
        rw [hq] at ki ks
        exact ⟨true, c, _, by omega, ks, ki⟩
end Go.Proofs.Ytcibjkadlndejaa
