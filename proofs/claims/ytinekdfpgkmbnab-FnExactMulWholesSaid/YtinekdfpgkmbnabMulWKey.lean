/- Helper: the product of two wholes, of program and reference, their key. Conditions: none. -/
import Derived.Test.YtinekdfpgkmbnabMulWImpl
set_option linter.unusedVariables false
set_option linter.unusedSimpArgs false
namespace Go.Proofs.Ytinekdfpgkmbnab
open Go.RowKit

/-- A whole, and whether it is told; its numbers lie in new memory. -/
def WholeBelL (ok : Bool) (R C : Int) (n : Nat) (V : Nat → Int) (w : World) (e : Ending) (w' : World) : Prop :=
  ∃ g d Y, e = .returned (.tuple #[.agg #[.int .i64 R, .int .i64 C, .slice g n d], .bool ok]) ∧ IS .i64 w' g n d Y ∧ (∀ i, i < n → Y i = V i) ∧ Below w.heap.size w w' ∧ ∀ b off, g = some ⟨b, off, none⟩ → w.heap.size ≤ b
theorem mul_same {c k t : Nat} {Z Y : Nat → Int} : mulZ c k Z Y t = joinZ k (mulY c k Z Y) t := rfl
set_option maxHeartbeats 2000000 in
theorem specMul_no (R C : Int) (a : Option Addr) (n d : Nat) (Z : Nat → Int) (R2 C2 : Int) (a2 : Option Addr) (n2 d2 : Nat) (Y : Nat → Int) (w : World) (hn : n ≤ 1048576) (hn2 : n2 ≤ 1048576) (hv : wholeB 1000000 R C n Z = true → wholeB 1000000 R2 C2 n2 Y = true → C ≠ R2) (h : IS .i64 w a n d Z) (h2 : IS .i64 w a2 n2 d2 Y) :
    Calls Try.prog 18 #[.agg #[.int .i64 R, .int .i64 C, .slice a n d], .agg #[.int .i64 R2, .int .i64 C2, .slice a2 n2 d2]] w (WholeBelL false 0 0 0 (fun _ => 0) w) := by
  have hA := fun W (g : Box W w.heap.size R C a n d) (f : IS .i64 W a n d Z) => specWhole_any 1000000 w.heap.size R C a n d Z W (by omega) hn g f
  have hB := fun W (g : Box W (w.heap.size + 1) R2 C2 a2 n2 d2) (f : IS .i64 W a2 n2 d2 Y) => specWhole_any 1000000 (w.heap.size + 1) R2 C2 a2 n2 d2 Y W (by omega) hn2 g f
  cases v1 : wholeB 1000000 R C n Z with
  | false =>
    have HV1 := Lib.hid v1
    clear v1 hv
    go_enter Try.func18, Try.ntmps18
    go_wp2_with fail
    generalize hwa : ((w.alloc (.cells #[.int .i64 R, .int .i64 C, .slice a n d] 24)).alloc (.cells #[.int .i64 R2, .int .i64 C2, .slice a2 n2 d2] 24)).alloc (.cells #[.int .i64 0, .int .i64 0, .slice none 0 0] 24) = wa
    have Ba : Below w.heap.size w wa := by rw [← hwa]; exact (by repeat first | (with_reducible exact Below.refl _ _) | (with_reducible refine Below.setCell ?_ (by first | exact Nat.le_refl _ | (simp; done) | (simp; omega) | omega) _) | (with_reducible refine Below.alloc ?_ (by first | exact Nat.le_refl _ | (simp; done) | (simp; omega) | omega) _) | (with_reducible refine below_drewN ?_ _) | (with_reducible refine Below.drew ?_))
    have sa : wa.heap.size = w.heap.size + 1 + 1 + 1 := by rw [← hwa]; simp
    have xa : Box wa w.heap.size R C a n d := by rw [← hwa]; refine ⟨?_, ?_, ?_⟩ <;> simp [go_sem]
    have xb : Box wa (w.heap.size + 1) R2 C2 a2 n2 d2 := by rw [← hwa]; refine ⟨?_, ?_, ?_⟩ <;> simp [go_sem]
    have xz : Box wa (w.heap.size + 1 + 1) 0 0 none 0 0 := by rw [← hwa]; refine ⟨?_, ?_, ?_⟩ <;> simp [go_sem]
    have xi : ∀ i, wa.frozen? ⟨w.heap.size + 1 + 1, i, none⟩ = false := by intro i; rw [← hwa]; simp [go_sem]
    clear hwa
    go_at_call 40
    refine (hA wa xa (h.below Ba (Nat.le_refl _))).mono ?_
    rintro e w1 ⟨rfl, m1, rfl⟩
    rw [show wholeB ((1000000 : Nat) : Int) R C n Z = false from HV1.out]
    have b1 : Below wa.heap.size wa (wa.drewN m1) := below_drewN (Below.refl _ _) m1
    have B9 := Ba.trans (b1.mono (by omega))
    obtain ⟨y0, y1, y2⟩ := xz.below b1 (by omega)
    have hice : ∀ i, (wa.drewN m1).frozen? ⟨w.heap.size + 1 + 1, i, none⟩ = false := fun i => (b1.frozen (p := ⟨w.heap.size + 1 + 1, i, none⟩) (by show w.heap.size + 1 + 1 < _; omega)).trans (xi i)
    clear xa xb
    go_wp2_with fail
    refine bodyPost_ret (v := .tuple #[.agg #[.int .i64 0, .int .i64 0, .slice none 0 0], .bool false]) (by simp [results, Try.results18, go_sem, y0, y1, y2]) rfl ?_
    exact ⟨none, 0, fun _ => 0, rfl, ⟨Nat.le_refl _, Nat.zero_le _, fun i hi => by omega⟩, fun i hi => by omega, (by repeat first | (with_reducible exact B9) | (with_reducible refine Below.setCell ?_ (by first | exact Nat.le_refl _ | (simp; done) | (simp; omega) | omega) _) | (with_reducible refine Below.alloc ?_ (by first | exact Nat.le_refl _ | (simp; done) | (simp; omega) | omega) _) | (with_reducible refine below_drewN ?_ _) | (with_reducible refine Below.drew ?_)), fun b off e => by cases e⟩
  | true =>
    cases v2 : wholeB 1000000 R2 C2 n2 Y with
    | false =>
      have HV1 := Lib.hid v1
      have HV2 := Lib.hid v2
      clear v1 v2 hv
      go_enter Try.func18, Try.ntmps18
      go_wp2_with fail
      generalize hwa : ((w.alloc (.cells #[.int .i64 R, .int .i64 C, .slice a n d] 24)).alloc (.cells #[.int .i64 R2, .int .i64 C2, .slice a2 n2 d2] 24)).alloc (.cells #[.int .i64 0, .int .i64 0, .slice none 0 0] 24) = wa
      have Ba : Below w.heap.size w wa := by rw [← hwa]; exact (by repeat first | (with_reducible exact Below.refl _ _) | (with_reducible refine Below.setCell ?_ (by first | exact Nat.le_refl _ | (simp; done) | (simp; omega) | omega) _) | (with_reducible refine Below.alloc ?_ (by first | exact Nat.le_refl _ | (simp; done) | (simp; omega) | omega) _) | (with_reducible refine below_drewN ?_ _) | (with_reducible refine Below.drew ?_))
      have sa : wa.heap.size = w.heap.size + 1 + 1 + 1 := by rw [← hwa]; simp
      have xa : Box wa w.heap.size R C a n d := by rw [← hwa]; refine ⟨?_, ?_, ?_⟩ <;> simp [go_sem]
      have xb : Box wa (w.heap.size + 1) R2 C2 a2 n2 d2 := by rw [← hwa]; refine ⟨?_, ?_, ?_⟩ <;> simp [go_sem]
      have xz : Box wa (w.heap.size + 1 + 1) 0 0 none 0 0 := by rw [← hwa]; refine ⟨?_, ?_, ?_⟩ <;> simp [go_sem]
      have xi : ∀ i, wa.frozen? ⟨w.heap.size + 1 + 1, i, none⟩ = false := by intro i; rw [← hwa]; simp [go_sem]
      clear hwa
      go_at_call 40
      refine (hA wa xa (h.below Ba (Nat.le_refl _))).mono ?_
      rintro e w1 ⟨rfl, m1, rfl⟩
      rw [show wholeB ((1000000 : Nat) : Int) R C n Z = true from HV1.out]
      have b1 : Below wa.heap.size wa (wa.drewN m1) := below_drewN (Below.refl _ _) m1
      obtain ⟨xa0, xa1, xa2⟩ := xa.below b1 (by omega)
      obtain ⟨xb0, xb1, xb2⟩ := xb.below b1 (by omega)
      have Ba1 := Ba.trans (b1.mono (by omega))
      have f2 := h2.below Ba1 (Nat.le_refl _)
      go_wp2_with fail
      go_at_call 40
      refine (hB (wa.drewN m1) ⟨xb0, xb1, xb2⟩ f2).mono ?_
      rintro e w2 ⟨rfl, m2, rfl⟩
      rw [show wholeB ((1000000 : Nat) : Int) R2 C2 n2 Y = false from HV2.out]
      rw [World.drewN_drewN]
      have b12 : Below wa.heap.size wa (wa.drewN (m1 + m2)) := below_drewN (Below.refl _ _) (m1 + m2)
      obtain ⟨xc0, xc1, xc2⟩ := xa.below b12 (by omega)
      obtain ⟨xd0, xd1, xd2⟩ := xb.below b12 (by omega)
      clear xa0 xa1 xa2 xb0 xb1 xb2
      have B9 := Ba.trans (b12.mono (by omega))
      obtain ⟨y0, y1, y2⟩ := xz.below b12 (by omega)
      have hice : ∀ i, (wa.drewN (m1 + m2)).frozen? ⟨w.heap.size + 1 + 1, i, none⟩ = false := fun i => (b12.frozen (p := ⟨w.heap.size + 1 + 1, i, none⟩) (by show w.heap.size + 1 + 1 < _; omega)).trans (xi i)
      clear xa xb
      go_wp2_with fail
      refine bodyPost_ret (v := .tuple #[.agg #[.int .i64 0, .int .i64 0, .slice none 0 0], .bool false]) (by simp [results, Try.results18, go_sem, y0, y1, y2]) rfl ?_
      exact ⟨none, 0, fun _ => 0, rfl, ⟨Nat.le_refl _, Nat.zero_le _, fun i hi => by omega⟩, fun i hi => by omega, (by repeat first | (with_reducible exact B9) | (with_reducible refine Below.setCell ?_ (by first | exact Nat.le_refl _ | (simp; done) | (simp; omega) | omega) _) | (with_reducible refine Below.alloc ?_ (by first | exact Nat.le_refl _ | (simp; done) | (simp; omega) | omega) _) | (with_reducible refine below_drewN ?_ _) | (with_reducible refine Below.drew ?_)), fun b off e => by cases e⟩
    | true =>
      have hne := hv v1 v2
      have e1 : (C == R2) = false := beq_eq_false_iff_ne.2 hne
      have e2 : (C != R2) = true := bne_iff_ne.2 hne
      have HV1 := Lib.hid v1
      have HV2 := Lib.hid v2
      clear v1 v2 hv
      go_enter Try.func18, Try.ntmps18
      go_wp2_with fail
      generalize hwa : ((w.alloc (.cells #[.int .i64 R, .int .i64 C, .slice a n d] 24)).alloc (.cells #[.int .i64 R2, .int .i64 C2, .slice a2 n2 d2] 24)).alloc (.cells #[.int .i64 0, .int .i64 0, .slice none 0 0] 24) = wa
      have Ba : Below w.heap.size w wa := by rw [← hwa]; exact (by repeat first | (with_reducible exact Below.refl _ _) | (with_reducible refine Below.setCell ?_ (by first | exact Nat.le_refl _ | (simp; done) | (simp; omega) | omega) _) | (with_reducible refine Below.alloc ?_ (by first | exact Nat.le_refl _ | (simp; done) | (simp; omega) | omega) _) | (with_reducible refine below_drewN ?_ _) | (with_reducible refine Below.drew ?_))
      have sa : wa.heap.size = w.heap.size + 1 + 1 + 1 := by rw [← hwa]; simp
      have xa : Box wa w.heap.size R C a n d := by rw [← hwa]; refine ⟨?_, ?_, ?_⟩ <;> simp [go_sem]
      have xb : Box wa (w.heap.size + 1) R2 C2 a2 n2 d2 := by rw [← hwa]; refine ⟨?_, ?_, ?_⟩ <;> simp [go_sem]
      have xz : Box wa (w.heap.size + 1 + 1) 0 0 none 0 0 := by rw [← hwa]; refine ⟨?_, ?_, ?_⟩ <;> simp [go_sem]
      have xi : ∀ i, wa.frozen? ⟨w.heap.size + 1 + 1, i, none⟩ = false := by intro i; rw [← hwa]; simp [go_sem]
      clear hwa
      go_at_call 40
      refine (hA wa xa (h.below Ba (Nat.le_refl _))).mono ?_
      rintro e w1 ⟨rfl, m1, rfl⟩
      rw [show wholeB ((1000000 : Nat) : Int) R C n Z = true from HV1.out]
      have b1 : Below wa.heap.size wa (wa.drewN m1) := below_drewN (Below.refl _ _) m1
      obtain ⟨xa0, xa1, xa2⟩ := xa.below b1 (by omega)
      obtain ⟨xb0, xb1, xb2⟩ := xb.below b1 (by omega)
      have Ba1 := Ba.trans (b1.mono (by omega))
      have f2 := h2.below Ba1 (Nat.le_refl _)
      go_wp2_with fail
      go_at_call 40
      refine (hB (wa.drewN m1) ⟨xb0, xb1, xb2⟩ f2).mono ?_
      rintro e w2 ⟨rfl, m2, rfl⟩
      rw [show wholeB ((1000000 : Nat) : Int) R2 C2 n2 Y = true from HV2.out]
      rw [World.drewN_drewN]
      have b12 : Below wa.heap.size wa (wa.drewN (m1 + m2)) := below_drewN (Below.refl _ _) (m1 + m2)
      obtain ⟨xc0, xc1, xc2⟩ := xa.below b12 (by omega)
      obtain ⟨xd0, xd1, xd2⟩ := xb.below b12 (by omega)
      clear xa0 xa1 xa2 xb0 xb1 xb2
      have B9 := Ba.trans (b12.mono (by omega))
      obtain ⟨y0, y1, y2⟩ := xz.below b12 (by omega)
      have hice : ∀ i, (wa.drewN (m1 + m2)).frozen? ⟨w.heap.size + 1 + 1, i, none⟩ = false := fun i => (b12.frozen (p := ⟨w.heap.size + 1 + 1, i, none⟩) (by show w.heap.size + 1 + 1 < _; omega)).trans (xi i)
      clear xa xb
      go_wp2_with fail
      refine bodyPost_ret (v := .tuple #[.agg #[.int .i64 0, .int .i64 0, .slice none 0 0], .bool false]) (by simp [results, Try.results18, go_sem, y0, y1, y2]) rfl ?_
      exact ⟨none, 0, fun _ => 0, rfl, ⟨Nat.le_refl _, Nat.zero_le _, fun i hi => by omega⟩, fun i hi => by omega, (by repeat first | (with_reducible exact B9) | (with_reducible refine Below.setCell ?_ (by first | exact Nat.le_refl _ | (simp; done) | (simp; omega) | omega) _) | (with_reducible refine Below.alloc ?_ (by first | exact Nat.le_refl _ | (simp; done) | (simp; omega) | omega) _) | (with_reducible refine below_drewN ?_ _) | (with_reducible refine Below.drew ?_)), fun b off e => by cases e⟩
end Go.Proofs.Ytinekdfpgkmbnab
