/- Helper: a matrix taken apart into upright columns and an upper square, of the reference, and of both. Conditions: none. -/
import Derived.Test.YtcibjkadlndejaaMirImpl
import Derived.Test.YtcibjkadlndejaaMirSpec
import Derived.Test.YtcibjkadlndejaaLeastDefs
import Derived.Test.YtcibjkadlndejaaTwoRet
import Derived.Deep.Cut
set_option linter.unusedVariables false
set_option linter.unusedSimpArgs false
namespace Go.Proofs.Ytcibjkadlndejaa
open Go.RowKit

theorem FS.off_box {W : World} {b g N d : Nat} {R C : Int} {a : Option Addr} {n c : Nat} {X : Nat → Nat} (h0 : 0 < N) (hb : Box W b R C a n c) (h : FS .f32 W (some ⟨g, 0, none⟩) N d X) : g ≠ b := by
  intro e
  subst e
  obtain ⟨b', off', e1, _, hc, _⟩ := h.2.2 0 h0
  simp only [Option.some.injEq, Addr.mk.injEq, and_true] at e1
  obtain ⟨rfl, rfl⟩ := e1
  rw [Nat.add_zero, hb.1] at hc
  cases hc
theorem FS.out2 {W W' : World} {b1 b2 g N d : Nat} {X : Nat → Nat} (h : FS .f32 W (some ⟨g, 0, none⟩) N d X) (o : Out2 W W' b1 b2) (h1 : g ≠ b1) (h2 : g ≠ b2) : FS .f32 W' (some ⟨g, 0, none⟩) N d X :=
  ⟨h.1, h.2.1, fun i hi => by
    obtain ⟨b, off, e, hl, hc, hw⟩ := h.2.2 i hi
    have e0 := e
    simp only [Option.some.injEq, Addr.mk.injEq, and_true] at e0
    obtain ⟨rfl, rfl⟩ := e0
    exact ⟨_, _, e, Nat.lt_of_lt_of_le hl o.size, (World.cell?_of_block (a := ⟨g, 0 + i, none⟩) (o.block g hl h1 h2)).trans hc, hw⟩⟩
def MirBelIf (ok : Bool) (Ra Ca : Int) (na : Nat) (Va : Nat → Option Nat) (Rb Cb : Int) (nb : Nat) (Vb : Nat → Option Nat) (w : World) (e : Ending) (w' : World) : Prop :=
  match ok with
  | true => MirBel true Ra Ca na Va Rb Cb nb Vb w e w'
  | false => MirBel false 0 0 0 (fun _ => none) 0 0 0 (fun _ => none) w e w'
theorem MirBel.no {w w' : World} (h : Below w.heap.size w w') : MirBel false 0 0 0 (fun _ => none) 0 0 0 (fun _ => none) w (.returned (.tuple #[.agg #[.int .i64 0, .int .i64 0, .slice none 0 0], .agg #[.int .i64 0, .int .i64 0, .slice none 0 0], .bool false])) w' :=
  ⟨none, 0, fun _ => 0, none, 0, fun _ => 0, rfl, ⟨Nat.le_refl _, Nat.zero_le _, fun i hi => absurd hi (Nat.not_lt_zero _)⟩, fun i hi => absurd hi (Nat.not_lt_zero _), ⟨Nat.le_refl _, Nat.zero_le _, fun i hi => absurd hi (Nat.not_lt_zero _)⟩, fun i hi => absurd hi (Nat.not_lt_zero _), h⟩
theorem MirBelIf.no {ok : Bool} {Ra Ca : Int} {na : Nat} {Va : Nat → Option Nat} {Rb Cb : Int} {nb : Nat} {Vb : Nat → Option Nat} {w w' : World} {e : Ending} (h : ok = false) (p : MirBel false 0 0 0 (fun _ => none) 0 0 0 (fun _ => none) w e w') : MirBelIf ok Ra Ca na Va Rb Cb nb Vb w e w' := by subst h; exact p
theorem MirBelIf.yes {ok : Bool} {Ra Ca : Int} {na : Nat} {Va : Nat → Option Nat} {Rb Cb : Int} {nb : Nat} {Vb : Nat → Option Nat} {w w' : World} {e : Ending} (h : ok = true) (p : MirBel true Ra Ca na Va Rb Cb nb Vb w e w') : MirBelIf ok Ra Ca na Va Rb Cb nb Vb w e w' := by subst h; exact p
theorem specMir_no (R C : Int) (a : Option Addr) (n d : Nat) (Z : Nat → Nat) (w : World) (hn : n ≤ 1048576) (h : FS .f32 w a n d Z) (hno : mirB R C n (vals Z) = false) :
    Calls Try.prog 10 #[.agg #[.int .i64 R, .int .i64 C, .slice a n d]] w (MirBel false 0 0 0 (fun _ => none) 0 0 0 (fun _ => none) w) := by
  have HNO := Lib.hid hno
  clear hno
  go_enter Try.func10, Try.ntmps10
  go_wp2_with fail
  go_at_call 37
  refine (specIs_any _ R C a n d Z _ hn (by refine ⟨?_, ?_, ?_⟩ <;> simp [go_sem]) (h.below (by repeat first | (with_reducible exact Below.refl _ _) | (with_reducible refine Below.setCell ?_ (by first | exact Nat.le_refl _ | (simp; done) | (simp; omega) | omega) _) | (with_reducible refine Below.alloc ?_ (by first | exact Nat.le_refl _ | (simp; done) | (simp; omega) | omega) _) | (with_reducible refine below_drewN ?_ _) | (with_reducible refine Below.drew ?_)) (Nat.le_refl _))).mono ?_
  rintro e w1 ⟨rfl, m1, hw1⟩
  have B1 : Below w.heap.size w w1 := by rw [hw1]; exact (by repeat first | (with_reducible exact Below.refl _ _) | (with_reducible refine Below.setCell ?_ (by first | exact Nat.le_refl _ | (simp; done) | (simp; omega) | omega) _) | (with_reducible refine Below.alloc ?_ (by first | exact Nat.le_refl _ | (simp; done) | (simp; omega) | omega) _) | (with_reducible refine below_drewN ?_ _) | (with_reducible refine Below.drew ?_))
  have s1 : w.heap.size + 1 + 1 + 1 ≤ w1.heap.size := by rw [hw1]; simp [World.drewN]
  have XA1 : Box w1 w.heap.size R C a n d := by rw [hw1]; refine ⟨?_, ?_, ?_⟩ <;> simp [go_sem]
  have XR1 : Box w1 (w.heap.size + 1) 0 0 none 0 0 := by rw [hw1]; refine ⟨?_, ?_, ?_⟩ <;> simp [go_sem]
  have XS1 : Box w1 (w.heap.size + 1 + 1) 0 0 none 0 0 := by rw [hw1]; refine ⟨?_, ?_, ?_⟩ <;> simp [go_sem]
  have IR1 : ∀ i, w1.frozen? ⟨w.heap.size + 1, i, none⟩ = false := fun i => by rw [hw1]; simp [go_sem]
  have IS1 : ∀ i, w1.frozen? ⟨w.heap.size + 1 + 1, i, none⟩ = false := fun i => by rw [hw1]; simp [go_sem]
  clear hw1
  obtain ⟨x0, x1, x2⟩ := XA1
  obtain ⟨y0, y1, y2⟩ := XR1
  obtain ⟨z0, z1, z2⟩ := XS1
  cases hv : validB R C n (vals Z) with
  | false =>
    clear hv
    go_wp2_with fail
    refine bodyPost_ret (v := .tuple #[.agg #[.int .i64 0, .int .i64 0, .slice none 0 0], .agg #[.int .i64 0, .int .i64 0, .slice none 0 0], .bool false]) (by simp [results, Try.results10, go_sem, y0, y1, y2, z0, z1, z2]) rfl ?_
    exact MirBel.no (by repeat first | (with_reducible exact B1) | (with_reducible refine Below.setCell ?_ (by first | exact Nat.le_refl _ | (simp; done) | (simp; omega) | omega) _) | (with_reducible refine Below.alloc ?_ (by first | exact Nat.le_refl _ | (simp; done) | (simp; omega) | omega) _) | (with_reducible refine below_drewN ?_ _) | (with_reducible refine Below.drew ?_))
  | true =>
    have hd : decide (R < C) = true := decide_eq_true (by have h2 := HNO.out; unfold mirB at h2; rw [hv, Bool.true_and, decide_eq_false_iff_not] at h2; omega)
    clear hv
    go_wp2_with fail
    refine bodyPost_ret (v := .tuple #[.agg #[.int .i64 0, .int .i64 0, .slice none 0 0], .agg #[.int .i64 0, .int .i64 0, .slice none 0 0], .bool false]) (by simp [results, Try.results10, go_sem, y0, y1, y2, z0, z1, z2]) rfl ?_
    exact MirBel.no (by repeat first | (with_reducible exact B1) | (with_reducible refine Below.setCell ?_ (by first | exact Nat.le_refl _ | (simp; done) | (simp; omega) | omega) _) | (with_reducible refine Below.alloc ?_ (by first | exact Nat.le_refl _ | (simp; done) | (simp; omega) | omega) _) | (with_reducible refine below_drewN ?_ _) | (with_reducible refine Below.drew ?_))
set_option maxRecDepth 20000 in
set_option maxHeartbeats 2000000 in
theorem specMir_yes (r c N M p1 o1 d1 : Nat) (Z : Nat → Nat) (w : World) (h1 : 1 ≤ r) (h12 : r ≤ 12) (c1 : 1 ≤ c) (c12 : c ≤ 12) (hcr : c ≤ r) (hn : N = r * c) (hM : M = c * c) (hv : validB r c N (vals Z) = true) (h : FS .f32 w (some ⟨p1, o1, none⟩) N d1 Z) :
    Calls Try.prog 10 #[.agg #[.int .i64 r, .int .i64 c, .slice (some ⟨p1, o1, none⟩) N d1]] w (MirBelIf (mirOk r c (mirP r c Z)) r c N (fun t => (gsC r c (mirP r c Z) c).1 (t % c * r + t / c)) c c M (gsC r c (mirP r c Z) c).2 w) := by
  have HN := Lib.hid hn
  have HM := Lib.hid hM
  have HV := Lib.hid hv
  have h144 : N ≤ 144 := by have := sides_le h12 c12; omega
  obtain ⟨P, hP⟩ : ∃ P, P = mirP r c Z := ⟨_, rfl⟩
  rw [← hP]
  have HP := Lib.hid hP
  have hd : decide ((r : Int) < (c : Int)) = false := decide_eq_false (by omega)
  have hd2 : decide (r < c) = false := decide_eq_false (by omega)
  clear hn hM hv hP
  go_enter Try.func10, Try.ntmps10
  go_wp2_with fail
  go_at_call 37
  refine (specIs_any _ r c _ N d1 Z _ (by omega) (by refine ⟨?_, ?_, ?_⟩ <;> simp [go_sem]) (h.below (by repeat first | (with_reducible exact Below.refl _ _) | (with_reducible refine Below.setCell ?_ (by first | exact Nat.le_refl _ | (simp; done) | (simp; omega) | omega) _) | (with_reducible refine Below.alloc ?_ (by first | exact Nat.le_refl _ | (simp; done) | (simp; omega) | omega) _) | (with_reducible refine below_drewN ?_ _) | (with_reducible refine Below.drew ?_)) (Nat.le_refl _))).mono ?_
  rintro e w1 ⟨rfl, m1, hw1⟩
  rw [HV.out]
  have B1 : Below w.heap.size w w1 := by rw [hw1]; exact (by repeat first | (with_reducible exact Below.refl _ _) | (with_reducible refine Below.setCell ?_ (by first | exact Nat.le_refl _ | (simp; done) | (simp; omega) | omega) _) | (with_reducible refine Below.alloc ?_ (by first | exact Nat.le_refl _ | (simp; done) | (simp; omega) | omega) _) | (with_reducible refine below_drewN ?_ _) | (with_reducible refine Below.drew ?_))
  have s1 : w.heap.size + 1 + 1 + 1 ≤ w1.heap.size := by rw [hw1]; simp [World.drewN]
  have XA1 : Box w1 w.heap.size r c (some ⟨p1, o1, none⟩) N d1 := by rw [hw1]; refine ⟨?_, ?_, ?_⟩ <;> simp [go_sem]
  have XR1 : Box w1 (w.heap.size + 1) 0 0 none 0 0 := by rw [hw1]; refine ⟨?_, ?_, ?_⟩ <;> simp [go_sem]
  have XS1 : Box w1 (w.heap.size + 1 + 1) 0 0 none 0 0 := by rw [hw1]; refine ⟨?_, ?_, ?_⟩ <;> simp [go_sem]
  have IR1 : ∀ i, w1.frozen? ⟨w.heap.size + 1, i, none⟩ = false := fun i => by rw [hw1]; simp [go_sem]
  have IS1 : ∀ i, w1.frozen? ⟨w.heap.size + 1 + 1, i, none⟩ = false := fun i => by rw [hw1]; simp [go_sem]
  clear hw1
  obtain ⟨x0, x1, x2⟩ := XA1
  have XA1 : Box w1 w.heap.size r c (some ⟨p1, o1, none⟩) N d1 := ⟨x0, x1, x2⟩
  go_wp2_with fail
  go_at_call 38
  refine (l03Mirror_any w.heap.size r c N M p1 o1 d1 Z _ h1 h12 c1 c12 HN.out HM.out (by omega) XA1 (h.below B1 (Nat.le_refl _))).mono ?_
  rw [← HP.out]
  intro e w2 hh
  unfold MirRead at hh
  cases hg : gsOk r c P c with
  | false =>
    rw [hg] at hh
    obtain ⟨rfl, b2⟩ := hh
    have B2 := B1.trans (b2.mono B1.size)
    have s2 := b2.size
    have hno : mirOk r c P = false := by unfold mirOk; rw [hg]; rfl
    have XR2 := XR1.below b2 (by omega)
    have XS2 := XS1.below b2 (by omega)
    have IR2 : ∀ i, w2.frozen? ⟨w.heap.size + 1, i, none⟩ = false := fun i => (b2.frozen (p := ⟨w.heap.size + 1, i, none⟩) (by show w.heap.size + 1 < w1.heap.size; omega)).trans (IR1 i)
    have IS2 : ∀ i, w2.frozen? ⟨w.heap.size + 1 + 1, i, none⟩ = false := fun i => (b2.frozen (p := ⟨w.heap.size + 1 + 1, i, none⟩) (by show w.heap.size + 1 + 1 < w1.heap.size; omega)).trans (IS1 i)
    clear b2 hg x0 x1 x2 XA1 XR1 XS1 IR1 IS1
    have b3 : Below w2.heap.size w2 ((w2.alloc (.cells #[.int .i64 0, .int .i64 0, .slice none 0 0] 26)).alloc (.cells #[.int .i64 0, .int .i64 0, .slice none 0 0] 26)) := (by repeat first | (with_reducible exact Below.refl _ _) | (with_reducible refine Below.setCell ?_ (by first | exact Nat.le_refl _ | (simp; done) | (simp; omega) | omega) _) | (with_reducible refine Below.alloc ?_ (by first | exact Nat.le_refl _ | (simp; done) | (simp; omega) | omega) _) | (with_reducible refine below_drewN ?_ _) | (with_reducible refine Below.drew ?_))
    have s3 : ((w2.alloc (.cells #[.int .i64 0, .int .i64 0, .slice none 0 0] 26)).alloc (.cells #[.int .i64 0, .int .i64 0, .slice none 0 0] 26)).heap.size = w2.heap.size + 1 + 1 := by simp
    go_upto_region 4 with (fail)
    generalize ((w2.alloc (.cells #[.int .i64 0, .int .i64 0, .slice none 0 0] 26)).alloc (.cells #[.int .i64 0, .int .i64 0, .slice none 0 0] 26)) = w3 at b3 s3 ⊢
    have B3 := B2.trans (b3.mono B2.size)
    have XR3 := XR2.below b3 (by omega)
    have XS3 := XS2.below b3 (by omega)
    have IR3 : ∀ i, w3.frozen? ⟨w.heap.size + 1, i, none⟩ = false := fun i => (b3.frozen (p := ⟨w.heap.size + 1, i, none⟩) (by show w.heap.size + 1 < w2.heap.size; omega)).trans (IR2 i)
    have IS3 : ∀ i, w3.frozen? ⟨w.heap.size + 1 + 1, i, none⟩ = false := fun i => (b3.frozen (p := ⟨w.heap.size + 1 + 1, i, none⟩) (by show w.heap.size + 1 + 1 < w2.heap.size; omega)).trans (IS2 i)
    have q1 : w.heap.size + 1 < w3.heap.size := by omega
    have q2 : w.heap.size + 1 + 1 < w3.heap.size := by omega
    clear b3 s3 XR2 XS2 IR2 IS2
    obtain ⟨y0, y1, y2⟩ := XR3
    obtain ⟨z0, z1, z2⟩ := XS3
    go_wp2_with fail
    refine bodyPost_ret (v := .tuple #[.agg #[.int .i64 0, .int .i64 0, .slice none 0 0], .agg #[.int .i64 0, .int .i64 0, .slice none 0 0], .bool false]) (by simp [results, Try.results10, go_sem, y0, y1, y2, z0, z1, z2]) rfl ?_
    exact MirBelIf.no hno (MirBel.no (by repeat first | (with_reducible exact B3) | (with_reducible refine Below.setCell ?_ (by first | exact Nat.le_refl _ | (simp; done) | (simp; omega) | omega) _) | (with_reducible refine Below.alloc ?_ (by first | exact Nat.le_refl _ | (simp; done) | (simp; omega) | omega) _) | (with_reducible refine below_drewN ?_ _) | (with_reducible refine Below.drew ?_)))
  | true =>
    rw [hg] at hh
    obtain ⟨g1, g2, X, Y, rfl, f1, v1, f2, v2, b2⟩ := hh
    have B2 := B1.trans (b2.mono B1.size)
    have s2 := b2.size
    have hok : mirOk r c P = (allFin (vals X) N && allFin (vals Y) M) := by
      unfold mirOk
      rw [hg, Bool.true_and, allFin_flipM h1 c1 HN.out v1, HM.out, allFin_congr (n := c * c) (fun t ht => v2 t (by rw [HM.out]; exact ht))]
    have HOK := Lib.hid hok
    have XR2 := XR1.below b2 (by omega)
    have XS2 := XS1.below b2 (by omega)
    have IR2 : ∀ i, w2.frozen? ⟨w.heap.size + 1, i, none⟩ = false := fun i => (b2.frozen (p := ⟨w.heap.size + 1, i, none⟩) (by show w.heap.size + 1 < w1.heap.size; omega)).trans (IR1 i)
    have IS2 : ∀ i, w2.frozen? ⟨w.heap.size + 1 + 1, i, none⟩ = false := fun i => (b2.frozen (p := ⟨w.heap.size + 1 + 1, i, none⟩) (by show w.heap.size + 1 + 1 < w1.heap.size; omega)).trans (IS1 i)
    have V1 := Lib.hid (flip_read c1 HN.out v1)
    have V2 := Lib.hid v2
    have F1 := Lib.hid f1
    have F2 := Lib.hid f2
    clear b2 hg x0 x1 x2 XA1 XR1 XS1 IR1 IS1 v1 v2 f1 f2 hok
    have b3 : Below w2.heap.size w2 ((w2.alloc (.cells #[.int .i64 r, .int .i64 c, .slice (some ⟨g1, 0, none⟩) N N] 26)).alloc (.cells #[.int .i64 c, .int .i64 c, .slice (some ⟨g2, 0, none⟩) M M] 26)) := (by repeat first | (with_reducible exact Below.refl _ _) | (with_reducible refine Below.setCell ?_ (by first | exact Nat.le_refl _ | (simp; done) | (simp; omega) | omega) _) | (with_reducible refine Below.alloc ?_ (by first | exact Nat.le_refl _ | (simp; done) | (simp; omega) | omega) _) | (with_reducible refine below_drewN ?_ _) | (with_reducible refine Below.drew ?_))
    have s3 : ((w2.alloc (.cells #[.int .i64 r, .int .i64 c, .slice (some ⟨g1, 0, none⟩) N N] 26)).alloc (.cells #[.int .i64 c, .int .i64 c, .slice (some ⟨g2, 0, none⟩) M M] 26)).heap.size = w2.heap.size + 1 + 1 := by simp
    have XQ : Box ((w2.alloc (.cells #[.int .i64 r, .int .i64 c, .slice (some ⟨g1, 0, none⟩) N N] 26)).alloc (.cells #[.int .i64 c, .int .i64 c, .slice (some ⟨g2, 0, none⟩) M M] 26)) w2.heap.size r c (some ⟨g1, 0, none⟩) N N := by refine ⟨?_, ?_, ?_⟩ <;> simp [go_sem]
    have XU : Box ((w2.alloc (.cells #[.int .i64 r, .int .i64 c, .slice (some ⟨g1, 0, none⟩) N N] 26)).alloc (.cells #[.int .i64 c, .int .i64 c, .slice (some ⟨g2, 0, none⟩) M M] 26)) (w2.heap.size + 1) c c (some ⟨g2, 0, none⟩) M M := by refine ⟨?_, ?_, ?_⟩ <;> simp [go_sem]
    go_upto_region 4 with (fail)
    generalize ((w2.alloc (.cells #[.int .i64 r, .int .i64 c, .slice (some ⟨g1, 0, none⟩) N N] 26)).alloc (.cells #[.int .i64 c, .int .i64 c, .slice (some ⟨g2, 0, none⟩) M M] 26)) = w3 at b3 s3 XQ XU ⊢
    have B3 := B2.trans (b3.mono B2.size)
    have XR3 := XR2.below b3 (by omega)
    have XS3 := XS2.below b3 (by omega)
    have IR3 : ∀ i, w3.frozen? ⟨w.heap.size + 1, i, none⟩ = false := fun i => (b3.frozen (p := ⟨w.heap.size + 1, i, none⟩) (by show w.heap.size + 1 < w2.heap.size; omega)).trans (IR2 i)
    have IS3 : ∀ i, w3.frozen? ⟨w.heap.size + 1 + 1, i, none⟩ = false := fun i => (b3.frozen (p := ⟨w.heap.size + 1 + 1, i, none⟩) (by show w.heap.size + 1 + 1 < w2.heap.size; omega)).trans (IS2 i)
    have q1 : w.heap.size + 1 < w3.heap.size := by omega
    have q2 : w.heap.size + 1 + 1 < w3.heap.size := by omega
    have q3 : w2.heap.size < w3.heap.size := by omega
    have q4 : w2.heap.size + 1 < w3.heap.size := by omega
    have q5 : w.heap.size + 1 + 1 < w2.heap.size := by omega
    have F13 := Lib.hid (F1.out.below b3 (Nat.le_refl _))
    have F23 := Lib.hid (F2.out.below b3 (Nat.le_refl _))
    clear b3 s3 XR2 XS2 IR2 IS2 F1 F2
    cases hb : (allFin (vals X) N && allFin (vals Y) M) with
    | false =>
      have hno : mirOk r c P = false := HOK.out.trans hb
      clear hb
      obtain ⟨y0, y1, y2⟩ := XR3
      obtain ⟨z0, z1, z2⟩ := XS3
      go_wp2_with fail
      refine bodyPost_ret (v := .tuple #[.agg #[.int .i64 0, .int .i64 0, .slice none 0 0], .agg #[.int .i64 0, .int .i64 0, .slice none 0 0], .bool false]) (by simp [results, Try.results10, go_sem, y0, y1, y2, z0, z1, z2]) rfl ?_
      exact MirBelIf.no hno (MirBel.no (by repeat first | (with_reducible exact B3) | (with_reducible refine Below.setCell ?_ (by first | exact Nat.le_refl _ | (simp; done) | (simp; omega) | omega) _) | (with_reducible refine Below.alloc ?_ (by first | exact Nat.le_refl _ | (simp; done) | (simp; omega) | omega) _) | (with_reducible refine below_drewN ?_ _) | (with_reducible refine Below.drew ?_)))
    | true =>
      have hyes : mirOk r c P = true := HOK.out.trans hb
      clear hb
      have hb1 : ∀ W, Out2 w3 W (w.heap.size + 1) (w.heap.size + 1 + 1) → Box W w2.heap.size r c (some ⟨g1, 0, none⟩) N N := fun W hW => hW.box XQ q3 (by omega) (by omega)
      have hb2 : ∀ W, Out2 w3 W (w.heap.size + 1) (w.heap.size + 1 + 1) → Box W (w2.heap.size + 1) c c (some ⟨g2, 0, none⟩) M M := fun W hW => hW.box XU q4 (by omega) (by omega)
      have hM0 : MrF w3 (w.heap.size + 1) (w.heap.size + 1 + 1) r c (some ⟨g1, 0, none⟩) N N c c (some ⟨g2, 0, none⟩) M M 0 w3 := ⟨⟨Out2.refl _ _ _, IR3, IS3⟩, XR3, XS3⟩
      have hM1 := MrF.put1 q2 (by omega) hM0
      have hpos : 0 < N := by rw [HN.out]; exact Nat.mul_pos h1 c1
      have mpos : 0 < M := by rw [HM.out]; exact Nat.mul_pos c1 c1
      have k1 := FS.off_box hpos XR3 F13.out
      have k2 := FS.off_box hpos XS3 F13.out
      have k3 := FS.off_box mpos XR3 F23.out
      have k4 := FS.off_box mpos XS3 F23.out
      clear XQ XU XR3 XS3 IR3 IS3
      go_wp2
      refine HB.wp_region_heavy (fun W => Out2 w3 W (w.heap.size + 1) (w.heap.size + 1 + 1)) (fun s a' W => (fun s l W => MrF w3 (w.heap.size + 1) (w.heap.size + 1 + 1) r c (some ⟨g1, 0, none⟩) N N c c (some ⟨g2, 0, none⟩) M M s W) s (([] : List Nat).map fun d => a'.tmps.getD d undef) W) (fun i => if i = 2 then some 0 else none) 3 1
        (HB.HClass.of (slots := []) (F := fun s l W => MrF w3 (w.heap.size + 1) (w.heap.size + 1 + 1) r c (some ⟨g1, 0, none⟩) N N c c (some ⟨g2, 0, none⟩) M M s W) (by kernel_rfl) (fun s l W h => h.base.out) (fun s l W W' hb h => MrF.more q1 q2 hb h)) (by exact MrF.more q1 q2 ((Below.refl _ _).drew) hM0) (by kernel_rfl) (by kernel_rfl) (by kernel_rfl) (by kernel_rfl) ?_
      simp only [List.take_succ_cons, List.take_zero, List.drop_succ_cons, List.drop_zero]
      (refine HB.wpHeavy_run (.agg #[.int .i64 r, .int .i64 c, .slice (some ⟨g1, 0, none⟩) N N]) rfl rfl (by intro W hW; obtain ⟨u0, u1, u2⟩ := hb1 W hW; simp [go_sem, BigFrame.eval_const, BigFrame.eval_global, BigFrame.eval_func, u0, u1, u2]) ?_; simp only [Act.put, List.setIfInBounds_toArray, List.set_cons_succ, List.set_cons_zero])
      (refine HB.wpHeavy_run (.agg #[.int .i64 c, .int .i64 c, .slice (some ⟨g2, 0, none⟩) M M]) rfl rfl (by intro W hW; obtain ⟨u0, u1, u2⟩ := hb2 W hW; simp [go_sem, BigFrame.eval_const, BigFrame.eval_global, BigFrame.eval_func, u0, u1, u2]) ?_; simp only [Act.put, List.setIfInBounds_toArray, List.set_cons_succ, List.set_cons_zero])
      refine HB.wpHeavy_step rfl rfl ⟨_, hM0⟩ ?_
      intro W0 hW0
      obtain ⟨c00, c01, c02⟩ := MrF.box1 hW0
      have fr0 := hW0.base.i1
      have hrun0 : ∀ {o : Oper} {a : Act}, (execOp a.eval o).run Try.prog W0 = .ok .skip (set3 W0 (w.heap.size + 1) (r : Int) (c : Int) (some ⟨g1, 0, none⟩) N N) → (execOp a.eval o).run Try.prog W0 = .ok .skip (set3 W0 (w.heap.size + 1) (r : Int) (c : Int) (some ⟨g1, 0, none⟩) N N) := fun h => h
      rw [hrun0 (by unfold set3; simp [go_sem, BigFrame.eval_const, BigFrame.eval_global, BigFrame.eval_func, c00, c01, c02, fr0])]
      refine ⟨MrF.put1 q2 (by omega) hW0, ?_⟩
      clear c00 c01 c02 fr0 hrun0
      (try simp only [Act.put, List.setIfInBounds_toArray, List.set_cons_succ, List.set_cons_zero])
      refine HB.wpHeavy_nil ?_
      intro w9 hC
      have hC2 : MrF w3 (w.heap.size + 1) (w.heap.size + 1 + 1) r c (some ⟨g1, 0, none⟩) N N c c (some ⟨g2, 0, none⟩) M M 1 w9 := hC
      obtain ⟨hB9, ⟨y0, y1, y2⟩, ⟨z0, z1, z2⟩⟩ := hC2
      have IS9 := hB9.i2
      have HS := Lib.hid hB9.out
      have l9 := hB9.out.size
      clear hC hB9 hM0 hM1
      go_wp2
      refine bodyPost_ret (v := .tuple #[.agg #[.int .i64 (r : Int), .int .i64 (c : Int), .slice (some ⟨g1, 0, none⟩) N N], .agg #[.int .i64 (c : Int), .int .i64 (c : Int), .slice (some ⟨g2, 0, none⟩) M M], .bool true]) (by simp [results, Try.results10, go_sem, y0, y1, y2, z0, z1, z2]) rfl ?_
      have HT := HS.out.right (set3_grown w9 (w.heap.size + 1 + 1) (c : Int) (c : Int) (some ⟨g2, 0, none⟩) M M)
      exact MirBelIf.yes hyes ⟨some ⟨g1, 0, none⟩, N, X, some ⟨g2, 0, none⟩, M, Y, rfl, F13.out.out2 HT k1 k2, V1.out, F23.out.out2 HT k3 k4, V2.out, B3.trans (HT.bel (B := w.heap.size) (by omega) (by omega) B3.size)⟩
theorem keyMirrorFactor (R C : Int) (n : Nat) (Z : Nat → Nat) (hn : n ≤ 1048576) : ∃ (ok : Bool) (Ra Ca : Int) (na : Nat) (Va : Nat → Option Nat) (Rb Cb : Int) (nb : Nat) (Vb : Nat → Option Nat), na ≤ 144 ∧ nb ≤ 144 ∧
    (∀ a c W, FS .f32 W a n c Z → Calls Try.prog 10 #[.agg #[.int .i64 R, .int .i64 C, .slice a n c]] W (MirBel ok Ra Ca na Va Rb Cb nb Vb W)) ∧
    (∀ a c W, FS .f32 W a n c Z → Calls Try.prog 12 #[.agg #[.int .i64 R, .int .i64 C, .slice a n c]] W (MirOwn ok Ra Ca na Va Rb Cb nb Vb W)) := by
  cases hmb : mirB R C n (vals Z) with
  | false => exact ⟨false, 0, 0, 0, fun _ => none, 0, 0, 0, fun _ => none, by omega, by omega, fun a c W h => specMir_no R C a n c Z W hn h hmb, fun a c W h => implMir_no R C a n c Z W hn h hmb⟩
  | true =>
    have hmb2 := hmb
    unfold mirB at hmb2
    simp only [Bool.and_eq_true, decide_eq_true_eq] at hmb2
    obtain ⟨hv, hle⟩ := hmb2
    obtain ⟨r, c, rfl, rfl, h1, h12, c1, c12, hN, _⟩ := valid_nat hv
    have h0 : 0 < n := by rw [hN]; exact Nat.mul_pos h1 c1
    have ks : ∀ a d W, FS .f32 W a n d Z → Calls Try.prog 10 #[.agg #[.int .i64 r, .int .i64 c, .slice a n d]] W (MirBelIf (mirOk r c (mirP r c Z)) r c n (fun t => (gsC r c (mirP r c Z) c).1 (t % c * r + t / c)) c c (c * c) (gsC r c (mirP r c Z) c).2 W) := fun a d W h => by
      obtain ⟨p, o, rfl, _⟩ := h.at h0
      exact specMir_yes r c n _ p o d Z W h1 h12 c1 c12 (by omega) hN rfl hv h
    have ki : ∀ a d W, FS .f32 W a n d Z → Calls Try.prog 12 #[.agg #[.int .i64 r, .int .i64 c, .slice a n d]] W (MirOwnIf (mirOk r c (mirP r c Z)) r c n (fun t => (gsC r c (mirP r c Z) c).1 (t % c * r + t / c)) c c (c * c) (gsC r c (mirP r c Z) c).2 W) := fun a d W h => by
      obtain ⟨p, o, rfl, _⟩ := h.at h0
      exact implMir_yes r c n _ p o d Z W h1 h12 c1 c12 (by omega) hN rfl hv h
    have n144 : n ≤ 144 := by have := sides_le h12 c12; omega
    have m144 : c * c ≤ 144 := sides_le c12 c12
    cases hq : mirOk r c (mirP r c Z) with
    | false =>
      rw [hq] at ki ks
      exact ⟨false, 0, 0, 0, fun _ => none, 0, 0, 0, fun _ => none, by omega, by omega, ks, ki⟩
    | true =>
      rw [hq] at ki ks
      exact ⟨true, r, c, n, _, c, c, c * c, _, n144, m144, ks, ki⟩
end Go.Proofs.Ytcibjkadlndejaa
