/- Helper: a matrix taken apart into upright columns and an upper square, of the program. Conditions: none. -/
import Derived.Test.YtcibjkadlndejaaMirDefs
import Derived.Test.YtcibjkadlndejaaMatValid
set_option linter.unusedVariables false
set_option linter.unusedSimpArgs false
namespace Go.Proofs.Ytcibjkadlndejaa
open Go.RowKit

theorem implMir_no (R C : Int) (a : Option Addr) (n d : Nat) (Z : Nat → Nat) (w : World) (hn : n ≤ 1048576) (h : FS .f32 w a n d Z) (hno : mirB R C n (vals Z) = false) :
    Calls Try.prog 12 #[.agg #[.int .i64 R, .int .i64 C, .slice a n d]] w (MirOwn false 0 0 0 (fun _ => none) 0 0 0 (fun _ => none) w) := by
  have HNO := Lib.hid hno
  clear hno
  go_enter Try.func12, Try.ntmps12
  go_wp2_with fail
  go_at_call 39
  refine (implValid_any R C a n d Z _ hn (h.below (by repeat first | (with_reducible exact Below.refl _ _) | (with_reducible refine Below.setCell ?_ (by first | exact Nat.le_refl _ | (simp; done) | (simp; omega) | omega) _) | (with_reducible refine Below.alloc ?_ (by first | exact Nat.le_refl _ | (simp; done) | (simp; omega) | omega) _) | (with_reducible refine below_drewN ?_ _) | (with_reducible refine Below.drew ?_)) (Nat.le_refl _))).mono ?_
  rintro e w1 ⟨rfl, b1⟩
  have B1 : Below w.heap.size w w1 := Below.trans (by repeat first | (with_reducible exact Below.refl _ _) | (with_reducible refine Below.setCell ?_ (by first | exact Nat.le_refl _ | (simp; done) | (simp; omega) | omega) _) | (with_reducible refine Below.alloc ?_ (by first | exact Nat.le_refl _ | (simp; done) | (simp; omega) | omega) _) | (with_reducible refine below_drewN ?_ _) | (with_reducible refine Below.drew ?_)) (b1.mono (by simp; omega))
  have s1 : w.heap.size + 1 + 1 + 1 ≤ w1.heap.size := by have := b1.size; simp at this; omega
  have XA1 : Box w1 w.heap.size R C a n d := Box.below (by refine ⟨?_, ?_, ?_⟩ <;> simp [go_sem]) b1 (by simp <;> omega)
  obtain ⟨x0, x1, x2⟩ := XA1
  have XR1 : Box w1 (w.heap.size + 1) 0 0 none 0 0 := Box.below (by refine ⟨?_, ?_, ?_⟩ <;> simp [go_sem]) b1 (by simp <;> omega)
  have IR1 : ∀ i, w1.frozen? ⟨w.heap.size + 1, i, none⟩ = false := fun i => (b1.frozen (p := ⟨w.heap.size + 1, i, none⟩) (by simp <;> omega)).trans (by simp [go_sem])
  have XS1 : Box w1 (w.heap.size + 1 + 1) 0 0 none 0 0 := Box.below (by refine ⟨?_, ?_, ?_⟩ <;> simp [go_sem]) b1 (by simp <;> omega)
  have IS1 : ∀ i, w1.frozen? ⟨w.heap.size + 1 + 1, i, none⟩ = false := fun i => (b1.frozen (p := ⟨w.heap.size + 1 + 1, i, none⟩) (by simp <;> omega)).trans (by simp [go_sem])
  obtain ⟨y0, y1, y2⟩ := XR1
  obtain ⟨z0, z1, z2⟩ := XS1
  clear b1
  cases hv : validB R C n (vals Z) with
  | false =>
    clear hv
    go_wp2_with fail
    refine bodyPost_ret (v := .tuple #[.agg #[.int .i64 0, .int .i64 0, .slice none 0 0], .agg #[.int .i64 0, .int .i64 0, .slice none 0 0], .bool false]) (by simp [results, Try.results12, go_sem, y0, y1, y2, z0, z1, z2]) rfl ?_
    exact MirOwn.no (by repeat first | (with_reducible exact B1) | (with_reducible refine Below.setCell ?_ (by first | exact Nat.le_refl _ | (simp; done) | (simp; omega) | omega) _) | (with_reducible refine Below.alloc ?_ (by first | exact Nat.le_refl _ | (simp; done) | (simp; omega) | omega) _) | (with_reducible refine below_drewN ?_ _) | (with_reducible refine Below.drew ?_))
  | true =>
    have hd : decide (R < C) = true := decide_eq_true (by have h2 := HNO.out; unfold mirB at h2; rw [hv, Bool.true_and, decide_eq_false_iff_not] at h2; omega)
    clear hv
    go_wp2_with fail
    refine bodyPost_ret (v := .tuple #[.agg #[.int .i64 0, .int .i64 0, .slice none 0 0], .agg #[.int .i64 0, .int .i64 0, .slice none 0 0], .bool false]) (by simp [results, Try.results12, go_sem, y0, y1, y2, z0, z1, z2]) rfl ?_
    exact MirOwn.no (by repeat first | (with_reducible exact B1) | (with_reducible refine Below.setCell ?_ (by first | exact Nat.le_refl _ | (simp; done) | (simp; omega) | omega) _) | (with_reducible refine Below.alloc ?_ (by first | exact Nat.le_refl _ | (simp; done) | (simp; omega) | omega) _) | (with_reducible refine below_drewN ?_ _) | (with_reducible refine Below.drew ?_))
set_option maxRecDepth 20000 in
set_option maxHeartbeats 4000000 in
theorem implMir_yes (r c N M p1 o1 d1 : Nat) (Z : Nat → Nat) (w : World) (h1 : 1 ≤ r) (h12 : r ≤ 12) (c1 : 1 ≤ c) (c12 : c ≤ 12) (hcr : c ≤ r) (hn : N = r * c) (hM : M = c * c) (hv : validB r c N (vals Z) = true) (h : FS .f32 w (some ⟨p1, o1, none⟩) N d1 Z) :
    Calls Try.prog 12 #[.agg #[.int .i64 r, .int .i64 c, .slice (some ⟨p1, o1, none⟩) N d1]] w (MirOwnIf (mirOk r c (mirP r c Z)) r c N (fun t => (gsC r c (mirP r c Z) c).1 (t % c * r + t / c)) c c M (gsC r c (mirP r c Z) c).2 w) := by
  have hN2 : N = c * r := by rw [hn, Nat.mul_comm]
  have HN := Lib.hid hn
  have HN2 := Lib.hid hN2
  have HM := Lib.hid hM
  have h144 : N ≤ 144 := by have := sides_le h12 c12; omega
  have m144 : M ≤ 144 := by have := sides_le c12 c12; omega
  have hpos : 0 < N := by rw [hn]; exact Nat.mul_pos h1 c1
  have mpos : 0 < M := by rw [hM]; exact Nat.mul_pos c1 c1
  have HV := Lib.hid hv
  have c0 : cn .f32 0 = some 0 := by kernel_rfl
  obtain ⟨P, hP⟩ : ∃ P, P = mirP r c Z := ⟨_, rfl⟩
  rw [← hP]
  have HP := Lib.hid hP
  have hd : decide ((r : Int) < (c : Int)) = false := decide_eq_false (by omega)
  have hd2 : decide (r < c) = false := decide_eq_false (by omega)
  clear hn hN2 hM hv hP
  go_enter Try.func12, Try.ntmps12
  go_wp2_with fail
  go_at_call 39
  refine (implValid_any r c _ N d1 Z _ (by omega) (h.below (by repeat first | (with_reducible exact Below.refl _ _) | (with_reducible refine Below.setCell ?_ (by first | exact Nat.le_refl _ | (simp; done) | (simp; omega) | omega) _) | (with_reducible refine Below.alloc ?_ (by first | exact Nat.le_refl _ | (simp; done) | (simp; omega) | omega) _) | (with_reducible refine below_drewN ?_ _) | (with_reducible refine Below.drew ?_)) (Nat.le_refl _))).mono ?_
  rintro e w1 ⟨rfl, b1⟩
  rw [HV.out]
  have B1 : Below w.heap.size w w1 := Below.trans (by repeat first | (with_reducible exact Below.refl _ _) | (with_reducible refine Below.setCell ?_ (by first | exact Nat.le_refl _ | (simp; done) | (simp; omega) | omega) _) | (with_reducible refine Below.alloc ?_ (by first | exact Nat.le_refl _ | (simp; done) | (simp; omega) | omega) _) | (with_reducible refine below_drewN ?_ _) | (with_reducible refine Below.drew ?_)) (b1.mono (by simp; omega))
  have s1 : w.heap.size + 1 + 1 + 1 ≤ w1.heap.size := by have := b1.size; simp at this; omega
  have XA1 : Box w1 w.heap.size r c (some ⟨p1, o1, none⟩) N d1 := Box.below (by refine ⟨?_, ?_, ?_⟩ <;> simp [go_sem]) b1 (by simp <;> omega)
  obtain ⟨x0, x1, x2⟩ := XA1
  have XA1 : Box w1 w.heap.size r c (some ⟨p1, o1, none⟩) N d1 := ⟨x0, x1, x2⟩
  have XR1 : Box w1 (w.heap.size + 1) 0 0 none 0 0 := Box.below (by refine ⟨?_, ?_, ?_⟩ <;> simp [go_sem]) b1 (by simp <;> omega)
  have IR1 : ∀ i, w1.frozen? ⟨w.heap.size + 1, i, none⟩ = false := fun i => (b1.frozen (p := ⟨w.heap.size + 1, i, none⟩) (by simp <;> omega)).trans (by simp [go_sem])
  have XS1 : Box w1 (w.heap.size + 1 + 1) 0 0 none 0 0 := Box.below (by refine ⟨?_, ?_, ?_⟩ <;> simp [go_sem]) b1 (by simp <;> omega)
  have IS1 : ∀ i, w1.frozen? ⟨w.heap.size + 1 + 1, i, none⟩ = false := fun i => (b1.frozen (p := ⟨w.heap.size + 1 + 1, i, none⟩) (by simp <;> omega)).trans (by simp [go_sem])
  clear b1
  go_wp2_with fail
  go_at_call 40
  refine (flipped_any r c N p1 o1 d1 Z _ h1 h12 c1 c12 HN.out (h.below B1 (Nat.le_refl _))).mono ?_
  rintro e w2 ⟨g1, rfl, oc, b2⟩
  have B2 := B1.trans (b2.mono B1.size)
  have s2 := b2.size
  have XA2 := XA1.below b2 (by omega)
  have XR2 := XR1.below b2 (by omega)
  have XS2 := XS1.below b2 (by omega)
  have IR2 : ∀ i, w2.frozen? ⟨w.heap.size + 1, i, none⟩ = false := fun i => (b2.frozen (p := ⟨w.heap.size + 1, i, none⟩) (by show w.heap.size + 1 < w1.heap.size; omega)).trans (IR1 i)
  have IS2 : ∀ i, w2.frozen? ⟨w.heap.size + 1 + 1, i, none⟩ = false := fun i => (b2.frozen (p := ⟨w.heap.size + 1 + 1, i, none⟩) (by show w.heap.size + 1 + 1 < w1.heap.size; omega)).trans (IS1 i)
  obtain ⟨_, _, t1, t2, _, _⟩ := oc.cell hpos
  have oc2 := oc.alone hpos
  clear b2 x0 x1 x2 XA1 XR1 XS1 IR1 IS1 B1 oc
  obtain ⟨x0, x1, x2⟩ := XA2
  have XA2 : Box w2 w.heap.size r c (some ⟨p1, o1, none⟩) N d1 := ⟨x0, x1, x2⟩
  have hal : ∀ o, (w2.alloc o).cell? ⟨w.heap.size, 1, none⟩ = some (.int .i64 (c : Int)) := fun o => (World.cell?_alloc_lt w2 o ⟨w.heap.size, 1, none⟩ (by show w.heap.size < w2.heap.size; omega)).trans x1
  go_wp2_with fail
  have XM3 := Box.new w2 26 c r (some ⟨g1, 0, none⟩) N N
  have b3 : Below w2.heap.size w2 (w2.alloc (.cells #[.int .i64 c, .int .i64 r, .slice (some ⟨g1, 0, none⟩) N N] 26)) := (by repeat first | (with_reducible exact Below.refl _ _) | (with_reducible refine Below.setCell ?_ (by first | exact Nat.le_refl _ | (simp; done) | (simp; omega) | omega) _) | (with_reducible refine Below.alloc ?_ (by first | exact Nat.le_refl _ | (simp; done) | (simp; omega) | omega) _) | (with_reducible refine below_drewN ?_ _) | (with_reducible refine Below.drew ?_))
  have s3 : (w2.alloc (.cells #[.int .i64 c, .int .i64 r, .slice (some ⟨g1, 0, none⟩) N N] 26)).heap.size = w2.heap.size + 1 := by simp
  generalize w2.alloc (.cells #[.int .i64 c, .int .i64 r, .slice (some ⟨g1, 0, none⟩) N N] 26) = w3 at XM3 b3 s3 ⊢
  have B3 := B2.trans (b3.mono B2.size)
  have XA3 := XA2.below b3 (by omega)
  have XR3 := XR2.below b3 (by omega)
  have XS3 := XS2.below b3 (by omega)
  have IR3 : ∀ i, w3.frozen? ⟨w.heap.size + 1, i, none⟩ = false := fun i => (b3.frozen (p := ⟨w.heap.size + 1, i, none⟩) (by show w.heap.size + 1 < w2.heap.size; omega)).trans (IR2 i)
  have IS3 : ∀ i, w3.frozen? ⟨w.heap.size + 1 + 1, i, none⟩ = false := fun i => (b3.frozen (p := ⟨w.heap.size + 1 + 1, i, none⟩) (by show w.heap.size + 1 + 1 < w2.heap.size; omega)).trans (IS2 i)
  have oc3 := oc2.kept (below_grew b3) (fun q hq => by cases hq)
  obtain ⟨m5, hm5⟩ : ∃ m5, m5 = w2.heap.size := ⟨_, rfl⟩
  rw [← hm5] at XM3 s3 t2 s2 ⊢
  clear hm5 b3 hal x0 x1 x2 XA2 XR2 XS2 IR2 IS2 oc2 B2
  go_at_call 41
  refine (newMatrix_any c c M _ c12 c12 HM.out).mono ?_
  rintro e w4 ⟨g2, rfl, ou, b4⟩
  have B4 := B3.trans (b4.mono B3.size)
  have s4 := b4.size
  have XA4 := XA3.below b4 (by omega)
  have XR4 := XR3.below b4 (by omega)
  have XS4 := XS3.below b4 (by omega)
  have XM4 := XM3.below b4 (by omega)
  have IR4 : ∀ i, w4.frozen? ⟨w.heap.size + 1, i, none⟩ = false := fun i => (b4.frozen (p := ⟨w.heap.size + 1, i, none⟩) (by show w.heap.size + 1 < w3.heap.size; omega)).trans (IR3 i)
  have IS4 : ∀ i, w4.frozen? ⟨w.heap.size + 1 + 1, i, none⟩ = false := fun i => (b4.frozen (p := ⟨w.heap.size + 1 + 1, i, none⟩) (by show w.heap.size + 1 + 1 < w3.heap.size; omega)).trans (IS3 i)
  have oc4 := oc3.kept (below_grew b4) (fun q hq => by cases hq)
  obtain ⟨_, _, t3, t4, _, _⟩ := ou.cell mpos
  have ou4 := ou.alone mpos
  obtain ⟨x0, x1, x2⟩ := XA4
  have hal : ∀ o, (w4.alloc o).cell? ⟨w.heap.size, 1, none⟩ = some (.int .i64 (c : Int)) := fun o => (World.cell?_alloc_lt w4 o ⟨w.heap.size, 1, none⟩ (by show w.heap.size < w4.heap.size; omega)).trans x1
  clear b4 B3 XA3 XR3 XS3 XM3 IR3 IS3 oc3 ou x0 x1 x2
  go_wp2_with fail
  have XU5 := Box.new w4 26 c c (some ⟨g2, 0, none⟩) M M
  have b5 : Below w4.heap.size w4 (w4.alloc (.cells #[.int .i64 c, .int .i64 c, .slice (some ⟨g2, 0, none⟩) M M] 26)) := (by repeat first | (with_reducible exact Below.refl _ _) | (with_reducible refine Below.setCell ?_ (by first | exact Nat.le_refl _ | (simp; done) | (simp; omega) | omega) _) | (with_reducible refine Below.alloc ?_ (by first | exact Nat.le_refl _ | (simp; done) | (simp; omega) | omega) _) | (with_reducible refine below_drewN ?_ _) | (with_reducible refine Below.drew ?_))
  have s5 : (w4.alloc (.cells #[.int .i64 c, .int .i64 c, .slice (some ⟨g2, 0, none⟩) M M] 26)).heap.size = w4.heap.size + 1 := by simp
  generalize w4.alloc (.cells #[.int .i64 c, .int .i64 c, .slice (some ⟨g2, 0, none⟩) M M] 26) = w5 at XU5 b5 s5 ⊢
  have B5 := B4.trans (b5.mono B4.size)
  have XR5 := XR4.below b5 (by omega)
  have XS5 := XS4.below b5 (by omega)
  have XM5 := XM4.below b5 (by omega)
  have IR5 : ∀ i, w5.frozen? ⟨w.heap.size + 1, i, none⟩ = false := fun i => (b5.frozen (p := ⟨w.heap.size + 1, i, none⟩) (by show w.heap.size + 1 < w4.heap.size; omega)).trans (IR4 i)
  have IS5 : ∀ i, w5.frozen? ⟨w.heap.size + 1 + 1, i, none⟩ = false := fun i => (b5.frozen (p := ⟨w.heap.size + 1 + 1, i, none⟩) (by show w.heap.size + 1 + 1 < w4.heap.size; omega)).trans (IS4 i)
  have oc5 := oc4.kept (below_grew b5) (fun q hq => by cases hq)
  have ou5 := ou4.kept (below_grew b5) (fun q hq => by cases hq)
  obtain ⟨m6, hm6⟩ : ∃ m6, m6 = w4.heap.size := ⟨_, rfl⟩
  rw [← hm6] at XU5 s5 t4 s4 ⊢
  have n1 : g1 ≠ g2 := by omega
  have q1 : m5 ≠ g1 := by omega
  have q2 : m5 ≠ g2 := by omega
  have q3 : m6 ≠ g1 := by omega
  have q4 : m6 ≠ g2 := by omega
  have q5 : w.heap.size + 1 ≠ g1 := by omega
  have q6 : w.heap.size + 1 ≠ g2 := by omega
  have q7 : w.heap.size + 1 + 1 ≠ g1 := by omega
  have q8 : w.heap.size + 1 + 1 ≠ g2 := by omega
  have l1 : m5 < w5.heap.size := by omega
  have l2 : m6 < w5.heap.size := by omega
  have l3 : w.heap.size + 1 + 1 < w5.heap.size := by omega
  have l4 : w.heap.size ≤ g1 := by omega
  have l5 : w.heap.size ≤ g2 := by omega
  have gl1 : g1 < w5.heap.size := by omega
  have gl2 : g2 < w5.heap.size := by omega
  clear hm6 b5 B4 hal XR4 XS4 XM4 IR4 IS4 oc4 ou4
  have HV1 : Hid (∀ t, t < N → vals (flipZ r c Z) t = (gsC r c P 0).1 t) := Lib.hid fun t ht => by rw [HP.out]; rfl
  have HV2 : Hid (∀ t, t < M → vals (fun _ => 0) t = (gsC r c P 0).2 t) := Lib.hid fun t ht => by rw [HP.out]; exact c0
  clear HP
  go_loopw [34] (fun i wr => ∃ (k : Nat) (X Y : Nat → Nat), k ≤ c ∧ i = .int .i64 k ∧ Own 41 .f32 g1 (g1 + 1) wr (some ⟨g1, 0, none⟩) N N X ∧ Own 41 .f32 g2 (g2 + 1) wr (some ⟨g2, 0, none⟩) M M Y ∧ (∀ t, t < N → vals X t = (gsC r c P k).1 t) ∧ (∀ t, t < M → vals Y t = (gsC r c P k).2 t) ∧ Hid (gsOk r c P k = true) ∧ Out2 w5 wr g1 g2) (fun i _ => c - (intOf i).toNat)
  case atStart => exact ⟨0, _, _, Nat.zero_le _, rfl, oc5, ou5, HV1.out, HV2.out, Lib.hid rfl, Out2.refl _ _ _⟩
  case round =>
    obtain ⟨k, X, Y, hk, rfl, k1, k2, v1, v2, hok, ho⟩ := hrel
    clear oc5 ou5 HV1 HV2
    have XM := ho.box XM5 l1 q1 q2
    by_cases hlt : k < c
    · have HK1 := Lib.hid k1
      have HK2 := Lib.hid k2
      have HO := Lib.hid ho
      have hdl : decide ((k : Int) < (c : Int)) = true := decide_eq_true (by omega)
      obtain ⟨Q, hQ⟩ : ∃ Q, Q = gsC r c P k := ⟨_, rfl⟩
      rw [← hQ] at v1 v2
      have HQ := Lib.hid hQ
      have HV1 := Lib.hid v1
      have HV2 := Lib.hid v2
      have rowC := fun (i : Nat) (hi : i < c) W => by have hh := rowOf_any g1 0 c r N N i W c12 h1 h12 HN2.out (Nat.le_refl _) (by omega) hi; rwa [Nat.zero_add] at hh
      have rowU := fun (i : Nat) (hi : i < c) W => by have hh := rowOf_any g2 0 c c M M i W c12 c1 c12 HM.out (Nat.le_refl _) (by omega) hi; rwa [Nat.zero_add] at hh
      have hkr : k * r + r ≤ N := by
        have e1 : (k + 1) * r ≤ c * r := Nat.mul_le_mul_right r hlt
        rw [Nat.succ_mul] at e1
        have e2 := HN2.out
        omega
      have hkk : k * c + k < M := by rw [HM.out]; exact place_lt hlt hlt
      have hRC := Lib.hid rowC
      have hRU := Lib.hid rowU
      have HKR := Lib.hid hkr
      obtain ⟨y0, y1, y2⟩ := XM
      clear k1 k2 ho hQ v1 v2 rowC rowU hkr
      go_wp2_with fail
      go_at_call 42
      refine (hRC.out k hlt _).mono ?_
      rintro e w6 ⟨rfl, b6⟩
      have HO6 := Lib.hid (HO.out.more b6)
      have K16 := HK1.out.kept (below_grew b6) (fun q hq => by cases hq)
      have K26 := HK2.out.kept (below_grew b6) (fun q hq => by cases hq)
      have R1 : Hid (∀ t, t < N → vals X t = (gsR r c k Q 0).1 t) := HV1
      have R2 : Hid (∀ t, t < M → vals Y t = (gsR r c k Q 0).2 t) := HV2
      clear y0 y1 y2 b6 HO HK1 HK2 HV1 HV2
      go_wp2
      go_loopw [40] (fun i wr => ∃ (q : Nat) (X Y : Nat → Nat), q ≤ 2 ∧ i = .int .i64 q ∧ Own 41 .f32 g1 (g1 + 1) wr (some ⟨g1, 0, none⟩) N N X ∧ Own 41 .f32 g2 (g2 + 1) wr (some ⟨g2, 0, none⟩) M M Y ∧ (∀ t, t < N → vals X t = (gsR r c k Q q).1 t) ∧ (∀ t, t < M → vals Y t = (gsR r c k Q q).2 t) ∧ Out2 w5 wr g1 g2) (fun i _ => 2 - (intOf i).toNat)
      case atStart => exact ⟨0, X, Y, Nat.zero_le _, rfl, K16, K26, R1.out, R2.out, HO6.out⟩
      case round =>
        obtain ⟨q, X2, Y2, hq, rfl, k1, k2, v1, v2, ho⟩ := hrel
        clear K16 K26 R1 R2 HO6
        by_cases hq2 : q < 2
        · have hdq : decide ((q : Int) < 2) = true := decide_eq_true (by omega)
          obtain ⟨Q2, hQ2⟩ : ∃ Q2, Q2 = gsR r c k Q q := ⟨_, rfl⟩
          rw [← hQ2] at v1 v2
          have HQ2 := Lib.hid hQ2
          have HK1 := Lib.hid k1
          have HK2 := Lib.hid k2
          have HO := Lib.hid ho
          have R1 : Hid (∀ t, t < N → vals X2 t = (gsL r c k Q2 0).1 t) := Lib.hid v1
          have R2 : Hid (∀ t, t < M → vals Y2 t = (gsL r c k Q2 0).2 t) := Lib.hid v2
          clear hQ2 k1 k2 v1 v2 ho
          go_wp2
          go_loopw [43] (fun i wr => ∃ (j : Nat) (X Y : Nat → Nat), j ≤ k ∧ i = .int .i64 j ∧ Own 41 .f32 g1 (g1 + 1) wr (some ⟨g1, 0, none⟩) N N X ∧ Own 41 .f32 g2 (g2 + 1) wr (some ⟨g2, 0, none⟩) M M Y ∧ (∀ t, t < N → vals X t = (gsL r c k Q2 j).1 t) ∧ (∀ t, t < M → vals Y t = (gsL r c k Q2 j).2 t) ∧ Out2 w5 wr g1 g2) (fun i _ => k - (intOf i).toNat)
          case atStart => exact ⟨0, X2, Y2, Nat.zero_le _, rfl, HK1.out, HK2.out, R1.out, R2.out, HO.out⟩
          case round =>
            obtain ⟨j, X3, Y3, hj, rfl, k1, k2, v1, v2, ho⟩ := hrel
            clear HK1 HK2 R1 R2 HO
            by_cases hj2 : j < k
            · have hdj : decide ((j : Int) < (k : Int)) = true := decide_eq_true (by omega)
              obtain ⟨Q3, hQ3⟩ : ∃ Q3, Q3 = gsL r c k Q2 j := ⟨_, rfl⟩
              rw [← hQ3] at v1 v2
              have HQ3 := Lib.hid hQ3
              have hjc : j < c := by omega
              obtain ⟨y0, y1, y2⟩ := ho.box XM5 l1 q1 q2
              have hjr : j * r + r ≤ k * r := by
                have e1 : (j + 1) * r ≤ k * r := Nat.mul_le_mul_right r hj2
                rwa [Nat.succ_mul] at e1
              have HJR := Lib.hid hjr
              have hjk : j * c + k < M := by rw [HM.out]; exact place_lt hjc hlt
              have rF := fun (i : Nat) (hi : i < c) (W : World) (X : Nat → Nat) (hF : FS .f32 W (some ⟨g1, 0, none⟩) N N X) => by have hh := FS.row hF HN2.out hi r (Nat.le_refl _) (by unfold maxLen; omega); rwa [Nat.zero_add] at hh
              have HRF := Lib.hid rF
              have HK1 := Lib.hid k1
              have HK2 := Lib.hid k2
              have HO := Lib.hid ho
              have V1 := Lib.hid v1
              have V2 := Lib.hid v2
              clear hQ3 hjr rF k1 k2 v1 v2 ho
              go_wp2_with fail
              go_at_call 42
              refine (hRC.out j hjc _).mono ?_
              rintro e w7 ⟨rfl, b7⟩
              have HO7 := HO.out.more b7
              have K17 := HK1.out.kept (below_grew b7) (fun q hq => by cases hq)
              have K27 := Lib.hid (HK2.out.kept (below_grew b7) (fun q hq => by cases hq))
              clear y0 y1 y2 b7 HK1 HK2 HO
              go_wp2_with fail
              go_at_call 43
              refine (implDot_any _ _ r _ r _ (fun i => X3 (k * r + i)) (fun i => X3 (j * r + i)) _ (by omega) (Nat.le_refl _) (by omega) (HRF.out k hlt _ _ K17.fs) (HRF.out j hjc _ _ K17.fs)).mono ?_
              rintro e w8' ⟨rs, rfl, frs, m8, rfl⟩
              have fS : FV .f32 rs (gsS r k j Q3) := FV.of_eq frs (dotG_congr fun i hi => ⟨V1.out _ (by have := HKR.out; omega), V1.out _ (by have := HKR.out; have := HJR.out; omega)⟩)
              have HO8 : Out2 w5 (w7.drewN m8) g1 g2 := ⟨HO7.os, HO7.tape, HO7.output, HO7.size, HO7.block⟩
              have K18 : Own 41 .f32 g1 (g1 + 1) (w7.drewN m8) (some ⟨g1, 0, none⟩) N N X3 := K17
              have K28 : Own 41 .f32 g2 (g2 + 1) (w7.drewN m8) (some ⟨g2, 0, none⟩) M M Y3 := K27.out
              clear HO7 K17 K27 frs
              generalize w7.drewN m8 = w8 at HO8 K18 K28 ⊢
              obtain ⟨y0, y1, y2⟩ := HO8.box XU5 l2 q3 q4
              have HO8' := Lib.hid HO8
              have HK1 := Lib.hid K18
              have HK2 := Lib.hid K28
              clear HO8 K18 K28
              go_wp2_with fail
              go_at_call 42
              refine (hRU.out j hjc _).mono ?_
              rintro e w9 ⟨rfl, b9⟩
              have HO9 := Lib.hid (HO8'.out.more b9)
              have K19 := Lib.hid (HK1.out.kept (below_grew b9) (fun q hq => by cases hq))
              have K29 := HK2.out.kept (below_grew b9) (fun q hq => by cases hq)
              obtain ⟨hce, hfr, _, _, _, wf2⟩ := K29.cell hjk
              have fy : FV .f32 (Y3 (j * c + k)) (Q3.2 (j * c + k)) := ⟨V2.out _ hjk, wf2⟩
              have K29' := Lib.hid K29
              have HY3 : Hid (Y3 (j * c + k) = Y3 (j * c + k)) := Lib.hid rfl
              clear y0 y1 y2 b9 HK1 HK2 HO8' K29 wf2
              generalize hyy : Y3 (j * c + k) = yy at hce fy
              clear hyy HY3
              go_wp2_with (refine wpList_farith rfl _ _ _ _ _ rfl rfl _ _ _ rfl rfl fy fS ?_; intro r5 m5' hr5)
              obtain ⟨O4, G4⟩ := (show Own 41 .f32 g2 (g2 + 1) (w9.drewN m5') (some ⟨g2, 0, none⟩) M M Y3 from K29'.out).stored hjk hr5.2
              have HO10 : Out2 w5 ((w9.drewN m5').setCell ⟨g2, j * c + k, none⟩ (.float .f32 r5)) g1 g2 := Out2.right (show Out2 w5 (w9.drewN m5') g1 g2 from ⟨HO9.out.os, HO9.out.tape, HO9.out.output, HO9.out.size, HO9.out.block⟩) G4
              have K110 : Own 41 .f32 g1 (g1 + 1) ((w9.drewN m5').setCell ⟨g2, j * c + k, none⟩ (.float .f32 r5)) (some ⟨g1, 0, none⟩) N N X3 := (show Own 41 .f32 g1 (g1 + 1) (w9.drewN m5') (some ⟨g1, 0, none⟩) N N X3 from K19.out).kept G4 (fun q hq => by cases hq; omega)
              have K210 := Lib.hid O4
              have HO10' := Lib.hid HO10
              have HV5 : Hid (∀ t, t < M → vals (fun t => if t = j * c + k then r5 else Y3 t) t = (gsL r c k Q2 (j + 1)).2 t) := Lib.hid fun t ht => by
                show cn .f32 (if t = j * c + k then r5 else Y3 t) = (gsJ r c k (gsL r c k Q2 j) j).2 t
                rw [← HQ3.out]
                show _ = (if t = j * c + k then fop .add .f32 (Q3.2 t) (gsS r k j Q3) else Q3.2 t)
                by_cases e : t = j * c + k
                · rw [if_pos e, if_pos e, e]; exact hr5.1
                · rw [if_neg e, if_neg e]; exact V2.out t ht
              clear hce hfr fy O4 G4 HO10
              generalize ((w9.drewN m5').setCell ⟨g2, j * c + k, none⟩ (.float .f32 r5)) = w10 at K110 K210 HO10' ⊢
              go_at_call 44
              refine (less_same N g1 (k * r) (j * r) r r r N g1 (g1 + 1) rs fS X3 _ (by omega) HKR.out (by have := HKR.out; have := HJR.out; omega) (.inr HJR.out) K110).mono ?_
              rintro e w11 ⟨rfl, X4, o11, v11, g11⟩
              have K211 := Lib.hid (K210.out.kept g11 (fun q hq => by cases hq; omega))
              have HO11 := Lib.hid (HO10'.out.left g11)
              have HV6 : Hid (∀ t, t < N → vals X4 t = (gsL r c k Q2 (j + 1)).1 t) := Lib.hid fun t ht => by
                rw [v11 t ht]
                show _ = (gsJ r c k (gsL r c k Q2 j) j).1 t
                rw [← HQ3.out]
                exact lsS_congr rfl V1.out (by have := HKR.out; have := HJR.out; omega) t ht
              have K111 := Lib.hid o11
              clear o11 v11 g11 K110
              go_wp2
              go_roundw
              case rel => exact ⟨j + 1, X4, _, by omega, by go_num, K111.out, K211.out, HV6.out, HV5.out, HO11.out⟩
              case measure => simp [intOf]; omega
            · obtain rfl : j = k := by omega
              have hdj : decide ((j : Int) < (j : Int)) = false := decide_eq_false (by omega)
              have HK1 := Lib.hid k1
              have HK2 := Lib.hid k2
              have HO := Lib.hid ho
              have R1 : Hid (∀ t, t < N → vals X3 t = (gsR r c j Q (q + 1)).1 t) := Lib.hid (by rw [HQ2.out] at v1; exact v1)
              have R2 : Hid (∀ t, t < M → vals Y3 t = (gsR r c j Q (q + 1)).2 t) := Lib.hid (by rw [HQ2.out] at v2; exact v2)
              clear k1 k2 v1 v2 ho
              go_wp2
              go_roundw
              case rel => exact ⟨q + 1, X3, Y3, by omega, by go_num, HK1.out, HK2.out, R1.out, R2.out, HO.out⟩
              case measure => simp [intOf]; omega
        · obtain rfl : q = 2 := by omega
          have hdq : decide ((2 : Int) < 2) = false := by decide
          obtain ⟨Q3, hQ3⟩ : ∃ Q3, Q3 = gsR r c k Q 2 := ⟨_, rfl⟩
          rw [← hQ3] at v1 v2
          have rF := fun (i : Nat) (hi : i < c) (W : World) (X : Nat → Nat) (hF : FS .f32 W (some ⟨g1, 0, none⟩) N N X) => by have hh := FS.row hF HN2.out hi r (Nat.le_refl _) (by unfold maxLen; omega); rwa [Nat.zero_add] at hh
          have HQ3 : Hid (gsC r c P (k + 1) = gsD r c k Q3) := Lib.hid (by
            show gsD r c k (gsR r c k (gsC r c P k) 2) = _
            rw [hQ3, HQ.out])
          obtain ⟨H, hH⟩ : ∃ H, H = gsN r k Q3 := ⟨_, rfl⟩
          have HNO : Hid (gsG H = false → mirOk r c P = false) := Lib.hid fun hg => by
            unfold mirOk
            rw [gsOk_no hlt (by rw [← HQ.out, ← hQ3, ← hH]; exact hg), Bool.false_and]
          have HYE : Hid (gsG H = true → gsOk r c P (k + 1) = true) := Lib.hid fun hg => by
            show (gsOk r c P k && gsG (gsN r k (gsR r c k (gsC r c P k) 2))) = true
            rw [hok.out, ← HQ.out, ← hQ3, ← hH, hg]; rfl
          have HH := Lib.hid hH
          have HRF := Lib.hid rF
          have HK1 := Lib.hid k1
          have HK2 := Lib.hid k2
          have HO := Lib.hid ho
          have V1 := Lib.hid v1
          have V2 := Lib.hid v2
          have hfs := k1.fs
          clear hQ3 hH rF k1 k2 v1 v2 ho hok
          go_wp2_with fail
          go_at_call 43
          refine (implDot_any _ _ r _ r _ (fun i => X2 (k * r + i)) (fun i => X2 (k * r + i)) _ (by omega) (Nat.le_refl _) (by omega) (HRF.out k hlt _ _ hfs) (HRF.out k hlt _ _ hfs)).mono ?_
          rintro e w8' ⟨rs, rfl, frs, m8, rfl⟩
          have fS : FV .f32 rs (gsS r k k Q3) := FV.of_eq frs (dotG_congr fun i hi => ⟨V1.out _ (by have := HKR.out; omega), V1.out _ (by have := HKR.out; omega)⟩)
          have HO8 : Hid (Out2 w5 (wr.drewN m8) g1 g2) := Lib.hid ⟨HO.out.os, HO.out.tape, HO.out.output, HO.out.size, HO.out.block⟩
          have K18 : Hid (Own 41 .f32 g1 (g1 + 1) (wr.drewN m8) (some ⟨g1, 0, none⟩) N N X2) := HK1
          have K28 : Hid (Own 41 .f32 g2 (g2 + 1) (wr.drewN m8) (some ⟨g2, 0, none⟩) M M Y2) := HK2
          clear HO HK1 HK2 hfs frs
          generalize wr.drewN m8 = w8 at HO8 K18 K28 ⊢
          go_wp2_with fail
          go_at_call 45
          refine (implRoot_any _ fS _).mono ?_
          rintro e w9' ⟨rh, rfl, hrh0, mh, rfl⟩
          have hrh : FV .f32 rh H := FV.of_eq hrh0 HH.out.symm
          have hrh1 := hrh.1
          have HO9 : Hid (Out2 w5 (w8.drewN mh) g1 g2) := Lib.hid ⟨HO8.out.os, HO8.out.tape, HO8.out.output, HO8.out.size, HO8.out.block⟩
          have K19 : Hid (Own 41 .f32 g1 (g1 + 1) (w8.drewN mh) (some ⟨g1, 0, none⟩) N N X2) := K18
          have K29 : Hid (Own 41 .f32 g2 (g2 + 1) (w8.drewN mh) (some ⟨g2, 0, none⟩) M M Y2) := K28
          clear HO8 K18 K28 hrh0 fS
          generalize w8.drewN mh = w9 at HO9 K19 K29 ⊢
          cases hgt : (ford .f32 H (some 0) == some .gt) with
          | false =>
            obtain ⟨y0, y1, y2⟩ := HO9.out.box XR5 (by omega) q5 q6
            obtain ⟨z0, z1, z2⟩ := HO9.out.box XS5 l3 q7 q8
            have IR := HO9.out.ice IR5 (by omega) q5 q6
            have IS := HO9.out.ice IS5 l3 q7 q8
            have B9 := B5.trans (HO9.out.bel l4 l5 B5.size)
            go_wp2_with fail
            (try rw [Exit.noGoto_ret])
            refine bodyPost_ret (v := .tuple #[.agg #[.int .i64 0, .int .i64 0, .slice none 0 0], .agg #[.int .i64 0, .int .i64 0, .slice none 0 0], .bool false]) (by simp [results, Try.results12, go_sem, y0, y1, y2, z0, z1, z2]) rfl ?_
            exact MirOwnIf.no (HNO.out hgt) (MirOwn.no (by repeat first | (with_reducible exact B9) | (with_reducible refine Below.setCell ?_ (by first | exact Nat.le_refl _ | (simp; done) | (simp; omega) | omega) _) | (with_reducible refine Below.alloc ?_ (by first | exact Nat.le_refl _ | (simp; done) | (simp; omega) | omega) _) | (with_reducible refine below_drewN ?_ _) | (with_reducible refine Below.drew ?_)))
          | true =>
            obtain ⟨y0, y1, y2⟩ := HO9.out.box XU5 l2 q3 q4
            have HGT := Lib.hid hgt
            go_wp2_with fail
            go_at_call 42
            refine (hRU.out k hlt _).mono ?_
            rintro e w10 ⟨rfl, b10⟩
            have HO10 := Lib.hid (HO9.out.more b10)
            have K110 := Lib.hid (K19.out.kept (below_grew b10) (fun q hq => by cases hq))
            have K210 := K29.out.kept (below_grew b10) (fun q hq => by cases hq)
            obtain ⟨hce, hfr, _, _, _, wf2⟩ := K210.cell hkk
            obtain ⟨O4, G4⟩ := K210.stored hkk hrh.2
            have HO11 := Lib.hid (HO10.out.right G4)
            have K111 := K110.out.kept G4 (fun q hq => by cases hq; omega)
            have K211 := Lib.hid O4
            have HV5 : Hid (∀ t, t < M → vals (fun t => if t = k * c + k then rh else Y2 t) t = (gsC r c P (k + 1)).2 t) := Lib.hid fun t ht => by
              rw [HQ3.out]
              show cn .f32 (if t = k * c + k then rh else Y2 t) = (if t = k * c + k then gsN r k Q3 else Q3.2 t)
              by_cases e : t = k * c + k
              · rw [if_pos e, if_pos e, ← HH.out]; exact hrh.1
              · rw [if_neg e, if_neg e]; exact V2.out t ht
            clear y0 y1 y2 b10 HO9 K19 K29 O4 G4 HO10 K110 K210 wf2 hgt hrh1
            go_wp2_with fail
            generalize (w10.setCell ⟨g2, k * c + k, none⟩ (.float .f32 rh)) = w11 at HO11 K111 K211 ⊢
            clear hce hfr
            go_at_call 46
            refine (divide_at N g1 (k * r) r r N g1 (g1 + 1) rh hrh X2 _ (by omega) HKR.out K111).mono ?_
            rintro e w12 ⟨rfl, X4, o12, v12, g12⟩
            have K212 := Lib.hid (K211.out.kept g12 (fun q hq => by cases hq; omega))
            have HO12 := Lib.hid (HO11.out.left g12)
            have HV6 : Hid (∀ t, t < N → vals X4 t = (gsC r c P (k + 1)).1 t) := Lib.hid fun t ht => by
              rw [v12 t ht, HQ3.out]
              exact dvS_congr HH.out V1.out t ht
            have K112 := Lib.hid o12
            have HOK := Lib.hid (HYE.out HGT.out)
            clear o12 v12 g12 K111 K211 HO11
            go_wp2
            go_roundw
            case rel => exact ⟨k + 1, X4, _, by omega, by go_num, K112.out, K212.out, HV6.out, HV5.out, HOK, HO12.out⟩
            case measure => simp [intOf]; omega
    · obtain rfl : k = c := by omega
      have hdl : decide ((k : Int) < (k : Int)) = false := decide_eq_false (by omega)
      have hvC : validB k r N (vals X) = allFin (gsC r k P k).1 N := (validB_nat c1 c12 h1 h12 HN2.out).trans (allFin_congr v1)
      have hvU : validB k k M (vals Y) = allFin (gsC r k P k).2 M := (validB_nat c1 c12 c1 c12 HM.out).trans (allFin_congr v2)
      have HOK : Hid (mirOk r k P = (allFin (gsC r k P k).1 N && allFin (gsC r k P k).2 M)) := Lib.hid (by
        unfold mirOk
        rw [hok.out, Bool.true_and, HN2.out, HM.out])
      have XU := ho.box XU5 l2 q3 q4
      have XR := ho.box XR5 (by omega) q5 q6
      have XS := ho.box XS5 l3 q7 q8
      have IR := ho.ice IR5 (by omega) q5 q6
      have IS := ho.ice IS5 l3 q7 q8
      have BK := B5.trans (ho.bel l4 l5 B5.size)
      have szk := ho.size
      have V1 := Lib.hid v1
      have V2 := Lib.hid v2
      have HK1 := Lib.hid k1
      have HK2 := Lib.hid k2
      obtain ⟨y0, y1, y2⟩ := XM
      have hfs1 := k1.fs
      clear v1 v2 k1 k2 hok ho
      go_wp2_with fail
      go_at_call 39
      refine (implValid_any _ _ _ N _ X _ (by omega) hfs1).mono ?_
      rw [hvC]
      rintro e w6 ⟨rfl, b6⟩
      have B6 := BK.trans (b6.mono BK.size)
      have s6 := b6.size
      have XU6 := XU.below b6 (by omega)
      have XR6 := XR.below b6 (by omega)
      have XS6 := XS.below b6 (by omega)
      have XM6 := (show Box wr m5 k r (some ⟨g1, 0, none⟩) N N from ⟨y0, y1, y2⟩).below b6 (by omega)
      have IR6 : ∀ i, w6.frozen? ⟨w.heap.size + 1, i, none⟩ = false := fun i => (b6.frozen (p := ⟨w.heap.size + 1, i, none⟩) (by show w.heap.size + 1 < wr.heap.size; omega)).trans (IR i)
      have IS6 : ∀ i, w6.frozen? ⟨w.heap.size + 1 + 1, i, none⟩ = false := fun i => (b6.frozen (p := ⟨w.heap.size + 1 + 1, i, none⟩) (by show w.heap.size + 1 + 1 < wr.heap.size; omega)).trans (IS i)
      have K16 := HK1.out.kept (below_grew b6) (fun q hq => by cases hq)
      have K26 := HK2.out.kept (below_grew b6) (fun q hq => by cases hq)
      clear y0 y1 y2 b6 XU XR XS IR IS HK1 HK2 hfs1 BK
      cases hf1 : allFin (gsC r k P k).1 N with
      | false =>
        obtain ⟨y0, y1, y2⟩ := XR6
        obtain ⟨z0, z1, z2⟩ := XS6
        have hno : mirOk r k P = false := by rw [HOK.out, hf1]; rfl
        clear hf1
        go_wp2_with fail
        refine bodyPost_ret (v := .tuple #[.agg #[.int .i64 0, .int .i64 0, .slice none 0 0], .agg #[.int .i64 0, .int .i64 0, .slice none 0 0], .bool false]) (by simp [results, Try.results12, go_sem, y0, y1, y2, z0, z1, z2]) rfl ?_
        exact MirOwnIf.no hno (MirOwn.no (by repeat first | (with_reducible exact B6) | (with_reducible refine Below.setCell ?_ (by first | exact Nat.le_refl _ | (simp; done) | (simp; omega) | omega) _) | (with_reducible refine Below.alloc ?_ (by first | exact Nat.le_refl _ | (simp; done) | (simp; omega) | omega) _) | (with_reducible refine below_drewN ?_ _) | (with_reducible refine Below.drew ?_)))
      | true =>
        obtain ⟨x0, x1, x2⟩ := XU6
        have hfs2 := K26.fs
        have HF1 := Lib.hid hf1
        clear hf1
        go_wp2_with fail
        go_at_call 39
        refine (implValid_any _ _ _ M _ Y _ (by omega) hfs2).mono ?_
        rw [hvU]
        rintro e w7 ⟨rfl, b7⟩
        have B7 := B6.trans (b7.mono B6.size)
        have s7 := b7.size
        have XU7 := (show Box w6 m6 k k (some ⟨g2, 0, none⟩) M M from ⟨x0, x1, x2⟩).below b7 (by omega)
        have XR7 := XR6.below b7 (by omega)
        have XS7 := XS6.below b7 (by omega)
        have XM7 := XM6.below b7 (by omega)
        have IR7 : ∀ i, w7.frozen? ⟨w.heap.size + 1, i, none⟩ = false := fun i => (b7.frozen (p := ⟨w.heap.size + 1, i, none⟩) (by show w.heap.size + 1 < w6.heap.size; omega)).trans (IR6 i)
        have IS7 : ∀ i, w7.frozen? ⟨w.heap.size + 1 + 1, i, none⟩ = false := fun i => (b7.frozen (p := ⟨w.heap.size + 1 + 1, i, none⟩) (by show w.heap.size + 1 + 1 < w6.heap.size; omega)).trans (IS6 i)
        have K17 := K16.kept (below_grew b7) (fun q hq => by cases hq)
        have K27 := Lib.hid (K26.kept (below_grew b7) (fun q hq => by cases hq))
        clear x0 x1 x2 b7 XR6 XS6 XM6 IR6 IS6 K16 K26 hfs2 B6
        obtain ⟨y0, y1, y2⟩ := XR7
        obtain ⟨z0, z1, z2⟩ := XS7
        cases hf2 : allFin (gsC r k P k).2 M with
        | false =>
          have hno : mirOk r k P = false := by rw [HOK.out, hf2, Bool.and_false]
          clear hf2
          go_wp2_with fail
          refine bodyPost_ret (v := .tuple #[.agg #[.int .i64 0, .int .i64 0, .slice none 0 0], .agg #[.int .i64 0, .int .i64 0, .slice none 0 0], .bool false]) (by simp [results, Try.results12, go_sem, y0, y1, y2, z0, z1, z2]) rfl ?_
          exact MirOwnIf.no hno (MirOwn.no (by repeat first | (with_reducible exact B7) | (with_reducible refine Below.setCell ?_ (by first | exact Nat.le_refl _ | (simp; done) | (simp; omega) | omega) _) | (with_reducible refine Below.alloc ?_ (by first | exact Nat.le_refl _ | (simp; done) | (simp; omega) | omega) _) | (with_reducible refine below_drewN ?_ _) | (with_reducible refine Below.drew ?_)))
        | true =>
          have hyes : mirOk r k P = true := by rw [HOK.out, HF1.out, hf2]; rfl
          have HFS := K17.fs
          obtain ⟨x0, x1, x2⟩ := XM7
          obtain ⟨u0, u1, u2⟩ := XU7
          have lm5 : m5 < w7.heap.size := by omega
          have lm6 : m6 < w7.heap.size := by omega
          have lr : w.heap.size + 1 < w7.heap.size := by omega
          have ls : w.heap.size + 1 + 1 < w7.heap.size := by omega
          clear hf2
          go_wp2_with fail
          go_region_with (go_at_call 40; refine (flipped_any k r N g1 0 N X _ c1 c12 h1 h12 HN2.out (by exact HFS)).mono ?_; rintro e w' ⟨g3, rfl, o3, b3⟩; have B3 : Below w7.heap.size w7 w' := Below.trans (by repeat first | (with_reducible exact Below.refl _ _) | (with_reducible refine Below.setCell ?_ (by first | exact Nat.le_refl _ | (simp; done) | (simp; omega) | omega) _) | (with_reducible refine Below.alloc ?_ (by first | exact Nat.le_refl _ | (simp; done) | (simp; omega) | omega) _) | (with_reducible refine below_drewN ?_ _) | (with_reducible refine Below.drew ?_)) (b3.mono (by first | exact Nat.le_refl _ | simp)); have a0 := (B3.cell (p := ⟨m6, 0, none⟩) lm6).trans u0; have a1 := (B3.cell (p := ⟨m6, 1, none⟩) lm6).trans u1; have a2 := (B3.cell (p := ⟨m6, 2, none⟩) lm6).trans u2; have d0 := (B3.cell (p := ⟨w.heap.size + 1, 0, none⟩) lr).trans y0; have d1 := (B3.cell (p := ⟨w.heap.size + 1, 1, none⟩) lr).trans y1; have d2 := (B3.cell (p := ⟨w.heap.size + 1, 2, none⟩) lr).trans y2; have e0 := (B3.cell (p := ⟨w.heap.size + 1 + 1, 0, none⟩) ls).trans z0; have e1 := (B3.cell (p := ⟨w.heap.size + 1 + 1, 1, none⟩) ls).trans z1; have e2 := (B3.cell (p := ⟨w.heap.size + 1 + 1, 2, none⟩) ls).trans z2; have f0 := fun i => (B3.frozen (p := ⟨w.heap.size + 1, i, none⟩) lr).trans (IR7 i); have f1 := fun i => (B3.frozen (p := ⟨w.heap.size + 1 + 1, i, none⟩) ls).trans (IS7 i))
          all_goals
            have K3 := K27.out.kept (below_grew B3) (fun q hq => by cases hq)
            have lg2 : w.heap.size + 1 + 1 < g2 := by omega
            have lg3 : g2 + 1 ≤ w7.heap.size := by omega
            have o3' : Own 41 .f32 w7.heap.size w'.heap.size w' (some ⟨g3, 0, none⟩) N N (flipZ k r X) := o3
            have BW := B7.trans (B3.mono B7.size)
            have s8 := B3.size
            have hwl : w.heap.size ≤ w7.heap.size := B7.size
            (try clear hc3); (try clear hf3); (try clear b3); clear o3 K17 K27 HFS x0 x1 x2 u0 u1 u2 y0 y1 y2 z0 z1 z2 IR7 IS7 a0 a1 a2 XM5 XU5 XR5 XS5 IR5 IS5 hvC hvU
            go_wp2
            obtain ⟨w9, hw9, ⟨p0, p1, p2⟩, ⟨p3, p4, p5⟩, HS⟩ := set6 (show w.heap.size + 1 ≠ w.heap.size + 1 + 1 by omega) (.int .i64 (r : Int)) (.int .i64 (k : Int)) (.slice (some ⟨g3, 0, none⟩) N N) (.int .i64 (k : Int)) (.int .i64 (k : Int)) (.slice (some ⟨g2, 0, none⟩) M M) d0 d1 d2 e0 e1 e2
            rw [← hw9]
            clear hw9 d0 d1 d2 e0 e1 e2 f0 f1
            simp only [Act.put, List.getElem_toArray, List.getElem_cons_succ, List.getElem_cons_zero, List.setIfInBounds_toArray, List.set_cons_succ, List.set_cons_zero]
            refine bodyPost_ret (v := .tuple #[.agg #[.int .i64 (r : Int), .int .i64 (k : Int), .slice (some ⟨g3, 0, none⟩) N N], .agg #[.int .i64 (k : Int), .int .i64 (k : Int), .slice (some ⟨g2, 0, none⟩) M M], .bool true]) (by simp [results, Try.results12, go_sem, p0, p1, p2, p3, p4, p5]) rfl ?_
            have o4 := Own.mono (U' := w9.heap.size) (o3'.out2 HS (.inl lr) (.inl ls)) (Nat.le_refl _) HS.size (Nat.le_refl _)
            refine MirOwnIf.yes hyes ⟨w7.heap.size, some ⟨g3, 0, none⟩, N, flipZ k r X, some ⟨g2, 0, none⟩, M, Y, hwl, Nat.le_trans s8 HS.size, rfl, o4, ?_, ?_, V2.out, BW.trans (HS.bel (by omega) (by omega) (Nat.le_trans hwl s8))⟩
            · intro i hi
              have h5 : i / k < r := Nat.div_lt_of_lt_mul (by have := HN2.out; omega)
              have h6 : i % k < k := Nat.mod_lt _ c1
              exact V1.out _ (by have := place_lt h6 h5; have := HN2.out; omega)
            · exact Own.mono (K3.out2 HS (.inl (by omega)) (.inl lg2)) l5 lg3 (Nat.le_trans s8 HS.size)
end Go.Proofs.Ytcibjkadlndejaa
