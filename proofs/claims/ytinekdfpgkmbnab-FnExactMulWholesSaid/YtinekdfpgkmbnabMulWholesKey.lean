/- Helper: the product of two wholes, of program and reference, their key. Conditions: none. -/
import Derived.Test.YtinekdfpgkmbnabMulWKey
set_option linter.unusedVariables false
set_option linter.unusedSimpArgs false
namespace Go.Proofs.Ytinekdfpgkmbnab
open Go.RowKit

set_option maxHeartbeats 4000000 in
theorem specMul_run (r c k n n2 N p1 f1 d p2 f3 d2 : Nat) (Z Y : Nat → Int) (w : World) (h1 : 1 ≤ r) (h2 : r ≤ 6) (h3 : 1 ≤ c) (h4 : c ≤ 6) (h5 : 1 ≤ k) (h6 : k ≤ 6) (hn : n = r * c) (hn2 : n2 = c * k) (hN : N = r * k) (v1 : wholeB 1000000 r c n Z = true) (v2 : wholeB 1000000 c k n2 Y = true)
    (hZ : ∀ t, t < n → (Z t).natAbs ≤ 1000000) (hY : ∀ t, t < n2 → (Y t).natAbs ≤ 1000000) (g1 : IS .i64 w (some ⟨p1, f1, none⟩) n d Z) (g2 : IS .i64 w (some ⟨p2, f3, none⟩) n2 d2 Y)
    (ok : Bool) (hok : wholeB 1000000 r k N (mulZ c k Z Y) = ok) :
    Calls Try.prog 18 #[.agg #[.int .i64 r, .int .i64 c, .slice (some ⟨p1, f1, none⟩) n d], .agg #[.int .i64 c, .int .i64 k, .slice (some ⟨p2, f3, none⟩) n2 d2]] w (WholeBelL ok (bif ok then (r : Int) else 0) (bif ok then (k : Int) else 0) (bif ok then N else 0) (fun t => bif ok then joinZ k (mulY c k Z Y) t else 0) w) := by
  have hn36 : n ≤ 36 := by have : r * c ≤ 6 * 6 := Nat.mul_le_mul h2 h4; omega
  have hm36 : n2 ≤ 36 := by have : c * k ≤ 6 * 6 := Nat.mul_le_mul h4 h6; omega
  have hN36 : N ≤ 36 := by have : r * k ≤ 6 * 6 := Nat.mul_le_mul h2 h6; omega
  have hA := fun W (g : Box W w.heap.size r c (some ⟨p1, f1, none⟩) n d) (f : IS .i64 W (some ⟨p1, f1, none⟩) n d Z) => specWhole_any 1000000 w.heap.size r c _ n d Z W (by omega) (by omega) g f
  have hB := fun W (g : Box W (w.heap.size + 1) c k (some ⟨p2, f3, none⟩) n2 d2) (f : IS .i64 W (some ⟨p2, f3, none⟩) n2 d2 Y) => specWhole_any 1000000 (w.heap.size + 1) c k _ n2 d2 Y W (by omega) (by omega) g f
  have HV1 := Lib.hid v1
  have HV2 := Lib.hid v2
  have HN := Lib.hid hn
  have HN2 := Lib.hid hn2
  have HNN := Lib.hid hN
  have HZ := Lib.hid hZ
  have HY := Lib.hid hY
  have HOK := Lib.hid hok
  have hcc : (c == c) = true := beq_self_eq_true c
  have hNp : 0 < N := by rw [hN]; exact Nat.mul_pos h1 h5
  clear hn hn2 hN v1 v2 hZ hY hok
  go_enter Try.func18, Try.ntmps18
  go_wp2_with fail
  generalize hwa : ((w.alloc (.cells #[.int .i64 r, .int .i64 c, .slice (some ⟨p1, f1, none⟩) n d] 24)).alloc (.cells #[.int .i64 c, .int .i64 k, .slice (some ⟨p2, f3, none⟩) n2 d2] 24)).alloc (.cells #[.int .i64 0, .int .i64 0, .slice none 0 0] 24) = wa
  have Ba : Below w.heap.size w wa := by rw [← hwa]; exact (by repeat first | (with_reducible exact Below.refl _ _) | (with_reducible refine Below.setCell ?_ (by first | exact Nat.le_refl _ | (simp; done) | (simp; omega) | omega) _) | (with_reducible refine Below.alloc ?_ (by first | exact Nat.le_refl _ | (simp; done) | (simp; omega) | omega) _) | (with_reducible refine below_drewN ?_ _) | (with_reducible refine Below.drew ?_))
  have sa : wa.heap.size = w.heap.size + 1 + 1 + 1 := by rw [← hwa]; simp
  have xa : Box wa w.heap.size r c (some ⟨p1, f1, none⟩) n d := by rw [← hwa]; refine ⟨?_, ?_, ?_⟩ <;> simp [go_sem]
  have xb : Box wa (w.heap.size + 1) c k (some ⟨p2, f3, none⟩) n2 d2 := by rw [← hwa]; refine ⟨?_, ?_, ?_⟩ <;> simp [go_sem]
  have xz : Box wa (w.heap.size + 1 + 1) 0 0 none 0 0 := by rw [← hwa]; refine ⟨?_, ?_, ?_⟩ <;> simp [go_sem]
  have xi : ∀ i, wa.frozen? ⟨w.heap.size + 1 + 1, i, none⟩ = false := by intro i; rw [← hwa]; simp [go_sem]
  clear hwa
  go_at_call 40
  refine (hA wa xa (g1.below Ba (Nat.le_refl _))).mono ?_
  rintro e w1 ⟨rfl, m1, rfl⟩
  rw [show wholeB ((1000000 : Nat) : Int) r c n Z = true from HV1.out]
  have b1 : Below wa.heap.size wa (wa.drewN m1) := below_drewN (Below.refl _ _) m1
  obtain ⟨xa0, xa1, xa2⟩ := xa.below b1 (by omega)
  obtain ⟨xb0, xb1, xb2⟩ := xb.below b1 (by omega)
  have Ba1 := Ba.trans (b1.mono (by omega))
  have f2 := g2.below Ba1 (Nat.le_refl _)
  go_wp2_with fail
  go_at_call 40
  refine (hB (wa.drewN m1) ⟨xb0, xb1, xb2⟩ f2).mono ?_
  rintro e w2 ⟨rfl, m2, rfl⟩
  rw [show wholeB ((1000000 : Nat) : Int) c k n2 Y = true from HV2.out]
  rw [World.drewN_drewN]
  have b12 : Below wa.heap.size wa (wa.drewN (m1 + m2)) := below_drewN (Below.refl _ _) (m1 + m2)
  obtain ⟨xc0, xc1, xc2⟩ := xa.below b12 (by omega)
  obtain ⟨xd0, xd1, xd2⟩ := xb.below b12 (by omega)
  have Ba2 := Ba.trans (b12.mono (by omega))
  have HX1 : Hid (Box (wa.drewN (m1 + m2)) w.heap.size r c (some ⟨p1, f1, none⟩) n d) := Lib.hid ⟨xc0, xc1, xc2⟩
  have HX2 : Hid (Box (wa.drewN (m1 + m2)) (w.heap.size + 1) c k (some ⟨p2, f3, none⟩) n2 d2) := Lib.hid ⟨xd0, xd1, xd2⟩
  have e1 := Lib.hid (g1.below Ba2 (Nat.le_refl _))
  have e2 := Lib.hid (g2.below Ba2 (Nat.le_refl _))
  clear xa0 xa1 xa2 xb0 xb1 xb2 b1 Ba1 f2 g1 g2
  go_wp2_with fail
  go_at_call 46
  refine (l06Mul_any w.heap.size (w.heap.size + 1) r c k n n2 N p1 f1 d p2 f3 d2 Z Y _ h1 h2 h3 h4 h5 h6 HN.out HN2.out HNN.out (by simp [World.drewN]; omega) (by simp [World.drewN]; omega) HX1.out HX2.out HZ.out HY.out e1.out e2.out).mono ?_
  rintro e w5 ⟨g5, rfl, o5, b5⟩
  have b25 := b12.trans (b5.mono b12.size)
  have F5 := o5.is
  have X5 := xz.below b25 (by omega)
  have B5 := Ba.trans (b25.mono (by omega))
  have hice5 : ∀ i, w5.frozen? ⟨w.heap.size + 1 + 1, i, none⟩ = false := fun i => (b25.frozen (p := ⟨w.heap.size + 1 + 1, i, none⟩) (by show w.heap.size + 1 + 1 < _; omega)).trans (xi i)
  have s5 : w.heap.size + 1 + 1 + 1 ≤ w5.heap.size := by have := b25.size; omega
  have o6 := OwnI.mono (B' := w.heap.size + 1 + 1 + 1) o5 (by simp [World.drewN]; omega) (Nat.le_refl _) (Nat.le_refl _)
  clear b5 o5 b25 xa xb xz xi b12 Ba2 xc0 xc1 xc2 xd0 xd1 xd2
  cases ok with
  | false =>
    go_wp2_with fail
    go_at_call 45
    refine (giveW_no r k _ N N _ _ (by omega) HOK.out F5).mono ?_
    rintro e w9 ⟨rfl, b9⟩
    obtain ⟨z0, z1, z2⟩ := X5.below b9 (by omega)
    obtain ⟨hc, hf⟩ := bcell b9
    have hice9 : ∀ i, w9.frozen? ⟨w.heap.size + 1 + 1, i, none⟩ = false := fun i => (hf (w.heap.size + 1 + 1) i (by omega)).trans (hice5 i)
    have B9 := B5.trans (b9.mono B5.size)
    clear hc hf b9 hice5
    go_wp2_with fail
    refine bodyPost_ret (v := .tuple #[.agg #[.int .i64 0, .int .i64 0, .slice none 0 0], .bool false]) (by simp [results, Try.results18, go_sem, z0, z1, z2]) rfl ?_
    exact ⟨none, 0, fun _ => 0, rfl, ⟨Nat.le_refl _, Nat.zero_le _, fun i hi => absurd hi (Nat.not_lt_zero i)⟩, fun i hi => absurd hi (Nat.not_lt_zero i), (by repeat first | (with_reducible exact B9) | (with_reducible refine Below.setCell ?_ (by first | exact Nat.le_refl _ | (simp; done) | (simp; omega) | omega) _) | (with_reducible refine Below.alloc ?_ (by first | exact Nat.le_refl _ | (simp; done) | (simp; omega) | omega) _) | (with_reducible refine below_drewN ?_ _) | (with_reducible refine Below.drew ?_)), fun b off e => by cases e⟩
  | true =>
    go_wp2_with fail
    go_at_call 45
    refine (giveW_yes r k _ N N _ _ (by omega) HOK.out F5).mono ?_
    rintro e w9 ⟨rfl, b9⟩
    obtain ⟨z0, z1, z2⟩ := X5.below b9 (by omega)
    obtain ⟨hc, hf⟩ := bcell b9
    have hice9 : ∀ i, w9.frozen? ⟨w.heap.size + 1 + 1, i, none⟩ = false := fun i => (hf (w.heap.size + 1 + 1) i (by omega)).trans (hice5 i)
    have B9 := B5.trans (b9.mono B5.size)
    have o9 := o6.kept (below_grew b9) (fun q hq => by cases hq)
    have hs9 := b9.size
    clear hc hf b9 hice5
    go_wp2_with fail
    refine bodyPost_ret (v := .tuple #[.agg #[.int .i64 r, .int .i64 k, .slice (some ⟨g5, 0, none⟩) N N], .bool true]) (by simp [results, Try.results18, go_sem, z0, z1, z2]) rfl ?_
    exact ⟨_, _, _, rfl, OwnI.is (B := w.heap.size + 1 + 1 + 1) (U := w5.heap.size) (by refine OwnI.to o9 (hk := fun g hg1 hg2 => by (try simp at hg1 hg2); repeat (first | rw [Below.heap_setCell _ _ _ _ (by simp; omega)] | rw [Below.heap_alloc _ _ _ (by simp [World.setCell]; omega)])) ?_ ?_ ?_ ?_ <;> (first | exact Nat.le_refl _ | omega | (simp [World.setCell]; done) | (simp [World.setCell]; omega))), fun i hi => mul_same, (by repeat first | (with_reducible exact B9) | (with_reducible refine Below.setCell ?_ (by first | exact Nat.le_refl _ | (simp; done) | (simp; omega) | omega) _) | (with_reducible refine Below.alloc ?_ (by first | exact Nat.le_refl _ | (simp; done) | (simp; omega) | omega) _) | (with_reducible refine below_drewN ?_ _) | (with_reducible refine Below.drew ?_)), fun b off e => by cases e; have := (o9.cell hNp).2.2.1; omega⟩
theorem keyMulWholes (R C : Int) (n : Nat) (Z : Nat → Int) (R2 C2 : Int) (n2 : Nat) (Z2 : Nat → Int) (wR : (Lit.int .i64 R).wf = true) (wC : (Lit.int .i64 C).wf = true) (hn : n ≤ 1048576) (wR2 : (Lit.int .i64 R2).wf = true) (wC2 : (Lit.int .i64 C2).wf = true) (hn2 : n2 ≤ 1048576) : ∃ (ok : Bool) (R3 C3 : Int) (n3 : Nat) (V : Nat → Int), n3 ≤ 144 ∧
    (∀ a c a2 c2 W, IS .i64 W a n c Z → IS .i64 W a2 n2 c2 Z2 → Calls Try.prog 18 #[.agg #[.int .i64 R, .int .i64 C, .slice a n c], .agg #[.int .i64 R2, .int .i64 C2, .slice a2 n2 c2]] W (WholeBelL ok R3 C3 n3 V W)) ∧
    (∀ a c a2 c2 W, IS .i64 W a n c Z → IS .i64 W a2 n2 c2 Z2 → Calls Try.prog 19 #[.agg #[.int .i64 R, .int .i64 C, .slice a n c], .agg #[.int .i64 R2, .int .i64 C2, .slice a2 n2 c2]] W (WholeOwn ok R3 C3 n3 V W)) := by
  by_cases hv : wholeB 1000000 R C n Z = true ∧ wholeB 1000000 R2 C2 n2 Z2 = true ∧ C = R2
  case neg =>
    have hv' : wholeB 1000000 R C n Z = true → wholeB 1000000 R2 C2 n2 Z2 = true → C ≠ R2 := fun a b e => hv ⟨a, b, e⟩
    exact ⟨false, 0, 0, 0, fun _ => 0, by omega, fun a c a2 c2 W h h2 => specMul_no R C a n c Z R2 C2 a2 n2 c2 Z2 W hn hn2 hv' h h2, fun a c a2 c2 W h h2 => implMul_no R C a n c Z R2 C2 a2 n2 c2 Z2 W hn hn2 hv' h h2⟩
  obtain ⟨v1, v2, rfl⟩ := hv
  obtain ⟨r, c, rfl, rfl, h1, h2, h3, h4, h5, h6⟩ := whole_nat v1
  obtain ⟨c', k, ec, rfl, _, _, k1, k2, k3, k4⟩ := whole_nat v2
  obtain rfl : c' = c := by omega
  have hpos : 0 < n := by rw [h5]; exact Nat.mul_pos h1 h3
  have hpos2 : 0 < n2 := by rw [k3]; exact Nat.mul_pos h3 k1
  have hN36 : r * k ≤ 6 * 6 := Nat.mul_le_mul h2 k2
  have hZ := with_abs h6
  have hY := with_abs k4
  have hsq : wholeB 1000000 r k (r * k) (mulZ c' k Z Z2) = withB 1000000 (joinZ k (mulY c' k Z Z2)) (r * k) := whole_rc h1 h2 k1 k2 rfl
  have hS : ∀ ok, wholeB 1000000 r k (r * k) (mulZ c' k Z Z2) = ok → ∀ a d a2 d2 W, IS .i64 W a n d Z → IS .i64 W a2 n2 d2 Z2 → Calls Try.prog 18 #[.agg #[.int .i64 r, .int .i64 c', .slice a n d], .agg #[.int .i64 c', .int .i64 k, .slice a2 n2 d2]] W (WholeBelL ok (bif ok then (r : Int) else 0) (bif ok then (k : Int) else 0) (bif ok then r * k else 0) (fun t => bif ok then joinZ k (mulY c' k Z Z2) t else 0) W) := by
    intro ok e a d a2 d2 W h hh
    obtain ⟨b, off, rfl, _⟩ := IS.at h hpos
    obtain ⟨b2, off2, rfl, _⟩ := IS.at hh hpos2
    exact specMul_run r c' k n n2 (r * k) b off d b2 off2 d2 Z Z2 W h1 h2 h3 h4 k1 k2 h5 k3 rfl v1 v2 hZ hY h hh ok e
  cases hk : withB 1000000 (joinZ k (mulY c' k Z Z2)) (r * k) with
  | false =>
    rw [hk] at hsq
    refine ⟨false, 0, 0, 0, fun _ => 0, by omega, fun a d a2 d2 W h hh => hS false hsq a d a2 d2 W h hh, fun a d a2 d2 W h hh => ?_⟩
    obtain ⟨b, off, rfl, _⟩ := IS.at h hpos
    obtain ⟨b2, off2, rfl, _⟩ := IS.at hh hpos2
    exact implMul_run r c' k n n2 b off d b2 off2 d2 Z Z2 W h1 h2 h3 h4 k1 k2 h5 k3 v1 v2 hZ hY h hh false 0 0 0 (fun _ => 0) (fun W b off c2 hR => wholeOfRows_no b off r c2 k (mulY c' k Z Z2) W h1 h2 k1 k2 hR hk)
  | true =>
    rw [hk] at hsq
    refine ⟨true, r, k, r * k, joinZ k (mulY c' k Z Z2), by omega, fun a d a2 d2 W h hh => hS true hsq a d a2 d2 W h hh, fun a d a2 d2 W h hh => ?_⟩
    obtain ⟨b, off, rfl, _⟩ := IS.at h hpos
    obtain ⟨b2, off2, rfl, _⟩ := IS.at hh hpos2
    exact implMul_run r c' k n n2 b off d b2 off2 d2 Z Z2 W h1 h2 h3 h4 k1 k2 h5 k3 v1 v2 hZ hY h hh true r k (r * k) (joinZ k (mulY c' k Z Z2)) (fun W b off c2 hR => wholeOfRows_yes b off r c2 k (mulY c' k Z Z2) W h1 h2 k1 k2 hR hk)
end Go.Proofs.Ytinekdfpgkmbnab
