/- Helper: a matrix into which a part is put, of the reference, and the key. Conditions: none. -/
import Derived.Test.YtcldaafmbmmhiaaPutOwn
import Derived.Test.YtcldaafmbmmhiaaPutNo
import Derived.Test.YtcldaafmbmmhiaaPutImpl
import Derived.Test.YtcldaafmbmmhiaaLiesIn
set_option linter.unusedVariables false
set_option linter.unusedSimpArgs false
namespace Go.Proofs.Ytcldaafmbmmhiaa
open Go.RowKit

def putE (c q p j x y : Nat) (Y Z : Nat → Nat) (t : Nat) : Nat := if ((x ≤ t / c ∧ t / c < x + p) ∧ (y ≤ t % c ∧ t % c < y + q)) ∧ (t / c - x) * q + (t % c - y) < j then Y ((t / c - x) * q + (t % c - y)) else Z t
theorem putE_start {c q p x y : Nat} {Y Z : Nat → Nat} (t : Nat) : Z t = putE c q p 0 x y Y Z t := by unfold putE; rw [if_neg]; rintro ⟨_, h⟩; exact Nat.not_lt_zero _ h
theorem putE_end {c q p m x y : Nat} {Y Z : Nat → Nat} (hm : m = p * q) (t : Nat) : putE c q p m x y Y Z t = putP c q p x y Y Z t := by
  unfold putE putP
  by_cases h : (x ≤ t / c ∧ t / c < x + p) ∧ (y ≤ t % c ∧ t % c < y + q)
  · have hl := place_lt (c := q) (show t / c - x < p by omega) (show t % c - y < q by omega)
    rw [if_pos h, if_pos ⟨h, by rw [hm]; exact hl⟩]
  · rw [if_neg h, if_neg (fun h2 => h h2.1)]
theorem putE_next {c q p j I x y : Nat} {Y Z : Nat → Nat} (hy : y + q ≤ c) (hq : 0 < q) (hj : j / q < p) (hI : I = (x + j / q) * c + (y + j % q)) (t : Nat) : (if t = I then Y j else putE c q p j x y Y Z t) = putE c q p (j + 1) x y Y Z t := by
  have hjm := Nat.mod_lt j hq
  have hjp := place_eq (c := q) (t := j)
  unfold putE
  by_cases e : t = I
  · obtain ⟨d1, d2⟩ := place_div (c := c) (j := x + j / q) (k := y + j % q) (by omega)
    rw [if_pos e]
    rw [e, hI, d1, d2]
    have e1 : x + j / q - x = j / q := Nat.add_sub_cancel_left _ _
    have e2 : y + j % q - y = j % q := Nat.add_sub_cancel_left _ _
    have c1 : x ≤ x + j / q ∧ x + j / q < x + p := ⟨Nat.le_add_right _ _, Nat.add_lt_add_left hj _⟩
    have c2 : y ≤ y + j % q ∧ y + j % q < y + q := ⟨Nat.le_add_right _ _, Nat.add_lt_add_left hjm _⟩
    rw [e1, e2, hjp, if_pos ⟨⟨c1, c2⟩, Nat.lt_succ_self j⟩]
  · rw [if_neg e]
    by_cases h : (x ≤ t / c ∧ t / c < x + p) ∧ (y ≤ t % c ∧ t % c < y + q)
    · by_cases h2 : (t / c - x) * q + (t % c - y) < j
      · rw [if_pos ⟨h, h2⟩, if_pos ⟨h, by omega⟩]
      · rw [if_neg (fun h3 => h2 h3.2), if_neg]
        rintro ⟨_, h3⟩
        have h4 : (t / c - x) * q + (t % c - y) = j := by omega
        obtain ⟨d1, d2⟩ := place_div (c := q) (j := t / c - x) (k := t % c - y) (by omega)
        rw [h4] at d1 d2
        have hp := place_eq (c := c) (t := t)
        apply e
        rw [hI, d1, d2, show x + (t / c - x) = t / c by omega, show y + (t % c - y) = t % c by omega]
        exact hp.symm
    · rw [if_neg (fun h3 => h h3.1), if_neg (fun h3 => h h3.1)]

set_option maxHeartbeats 1000000 in
theorem specPut_no (R C R2 C2 x y : Int) (a a2 : Option Addr) (n c n2 c2 : Nat) (Z Y : Nat → Nat) (w : World) (hn : n ≤ 1048576) (hm : n2 ≤ 1048576) (h : FS .f32 w a n c Z) (h2 : FS .f32 w a2 n2 c2 Y) (ho : putOk R C R2 C2 x y n n2 Z Y = false) :
    Calls Try.prog 16 #[.agg #[.int .i64 R, .int .i64 C, .slice a n c], .agg #[.int .i64 R2, .int .i64 C2, .slice a2 n2 c2], .int .i64 x, .int .i64 y] w (MatBel false 0 0 0 (fun _ => none) w) := by
  cases hvA : validB R C n (vals Z) with
  | false =>
    clear ho
    go_enter Try.func16, Try.ntmps16
    go_wp2_with fail
    go_at_call 49
    refine (specIs_any _ R C a n c Z _ (by omega) (by refine ⟨?_, ?_, ?_⟩ <;> simp [go_sem]) (h.below (by repeat first | (with_reducible exact Below.refl _ _) | (with_reducible refine Below.setCell ?_ (by first | exact Nat.le_refl _ | (simp; done) | (simp; omega) | omega) _) | (with_reducible refine Below.alloc ?_ (by first | exact Nat.le_refl _ | (simp; done) | (simp; omega) | omega) _) | (with_reducible refine below_drewN ?_ _) | (with_reducible refine Below.drew ?_)) (Nat.le_refl _))).mono ?_
    rintro e w1 ⟨rfl, m1, rfl⟩
    go_wp2_with fail
    refine bodyPost_ret (v := .tuple #[.agg #[.int .i64 0, .int .i64 0, .slice none 0 0], .bool false]) (by simp [results, Try.results16, go_sem]) rfl ?_
    exact ⟨none, 0, fun _ => 0, rfl, ⟨Nat.le_refl _, Nat.zero_le _, fun i hi => by omega⟩, fun i hi => by omega, (by repeat first | (with_reducible exact Below.refl _ _) | (with_reducible refine Below.setCell ?_ (by first | exact Nat.le_refl _ | (simp; done) | (simp; omega) | omega) _) | (with_reducible refine Below.alloc ?_ (by first | exact Nat.le_refl _ | (simp; done) | (simp; omega) | omega) _) | (with_reducible refine below_drewN ?_ _) | (with_reducible refine Below.drew ?_))⟩
  | true =>
    cases hvB : validB R2 C2 n2 (vals Y) with
    | false =>
      clear ho
      go_enter Try.func16, Try.ntmps16
      go_wp2_with fail
      go_at_call 49
      refine (specIs_any _ R C a n c Z _ (by omega) (by refine ⟨?_, ?_, ?_⟩ <;> simp [go_sem]) (h.below (by repeat first | (with_reducible exact Below.refl _ _) | (with_reducible refine Below.setCell ?_ (by first | exact Nat.le_refl _ | (simp; done) | (simp; omega) | omega) _) | (with_reducible refine Below.alloc ?_ (by first | exact Nat.le_refl _ | (simp; done) | (simp; omega) | omega) _) | (with_reducible refine below_drewN ?_ _) | (with_reducible refine Below.drew ?_)) (Nat.le_refl _))).mono ?_
      rintro e w1 ⟨rfl, m1, rfl⟩
      go_wp2_with fail
      go_at_call 49
      refine (specIs_any _ R2 C2 a2 n2 c2 Y _ (by omega) (by refine ⟨?_, ?_, ?_⟩ <;> simp [go_sem]) (h2.below (by repeat first | (with_reducible exact Below.refl _ _) | (with_reducible refine Below.setCell ?_ (by first | exact Nat.le_refl _ | (simp; done) | (simp; omega) | omega) _) | (with_reducible refine Below.alloc ?_ (by first | exact Nat.le_refl _ | (simp; done) | (simp; omega) | omega) _) | (with_reducible refine below_drewN ?_ _) | (with_reducible refine Below.drew ?_)) (Nat.le_refl _))).mono ?_
      rintro e w2 ⟨rfl, m2, rfl⟩
      go_wp2_with fail
      refine bodyPost_ret (v := .tuple #[.agg #[.int .i64 0, .int .i64 0, .slice none 0 0], .bool false]) (by simp [results, Try.results16, go_sem]) rfl ?_
      exact ⟨none, 0, fun _ => 0, rfl, ⟨Nat.le_refl _, Nat.zero_le _, fun i hi => by omega⟩, fun i hi => by omega, (by repeat first | (with_reducible exact Below.refl _ _) | (with_reducible refine Below.setCell ?_ (by first | exact Nat.le_refl _ | (simp; done) | (simp; omega) | omega) _) | (with_reducible refine Below.alloc ?_ (by first | exact Nat.le_refl _ | (simp; done) | (simp; omega) | omega) _) | (with_reducible refine below_drewN ?_ _) | (with_reducible refine Below.drew ?_))⟩
    | true =>
      have hli : (liB R R2 x && liB C C2 y) = false := by unfold putOk at ho; rw [hvA, hvB] at ho; exact ho
      obtain ⟨r, k, rfl, rfl, g1, g2, g3, g4, g5, g6⟩ := valid_nat hvA
      obtain ⟨p, q, rfl, rfl, f1, f2, f3, f4, f5, f6⟩ := valid_nat hvB
      clear ho g5 g6 f5 f6
      go_enter Try.func16, Try.ntmps16
      go_wp2_with fail
      go_at_call 49
      refine (specIs_any _ r k a n c Z _ (by omega) (by refine ⟨?_, ?_, ?_⟩ <;> simp [go_sem]) (h.below (by repeat first | (with_reducible exact Below.refl _ _) | (with_reducible refine Below.setCell ?_ (by first | exact Nat.le_refl _ | (simp; done) | (simp; omega) | omega) _) | (with_reducible refine Below.alloc ?_ (by first | exact Nat.le_refl _ | (simp; done) | (simp; omega) | omega) _) | (with_reducible refine below_drewN ?_ _) | (with_reducible refine Below.drew ?_)) (Nat.le_refl _))).mono ?_
      rintro e w1 ⟨rfl, m1, rfl⟩
      go_wp2_with fail
      go_at_call 49
      refine (specIs_any _ p q a2 n2 c2 Y _ (by omega) (by refine ⟨?_, ?_, ?_⟩ <;> simp [go_sem]) (h2.below (by repeat first | (with_reducible exact Below.refl _ _) | (with_reducible refine Below.setCell ?_ (by first | exact Nat.le_refl _ | (simp; done) | (simp; omega) | omega) _) | (with_reducible refine Below.alloc ?_ (by first | exact Nat.le_refl _ | (simp; done) | (simp; omega) | omega) _) | (with_reducible refine below_drewN ?_ _) | (with_reducible refine Below.drew ?_)) (Nat.le_refl _))).mono ?_
      rintro e w2 ⟨rfl, m2, rfl⟩
      go_wp2_with fail
      go_at_call 50
      refine (l02In_any _ r k n c a p q x y _ g2 g4 (by refine ⟨?_, ?_, ?_⟩ <;> simp [go_sem])).mono ?_
      rintro e w3 ⟨rfl, rfl⟩
      rw [hli]
      go_wp2_with fail
      refine bodyPost_ret (v := .tuple #[.agg #[.int .i64 0, .int .i64 0, .slice none 0 0], .bool false]) (by simp [results, Try.results16, go_sem]) rfl ?_
      exact ⟨none, 0, fun _ => 0, rfl, ⟨Nat.le_refl _, Nat.zero_le _, fun i hi => by omega⟩, fun i hi => by omega, (by repeat first | (with_reducible exact Below.refl _ _) | (with_reducible refine Below.setCell ?_ (by first | exact Nat.le_refl _ | (simp; done) | (simp; omega) | omega) _) | (with_reducible refine Below.alloc ?_ (by first | exact Nat.le_refl _ | (simp; done) | (simp; omega) | omega) _) | (with_reducible refine below_drewN ?_ _) | (with_reducible refine Below.drew ?_))⟩
set_option maxRecDepth 20000 in
set_option maxHeartbeats 2000000 in
theorem specPut_yes (r c n b off cap p q m b2 off2 cap2 x y : Nat) (Z Y : Nat → Nat) (w : World) (hr1 : 1 ≤ r) (hr : r ≤ 12) (hc1 : 1 ≤ c) (hc : c ≤ 12) (hn : n = r * c) (hp1 : 1 ≤ p) (hp : p ≤ 12) (hq1 : 1 ≤ q) (hq : q ≤ 12) (hm : m = p * q) (hx : x + p ≤ r) (hy : y + q ≤ c)
    (hvA : validB r c n (vals Z) = true) (hvB : validB p q m (vals Y) = true) (hli : (liB r p x && liB c q y) = true) (h : FS .f32 w (some ⟨b, off, none⟩) n cap Z) (h2 : FS .f32 w (some ⟨b2, off2, none⟩) m cap2 Y) :
    Calls Try.prog 16 #[.agg #[.int .i64 r, .int .i64 c, .slice (some ⟨b, off, none⟩) n cap], .agg #[.int .i64 p, .int .i64 q, .slice (some ⟨b2, off2, none⟩) m cap2], .int .i64 x, .int .i64 y] w (MatBel true r c n (fun t => vals (putP c q p x y Y Z) t) w) := by
  have hM := Lib.hid hm
  have hm144 : m ≤ 144 := by have := sides_le hp hq; omega
  have hn144 : n ≤ 144 := by have := sides_le hr hc; omega
  have hN := Lib.hid hn
  have he : (p : Int) * (q : Int) = ((m : Nat) : Int) := by rw [hm, Int.natCast_mul]
  have hpos : 0 < n := by rw [hn]; exact Nat.mul_pos hr1 hc1
  have hcap2 := h2.1
  have hmax2 := h2.2.1
  clear hn hm
  go_enter Try.func16, Try.ntmps16
  go_wp2_with fail
  go_at_call 49
  refine (specIs_any _ r c (some ⟨b, off, none⟩) n cap Z _ (by omega) (by refine ⟨?_, ?_, ?_⟩ <;> simp [go_sem]) (h.below (by repeat first | (with_reducible exact Below.refl _ _) | (with_reducible refine Below.setCell ?_ (by first | exact Nat.le_refl _ | (simp; done) | (simp; omega) | omega) _) | (with_reducible refine Below.alloc ?_ (by first | exact Nat.le_refl _ | (simp; done) | (simp; omega) | omega) _) | (with_reducible refine below_drewN ?_ _) | (with_reducible refine Below.drew ?_)) (Nat.le_refl _))).mono ?_
  rintro e w1 ⟨rfl, m1, rfl⟩
  go_wp2_with fail
  go_at_call 49
  refine (specIs_any _ p q (some ⟨b2, off2, none⟩) m cap2 Y _ (by omega) (by refine ⟨?_, ?_, ?_⟩ <;> simp [go_sem]) (h2.below (by repeat first | (with_reducible exact Below.refl _ _) | (with_reducible refine Below.setCell ?_ (by first | exact Nat.le_refl _ | (simp; done) | (simp; omega) | omega) _) | (with_reducible refine Below.alloc ?_ (by first | exact Nat.le_refl _ | (simp; done) | (simp; omega) | omega) _) | (with_reducible refine below_drewN ?_ _) | (with_reducible refine Below.drew ?_)) (Nat.le_refl _))).mono ?_
  rintro e w2 ⟨rfl, m2, rfl⟩
  go_wp2_with fail
  go_at_call 50
  refine (l02In_any _ r c n cap (some ⟨b, off, none⟩) p q x y _ hr hc (by refine ⟨?_, ?_, ?_⟩ <;> simp [go_sem])).mono ?_
  rintro e w3 ⟨rfl, rfl⟩
  rw [hli]
  have XA : Box (((w.alloc (.cells #[.int .i64 r, .int .i64 c, .slice (some ⟨b, off, none⟩) n cap] 26)).alloc (.cells #[.int .i64 p, .int .i64 q, .slice (some ⟨b2, off2, none⟩) m cap2] 26)).alloc (.cells #[.int .i64 0, .int .i64 0, .slice none 0 0] 26)) w.heap.size r c (some ⟨b, off, none⟩) n cap := by refine ⟨?_, ?_, ?_⟩ <;> simp [go_sem]
  have XB : Box (((w.alloc (.cells #[.int .i64 r, .int .i64 c, .slice (some ⟨b, off, none⟩) n cap] 26)).alloc (.cells #[.int .i64 p, .int .i64 q, .slice (some ⟨b2, off2, none⟩) m cap2] 26)).alloc (.cells #[.int .i64 0, .int .i64 0, .slice none 0 0] 26)) (w.heap.size + 1) p q (some ⟨b2, off2, none⟩) m cap2 := by refine ⟨?_, ?_, ?_⟩ <;> simp [go_sem]
  have XR : Box (((w.alloc (.cells #[.int .i64 r, .int .i64 c, .slice (some ⟨b, off, none⟩) n cap] 26)).alloc (.cells #[.int .i64 p, .int .i64 q, .slice (some ⟨b2, off2, none⟩) m cap2] 26)).alloc (.cells #[.int .i64 0, .int .i64 0, .slice none 0 0] 26)) (w.heap.size + 1 + 1) 0 0 none 0 0 := by refine ⟨?_, ?_, ?_⟩ <;> simp [go_sem]
  have IR : ∀ i, ((((w.alloc (.cells #[.int .i64 r, .int .i64 c, .slice (some ⟨b, off, none⟩) n cap] 26)).alloc (.cells #[.int .i64 p, .int .i64 q, .slice (some ⟨b2, off2, none⟩) m cap2] 26)).alloc (.cells #[.int .i64 0, .int .i64 0, .slice none 0 0] 26))).frozen? ⟨w.heap.size + 1 + 1, i, none⟩ = false := fun i => by simp [go_sem]
  have B0 : Below w.heap.size w (((w.alloc (.cells #[.int .i64 r, .int .i64 c, .slice (some ⟨b, off, none⟩) n cap] 26)).alloc (.cells #[.int .i64 p, .int .i64 q, .slice (some ⟨b2, off2, none⟩) m cap2] 26)).alloc (.cells #[.int .i64 0, .int .i64 0, .slice none 0 0] 26)) := (by repeat first | (with_reducible exact Below.refl _ _) | (with_reducible refine Below.setCell ?_ (by first | exact Nat.le_refl _ | (simp; done) | (simp; omega) | omega) _) | (with_reducible refine Below.alloc ?_ (by first | exact Nat.le_refl _ | (simp; done) | (simp; omega) | omega) _) | (with_reducible refine below_drewN ?_ _) | (with_reducible refine Below.drew ?_))
  have s0 : ((((w.alloc (.cells #[.int .i64 r, .int .i64 c, .slice (some ⟨b, off, none⟩) n cap] 26)).alloc (.cells #[.int .i64 p, .int .i64 q, .slice (some ⟨b2, off2, none⟩) m cap2] 26)).alloc (.cells #[.int .i64 0, .int .i64 0, .slice none 0 0] 26))).heap.size = w.heap.size + 1 + 1 + 1 := by simp
  generalize (((w.alloc (.cells #[.int .i64 r, .int .i64 c, .slice (some ⟨b, off, none⟩) n cap] 26)).alloc (.cells #[.int .i64 p, .int .i64 q, .slice (some ⟨b2, off2, none⟩) m cap2] 26)).alloc (.cells #[.int .i64 0, .int .i64 0, .slice none 0 0] 26)) = w0 at *
  have FA := h.below B0 (Nat.le_refl _)
  have FB := h2.below B0 (Nat.le_refl _)
  go_wp2_with fail
  go_at_call 51
  refine (l02Own_any w.heap.size b off n cap r c Z (w0.drewN (m1 + m2)) hpos hn144 (by show w.heap.size < w0.heap.size; omega) ⟨XA.1, XA.2.1, XA.2.2⟩ (FS.drewN FA)).mono ?_
  rintro e w3 ⟨g, d, rfl, o3, b3⟩
  have b3' : Below w0.heap.size w0 w3 := Below.trans (by repeat first | (with_reducible exact Below.refl _ _) | (with_reducible refine Below.setCell ?_ (by first | exact Nat.le_refl _ | (simp; done) | (simp; omega) | omega) _) | (with_reducible refine Below.alloc ?_ (by first | exact Nat.le_refl _ | (simp; done) | (simp; omega) | omega) _) | (with_reducible refine below_drewN ?_ _) | (with_reducible refine Below.drew ?_)) (b3.mono (by first | exact Nat.le_refl _ | (simp [World.drewN]; done) | (simp [World.drewN]; omega)))
  have B3 := B0.trans (b3'.mono B0.size)
  have s3 := b3'.size
  have XA3 := XA.below b3' (by omega)
  have XB3 := XB.below b3' (by omega)
  have XR3 := XR.below b3' (by omega)
  have I3 : ∀ i, w3.frozen? ⟨w.heap.size + 1 + 1, i, none⟩ = false := fun i => (b3'.frozen (p := ⟨w.heap.size + 1 + 1, i, none⟩) (by show w.heap.size + 1 + 1 < w0.heap.size; omega)).trans (IR i)
  have o3' := o3.mono (B' := w0.heap.size) (by simp [World.drewN]) (Nat.le_refl _) (Nat.le_refl _)
  obtain ⟨_, _, hBg, hgU, _, _⟩ := o3'.cell hpos
  have F3 := h2.below B3 (Nat.le_refl _)
  clear b3 b3' o3 XA XB XR IR B0 FA FB hvA hvB hli
  have hd1 := (Own.fs o3').1
  have hd2 := (Own.fs o3').2.1
  have hd3 : d ≤ 9223372036854775807 := by unfold maxLen at hd2; omega
  go_wp2_with fail
  have b4 : Below w3.heap.size w3 (w3.alloc (.cells #[.int .i64 r, .int .i64 c, .slice (some ⟨g, 0, none⟩) n d] 26)) := (by repeat first | (with_reducible exact Below.refl _ _) | (with_reducible refine Below.setCell ?_ (by first | exact Nat.le_refl _ | (simp; done) | (simp; omega) | omega) _) | (with_reducible refine Below.alloc ?_ (by first | exact Nat.le_refl _ | (simp; done) | (simp; omega) | omega) _) | (with_reducible refine below_drewN ?_ _) | (with_reducible refine Below.drew ?_))
  have U4 := Box.new w3 26 r c (some ⟨g, 0, none⟩) n d
  have hs4 : w3.heap.size < (w3.alloc (.cells #[.int .i64 r, .int .i64 c, .slice (some ⟨g, 0, none⟩) n d] 26)).heap.size := by simp
  generalize w3.alloc (.cells #[.int .i64 r, .int .i64 c, .slice (some ⟨g, 0, none⟩) n d] 26) = w4 at b4 U4 hs4 ⊢
  have XA4 := XA3.below b4 (by omega)
  have XB4 := XB3.below b4 (by omega)
  have XR4 := XR3.below b4 (by omega)
  have I4 : ∀ i, w4.frozen? ⟨w.heap.size + 1 + 1, i, none⟩ = false := fun i => (b4.frozen (p := ⟨w.heap.size + 1 + 1, i, none⟩) (by show w.heap.size + 1 + 1 < w3.heap.size; omega)).trans (I3 i)
  have o4 := o3'.kept (below_grew b4) (fun q hq => by cases hq)
  have B4 := B3.trans (b4.mono B3.size)
  have F4 := F3.below b4 (Nat.le_refl _)
  obtain ⟨_, _, e, hbb2, _, _⟩ := h2.at (show 0 < m by rw [hM.out]; exact Nat.mul_pos hp1 hq1)
  simp only [Option.some.injEq, Addr.mk.injEq, and_true] at e
  obtain ⟨rfl, rfl⟩ := e
  clear b4 XA3 XB3 XR3 I3 o3' B3 F3 h h2
  go_loopw [11] (fun i wr => ∃ (j : Nat) (X : Nat → Nat), j ≤ m ∧ i = .int .i64 j ∧ Own 33 .f32 w0.heap.size w3.heap.size wr (some ⟨g, 0, none⟩) n d X ∧ (∀ t, t < n → X t = putE c q p j x y Y Z t) ∧ w4.grownBy wr (some g)) (fun i _ => m - (intOf i).toNat)
  case atStart => exact ⟨0, _, Nat.zero_le _, rfl, o4, fun t ht => putE_start t, World.grownBy.refl _ _⟩
  case round =>
    obtain ⟨j, X, hj, rfl, ho, hX, hg⟩ := hrel
    have HX := Lib.hid hX
    clear o4 hX
    have hsr := hg.size
    obtain ⟨q0, q1, q2⟩ := XB4.grown hg (by omega) (fun q hq => by cases hq; omega)
    by_cases hlt : j < m
    · have hd : decide ((j : Int) < (m : Int)) = true := decide_eq_true (by omega)
      obtain ⟨u0, u1, u2⟩ := U4.grown hg (by omega) (fun q hq => by cases hq; omega)
      obtain ⟨z0, z1, z2⟩ := XA4.grown hg (by omega) (fun q hq => by cases hq; omega)
      obtain ⟨b', off', e, hbl, hce, hfv⟩ := (F4.grown hg (fun q hq => by cases hq; omega)).at hlt
      simp only [Option.some.injEq, Addr.mk.injEq, and_true] at e
      obtain ⟨rfl, rfl⟩ := e
      have hmod : j % q < q := Nat.mod_lt _ hq1
      have hdiv : j / q < p := Nat.div_lt_of_lt_mul (by rw [Nat.mul_comm, ← hM.out]; exact hlt)
      have hr0 : ¬ (q = 0) := by omega
      have ht1 : Int.tmod (j : Int) (q : Int) = (j : Int) % (q : Int) := Int.tmod_eq_emod_of_nonneg (by omega)
      have ht2 : Int.tdiv (j : Int) (q : Int) = (j : Int) / (q : Int) := Int.tdiv_eq_ediv_of_nonneg (by omega)
      have e1 : ((j % q : Nat) : Int) = (j : Int) % (q : Int) := Int.natCast_emod _ _
      have e2 : ((j / q : Nat) : Int) = (j : Int) / (q : Int) := Int.natCast_ediv _ _
      have ht3 : IntKind.i64.wrap ((j : Int) / (q : Int)) = (j : Int) / (q : Int) := IntWalk.i64_in _ (by rw [← e2]; have h5 := Nat.div_le_self j q; generalize j / q = x at h5; omega)
      have hpl := place_lt (c := c) (show x + j / q < r by omega) (show y + j % q < c by omega)
      rw [← hN.out] at hpl
      obtain ⟨A, hA⟩ : ∃ A, x + j / q = A := ⟨_, rfl⟩
      obtain ⟨L, hL⟩ : ∃ L, A * c = L := ⟨_, rfl⟩
      obtain ⟨K2, hK2⟩ : ∃ K2, L + y = K2 := ⟨_, rfl⟩
      obtain ⟨I, hI⟩ : ∃ I, K2 + j % q = I := ⟨_, rfl⟩
      have hIe : I = (x + j / q) * c + (y + j % q) := by rw [← hI, ← hK2, ← hL, ← hA]; omega
      have hIn : I < n := by rw [hIe]; exact hpl
      have hW1 : IntKind.i64.wrap ((x : Int) + (j : Int) / (q : Int)) = (A : Int) := by
        rw [← e2]
        have e : (x : Int) + ((j / q : Nat) : Int) = (A : Int) := by omega
        rw [e]; exact IntWalk.i64_in _ (by omega)
      have hW3 : IntKind.i64.wrap ((A : Int) * (c : Int)) = (L : Int) := by
        have e : (A : Int) * (c : Int) = (L : Int) := by rw [← hL, Int.natCast_mul]
        rw [e]; exact IntWalk.i64_in _ (by omega)
      have hWq : IntKind.i64.wrap ((L : Int) + (y : Int)) = (K2 : Int) := by
        have e : (L : Int) + (y : Int) = (K2 : Int) := by omega
        rw [e]; exact IntWalk.i64_in _ (by omega)
      have hW5 : IntKind.i64.wrap ((K2 : Int) + (j : Int) % (q : Int)) = (I : Int) := by
        rw [← e1]
        have e : (K2 : Int) + ((j % q : Nat) : Int) = (I : Int) := by omega
        rw [e]; exact IntWalk.i64_in _ (by omega)
      have HI := Lib.hid hIe
      have HD := Lib.hid hdiv
      have hwv := hfv.2
      clear hA hL hK2 hI hIe hmod hdiv hpl e1 e2 hbl hfv
      have hO := Lib.hid ho
      obtain ⟨hcell, hfr, _, _, _, _⟩ := ho.cell hIn
      clear ho
      go_wp2
      (refine wp_region_pivot_tail 99 24 (by kernel_rfl) (by kernel_rfl) ?_; simp only [List.take_succ_cons, List.take_zero, List.drop_succ_cons, List.drop_zero]; (repeat (refine wpPivot_plain rfl rfl rfl (fun K hK => ?_); go_big_quiet_op; refine hK _ ?_; clear hK K)))
      refine wpPivot_nil ?_
      rintro _ ⟨kk, rfl⟩
      have O5 := (show Own 33 .f32 w0.heap.size w3.heap.size (wr.drewN kk) (some ⟨g, 0, none⟩) n d X from hO.out).stored hIn hwv
      obtain ⟨O5, G5⟩ := O5
      have O6 := Lib.hid O5
      have G6 := Lib.hid (grownBy_trans hg (⟨G5.os, G5.tape, G5.output, G5.size, G5.block⟩ : wr.grownBy _ (some g)))
      clear O5 G5 hg hO hW1 hW3 hWq hW5 ht1 ht2 ht3
      go_wp2
      go_roundw
      case rel =>
        refine ⟨j + 1, _, by omega, by go_num, O6.out, fun t ht => ?_, G6.out⟩
        rw [← putE_next hy hq1 HD.out HI.out t]
        by_cases e : t = I
        · rw [if_pos e, if_pos e]
        · rw [if_neg e, if_neg e]; exact HX.out t ht
      case measure => simp [intOf]; omega
    · obtain rfl : j = m := by omega
      have hd : decide ((j : Int) < (j : Int)) = false := decide_eq_false (by omega)
      obtain ⟨u0, u1, u2⟩ := U4.grown hg (by omega) (fun q hq => by cases hq; omega)
      obtain ⟨z0, z1, z2⟩ := XR4.grown hg (by omega) (fun q hq => by cases hq; omega)
      have I6 : ∀ i, wr.frozen? ⟨w.heap.size + 1 + 1, i, none⟩ = false := fun i => (World.frozen?_of_block (a := ⟨w.heap.size + 1 + 1, i, none⟩) (hg.block (w.heap.size + 1 + 1) (by omega) (fun e => by cases e; omega))).trans (I4 i)
      have hY := ho.fs
      have B6 := B4.grown hg B4.size (fun q hq => by cases hq; omega)
      clear ho hg
      go_wp2_with fail
      refine bodyPost_ret (v := .tuple #[.agg #[.int .i64 r, .int .i64 c, .slice (some ⟨g, 0, none⟩) n d], .bool true]) (by simp [results, Try.results16, go_sem, z0, z1, z2]) rfl ?_
      have hgr : g ≠ w.heap.size + 1 + 1 := by omega
      exact ⟨_, _, X, rfl, FS.to hY (by simp [World.setCell]) (fun q hq => by have hf : q ≠ w.heap.size + 1 + 1 := (by obtain ⟨o, ho⟩ := hq; cases ho; exact hgr); rw [Below.heap_setCell _ _ _ _ hf, Below.heap_setCell _ _ _ _ hf, Below.heap_setCell _ _ _ _ hf]), fun i hi => by show cn .f32 (X i) = cn .f32 (putP c q p x y Y Z i); rw [HX.out i hi, putE_end hM.out], (by repeat first | (with_reducible exact B6) | (with_reducible refine Below.setCell ?_ (by first | exact Nat.le_refl _ | (simp; done) | (simp; omega) | omega) _) | (with_reducible refine Below.alloc ?_ (by first | exact Nat.le_refl _ | (simp; done) | (simp; omega) | omega) _) | (with_reducible refine below_drewN ?_ _) | (with_reducible refine Below.drew ?_))⟩
theorem keyPutMatrix (R C : Int) (n : Nat) (Z : Nat → Nat) (R2 C2 : Int) (n2 : Nat) (Y : Nat → Nat) (x y : Int) (hn : n ≤ 1048576) (hm : n2 ≤ 1048576) (wx : (Lit.int .i64 x).wf = true) (wy : (Lit.int .i64 y).wf = true) : ∃ (ok : Bool) (R' C' : Int) (n' : Nat) (V : Nat → Option Nat), n' ≤ 144 ∧
    (∀ a c b d W, FS .f32 W a n c Z → FS .f32 W b n2 d Y → Calls Try.prog 16 #[.agg #[.int .i64 R, .int .i64 C, .slice a n c], .agg #[.int .i64 R2, .int .i64 C2, .slice b n2 d], .int .i64 x, .int .i64 y] W (MatBel ok R' C' n' V W)) ∧
    (∀ a c b d W, FS .f32 W a n c Z → FS .f32 W b n2 d Y → Calls Try.prog 18 #[.agg #[.int .i64 R, .int .i64 C, .slice a n c], .agg #[.int .i64 R2, .int .i64 C2, .slice b n2 d], .int .i64 x, .int .i64 y] W (MatOwn ok R' C' n' V W)) := by
  cases ho : putOk R C R2 C2 x y n n2 Z Y with
  | false => exact ⟨false, 0, 0, 0, fun _ => none, by omega, fun a c b d W h h2 => specPut_no R C R2 C2 x y a b n c n2 d Z Y W hn hm h h2 ho, fun a c b d W h h2 => implPut_no R C R2 C2 x y a b n c n2 d Z Y W hn hm h h2 ho⟩
  | true =>
    unfold putOk at ho
    rw [Bool.and_eq_true, Bool.and_eq_true] at ho
    obtain ⟨hv, hv2, hl⟩ := ho
    obtain ⟨r, c, rfl, rfl, h1, h2, h3, h4, h5, _⟩ := valid_nat hv
    obtain ⟨p, q, rfl, rfl, f1, f2, f3, f4, f5, _⟩ := valid_nat hv2
    have hl' := hl
    unfold liB at hl'
    simp only [Bool.and_eq_true, decide_eq_true_eq] at hl'
    obtain ⟨⟨p1, p2, x1, x2⟩, q1, q2, y1, y2⟩ := hl'
    obtain ⟨x, rfl⟩ : ∃ t : Nat, x = t := ⟨x.toNat, by omega⟩
    obtain ⟨y, rfl⟩ : ∃ t : Nat, y = t := ⟨y.toNat, by omega⟩
    refine ⟨true, r, c, n, fun t => vals (putP c q p x y Y Z) t, by have := sides_le h2 h4; omega, fun a cap b d W k1 k2 => ?_, fun a cap b d W k1 k2 => ?_⟩
    all_goals
      have h0 : 0 < n := by rw [h5]; exact Nat.mul_pos h1 h3
      have h02 : 0 < n2 := by rw [f5]; exact Nat.mul_pos f1 f3
      obtain ⟨b1, o1, rfl, _⟩ := k1.at h0
      obtain ⟨b2, o2, rfl, _⟩ := k2.at h02
    · exact specPut_yes r c n b1 o1 cap p q n2 b2 o2 d x y Z Y W h1 h2 h3 h4 h5 f1 f2 f3 f4 f5 (by omega) (by omega) hv hv2 hl k1 k2
    · exact implPut_yes r c n b1 o1 cap p q n2 b2 o2 d x y Z Y W h1 h2 h3 h4 h5 f1 f2 f3 f4 f5 (by omega) (by omega) hv hv2 hl k1 k2
end Go.Proofs.Ytcldaafmbmmhiaa
