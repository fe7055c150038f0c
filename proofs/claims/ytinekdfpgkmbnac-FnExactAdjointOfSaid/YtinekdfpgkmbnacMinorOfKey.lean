/- Helper: determinants of a low whole in two sets, of the program and of its reference. Conditions: none. -/
import Derived.Test.YtinekdfpgkmbnacLowKey
set_option linter.unusedVariables false
set_option linter.unusedSimpArgs false
namespace Go.Proofs.Ytinekdfpgkmbnac
open Go.RowKit

theorem IS.sameI {k : IntKind} {w : World} {a : Option Addr} {n c : Nat} {Z Y : Nat → Int} (h : IS k w a n c Z) (e : ∀ j, j < n → Z j = Y j) : IS k w a n c Y :=
  ⟨h.1, h.2.1, fun i hi => by rw [← e i hi]; exact h.2.2 i hi⟩
/-- An ascending list of indices in natural numbers. -/
theorem IS.nats {w : World} {a : Option Addr} {n c : Nat} {Z : Nat → Int} {b : Int} (h : IS .i64 w a n c Z) (hs : setTo Z b n = true) : IS .i64 w a n c (fun t => (((Z t).toNat : Nat) : Int)) :=
  h.sameI fun j hj => by have := setTo_lo hs j hj; omega
theorem set_small {Z : Nat → Int} {b : Nat} {n : Nat} (h : setTo Z b n = true) (hb : b ≤ 6) : n ≤ 6 ∧ ∀ t, t < n → (Z t).toNat < b := by
  refine ⟨?_, fun t ht => by have := setTo_lo h t ht; omega⟩
  rcases n with _ | n
  · omega
  · have := setTo_lo h n (by omega)
    omega
def minOk (R C : Int) (n : Nat) (Z : Nat → Int) (n1 : Nat) (Z1 : Nat → Int) (n2 : Nat) (Z2 : Nat → Int) : Bool := wholeB 100 R C n Z && (setB Z1 R n1 && (setB Z2 C n2 && decide (n1 = n2)))
def minVal (R C : Int) (n : Nat) (Z : Nat → Int) (n1 : Nat) (Z1 : Nat → Int) (n2 : Nat) (Z2 : Nat → Int) : Int :=
  if minOk R C n Z n1 Z1 n2 Z2 = true then minI Z C.toNat n1 (fun t => (Z1 t).toNat) (fun t => (Z2 t).toNat) else 0

set_option maxHeartbeats 2000000 in
theorem implMinorOf_any (R C : Int) (a : Option Addr) (n cap : Nat) (Z : Nat → Int) (a1 : Option Addr) (n1 c1 : Nat) (Z1 : Nat → Int) (a2 : Option Addr) (n2 c2 : Nat) (Z2 : Nat → Int) (w : World) (hn : n ≤ 1048576) (hn1 : n1 ≤ 1048576) (hn2 : n2 ≤ 1048576) (h : IS .i64 w a n cap Z) (h1 : IS .i64 w a1 n1 c1 Z1) (h2 : IS .i64 w a2 n2 c2 Z2) :
    Calls Try.prog 16 #[.agg #[.int .i64 R, .int .i64 C, .slice a n cap], .slice a1 n1 c1, .slice a2 n2 c2] w (NumTell (minOk R C n Z n1 Z1 n2 Z2) (minVal R C n Z n1 Z1 n2 Z2) w) := by
  have hL := fun W (f : IS .i64 W a n cap Z) => isLow_any R C a n cap Z W hn f
  have s1 : ∀ W, IS .i64 W a1 n1 c1 Z1 → Calls Try.prog 39 #[.slice a1 n1 c1, .int .i64 R] W fun e w' => e = .returned (.bool (setB Z1 R n1)) ∧ W = w' := fun W f => isIndexSet_any a1 n1 c1 Z1 R W hn1 f
  have s2 : ∀ W, IS .i64 W a2 n2 c2 Z2 → Calls Try.prog 39 #[.slice a2 n2 c2, .int .i64 C] W fun e w' => e = .returned (.bool (setB Z2 C n2)) ∧ W = w' := fun W f => isIndexSet_any a2 n2 c2 Z2 C W hn2 f
  have hno : minOk R C n Z n1 Z1 n2 Z2 = false → Hid (NumTell (minOk R C n Z n1 Z1 n2 Z2) (minVal R C n Z n1 Z1 n2 Z2) w = NumTell false 0 w) := fun e => Lib.hid (by unfold minVal; rw [e]; rfl)
  cases v0 : wholeB 100 R C n Z with
  | false =>
    have HO := hno (by unfold minOk; rw [v0]; rfl)
    rw [v0] at hL
    rw [HO.out]
    clear v0 hno HO s1 s2
    go_enter Try.func16, Try.ntmps16
    go_wp2_with fail
    go_at_call 38
    refine (hL _ (h.below (by repeat first | (with_reducible exact Below.refl _ _) | (with_reducible refine Below.setCell ?_ (by first | exact Nat.le_refl _ | (simp; done) | (simp; omega) | omega) _) | (with_reducible refine Below.alloc ?_ (by first | exact Nat.le_refl _ | (simp; done) | (simp; omega) | omega) _) | (with_reducible refine below_drewN ?_ _) | (with_reducible refine Below.drew ?_)) (Nat.le_refl _))).mono ?_
    rintro e w1 ⟨rfl, b1⟩
    have B1 : Hid (Below w.heap.size w w1) := Lib.hid (Below.trans (by repeat first | (with_reducible exact Below.refl _ _) | (with_reducible refine Below.setCell ?_ (by first | exact Nat.le_refl _ | (simp; done) | (simp; omega) | omega) _) | (with_reducible refine Below.alloc ?_ (by first | exact Nat.le_refl _ | (simp; done) | (simp; omega) | omega) _) | (with_reducible refine below_drewN ?_ _) | (with_reducible refine Below.drew ?_)) (b1.mono (by simp)))
    clear b1
    go_wp2_with fail
    go_ret2
    exact ⟨rfl, B1.out⟩
  | true =>
    rw [v0] at hL
    cases v1 : setB Z1 R n1 with
    | false =>
      have HO := hno (by unfold minOk; rw [v1]; simp)
      rw [v1] at s1
      rw [HO.out]
      clear v0 v1 hno HO s2
      go_enter Try.func16, Try.ntmps16
      go_wp2_with fail
      go_at_call 38
      refine (hL _ (h.below (by repeat first | (with_reducible exact Below.refl _ _) | (with_reducible refine Below.setCell ?_ (by first | exact Nat.le_refl _ | (simp; done) | (simp; omega) | omega) _) | (with_reducible refine Below.alloc ?_ (by first | exact Nat.le_refl _ | (simp; done) | (simp; omega) | omega) _) | (with_reducible refine below_drewN ?_ _) | (with_reducible refine Below.drew ?_)) (Nat.le_refl _))).mono ?_
      rintro e w1 ⟨rfl, b1⟩
      have X1 : Box w1 w.heap.size R C a n cap := Box.below (Box.new _ _ _ _ _ _ _) b1 (by simp)
      obtain ⟨x0, x1, x2⟩ := X1
      have B1 : Hid (Below w.heap.size w w1) := Lib.hid (Below.trans (by repeat first | (with_reducible exact Below.refl _ _) | (with_reducible refine Below.setCell ?_ (by first | exact Nat.le_refl _ | (simp; done) | (simp; omega) | omega) _) | (with_reducible refine Below.alloc ?_ (by first | exact Nat.le_refl _ | (simp; done) | (simp; omega) | omega) _) | (with_reducible refine below_drewN ?_ _) | (with_reducible refine Below.drew ?_)) (b1.mono (by simp)))
      have f1 := h1.below B1.out (Nat.le_refl _)
      clear b1
      go_wp2_with (go_at_call 39; (with_reducible refine (s1 _ f1).mono ?_); rintro e w' ⟨rfl, rfl⟩)
      go_ret2
      exact ⟨rfl, B1.out⟩
    | true =>
      rw [v1] at s1
      cases v2 : setB Z2 C n2 with
      | false =>
        have HO := hno (by unfold minOk; rw [v2]; simp)
        rw [v2] at s2
        rw [HO.out]
        clear v0 v1 v2 hno HO
        go_enter Try.func16, Try.ntmps16
        go_wp2_with fail
        go_at_call 38
        refine (hL _ (h.below (by repeat first | (with_reducible exact Below.refl _ _) | (with_reducible refine Below.setCell ?_ (by first | exact Nat.le_refl _ | (simp; done) | (simp; omega) | omega) _) | (with_reducible refine Below.alloc ?_ (by first | exact Nat.le_refl _ | (simp; done) | (simp; omega) | omega) _) | (with_reducible refine below_drewN ?_ _) | (with_reducible refine Below.drew ?_)) (Nat.le_refl _))).mono ?_
        rintro e w1 ⟨rfl, b1⟩
        have X1 : Box w1 w.heap.size R C a n cap := Box.below (Box.new _ _ _ _ _ _ _) b1 (by simp)
        obtain ⟨x0, x1, x2⟩ := X1
        have B1 : Hid (Below w.heap.size w w1) := Lib.hid (Below.trans (by repeat first | (with_reducible exact Below.refl _ _) | (with_reducible refine Below.setCell ?_ (by first | exact Nat.le_refl _ | (simp; done) | (simp; omega) | omega) _) | (with_reducible refine Below.alloc ?_ (by first | exact Nat.le_refl _ | (simp; done) | (simp; omega) | omega) _) | (with_reducible refine below_drewN ?_ _) | (with_reducible refine Below.drew ?_)) (b1.mono (by simp)))
        have f1 := h1.below B1.out (Nat.le_refl _)
        have f2 := h2.below B1.out (Nat.le_refl _)
        clear b1
        go_wp2_with (go_at_call 39; (first | (with_reducible refine (s1 _ f1).mono ?_) | (with_reducible refine (s2 _ f2).mono ?_)); rintro e w' ⟨rfl, rfl⟩)
        go_ret2
        exact ⟨rfl, B1.out⟩
      | true =>
        rw [v2] at s2
        by_cases v3 : n1 = n2
        case neg =>
          have HO := hno (by unfold minOk; rw [decide_eq_false v3]; simp)
          have e1 : ((n1 : Int) == (n2 : Int)) = false := beq_eq_false_iff_ne.2 (by omega)
          have e2 : (n1 == n2) = false := beq_eq_false_iff_ne.2 v3
          have e3 : ((n1 : Int) != (n2 : Int)) = true := bne_iff_ne.2 (by omega)
          have e4 : (n1 != n2) = true := bne_iff_ne.2 v3
          rw [HO.out]
          clear v0 v1 v2 v3 hno HO
          go_enter Try.func16, Try.ntmps16
          go_wp2_with fail
          go_at_call 38
          refine (hL _ (h.below (by repeat first | (with_reducible exact Below.refl _ _) | (with_reducible refine Below.setCell ?_ (by first | exact Nat.le_refl _ | (simp; done) | (simp; omega) | omega) _) | (with_reducible refine Below.alloc ?_ (by first | exact Nat.le_refl _ | (simp; done) | (simp; omega) | omega) _) | (with_reducible refine below_drewN ?_ _) | (with_reducible refine Below.drew ?_)) (Nat.le_refl _))).mono ?_
          rintro e w1 ⟨rfl, b1⟩
          have X1 : Box w1 w.heap.size R C a n cap := Box.below (Box.new _ _ _ _ _ _ _) b1 (by simp)
          obtain ⟨x0, x1, x2⟩ := X1
          have B1 : Hid (Below w.heap.size w w1) := Lib.hid (Below.trans (by repeat first | (with_reducible exact Below.refl _ _) | (with_reducible refine Below.setCell ?_ (by first | exact Nat.le_refl _ | (simp; done) | (simp; omega) | omega) _) | (with_reducible refine Below.alloc ?_ (by first | exact Nat.le_refl _ | (simp; done) | (simp; omega) | omega) _) | (with_reducible refine below_drewN ?_ _) | (with_reducible refine Below.drew ?_)) (b1.mono (by simp)))
          have f1 := h1.below B1.out (Nat.le_refl _)
          have f2 := h2.below B1.out (Nat.le_refl _)
          clear b1
          go_wp2_with (go_at_call 39; (first | (with_reducible refine (s1 _ f1).mono ?_) | (with_reducible refine (s2 _ f2).mono ?_)); rintro e w' ⟨rfl, rfl⟩)
          go_ret2
          exact ⟨rfl, B1.out⟩
        subst v3
        have HOk : minOk R C n Z n1 Z1 n1 Z2 = true := by unfold minOk; rw [v0, v1, v2]; simp
        obtain ⟨r, c, rfl, rfl, g1, g2, g3, g4, g5, g6⟩ := whole_nat v0
        have hpos : 0 < n := by rw [g5]; exact Nat.mul_pos g1 g3
        have u1 : setTo Z1 r n1 = true := by unfold setB at v1; simp only [Bool.and_eq_true] at v1; exact v1.2
        have u2 : setTo Z2 c n1 = true := by unfold setB at v2; simp only [Bool.and_eq_true] at v2; exact v2.2
        obtain ⟨t1, t2⟩ := set_small u1 g2
        obtain ⟨_, t3⟩ := set_small u2 g4
        obtain ⟨ab, ao, rfl, _⟩ := h.at hpos
        have hm : ∀ W, IS .i64 W (some ⟨ab, ao, none⟩) n cap Z → IS .i64 W a1 n1 c1 Z1 → IS .i64 W a2 n1 c2 Z2 → Calls Try.prog 35 #[.agg #[.int .i64 r, .int .i64 c, .slice (some ⟨ab, ao, none⟩) n cap], .slice a1 n1 c1, .slice a2 n1 c2] W fun e w' => e = .returned (.int .i64 (minI Z c n1 (fun t => (Z1 t).toNat) (fun t => (Z2 t).toNat))) ∧ Below W.heap.size W w' :=
          fun W k1 k2 k3 => implMinor_any ab ao r c n cap Z g2 g4 g5 (low_abs (R := (0 : Int)) (C := (0 : Int)) g6) n1 t1 a1 a2 c1 c2 (fun t => (Z1 t).toNat) (fun t => (Z2 t).toNat) W k1 (k2.nats u1) (k3.nats u2) t2 t3
        have HV : Hid (NumTell (minOk r c n Z n1 Z1 n1 Z2) (minVal r c n Z n1 Z1 n1 Z2) w = NumTell true (minI Z c n1 (fun t => (Z1 t).toNat) (fun t => (Z2 t).toNat)) w) := Lib.hid (by unfold minVal; rw [HOk, if_pos rfl, Int.toNat_natCast])
        rw [HV.out]
        generalize minI Z c n1 (fun t => (Z1 t).toNat) (fun t => (Z2 t).toNat) = X at hm
        clear HV HOk v0 v1 v2 u1 u2 t1 t2 t3 hno g5
        go_enter Try.func16, Try.ntmps16
        go_wp2_with fail
        go_at_call 38
        refine (hL _ (h.below (by repeat first | (with_reducible exact Below.refl _ _) | (with_reducible refine Below.setCell ?_ (by first | exact Nat.le_refl _ | (simp; done) | (simp; omega) | omega) _) | (with_reducible refine Below.alloc ?_ (by first | exact Nat.le_refl _ | (simp; done) | (simp; omega) | omega) _) | (with_reducible refine below_drewN ?_ _) | (with_reducible refine Below.drew ?_)) (Nat.le_refl _))).mono ?_
        rintro e w1 ⟨rfl, b1⟩
        have X1 : Box w1 w.heap.size r c (some ⟨ab, ao, none⟩) n cap := Box.below (Box.new _ _ _ _ _ _ _) b1 (by simp)
        obtain ⟨x0, x1, x2⟩ := X1
        have B1 : Hid (Below w.heap.size w w1) := Lib.hid (Below.trans (by repeat first | (with_reducible exact Below.refl _ _) | (with_reducible refine Below.setCell ?_ (by first | exact Nat.le_refl _ | (simp; done) | (simp; omega) | omega) _) | (with_reducible refine Below.alloc ?_ (by first | exact Nat.le_refl _ | (simp; done) | (simp; omega) | omega) _) | (with_reducible refine below_drewN ?_ _) | (with_reducible refine Below.drew ?_)) (b1.mono (by simp)))
        have f0 := h.below B1.out (Nat.le_refl _)
        have f1 := h1.below B1.out (Nat.le_refl _)
        have f2 := h2.below B1.out (Nat.le_refl _)
        clear b1
        go_wp2_with (first | (go_at_call 39; (first | (with_reducible refine (s1 _ f1).mono ?_) | (with_reducible refine (s2 _ f2).mono ?_)); rintro e w' ⟨rfl, rfl⟩) | (go_at_call 35; refine (hm _ f0 f1 f2).mono ?_; rintro e w3 ⟨rfl, b3⟩))
        have B3 := Lib.hid (B1.out.trans (b3.mono B1.out.size))
        clear b3
        go_ret2
        exact ⟨rfl, B3.out⟩
set_option maxHeartbeats 2000000 in
theorem specMinorOf_any (R C : Int) (a : Option Addr) (n cap : Nat) (Z : Nat → Int) (a1 : Option Addr) (n1 c1 : Nat) (Z1 : Nat → Int) (a2 : Option Addr) (n2 c2 : Nat) (Z2 : Nat → Int) (w : World) (hn : n ≤ 1048576) (hn1 : n1 ≤ 1048576) (hn2 : n2 ≤ 1048576) (h : IS .i64 w a n cap Z) (h1 : IS .i64 w a1 n1 c1 Z1) (h2 : IS .i64 w a2 n2 c2 Z2) :
    Calls Try.prog 14 #[.agg #[.int .i64 R, .int .i64 C, .slice a n cap], .slice a1 n1 c1, .slice a2 n2 c2] w (NumTell (minOk R C n Z n1 Z1 n2 Z2) (minVal R C n Z n1 Z1 n2 Z2) w) := by
  have hL := fun W (g : Box W w.heap.size R C a n cap) (f : IS .i64 W a n cap Z) => specLow_any w.heap.size R C a n cap Z W hn g f
  have hno : minOk R C n Z n1 Z1 n2 Z2 = false → Hid (NumTell (minOk R C n Z n1 Z1 n2 Z2) (minVal R C n Z n1 Z1 n2 Z2) w = NumTell false 0 w) := fun e => Lib.hid (by unfold minVal; rw [e]; rfl)
  cases v0 : wholeB 100 R C n Z with
  | false =>
    have HO := hno (by unfold minOk; rw [v0]; rfl)
    rw [v0] at hL
    rw [HO.out]
    clear v0 hno HO
    go_enter Try.func14, Try.ntmps14
    go_wp2_with fail
    go_at_call 31
    refine (hL _ ⟨by simp [go_sem], by simp [go_sem], by simp [go_sem]⟩ (h.below (by repeat first | (with_reducible exact Below.refl _ _) | (with_reducible refine Below.setCell ?_ (by first | exact Nat.le_refl _ | (simp; done) | (simp; omega) | omega) _) | (with_reducible refine Below.alloc ?_ (by first | exact Nat.le_refl _ | (simp; done) | (simp; omega) | omega) _) | (with_reducible refine below_drewN ?_ _) | (with_reducible refine Below.drew ?_)) (Nat.le_refl _))).mono ?_
    rintro e w1 ⟨rfl, m1, rfl⟩
    go_wp2_with fail
    go_ret2
    exact ⟨rfl, (by repeat first | (with_reducible exact Below.refl _ _) | (with_reducible refine Below.setCell ?_ (by first | exact Nat.le_refl _ | (simp; done) | (simp; omega) | omega) _) | (with_reducible refine Below.alloc ?_ (by first | exact Nat.le_refl _ | (simp; done) | (simp; omega) | omega) _) | (with_reducible refine below_drewN ?_ _) | (with_reducible refine Below.drew ?_))⟩
  | true =>
    rw [v0] at hL
    obtain ⟨r, c, rfl, rfl, g1, g2, g3, g4, g5, g6⟩ := whole_nat v0
    have s1 : ∀ W, IS .i64 W a1 n1 c1 Z1 → Calls Try.prog 37 #[.slice a1 n1 c1, .int .i64 r] W fun e w' => e = .returned (.bool (setB Z1 r n1)) ∧ ∃ q, w' = W.drewN q := fun W f => specSet_any a1 n1 c1 Z1 r W hn1 (by omega) f
    have s2 : ∀ W, IS .i64 W a2 n2 c2 Z2 → Calls Try.prog 37 #[.slice a2 n2 c2, .int .i64 c] W fun e w' => e = .returned (.bool (setB Z2 c n2)) ∧ ∃ q, w' = W.drewN q := fun W f => specSet_any a2 n2 c2 Z2 c W hn2 (by omega) f
    have hpos : 0 < n := by rw [g5]; exact Nat.mul_pos g1 g3
    obtain ⟨ab, ao, rfl, _⟩ := h.at hpos
    have G5 := Lib.hid g5
    clear g5
    generalize hwa : w.alloc (.cells #[.int .i64 r, .int .i64 c, .slice (some ⟨ab, ao, none⟩) n cap] 28) = wa
    have Ba : Below w.heap.size w wa := by rw [← hwa]; exact (by repeat first | (with_reducible exact Below.refl _ _) | (with_reducible refine Below.setCell ?_ (by first | exact Nat.le_refl _ | (simp; done) | (simp; omega) | omega) _) | (with_reducible refine Below.alloc ?_ (by first | exact Nat.le_refl _ | (simp; done) | (simp; omega) | omega) _) | (with_reducible refine below_drewN ?_ _) | (with_reducible refine Below.drew ?_))
    have sa : wa.heap.size = w.heap.size + 1 := by rw [← hwa]; simp
    have Xa : Box wa w.heap.size r c (some ⟨ab, ao, none⟩) n cap := by rw [← hwa]; exact Box.new _ _ _ _ _ _ _
    have la : w.heap.size < wa.heap.size := by omega
    have f0 := h.below Ba (Nat.le_refl _)
    have f1 := h1.below Ba (Nat.le_refl _)
    have f2 := h2.below Ba (Nat.le_refl _)
    have HWA := Lib.hid hwa
    have HBA := Lib.hid Ba
    clear hwa Ba
    cases v1 : setB Z1 r n1 with
    | false =>
      have HO := hno (by unfold minOk; rw [v1]; simp)
      rw [v1] at s1
      rw [HO.out]
      clear v0 v1 hno HO s2
      go_enter Try.func14, Try.ntmps14
      go_wp2_with fail
      rw [HWA.out]
      go_at_call 31
      refine (hL _ Xa f0).mono ?_
      rintro e w1 ⟨rfl, m1, rfl⟩
      obtain ⟨x0, x1, x2⟩ := Xa
      go_wp2_with (go_at_call 37; (with_reducible refine (s1 _ (IS.drewN f1)).mono ?_); rintro e w' ⟨rfl, q, rfl⟩)
      go_ret2
      exact ⟨rfl, (by repeat first | (with_reducible exact HBA.out) | (with_reducible refine Below.setCell ?_ (by first | exact Nat.le_refl _ | (simp; done) | (simp; omega) | omega) _) | (with_reducible refine Below.alloc ?_ (by first | exact Nat.le_refl _ | (simp; done) | (simp; omega) | omega) _) | (with_reducible refine below_drewN ?_ _) | (with_reducible refine Below.drew ?_))⟩
    | true =>
      rw [v1] at s1
      cases v2 : setB Z2 c n2 with
      | false =>
        have HO := hno (by unfold minOk; rw [v2]; simp)
        rw [v2] at s2
        rw [HO.out]
        clear v0 v1 v2 hno HO
        go_enter Try.func14, Try.ntmps14
        go_wp2_with fail
        rw [HWA.out]
        go_at_call 31
        refine (hL _ Xa f0).mono ?_
        rintro e w1 ⟨rfl, m1, rfl⟩
        obtain ⟨x0, x1, x2⟩ := Xa
        go_wp2_with (go_at_call 37; (first | (with_reducible refine (s1 _ (IS.drewN f1)).mono ?_) | (with_reducible refine (s2 _ (IS.drewN f2)).mono ?_)); rintro e w' ⟨rfl, q, rfl⟩)
        go_ret2
        exact ⟨rfl, (by repeat first | (with_reducible exact HBA.out) | (with_reducible refine Below.setCell ?_ (by first | exact Nat.le_refl _ | (simp; done) | (simp; omega) | omega) _) | (with_reducible refine Below.alloc ?_ (by first | exact Nat.le_refl _ | (simp; done) | (simp; omega) | omega) _) | (with_reducible refine below_drewN ?_ _) | (with_reducible refine Below.drew ?_))⟩
      | true =>
        rw [v2] at s2
        by_cases v3 : n1 = n2
        case neg =>
          have HO := hno (by unfold minOk; rw [decide_eq_false v3]; simp)
          have e1 : ((n1 : Int) == (n2 : Int)) = false := beq_eq_false_iff_ne.2 (by omega)
          have e2 : (n1 == n2) = false := beq_eq_false_iff_ne.2 v3
          have e3 : ((n1 : Int) != (n2 : Int)) = true := bne_iff_ne.2 (by omega)
          have e4 : (n1 != n2) = true := bne_iff_ne.2 v3
          rw [HO.out]
          clear v0 v1 v2 v3 hno HO
          go_enter Try.func14, Try.ntmps14
          go_wp2_with fail
          rw [HWA.out]
          go_at_call 31
          refine (hL _ Xa f0).mono ?_
          rintro e w1 ⟨rfl, m1, rfl⟩
          obtain ⟨x0, x1, x2⟩ := Xa
          go_wp2_with (go_at_call 37; (first | (with_reducible refine (s1 _ (IS.drewN f1)).mono ?_) | (with_reducible refine (s2 _ (IS.drewN f2)).mono ?_)); rintro e w' ⟨rfl, q, rfl⟩)
          go_ret2
          exact ⟨rfl, (by repeat first | (with_reducible exact HBA.out) | (with_reducible refine Below.setCell ?_ (by first | exact Nat.le_refl _ | (simp; done) | (simp; omega) | omega) _) | (with_reducible refine Below.alloc ?_ (by first | exact Nat.le_refl _ | (simp; done) | (simp; omega) | omega) _) | (with_reducible refine below_drewN ?_ _) | (with_reducible refine Below.drew ?_))⟩
        subst v3
        have HOk : minOk r c n Z n1 Z1 n1 Z2 = true := by unfold minOk; rw [v0, v1, v2]; simp
        have u1 : setTo Z1 r n1 = true := by unfold setB at v1; simp only [Bool.and_eq_true] at v1; exact v1.2
        have u2 : setTo Z2 c n1 = true := by unfold setB at v2; simp only [Bool.and_eq_true] at v2; exact v2.2
        obtain ⟨t1, t2⟩ := set_small u1 g2
        obtain ⟨_, t3⟩ := set_small u2 g4
        have hm : ∀ W, Below wa.heap.size wa W → Calls Try.prog 32 #[.pointer (some ⟨w.heap.size, 0, none⟩), .slice a1 n1 c1, .slice a2 n1 c2] W fun e w' => e = .returned (.int .i64 (minI Z c n1 (fun t => (Z1 t).toNat) (fun t => (Z2 t).toNat))) ∧ Below W.heap.size W w' :=
          fun W hW => specMinor_any w.heap.size ab ao r c n cap Z g2 g4 G5.out (low_abs (R := (0 : Int)) (C := (0 : Int)) g6) n1 t1 a1 a2 c1 c2 (fun t => (Z1 t).toNat) (fun t => (Z2 t).toNat) W (Nat.lt_of_lt_of_le la hW.size) (Xa.below hW la) (f0.below hW (Nat.le_refl _)) ((f1.below hW (Nat.le_refl _)).nats u1) ((f2.below hW (Nat.le_refl _)).nats u2) t2 t3
        have HV : Hid (NumTell (minOk r c n Z n1 Z1 n1 Z2) (minVal r c n Z n1 Z1 n1 Z2) w = NumTell true (minI Z c n1 (fun t => (Z1 t).toNat) (fun t => (Z2 t).toNat)) w) := Lib.hid (by unfold minVal; rw [HOk, if_pos rfl, Int.toNat_natCast])
        rw [HV.out]
        generalize minI Z c n1 (fun t => (Z1 t).toNat) (fun t => (Z2 t).toNat) = X at hm
        clear HV HOk v0 v1 v2 u1 u2 t1 t2 t3 hno
        go_enter Try.func14, Try.ntmps14
        go_wp2_with fail
        rw [HWA.out]
        go_at_call 31
        refine (hL _ Xa f0).mono ?_
        rintro e w1 ⟨rfl, m1, rfl⟩
        obtain ⟨x0, x1, x2⟩ := Xa
        go_wp2_with (first | (go_at_call 37; (first | (with_reducible refine (s1 _ (IS.drewN f1)).mono ?_) | (with_reducible refine (s2 _ (IS.drewN f2)).mono ?_)); rintro e w' ⟨rfl, q, rfl⟩) | (go_at_call 32; refine (hm _ (below_drewN (Below.refl _ _) _)).mono ?_; rintro e w3 ⟨rfl, b3⟩))
        have B3 : Hid (Below w.heap.size w w3) := Lib.hid ((below_drewN HBA.out _).trans (b3.mono (by show w.heap.size ≤ wa.heap.size; omega)))
        clear b3
        go_ret2
        exact ⟨rfl, B3.out⟩
theorem keyMinorOfWhole (R C : Int) (n : Nat) (Z : Nat → Int) (n1 : Nat) (Z1 : Nat → Int) (n2 : Nat) (Z2 : Nat → Int) (wR : (Lit.int .i64 R).wf = true) (wC : (Lit.int .i64 C).wf = true) (hn : n ≤ 1048576) (hn1 : n1 ≤ 1048576) (hn2 : n2 ≤ 1048576) : ∃ (ok : Bool) (X : Int),
    (∀ a c a1 c1 a2 c2 W, IS .i64 W a n c Z → IS .i64 W a1 n1 c1 Z1 → IS .i64 W a2 n2 c2 Z2 → Calls Try.prog 14 #[.agg #[.int .i64 R, .int .i64 C, .slice a n c], .slice a1 n1 c1, .slice a2 n2 c2] W (NumTell ok X W)) ∧
    (∀ a c a1 c1 a2 c2 W, IS .i64 W a n c Z → IS .i64 W a1 n1 c1 Z1 → IS .i64 W a2 n2 c2 Z2 → Calls Try.prog 16 #[.agg #[.int .i64 R, .int .i64 C, .slice a n c], .slice a1 n1 c1, .slice a2 n2 c2] W (NumTell ok X W)) :=
  ⟨_, _, fun a c a1 c1 a2 c2 W h h1 h2 => specMinorOf_any R C a n c Z a1 n1 c1 Z1 a2 n2 c2 Z2 W hn hn1 hn2 h h1 h2, fun a c a1 c1 a2 c2 W h h1 h2 => implMinorOf_any R C a n c Z a1 n1 c1 Z1 a2 n2 c2 Z2 W hn hn1 hn2 h h1 h2⟩
end Go.Proofs.Ytinekdfpgkmbnac
