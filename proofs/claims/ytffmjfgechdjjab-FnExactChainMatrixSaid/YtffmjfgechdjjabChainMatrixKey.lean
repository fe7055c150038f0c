/- Helper: the square that a chain stands for, of the program and of its reference. Conditions: none. -/
import Derived.Test.YtffmjfgechdjjabWork
import Derived.Test.YtffmjfgechdjjabChainKey
import Derived.Test.YtffmjfgechdjjabPivot
set_option linter.unusedVariables false
set_option linter.unusedSimpArgs false
namespace Go.Proofs.Ytffmjfgechdjjab
open Go.RowKit

/-- The numbers of the square, of which p of the middle are told, a above it and b below it. -/
def cmZ (n : Nat) (M S : Nat → Nat) (p a b t : Nat) : Nat := if t / n = t % n ∧ t / n < p then M (t / n) else if t % n = t / n + 1 ∧ t / n < a then S (t / n) else if t / n = t % n + 1 ∧ t % n < b then S (t % n) else 0
theorem cm_start {n : Nat} {M S : Nat → Nat} (t : Nat) : cmZ n M S 0 0 0 t = 0 := by
  unfold cmZ
  rw [if_neg (fun h => absurd h.2 (Nat.not_lt_zero _)), if_neg (fun h => absurd h.2 (Nat.not_lt_zero _)), if_neg (fun h => absurd h.2 (Nat.not_lt_zero _))]
theorem cm_other {n i k t : Nat} (hn : 0 < n) (h : t ≠ i * n + k) : ¬ (t / n = i ∧ t % n = k) := by
  rintro ⟨h1, h2⟩
  have hp := place_eq (c := n) (t := t)
  rw [h1, h2] at hp
  exact h hp.symm
theorem cm_mid {n : Nat} {M S : Nat → Nat} {p a b : Nat} (hp : p < n) (t : Nat) : (if t = p * n + p then M p else cmZ n M S p a b t) = cmZ n M S (p + 1) a b t := by
  unfold cmZ
  by_cases e : t = p * n + p
  · subst e
    obtain ⟨d1, d2⟩ := place_div (c := n) (j := p) (k := p) hp
    rw [if_pos rfl, d1, d2, if_pos ⟨rfl, Nat.lt_succ_self _⟩]
  · rw [if_neg e]
    have ho := cm_other (by omega) e
    clear e
    generalize t / n = i at ho ⊢
    generalize t % n = k at ho ⊢
    by_cases h : i = k ∧ i < p
    · rw [if_pos h, if_pos ⟨h.1, by omega⟩]
    · rw [if_neg h, if_neg (show ¬ (i = k ∧ i < p + 1) by omega)]
theorem cm_up {n : Nat} {M S : Nat → Nat} {p a b : Nat} (ha : a + 1 < n) (t : Nat) : (if t = a * n + (a + 1) then S a else cmZ n M S p a b t) = cmZ n M S p (a + 1) b t := by
  unfold cmZ
  by_cases e : t = a * n + (a + 1)
  · subst e
    obtain ⟨d1, d2⟩ := place_div (c := n) (j := a) (k := a + 1) ha
    rw [if_pos rfl, d1, d2, if_neg (by omega), if_pos ⟨rfl, Nat.lt_succ_self _⟩]
  · rw [if_neg e]
    have ho := cm_other (by omega) e
    clear e
    generalize t / n = i at ho ⊢
    generalize t % n = k at ho ⊢
    by_cases h0 : i = k ∧ i < p
    · rw [if_pos h0, if_pos h0]
    · rw [if_neg h0, if_neg h0]
      by_cases h : k = i + 1 ∧ i < a
      · rw [if_pos h, if_pos ⟨h.1, by omega⟩]
      · rw [if_neg h, if_neg (show ¬ (k = i + 1 ∧ i < a + 1) by omega)]
theorem cm_down {n : Nat} {M S : Nat → Nat} {p a b : Nat} (hb : b + 1 < n) (t : Nat) : (if t = (b + 1) * n + b then S b else cmZ n M S p a b t) = cmZ n M S p a (b + 1) t := by
  unfold cmZ
  by_cases e : t = (b + 1) * n + b
  · subst e
    obtain ⟨d1, d2⟩ := place_div (c := n) (j := b + 1) (k := b) (by omega)
    rw [if_pos rfl, d1, d2, if_neg (by omega), if_neg (by omega), if_pos ⟨rfl, Nat.lt_succ_self _⟩]
  · rw [if_neg e]
    have ho := cm_other (by omega) e
    clear e
    generalize t / n = i at ho ⊢
    generalize t % n = k at ho ⊢
    by_cases h0 : i = k ∧ i < p
    · rw [if_pos h0, if_pos h0]
    · rw [if_neg h0, if_neg h0]
      by_cases h1 : k = i + 1 ∧ i < a
      · rw [if_pos h1, if_pos h1]
      · rw [if_neg h1, if_neg h1]
        by_cases h : i = k + 1 ∧ k < b
        · rw [if_pos h, if_pos ⟨h.1, by omega⟩]
        · rw [if_neg h, if_neg (show ¬ (i = k + 1 ∧ k < b + 1) by omega)]

set_option maxRecDepth 20000 in
set_option maxHeartbeats 4000000 in
theorem implChainMatrix_yes (b off n c n2 c2 N : Nat) (a2 : Option Addr) (Z Z2 : Nat → Nat) (w : World) (h1 : 1 ≤ n) (h12 : n ≤ 12) (hN : N = n * n) (hn2 : n2 + 1 = n) (hv : chainB n (vals Z) n2 (vals Z2) = true)
    (h : FS .f32 w (some ⟨b, off, none⟩) n c Z) (h2 : FS .f32 w a2 n2 c2 Z2) :
    Calls Try.prog 22 #[.agg #[.slice (some ⟨b, off, none⟩) n c, .slice a2 n2 c2]] w (MatOwn true n n N (vals (cmZ n Z Z2 n n2 n2)) w) := by
  have hN' := Lib.hid hN
  have hn144 : N ≤ 144 := by have := sides_le h12 h12; omega
  have hpos : 0 < N := by rw [hN]; exact Nat.mul_pos h1 h1
  have HV := Lib.hid hv
  clear hN hv
  go_enter Try.func22, Try.ntmps22
  go_wp2_with fail
  generalize hwa : w.alloc (.cells #[.slice (some ⟨b, off, none⟩) n c, .slice a2 n2 c2] 28) = wa
  have Ba : Below w.heap.size w wa := by rw [← hwa]; exact (by repeat first | (with_reducible exact Below.refl _ _) | (with_reducible refine Below.setCell ?_ (by first | exact Nat.le_refl _ | (simp; done) | (simp; omega) | omega) _) | (with_reducible refine Below.alloc ?_ (by first | exact Nat.le_refl _ | (simp; done) | (simp; omega) | omega) _) | (with_reducible refine below_drewN ?_ _) | (with_reducible refine Below.drew ?_))
  have sa : wa.heap.size = w.heap.size + 1 := by rw [← hwa]; simp
  have Xa : BoxC wa w.heap.size (some ⟨b, off, none⟩) n c a2 n2 c2 := by rw [← hwa]; exact BoxC.new _ _ _ _ _ _ _ _
  have Fa := h.below Ba (Nat.le_refl _)
  have Fb := h2.below Ba (Nat.le_refl _)
  rw [← sa]
  clear hwa h h2
  go_at_call 38
  refine (implChain_any _ n c Z a2 n2 c2 Z2 _ (by omega) (by omega) (Fa.below (by repeat first | (with_reducible exact Below.refl _ _) | (with_reducible refine Below.setCell ?_ (by first | exact Nat.le_refl _ | (simp; done) | (simp; omega) | omega) _) | (with_reducible refine Below.alloc ?_ (by first | exact Nat.le_refl _ | (simp; done) | (simp; omega) | omega) _) | (with_reducible refine below_drewN ?_ _) | (with_reducible refine Below.drew ?_)) (Nat.le_refl _)) (Fb.below (by repeat first | (with_reducible exact Below.refl _ _) | (with_reducible refine Below.setCell ?_ (by first | exact Nat.le_refl _ | (simp; done) | (simp; omega) | omega) _) | (with_reducible refine Below.alloc ?_ (by first | exact Nat.le_refl _ | (simp; done) | (simp; omega) | omega) _) | (with_reducible refine below_drewN ?_ _) | (with_reducible refine Below.drew ?_)) (Nat.le_refl _))).mono ?_
  rintro e w2 ⟨rfl, b1⟩
  rw [HV.out]
  have la : w.heap.size < wa.heap.size := by omega
  have s2 : wa.heap.size + 1 ≤ w2.heap.size := by have := b1.size; simpa using this
  have X2 := (Xa.below (show Below wa.heap.size wa (wa.alloc (.cells #[.int .i64 0, .int .i64 0, .slice none 0 0] 39)) from (by repeat first | (with_reducible exact Below.refl _ _) | (with_reducible refine Below.setCell ?_ (by first | exact Nat.le_refl _ | (simp; done) | (simp; omega) | omega) _) | (with_reducible refine Below.alloc ?_ (by first | exact Nat.le_refl _ | (simp; done) | (simp; omega) | omega) _) | (with_reducible refine below_drewN ?_ _) | (with_reducible refine Below.drew ?_))) la).below b1 (by simp; omega)
  obtain ⟨x0, x1⟩ := X2
  go_wp2_with fail
  go_at_call 46
  refine (newMatrix_any n n N _ h12 h12 hN'.out).mono ?_
  rintro e w3 ⟨g, rfl, o3, b3⟩
  have b13 := b1.trans (b3.mono b1.size)
  have wk := Work.start (w := wa) (R := (n : Int)) (C := (n : Int)) 39 39 (Own.mono (B' := wa.heap.size + 1) o3 (by omega) (Nat.le_refl _) (Nat.le_refl _)) b13
  clear o3 b1 b3 b13 x0 x1
  have XW := Xa.below wk.bel la
  obtain ⟨x0, x1⟩ := XW
  have HU := Lib.hid (wk.facts hpos)
  go_wp2
  go_loopw [23] (fun i wr => ∃ j : Nat, j ≤ n ∧ i = .int .i64 j ∧ Work wa (wa.heap.size + 1) w3.heap.size g w3.heap.size wa.heap.size n n N (cmZ n Z Z2 j 0 0) wr) (fun i _ => n - (intOf i).toNat)
  case atStart => exact ⟨0, Nat.zero_le _, rfl, wk.same (fun t _ => (cm_start t).symm)⟩
  case round =>
    obtain ⟨j, hj, rfl, hk⟩ := hrel
    clear wk x0 x1
    obtain ⟨g1, g2, g3, g4⟩ := hk.facts hpos
    by_cases hlt : j < n
    · have hpl := place_lt hlt hlt
      rw [← hN'.out] at hpl
      obtain ⟨y0, y1, y2⟩ := hk.box
      obtain ⟨b', off', e, hbl, hce, hfv⟩ := (Fa.below hk.bel (Nat.le_refl _)).at hlt
      simp only [Option.some.injEq, Addr.mk.injEq, and_true] at e
      obtain ⟨rfl, rfl⟩ := e
      have hwf := hfv.2
      have hk' := Lib.hid hk
      clear hk hfv hbl
      go_wp2_with fail
      go_at_call 47
      refine (rowOf_any g 0 n n N N j _ h12 h1 h12 hN'.out (Nat.le_refl _) (by omega) hlt).mono ?_
      rintro e w4 ⟨rfl, b4⟩
      have hk2 := hk'.out.below b4 g3 g4
      have hst := hk2.stored (t := j * n + j) (v := Z j) hpl hwf
      obtain ⟨hce2, hfr, _⟩ := hk2.own.cell hpl
      have hst' := Lib.hid (hst.same (fun t _ => cm_mid hlt t))
      simp only [Nat.zero_add] at *
      clear hst hk2 b4 hk' y0 y1 y2 hce hwf
      go_wp2_with fail
      go_roundw
      case rel => exact ⟨j + 1, by omega, by go_num, hst'.out⟩
      case measure => simp [intOf]; omega
    · obtain rfl : n = j := by omega
      obtain ⟨y0, y1, y2⟩ := hk.box
      obtain ⟨x0, x1⟩ := Xa.below hk.bel la
      have hk0 := Lib.hid hk
      clear hk y0 y1 y2
      go_wp2
      go_loopw [38] (fun i wr => ∃ q : Nat, q ≤ n2 ∧ i = .int .i64 q ∧ Work wa (wa.heap.size + 1) w3.heap.size g w3.heap.size wa.heap.size n n N (cmZ n Z Z2 n q q) wr) (fun i _ => n2 - (intOf i).toNat)
      case atStart => exact ⟨0, Nat.zero_le _, rfl, hk0.out⟩
      case round =>
        obtain ⟨q, hq, rfl, hk⟩ := hrel
        clear hk0 x0 x1
        obtain ⟨g1', g2', g3', g4'⟩ := hk.facts hpos
        by_cases hlt2 : q < n2
        · have hpl := place_lt (r := n) (i := q) (c := n) (k := q + 1) (by omega) (by omega)
          have hpl2 := place_lt (r := n) (i := q + 1) (c := n) (k := q) (by omega) (by omega)
          rw [← hN'.out] at hpl hpl2
          obtain ⟨y0, y1, y2⟩ := hk.box
          obtain ⟨b2, off2, e2, hbl, hce, hfv⟩ := (Fb.below hk.bel (Nat.le_refl _)).at hlt2
          subst e2
          have hwf := hfv.2
          have hk' := Lib.hid hk
          clear hk hfv hbl
          go_wp2_with fail
          go_at_call 47
          refine (rowOf_any g 0 n n N N q _ h12 h1 h12 hN'.out (Nat.le_refl _) (by omega) (by omega)).mono ?_
          rintro e w4 ⟨rfl, b4⟩
          have hk2 := hk'.out.below b4 g3' g4'
          have hst := (hk2.stored (t := q * n + (q + 1)) (v := Z2 q) hpl hwf).same (fun t _ => cm_up (by omega) t)
          obtain ⟨hce2, hfr, _⟩ := hk2.own.cell hpl
          obtain ⟨z0, z1, z2⟩ := hst.box
          obtain ⟨_, _, g3'', g4''⟩ := hst.facts hpos
          have hst' := Lib.hid hst
          simp only [Nat.zero_add] at *
          clear hst hk2 b4 hk' y0 y1 y2 hce
          go_wp2_with fail
          go_at_call 47
          refine (rowOf_any g 0 n n N N (q + 1) _ h12 h1 h12 hN'.out (Nat.le_refl _) (by omega) (by omega)).mono ?_
          rintro e w5 ⟨rfl, b5⟩
          have hk3 := hst'.out.below b5 g3'' g4''
          have hst2 := (hk3.stored (t := (q + 1) * n + q) (v := Z2 q) hpl2 hwf).same (fun t _ => cm_down (by omega) t)
          obtain ⟨hce3, hfr3, _⟩ := hk3.own.cell hpl2
          have hst2' := Lib.hid hst2
          simp only [Nat.zero_add] at *
          clear hst2 hk3 b5 hst' z0 z1 z2 hwf hce2 hfr
          go_wp2_with fail
          go_roundw
          case rel => exact ⟨q + 1, by omega, by go_num, hst2'.out⟩
          case measure => simp [intOf]; omega
        · obtain rfl : q = n2 := by omega
          obtain ⟨y0, y1, y2⟩ := hk.box
          obtain ⟨z0, z1, z2⟩ := hk.res
          have o2 := hk.own
          have B2 := Ba.trans (hk.bel.mono (by omega))
          have hlo := hk.lo
          have hmid := hk.mid
          have hice : ∀ i, wr.frozen? ⟨w.heap.size + 1, i, none⟩ = false := fun i => by have hh := hk.ice i; rwa [sa] at hh
          rw [sa] at z0 z1 z2
          clear hk
          go_wp2_with fail
          refine bodyPost_ret (v := .tuple #[.agg #[.int .i64 n, .int .i64 n, .slice (some ⟨g, 0, none⟩) N N], .bool true]) (by simp [results, Try.results22, go_sem, y0, y1, y2, z0, z1, z2]) rfl ?_
          exact ⟨_, _, _, rfl, (by refine Own.to o2 (hk := fun g hg1 hg2 => by (try simp at hg1 hg2); repeat (first | rw [Below.heap_setCell _ _ _ _ (by simp; omega)] | rw [Below.heap_alloc _ _ _ (by simp [World.setCell]; omega)])) ?_ ?_ ?_ ?_ <;> (first | exact Nat.le_refl _ | omega | (simp [World.setCell]; done) | (simp [World.setCell]; omega))), fun i _ => rfl, (by repeat first | (with_reducible exact B2) | (with_reducible refine Below.setCell ?_ (by first | exact Nat.le_refl _ | (simp; done) | (simp; omega) | omega) _) | (with_reducible refine Below.alloc ?_ (by first | exact Nat.le_refl _ | (simp; done) | (simp; omega) | omega) _) | (with_reducible refine below_drewN ?_ _) | (with_reducible refine Below.drew ?_))⟩
set_option maxRecDepth 20000 in
set_option maxHeartbeats 4000000 in
theorem specChainMatrix_yes (b off n c n2 c2 N : Nat) (a2 : Option Addr) (Z Z2 : Nat → Nat) (w : World) (h1 : 1 ≤ n) (h12 : n ≤ 12) (hN : N = n * n) (hn2 : n2 + 1 = n) (hv : chainB n (vals Z) n2 (vals Z2) = true)
    (h : FS .f32 w (some ⟨b, off, none⟩) n c Z) (h2 : FS .f32 w a2 n2 c2 Z2) :
    Calls Try.prog 21 #[.agg #[.slice (some ⟨b, off, none⟩) n c, .slice a2 n2 c2]] w (MatBel true n n N (vals (cmZ n Z Z2 n n2 n2)) w) := by
  have hN' := Lib.hid hN
  have hn144 : N ≤ 144 := by have := sides_le h12 h12; omega
  have hpos : 0 < N := by rw [hN]; exact Nat.mul_pos h1 h1
  have HV := Lib.hid hv
  clear hN hv
  go_enter Try.func21, Try.ntmps21
  go_wp2_with fail
  generalize hwa : w.alloc (.cells #[.slice (some ⟨b, off, none⟩) n c, .slice a2 n2 c2] 28) = wa
  have Ba : Below w.heap.size w wa := by rw [← hwa]; exact (by repeat first | (with_reducible exact Below.refl _ _) | (with_reducible refine Below.setCell ?_ (by first | exact Nat.le_refl _ | (simp; done) | (simp; omega) | omega) _) | (with_reducible refine Below.alloc ?_ (by first | exact Nat.le_refl _ | (simp; done) | (simp; omega) | omega) _) | (with_reducible refine below_drewN ?_ _) | (with_reducible refine Below.drew ?_))
  have sa : wa.heap.size = w.heap.size + 1 := by rw [← hwa]; simp
  have Xa : BoxC wa w.heap.size (some ⟨b, off, none⟩) n c a2 n2 c2 := by rw [← hwa]; exact BoxC.new _ _ _ _ _ _ _ _
  have Fa := h.below Ba (Nat.le_refl _)
  have Fb := h2.below Ba (Nat.le_refl _)
  rw [← sa]
  clear hwa h h2
  have la : w.heap.size < wa.heap.size := by omega
  go_at_call 36
  refine (l04Is_any w.heap.size _ n c Z a2 n2 c2 Z2 _ (by omega) (by omega) (Xa.below (by repeat first | (with_reducible exact Below.refl _ _) | (with_reducible refine Below.setCell ?_ (by first | exact Nat.le_refl _ | (simp; done) | (simp; omega) | omega) _) | (with_reducible refine Below.alloc ?_ (by first | exact Nat.le_refl _ | (simp; done) | (simp; omega) | omega) _) | (with_reducible refine below_drewN ?_ _) | (with_reducible refine Below.drew ?_)) la) (Fa.below (by repeat first | (with_reducible exact Below.refl _ _) | (with_reducible refine Below.setCell ?_ (by first | exact Nat.le_refl _ | (simp; done) | (simp; omega) | omega) _) | (with_reducible refine Below.alloc ?_ (by first | exact Nat.le_refl _ | (simp; done) | (simp; omega) | omega) _) | (with_reducible refine below_drewN ?_ _) | (with_reducible refine Below.drew ?_)) (Nat.le_refl _)) (Fb.below (by repeat first | (with_reducible exact Below.refl _ _) | (with_reducible refine Below.setCell ?_ (by first | exact Nat.le_refl _ | (simp; done) | (simp; omega) | omega) _) | (with_reducible refine Below.alloc ?_ (by first | exact Nat.le_refl _ | (simp; done) | (simp; omega) | omega) _) | (with_reducible refine below_drewN ?_ _) | (with_reducible refine Below.drew ?_)) (Nat.le_refl _))).mono ?_
  rintro e w2 ⟨rfl, m1, rfl⟩
  rw [HV.out]
  have X2 := (Xa.below (show Below wa.heap.size wa (wa.alloc (.cells #[.int .i64 0, .int .i64 0, .slice none 0 0] 39)) from (by repeat first | (with_reducible exact Below.refl _ _) | (with_reducible refine Below.setCell ?_ (by first | exact Nat.le_refl _ | (simp; done) | (simp; omega) | omega) _) | (with_reducible refine Below.alloc ?_ (by first | exact Nat.le_refl _ | (simp; done) | (simp; omega) | omega) _) | (with_reducible refine below_drewN ?_ _) | (with_reducible refine Below.drew ?_))) la).drewN (m := m1)
  obtain ⟨x0, x1⟩ := X2
  go_wp2_with fail
  go_at_call 45
  refine (l02Zero_any n n N _ h12 h12 hN'.out).mono ?_
  rintro e w3 ⟨g, rfl, o3, b3⟩
  have b13 : Below (wa.alloc (.cells #[.int .i64 0, .int .i64 0, .slice none 0 0] 39)).heap.size (wa.alloc (.cells #[.int .i64 0, .int .i64 0, .slice none 0 0] 39)) w3 := Below.trans (below_drewN (Below.refl _ _) m1) (b3.mono (Nat.le_refl _))
  have wk := Work.start (w := wa) (R := (n : Int)) (C := (n : Int)) 39 39 (Own.mono (B' := wa.heap.size + 1) o3 (by simp [World.drewN]) (Nat.le_refl _) (Nat.le_refl _)) b13
  clear o3 b3 b13 x0 x1
  go_wp2
  go_loopw [6] (fun i wr => ∃ j : Nat, j ≤ n ∧ i = .int .i64 j ∧ Work wa (wa.heap.size + 1) w3.heap.size g w3.heap.size wa.heap.size n n N (cmZ n Z Z2 j (j - 1) (j - 1)) wr) (fun i _ => n - (intOf i).toNat)
  case atStart => exact ⟨0, Nat.zero_le _, rfl, wk.same (fun t _ => (cm_start t).symm)⟩
  case round =>
    obtain ⟨j, hj, rfl, hk⟩ := hrel
    clear wk
    obtain ⟨g1, g2, g3, g4⟩ := hk.facts hpos
    by_cases hlt : j < n
    · have hpl := place_lt hlt hlt
      rw [← hN'.out] at hpl
      obtain ⟨y0, y1, y2⟩ := hk.box
      obtain ⟨x0, x1⟩ := Xa.below hk.bel la
      obtain ⟨b', off', e, hbl, hce, hfv⟩ := (Fa.below hk.bel (Nat.le_refl _)).at hlt
      simp only [Option.some.injEq, Addr.mk.injEq, and_true] at e
      obtain ⟨rfl, rfl⟩ := e
      have hwf := hfv.2
      have hk' := Lib.hid hk
      have hd : decide ((j : Int) < (n : Int)) = true := decide_eq_true (by omega)
      obtain ⟨L, hL⟩ : ∃ L, L = j * n := ⟨_, rfl⟩
      obtain ⟨K, hK⟩ : ∃ K, K = L + j := ⟨_, rfl⟩
      have hM1 : IntKind.i64.wrap ((j : Int) * (n : Int)) = (L : Int) := by
        have e : (j : Int) * (n : Int) = (L : Int) := by rw [hL, Int.natCast_mul]
        rw [e]; exact IntWalk.i64_in _ (by omega)
      have hM2 : IntKind.i64.wrap ((L : Int) + (j : Int)) = (K : Int) := by
        have e : (L : Int) + (j : Int) = (K : Int) := by omega
        rw [e]; exact IntWalk.i64_in _ (by omega)
      have HK : Hid (K = j * n + j) := Lib.hid (by rw [hK, hL])
      rw [← hL, ← hK] at hpl
      clear hk hfv hbl hL hK
      go_wp2
      (refine wp_region_pivot_tail 99 13 (by kernel_rfl) (by kernel_rfl) ?_; simp only [List.take_succ_cons, List.take_zero, List.drop_succ_cons, List.drop_zero]; (repeat (refine wpPivot_plain rfl rfl rfl (fun K hK => ?_); go_big_quiet_op; refine hK _ ?_; clear hK K)))
      refine wpPivot_nil ?_
      rintro _ ⟨kk, rfl⟩
      have hst := ((hk'.out.drewN (m := kk)).stored (t := K) (v := Z j) hpl hwf).same (Y := cmZ n Z Z2 (j + 1) (j - 1) (j - 1)) (fun t _ => by rw [HK.out]; exact cm_mid hlt t)
      obtain ⟨hce2, hfr, _⟩ := (hk'.out.drewN (m := kk)).own.cell hpl
      by_cases h0 : j = 0
      · subst h0
        have hst' := Lib.hid hst
        have hd0 : decide ((0 : Int) < ((0 : Nat) : Int)) = false := by decide
        clear hst hk' hwf hce x0 x1 y0 y1 y2
        go_wp2_with fail
        go_roundw
        case rel => exact ⟨1, by omega, by go_num, hst'.out⟩
        case measure => simp [intOf]; omega
      · obtain ⟨q, hq⟩ : ∃ q, q + 1 = j := ⟨j - 1, by omega⟩
        have e1 : j - 1 = q := by omega
        rw [e1] at hst
        have hqn : q < n2 := by omega
        have hd0 : decide ((0 : Int) < (j : Int)) = true := decide_eq_true (by omega)
        have hd1 : decide (0 < j) = true := decide_eq_true (by omega)
        have hd2 : (0 < j) = True := eq_true (by omega)
        have hQ : IntKind.i64.wrap ((j : Int) - 1) = (q : Int) := by
          have e : (j : Int) - 1 = (q : Int) := by omega
          rw [e]; exact IntWalk.i64_in _ (by omega)
        have HQ := Lib.hid hq
        obtain ⟨I, hI⟩ : ∃ I, I + 1 = K := ⟨K - 1, by have := HK.out; omega⟩
        have HI : Hid (I = (q + 1) * n + q) := Lib.hid (by have hh := HK.out; rw [← hq] at hh; omega)
        have hplI := place_lt (r := n) (i := q + 1) (c := n) (k := q) (by omega) (by omega)
        rw [← HI.out, ← hN'.out] at hplI
        have hM3 : IntKind.i64.wrap ((K : Int) - 1) = (I : Int) := by
          have e : (K : Int) - 1 = (I : Int) := by omega
          rw [e]; exact IntWalk.i64_in _ (by omega)
        obtain ⟨P, hP⟩ : ∃ P, P = q * n := ⟨_, rfl⟩
        obtain ⟨J, hJ⟩ : ∃ J, J = P + j := ⟨_, rfl⟩
        have HJ : Hid (J = q * n + (q + 1)) := Lib.hid (by rw [hJ, hP, hq])
        have hplJ := place_lt (r := n) (i := q) (c := n) (k := q + 1) (by omega) (by omega)
        rw [← HJ.out, ← hN'.out] at hplJ
        have hM4 : IntKind.i64.wrap ((q : Int) * (n : Int)) = (P : Int) := by
          have e : (q : Int) * (n : Int) = (P : Int) := by rw [hP, Int.natCast_mul]
          rw [e]; exact IntWalk.i64_in _ (by omega)
        have hM5 : IntKind.i64.wrap ((P : Int) + (j : Int)) = (J : Int) := by
          have e : (P : Int) + (j : Int) = (J : Int) := by omega
          rw [e]; exact IntWalk.i64_in _ (by omega)
        have hst0 := Lib.hid hst
        obtain ⟨z0, z1, z2⟩ := hst.box
        obtain ⟨v0, v1⟩ := Xa.below hst.bel la
        obtain ⟨b2, off2, e2, hbl2, hces, hfv2⟩ := (Fb.below hst.bel (Nat.le_refl _)).at hqn
        subst e2
        have hwf2 := hfv2.2
        clear hst hk' hwf hce x0 x1 y0 y1 y2 hI hP hJ hq e1 h0 hbl2 hfv2
        go_wp2
        (refine wp_region_pivot_tail 99 15 (by kernel_rfl) (by kernel_rfl) ?_; simp only [List.take_succ_cons, List.take_zero, List.drop_succ_cons, List.drop_zero]; (repeat (refine wpPivot_plain rfl rfl rfl (fun K hK => ?_); go_big_quiet_op; refine hK _ ?_; clear hK K)))
        refine wpPivot_nil ?_
        rintro _ ⟨kk2, rfl⟩
        have hsu := ((hst0.out.drewN (m := kk2)).stored (t := I) (v := Z2 q) hplI hwf2).same (Y := cmZ n Z Z2 (j + 1) q (q + 1)) (fun t _ => by rw [HI.out]; exact cm_down (by have := HQ.out; omega) t)
        obtain ⟨hceI, hfrI, _⟩ := (hst0.out.drewN (m := kk2)).own.cell hplI
        have hsu0 := Lib.hid hsu
        clear z0 z1 z2 v0 v1 hces hst0
        obtain ⟨z0, z1, z2⟩ := hsu.box
        obtain ⟨v0, v1⟩ := Xa.below hsu.bel la
        obtain ⟨b3, off3, e3, hbl3, hces, hfv3⟩ := (Fb.below hsu.bel (Nat.le_refl _)).at hqn
        simp only [Option.some.injEq, Addr.mk.injEq, and_true] at e3
        obtain ⟨rfl, rfl⟩ := e3
        clear hsu hbl3 hfv3
        go_wp2
        (refine wp_region_pivot_tail 99 15 (by kernel_rfl) (by kernel_rfl) ?_; simp only [List.take_succ_cons, List.take_zero, List.drop_succ_cons, List.drop_zero]; (repeat (refine wpPivot_plain rfl rfl rfl (fun K hK => ?_); go_big_quiet_op; refine hK _ ?_; clear hK K)))
        refine wpPivot_nil ?_
        rintro _ ⟨kk3, rfl⟩
        have hsv := ((hsu0.out.drewN (m := kk3)).stored (t := J) (v := Z2 q) hplJ hwf2).same (Y := cmZ n Z Z2 (j + 1) (j + 1 - 1) (j + 1 - 1)) (fun t _ => by
          have e : j + 1 - 1 = q + 1 := by have := HQ.out; omega
          rw [HJ.out, e]; exact cm_up (by have := HQ.out; omega) t)
        obtain ⟨hceJ, hfrJ, _⟩ := (hsu0.out.drewN (m := kk3)).own.cell hplJ
        have hsv0 := Lib.hid hsv
        clear hsv z0 z1 z2 v0 v1 hces hsu0 hM1 hM2 hM3 hM4 hM5 hQ hceI hfrI hce2 hfr
        go_wp2_with fail
        go_roundw
        case rel => exact ⟨j + 1, by omega, by go_num, hsv0.out⟩
        case measure => simp [intOf]; omega
    · obtain rfl : n = j := by omega
      obtain ⟨y0, y1, y2⟩ := hk.box
      obtain ⟨z0, z1, z2⟩ := hk.res
      have e1 : n - 1 = n2 := by omega
      rw [e1] at hk
      have o2 := hk.own
      have B2 := Ba.trans (hk.bel.mono (by omega))
      have hlo := hk.lo
      have hmid := hk.mid
      have hice : ∀ i, wr.frozen? ⟨w.heap.size + 1, i, none⟩ = false := fun i => by have hh := hk.ice i; rwa [sa] at hh
      rw [sa] at z0 z1 z2
      have hd : decide ((n : Int) < (n : Int)) = false := decide_eq_false (by omega)
      clear hk e1
      go_wp2_with fail
      refine bodyPost_ret (v := .tuple #[.agg #[.int .i64 n, .int .i64 n, .slice (some ⟨g, 0, none⟩) N N], .bool true]) (by simp [results, Try.results21, go_sem, y0, y1, y2, z0, z1, z2]) rfl ?_
      exact ⟨_, _, _, rfl, Own.fs (B := w.heap.size) (U := w3.heap.size) (by refine Own.to o2 (hk := fun g hg1 hg2 => by (try simp at hg1 hg2); repeat (first | rw [Below.heap_setCell _ _ _ _ (by simp; omega)] | rw [Below.heap_alloc _ _ _ (by simp [World.setCell]; omega)])) ?_ ?_ ?_ ?_ <;> (first | exact Nat.le_refl _ | omega | (simp [World.setCell]; done) | (simp [World.setCell]; omega))), fun i _ => rfl, (by repeat first | (with_reducible exact B2) | (with_reducible refine Below.setCell ?_ (by first | exact Nat.le_refl _ | (simp; done) | (simp; omega) | omega) _) | (with_reducible refine Below.alloc ?_ (by first | exact Nat.le_refl _ | (simp; done) | (simp; omega) | omega) _) | (with_reducible refine below_drewN ?_ _) | (with_reducible refine Below.drew ?_))⟩
set_option maxRecDepth 20000 in
set_option maxHeartbeats 2000000 in
theorem keyChainMatrix (n : Nat) (Z : Nat → Nat) (n2 : Nat) (Z2 : Nat → Nat) (hn : n ≤ 1048576) (hn2 : n2 ≤ 1048576) : ∃ (ok : Bool) (R C : Int) (n' : Nat) (V : Nat → Option Nat), n' ≤ 144 ∧
    (∀ a c a2 c2 W, FS .f32 W a n c Z → FS .f32 W a2 n2 c2 Z2 → Calls Try.prog 21 #[.agg #[.slice a n c, .slice a2 n2 c2]] W (MatBel ok R C n' V W)) ∧
    (∀ a c a2 c2 W, FS .f32 W a n c Z → FS .f32 W a2 n2 c2 Z2 → Calls Try.prog 22 #[.agg #[.slice a n c, .slice a2 n2 c2]] W (MatOwn ok R C n' V W)) := by
  cases hv : chainB n (vals Z) n2 (vals Z2) with
  | false =>
    refine ⟨false, 0, 0, 0, fun _ => none, by omega, fun a c a2 c2 w h h2 => ?_, fun a c a2 c2 w h h2 => ?_⟩
    · have hia := l04Is_any w.heap.size a n c Z a2 n2 c2 Z2
      rw [hv] at hia
      clear hv
      go_enter Try.func21, Try.ntmps21
      go_wp2_with fail
      go_at_call 36
      refine (hia _ hn hn2 (BoxC.below (BoxC.new _ _ _ _ _ _ _ _) (by repeat first | (with_reducible exact Below.refl _ _) | (with_reducible refine Below.setCell ?_ (by first | exact Nat.le_refl _ | (simp; done) | (simp; omega) | omega) _) | (with_reducible refine Below.alloc ?_ (by first | exact Nat.le_refl _ | (simp; done) | (simp; omega) | omega) _) | (with_reducible refine below_drewN ?_ _) | (with_reducible refine Below.drew ?_)) (by simp)) (h.below (by repeat first | (with_reducible exact Below.refl _ _) | (with_reducible refine Below.setCell ?_ (by first | exact Nat.le_refl _ | (simp; done) | (simp; omega) | omega) _) | (with_reducible refine Below.alloc ?_ (by first | exact Nat.le_refl _ | (simp; done) | (simp; omega) | omega) _) | (with_reducible refine below_drewN ?_ _) | (with_reducible refine Below.drew ?_)) (Nat.le_refl _)) (h2.below (by repeat first | (with_reducible exact Below.refl _ _) | (with_reducible refine Below.setCell ?_ (by first | exact Nat.le_refl _ | (simp; done) | (simp; omega) | omega) _) | (with_reducible refine Below.alloc ?_ (by first | exact Nat.le_refl _ | (simp; done) | (simp; omega) | omega) _) | (with_reducible refine below_drewN ?_ _) | (with_reducible refine Below.drew ?_)) (Nat.le_refl _))).mono ?_
      rintro e w1 ⟨rfl, m1, rfl⟩
      go_wp2_with fail
      refine bodyPost_ret (v := .tuple #[.agg #[.int .i64 0, .int .i64 0, .slice none 0 0], .bool false]) (by simp [results, Try.results21, go_sem]) rfl ?_
      exact ⟨none, 0, fun _ => 0, rfl, ⟨Nat.le_refl _, Nat.zero_le _, fun i hi => absurd hi (Nat.not_lt_zero _)⟩, fun i hi => absurd hi (Nat.not_lt_zero _), (by repeat first | (with_reducible exact Below.refl _ _) | (with_reducible refine Below.setCell ?_ (by first | exact Nat.le_refl _ | (simp; done) | (simp; omega) | omega) _) | (with_reducible refine Below.alloc ?_ (by first | exact Nat.le_refl _ | (simp; done) | (simp; omega) | omega) _) | (with_reducible refine below_drewN ?_ _) | (with_reducible refine Below.drew ?_))⟩
    · have hia := fun W q1 q2 => implChain_any a n c Z a2 n2 c2 Z2 W hn hn2 q1 q2
      rw [hv] at hia
      clear hv
      go_enter Try.func22, Try.ntmps22
      go_wp2_with fail
      go_at_call 38
      refine (hia _ (h.below (by repeat first | (with_reducible exact Below.refl _ _) | (with_reducible refine Below.setCell ?_ (by first | exact Nat.le_refl _ | (simp; done) | (simp; omega) | omega) _) | (with_reducible refine Below.alloc ?_ (by first | exact Nat.le_refl _ | (simp; done) | (simp; omega) | omega) _) | (with_reducible refine below_drewN ?_ _) | (with_reducible refine Below.drew ?_)) (Nat.le_refl _)) (h2.below (by repeat first | (with_reducible exact Below.refl _ _) | (with_reducible refine Below.setCell ?_ (by first | exact Nat.le_refl _ | (simp; done) | (simp; omega) | omega) _) | (with_reducible refine Below.alloc ?_ (by first | exact Nat.le_refl _ | (simp; done) | (simp; omega) | omega) _) | (with_reducible refine below_drewN ?_ _) | (with_reducible refine Below.drew ?_)) (Nat.le_refl _))).mono ?_
      rintro e w1 ⟨rfl, b1⟩
      have B1 : Below w.heap.size w w1 := Below.trans (by repeat first | (with_reducible exact Below.refl _ _) | (with_reducible refine Below.setCell ?_ (by first | exact Nat.le_refl _ | (simp; done) | (simp; omega) | omega) _) | (with_reducible refine Below.alloc ?_ (by first | exact Nat.le_refl _ | (simp; done) | (simp; omega) | omega) _) | (with_reducible refine below_drewN ?_ _) | (with_reducible refine Below.drew ?_)) (b1.mono (by simp; omega))
      have s1 : w.heap.size + 1 + 1 ≤ w1.heap.size := by have := b1.size; simp at this; omega
      obtain ⟨hc, hf⟩ := bcell b1
      go_wp2_with fail
      refine bodyPost_ret (v := .tuple #[.agg #[.int .i64 0, .int .i64 0, .slice none 0 0], .bool false]) (by simp [results, Try.results22, go_sem, hc]) rfl ?_
      exact ⟨none, 0, fun _ => 0, rfl, .inl ⟨rfl, rfl, rfl⟩, fun i hi => absurd hi (Nat.not_lt_zero _), (by repeat first | (with_reducible exact B1) | (with_reducible refine Below.setCell ?_ (by first | exact Nat.le_refl _ | (simp; done) | (simp; omega) | omega) _) | (with_reducible refine Below.alloc ?_ (by first | exact Nat.le_refl _ | (simp; done) | (simp; omega) | omega) _) | (with_reducible refine below_drewN ?_ _) | (with_reducible refine Below.drew ?_))⟩
  | true =>
    obtain ⟨h1, h12, e2, f1, f2⟩ := chain_nat hv
    refine ⟨true, n, n, n * n, vals (cmZ n Z Z2 n n2 n2), sides_le h12 h12, fun a c a2 c2 w h h2 => ?_, fun a c a2 c2 w h h2 => ?_⟩
    · obtain ⟨b, off, rfl, _, _, _⟩ := h.at (show 0 < n by omega)
      exact specChainMatrix_yes b off n c n2 c2 _ a2 Z Z2 w h1 h12 rfl e2 hv h h2
    · obtain ⟨b, off, rfl, _, _, _⟩ := h.at (show 0 < n by omega)
      exact implChainMatrix_yes b off n c n2 c2 _ a2 Z Z2 w h1 h12 rfl e2 hv h h2
end Go.Proofs.Ytffmjfgechdjjab
