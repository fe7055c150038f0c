/- Helper: squares that have given numbers in their first row, of the program and of its reference. Conditions: none. -/
import Derived.Test.YtcldaafmbmmhiaaWork
import Derived.Test.YtcldaafmbmmhiaaVecSums
import Derived.Test.YtcldaafmbmmhiaaPivot
set_option linter.unusedVariables false
namespace Go.Proofs.Ytcldaafmbmmhiaa
open Go.RowKit

/-- The numbers of the square, of which p of the first row are told, and the rows below q. -/
def comZ (c : Nat) (Y : Nat → Nat) (p q t : Nat) : Nat := if t < c then (if t < p then Op.negFloat .f32 (Y t) else 0) else (if t / c = t % c + 1 ∧ t / c < q then 1065353216 else 0)
theorem com_start {c : Nat} {Y : Nat → Nat} {q : Nat} (hq : q ≤ 1) (t : Nat) : comZ c Y 0 q t = 0 := by
  unfold comZ
  by_cases h : t < c
  · rw [if_pos h, if_neg (Nat.not_lt_zero _)]
  · rw [if_neg h, if_neg (by omega)]
theorem com_row {c : Nat} {Y : Nat → Nat} {p q : Nat} (hp : p < c) (t : Nat) : (if t = p then Op.negFloat .f32 (Y p) else comZ c Y p q t) = comZ c Y (p + 1) q t := by
  unfold comZ
  by_cases e : t = p
  · subst e
    rw [if_pos rfl, if_pos hp, if_pos (Nat.lt_succ_self _)]
  · rw [if_neg e]
    by_cases h : t < c
    · rw [if_pos h, if_pos h]
      by_cases h2 : t < p
      · rw [if_pos h2, if_pos (by omega)]
      · rw [if_neg h2, if_neg (by omega)]
    · rw [if_neg h, if_neg h]
theorem com_one {c : Nat} {Y : Nat → Nat} {p q : Nat} (h1 : q + 1 < c) (t : Nat) : (if t = (q + 1) * c + q then 1065353216 else comZ c Y p (q + 1) t) = comZ c Y p (q + 1 + 1) t := by
  unfold comZ
  by_cases e : t = (q + 1) * c + q
  · subst e
    obtain ⟨d1, d2⟩ := place_div (c := c) (j := q + 1) (k := q) (by omega)
    have hge : ¬ (q + 1) * c + q < c := by
      rw [Nat.add_mul, Nat.one_mul]; omega
    rw [if_pos rfl, if_neg hge, d1, d2, if_pos ⟨rfl, Nat.lt_succ_self _⟩]
  · rw [if_neg e]
    by_cases h : t < c
    · rw [if_pos h, if_pos h]
    · rw [if_neg h, if_neg h]
      by_cases h2 : t / c = t % c + 1 ∧ t / c < q + 1
      · rw [if_pos h2, if_pos ⟨h2.1, by omega⟩]
      · rw [if_neg h2, if_neg]
        rintro ⟨k1, k2⟩
        have k3 : t / c = q + 1 := by
          by_cases k : t / c < q + 1
          · exact absurd ⟨k1, k⟩ h2
          · omega
        have hp := place_eq (c := c) (t := t)
        rw [k3] at hp k1
        exact e (by rw [← hp]; congr 1; omega)
theorem neg_wf {x : Nat} (h : (Lit.float .f32 x).wf = true) : (Lit.float .f32 (Op.negFloat .f32 x)).wf = true := (fneg_not_nan .f32 x h).2
def comOk (c : Nat) (V : Nat → Option Nat) : Bool := decide (1 ≤ c) && (decide (c ≤ 12) && allFin V c)

set_option maxHeartbeats 2000000 in
theorem implComp_yes (b off c d n : Nat) (Y : Nat → Nat) (w : World) (h1 : 1 ≤ c) (h2 : c ≤ 12) (hn : n = c * c) (ha : allFin (vals Y) c = true) (h : FS .f32 w (some ⟨b, off, none⟩) c d Y) :
    Calls Try.prog 34 #[.slice (some ⟨b, off, none⟩) c d] w (MatOwn true c c n (vals (comZ c Y c c)) w) := by
  have hv : vecB c (vals Y) = true := by unfold vecB; rw [decide_eq_true h1, decide_eq_true (show c ≤ 256 by omega), ha]; rfl
  have hd : decide ((12 : Int) < c) = false := decide_eq_false (by omega)
  have hN := Lib.hid hn
  have hn144 : n ≤ 144 := by have := sides_le h2 h2; omega
  have hcn : c ≤ n := by rw [hn]; exact Nat.le_mul_of_pos_right _ h1
  clear hn
  go_enter Try.func34, Try.ntmps34
  go_wp2_with fail
  go_at_call 79
  refine (implVector_any _ c d Y _ (by omega) (h.below (by repeat first | (with_reducible exact Below.refl _ _) | (with_reducible refine Below.setCell ?_ (by first | exact Nat.le_refl _ | (simp; done) | (simp; omega) | omega) _) | (with_reducible refine Below.alloc ?_ (by first | exact Nat.le_refl _ | (simp; done) | (simp; omega) | omega) _) | (with_reducible refine below_drewN ?_ _) | (with_reducible refine Below.drew ?_)) (Nat.le_refl _))).mono ?_
  rintro e w' ⟨rfl, q, rfl⟩
  go_wp2_with fail
  go_at_call 55
  refine (newMatrix_any c c n _ h2 h2 hN.out).mono ?_
  rintro e w1 ⟨g, rfl, o1, b1'⟩
  have b1 : Below (w.alloc (.cells #[.int .i64 0, .int .i64 0, .slice none 0 0] 26)).heap.size (w.alloc (.cells #[.int .i64 0, .int .i64 0, .slice none 0 0] 26)) w1 := Below.trans (below_drewN (Below.refl _ _) q) (b1'.mono (Nat.le_refl _))
  have wk := Work.start (R := (c : Int)) (C := (c : Int)) 26 26 (Own.mono (B' := w.heap.size + 1) o1 (by simp) (Nat.le_refl _) (Nat.le_refl _)) b1
  clear o1 b1 b1'
  go_wp2
  clear hv hd ha
  go_loopw [25] (fun i wr => ∃ j : Nat, j ≤ c ∧ i = .int .i64 j ∧ Work w (w.heap.size + 1) w1.heap.size g w1.heap.size w.heap.size c c n (comZ c Y j 1) wr) (fun i _ => c - (intOf i).toNat)
  case atStart => exact ⟨0, Nat.zero_le _, rfl, wk.same (fun t _ => (com_start (Nat.le_refl _) t).symm)⟩
  case round =>
    obtain ⟨j, hj, rfl, hk⟩ := hrel
    clear wk
    have hpos : 0 < n := by omega
    obtain ⟨g1, g2, g3, g4⟩ := hk.facts hpos
    by_cases hlt : j < c
    · obtain ⟨y0, y1, y2⟩ := hk.box
      obtain ⟨b', off', e, hbl, hce, hfv⟩ := (h.below hk.bel (Nat.le_refl _)).at hlt
      simp only [Option.some.injEq, Addr.mk.injEq, and_true] at e
      obtain ⟨rfl, rfl⟩ := e
      have hst := hk.stored (t := j) (v := Op.negFloat .f32 (Y j)) (by omega) (neg_wf hfv.2)
      obtain ⟨hce2, hfr, _⟩ := hk.own.cell (show j < n by omega)
      have hst' := Lib.hid (hst.same (fun t _ => com_row hlt t))
      clear hst hk hfv hbl
      go_wp2_with fail
      go_roundw
      case rel => exact ⟨j + 1, by omega, by go_num, hst'.out⟩
      case measure => simp [intOf]; omega
    · obtain rfl : j = c := by omega
      obtain ⟨y0, y1, y2⟩ := hk.box
      have hk0 := Lib.hid hk
      clear hk y0 y1 y2
      go_wp2
      go_loopw [39] (fun i wr => ∃ q : Nat, q ≤ j - 1 ∧ i = .int .i64 q ∧ Work w (w.heap.size + 1) w1.heap.size g w1.heap.size w.heap.size j j n (comZ j Y j (q + 1)) wr) (fun i _ => j - (intOf i).toNat)
      case atStart => exact ⟨0, Nat.zero_le _, rfl, hk0.out⟩
      case round =>
        obtain ⟨q, hq, rfl, hk⟩ := hrel
        clear hk0
        by_cases hlt2 : q < j - 1
        · have hpl := place_lt (r := j) (i := q + 1) (c := j) (k := q) (by omega) (by omega)
          rw [← hN.out] at hpl
          obtain ⟨y0, y1, y2⟩ := hk.box
          have hk' := Lib.hid hk
          clear hk
          go_wp2_with fail
          go_at_call 56
          refine (rowOf_any g 0 j j n n (q + 1) _ h2 h1 h2 hN.out (Nat.le_refl _) (by omega) (by omega)).mono ?_
          rintro e w2 ⟨rfl, b2⟩
          obtain ⟨g1', g2', g3', g4'⟩ := hk'.out.facts hpos
          have hk2 := hk'.out.below b2 g3' g4'
          have hst := hk2.stored (t := (q + 1) * j + q) (v := 1065353216) hpl (by decide)
          obtain ⟨hce, hfr, _⟩ := hk2.own.cell hpl
          have hst' := Lib.hid (hst.same (fun t _ => com_one (by omega) t))
          simp only [Nat.zero_add] at *
          clear hst hk2 b2 hk' y0 y1 y2
          go_wp2_with fail
          go_roundw
          case rel => exact ⟨q + 1, by omega, by go_num, hst'.out⟩
          case measure => simp [intOf]; omega
        · obtain ⟨y0, y1, y2⟩ := hk.box
          obtain ⟨z0, z1, z2⟩ := hk.res
          obtain rfl : q = j - 1 := by omega
          have e1 : j - 1 + 1 = j := by omega
          rw [e1] at hk
          obtain ⟨g1', g2', g3', g4'⟩ := hk.facts hpos
          have o2 := hk.own
          have B2 := hk.bel
          have hlo := hk.lo
          have hmid := hk.mid
          have hice := hk.ice
          clear hk
          go_wp2_with fail
          refine bodyPost_ret (v := .tuple #[.agg #[.int .i64 j, .int .i64 j, .slice (some ⟨g, 0, none⟩) n n], .bool true]) (by simp [results, Try.results34, go_sem, y0, y1, y2, z0, z1, z2]) rfl ?_
          exact ⟨_, _, _, rfl, (by refine Own.to o2 (hk := fun g hg1 hg2 => by (try simp at hg1 hg2); repeat (first | rw [Below.heap_setCell _ _ _ _ (by simp; omega)] | rw [Below.heap_alloc _ _ _ (by simp [World.setCell]; omega)])) ?_ ?_ ?_ ?_ <;> (first | exact Nat.le_refl _ | omega | (simp [World.setCell]; done) | (simp [World.setCell]; omega))), fun i _ => rfl, (by repeat first | (with_reducible exact B2) | (with_reducible refine Below.setCell ?_ (by first | exact Nat.le_refl _ | (simp; done) | (simp; omega) | omega) _) | (with_reducible refine Below.alloc ?_ (by first | exact Nat.le_refl _ | (simp; done) | (simp; omega) | omega) _) | (with_reducible refine below_drewN ?_ _) | (with_reducible refine Below.drew ?_))⟩
theorem implComp_no (a : Option Addr) (c d : Nat) (Y : Nat → Nat) (w : World) (hn : c ≤ 1048576) (h : FS .f32 w a c d Y) (ho : comOk c (vals Y) = false) :
    Calls Try.prog 34 #[.slice a c d] w (MatOwn false 0 0 0 (fun _ => none) w) := by
  cases hv : vecB c (vals Y) with
  | false =>
    clear ho
    go_enter Try.func34, Try.ntmps34
    go_wp2_with fail
    go_at_call 79
    refine (implVector_any _ c d Y _ hn (h.below (by repeat first | (with_reducible exact Below.refl _ _) | (with_reducible refine Below.setCell ?_ (by first | exact Nat.le_refl _ | (simp; done) | (simp; omega) | omega) _) | (with_reducible refine Below.alloc ?_ (by first | exact Nat.le_refl _ | (simp; done) | (simp; omega) | omega) _) | (with_reducible refine below_drewN ?_ _) | (with_reducible refine Below.drew ?_)) (Nat.le_refl _))).mono ?_
    rintro e w' ⟨rfl, q, rfl⟩
    go_wp2_with fail
    refine bodyPost_ret (v := .tuple #[.agg #[.int .i64 0, .int .i64 0, .slice none 0 0], .bool false]) (by simp [results, Try.results34, go_sem]) rfl ?_
    exact ⟨none, 0, fun _ => 0, rfl, .inl ⟨rfl, rfl, rfl⟩, fun i hi => by omega, (by repeat first | (with_reducible exact Below.refl _ _) | (with_reducible refine Below.setCell ?_ (by first | exact Nat.le_refl _ | (simp; done) | (simp; omega) | omega) _) | (with_reducible refine Below.alloc ?_ (by first | exact Nat.le_refl _ | (simp; done) | (simp; omega) | omega) _) | (with_reducible refine below_drewN ?_ _) | (with_reducible refine Below.drew ?_))⟩
  | true =>
    have hc : ¬ c ≤ 12 := by
      intro hc
      have hv' := hv
      unfold vecB at hv'
      unfold comOk at ho
      simp only [Bool.and_eq_true, decide_eq_true_eq] at hv'
      rw [decide_eq_true hv'.1, decide_eq_true hc, hv'.2.2] at ho
      cases ho
    have hd : decide ((12 : Int) < c) = true := decide_eq_true (by omega)
    clear ho hc
    go_enter Try.func34, Try.ntmps34
    go_wp2_with fail
    go_at_call 79
    refine (implVector_any _ c d Y _ hn (h.below (by repeat first | (with_reducible exact Below.refl _ _) | (with_reducible refine Below.setCell ?_ (by first | exact Nat.le_refl _ | (simp; done) | (simp; omega) | omega) _) | (with_reducible refine Below.alloc ?_ (by first | exact Nat.le_refl _ | (simp; done) | (simp; omega) | omega) _) | (with_reducible refine below_drewN ?_ _) | (with_reducible refine Below.drew ?_)) (Nat.le_refl _))).mono ?_
    rintro e w' ⟨rfl, q, rfl⟩
    go_wp2_with fail
    refine bodyPost_ret (v := .tuple #[.agg #[.int .i64 0, .int .i64 0, .slice none 0 0], .bool false]) (by simp [results, Try.results34, go_sem]) rfl ?_
    exact ⟨none, 0, fun _ => 0, rfl, .inl ⟨rfl, rfl, rfl⟩, fun i hi => by omega, (by repeat first | (with_reducible exact Below.refl _ _) | (with_reducible refine Below.setCell ?_ (by first | exact Nat.le_refl _ | (simp; done) | (simp; omega) | omega) _) | (with_reducible refine Below.alloc ?_ (by first | exact Nat.le_refl _ | (simp; done) | (simp; omega) | omega) _) | (with_reducible refine below_drewN ?_ _) | (with_reducible refine Below.drew ?_))⟩
set_option maxHeartbeats 2000000 in
theorem specComp_yes (b off c d n : Nat) (Y : Nat → Nat) (w : World) (h1 : 1 ≤ c) (h2 : c ≤ 12) (hn : n = c * c) (ha : allFin (vals Y) c = true) (h : FS .f32 w (some ⟨b, off, none⟩) c d Y) :
    Calls Try.prog 32 #[.slice (some ⟨b, off, none⟩) c d] w (MatBel true c c n (vals (comZ c Y c c)) w) := by
  have hs : sideB (c : Int) = true := sideB_yes (by omega) (by omega)
  have hN := Lib.hid hn
  have hn144 : n ≤ 144 := by have := sides_le h2 h2; omega
  have hcn : c ≤ n := by rw [hn]; exact Nat.le_mul_of_pos_right _ h1
  clear hn
  go_enter Try.func32, Try.ntmps32
  go_wp2_with fail
  go_at_call 70
  refine (l00In_any _ _ _ _).mono ?_
  rintro e w' ⟨rfl, rfl⟩
  simp only [inB_side]
  go_wp2_with fail
  go_at_call 77
  refine (specFin_any _ c d Y _ (by omega) (h.below (by repeat first | (with_reducible exact Below.refl _ _) | (with_reducible refine Below.setCell ?_ (by first | exact Nat.le_refl _ | (simp; done) | (simp; omega) | omega) _) | (with_reducible refine Below.alloc ?_ (by first | exact Nat.le_refl _ | (simp; done) | (simp; omega) | omega) _) | (with_reducible refine below_drewN ?_ _) | (with_reducible refine Below.drew ?_)) (Nat.le_refl _))).mono ?_
  rintro e w' ⟨rfl, q, rfl⟩
  go_wp2_with fail
  go_at_call 78
  refine (l02Zero_any c c n _ h2 h2 hN.out).mono ?_
  rintro e w1 ⟨g, rfl, o1, b1'⟩
  have b1 : Below (w.alloc (.cells #[.int .i64 0, .int .i64 0, .slice none 0 0] 26)).heap.size (w.alloc (.cells #[.int .i64 0, .int .i64 0, .slice none 0 0] 26)) w1 := Below.trans (below_drewN (Below.refl _ _) q) (b1'.mono (Nat.le_refl _))
  have wk := Work.start (R := (c : Int)) (C := (c : Int)) 26 26 (Own.mono (B' := w.heap.size + 1) o1 (by simp) (Nat.le_refl _) (Nat.le_refl _)) b1
  clear o1 b1 b1'
  go_wp2
  clear hs ha
  go_loopw [6] (fun i wr => ∃ j : Nat, j ≤ c ∧ i = .int .i64 j ∧ Work w (w.heap.size + 1) w1.heap.size g w1.heap.size w.heap.size c c n (comZ c Y j j) wr) (fun i _ => c - (intOf i).toNat)
  case atStart => exact ⟨0, Nat.zero_le _, rfl, wk.same (fun t _ => (com_start (Nat.zero_le _) t).symm)⟩
  case round =>
    obtain ⟨j, hj, rfl, hk⟩ := hrel
    clear wk
    have hpos : 0 < n := by omega
    obtain ⟨g1, g2, g3, g4⟩ := hk.facts hpos
    by_cases hlt : j < c
    · obtain ⟨y0, y1, y2⟩ := hk.box
      obtain ⟨b', off', e, hbl, hce, hfv⟩ := (h.below hk.bel (Nat.le_refl _)).at hlt
      simp only [Option.some.injEq, Addr.mk.injEq, and_true] at e
      obtain ⟨rfl, rfl⟩ := e
      have hk' := Lib.hid hk
      have hwv := neg_wf hfv.2
      obtain ⟨hce2, hfr, _⟩ := hk.own.cell (show j < n by omega)
      clear hk hfv hbl
      go_wp2
      (refine wp_region_pivot_tail 99 9 (by kernel_rfl) (by kernel_rfl) ?_; simp only [List.take_succ_cons, List.take_zero, List.drop_succ_cons, List.drop_zero]; (repeat (refine wpPivot_plain rfl rfl rfl (fun K hK => ?_); go_big_quiet_op; refine hK _ ?_; clear hK K)))
      refine wpPivot_nil ?_
      rintro _ ⟨kk, rfl⟩
      have hst2 := ((hk'.out.drewN (m := kk)).stored (t := j) (v := Op.negFloat .f32 (Y j)) (by omega) hwv).same (fun t _ => com_row hlt t)
      by_cases h0 : j = 0
      · subst h0
        have hst' := Lib.hid (hst2.same (fun t _ => show comZ c Y (0 + 1) 0 t = comZ c Y (0 + 1) (0 + 1) t by unfold comZ; by_cases k : t < c <;> simp [k] <;> omega))
        clear hst2 hk' hwv
        go_wp2_with fail
        go_roundw
        case rel => exact ⟨1, by omega, by go_num, hst'.out⟩
        case measure => simp [intOf]; omega
      · obtain ⟨q, hq⟩ : ∃ q, q + 1 = j := ⟨j - 1, by omega⟩
        have hpl := place_lt (r := c) (i := j) (c := c) (k := q) (by omega) (by omega)
        rw [← hN.out] at hpl
        have hst3 := hst2.stored (t := j * c + q) (v := 1065353216) hpl (by decide)
        obtain ⟨hce3, hfr3, _⟩ := hst2.own.cell hpl
        have hst4 := hst3.same (Y := comZ c Y (j + 1) (j + 1)) (fun t _ => by subst hq; exact com_one (by omega) t)
        obtain ⟨z0, z1, z2⟩ := hst2.box
        obtain ⟨L, hL⟩ : ∃ L, j * c = L := ⟨_, rfl⟩
        obtain ⟨I, hI⟩ : ∃ I, L + q = I := ⟨_, rfl⟩
        obtain ⟨K, hK⟩ : ∃ K, L + j = K := ⟨_, rfl⟩
        rw [hL, hI] at hpl hst4 hce3 hfr3
        have hst' := Lib.hid hst4
        have hM : IntKind.i64.wrap ((j : Int) * (c : Int)) = (L : Int) := by
          have e : (j : Int) * (c : Int) = (L : Int) := by rw [← hL, Int.natCast_mul]
          rw [e]; exact IntWalk.i64_in _ (by omega)
        have hM1 : IntKind.i64.wrap ((L : Int) + (j : Int)) = (K : Int) := by
          have e : (L : Int) + (j : Int) = (K : Int) := by omega
          rw [e]; exact IntWalk.i64_in _ (by omega)
        have hM2 : IntKind.i64.wrap ((K : Int) - 1) = (I : Int) := by
          have e : (K : Int) - 1 = (I : Int) := by omega
          rw [e]; exact IntWalk.i64_in _ (by omega)
        have hd0 : decide ((0 : Int) < (j : Int)) = true := decide_eq_true (by omega)
        clear hst2 hst3 hst4 hk' hwv hL hI hK hq
        go_wp2_with fail
        go_roundw
        case rel => exact ⟨j + 1, by omega, by go_num, hst'.out⟩
        case measure => simp [intOf]; omega
    · obtain rfl : j = c := by omega
      obtain ⟨y0, y1, y2⟩ := hk.box
      obtain ⟨z0, z1, z2⟩ := hk.res
      have o2 := hk.own
      have B2 := hk.bel
      have hlo := hk.lo
      have hmid := hk.mid
      have hice := hk.ice
      clear hk
      go_wp2_with fail
      refine bodyPost_ret (v := .tuple #[.agg #[.int .i64 j, .int .i64 j, .slice (some ⟨g, 0, none⟩) n n], .bool true]) (by simp [results, Try.results32, go_sem, y0, y1, y2, z0, z1, z2]) rfl ?_
      exact ⟨_, _, _, rfl, Own.fs (B := w.heap.size) (U := w1.heap.size) (by refine Own.to o2 (hk := fun g hg1 hg2 => by (try simp at hg1 hg2); repeat (first | rw [Below.heap_setCell _ _ _ _ (by simp; omega)] | rw [Below.heap_alloc _ _ _ (by simp [World.setCell]; omega)])) ?_ ?_ ?_ ?_ <;> (first | exact Nat.le_refl _ | omega | (simp [World.setCell]; done) | (simp [World.setCell]; omega))), fun i _ => rfl, (by repeat first | (with_reducible exact B2) | (with_reducible refine Below.setCell ?_ (by first | exact Nat.le_refl _ | (simp; done) | (simp; omega) | omega) _) | (with_reducible refine Below.alloc ?_ (by first | exact Nat.le_refl _ | (simp; done) | (simp; omega) | omega) _) | (with_reducible refine below_drewN ?_ _) | (with_reducible refine Below.drew ?_))⟩
theorem specComp_no (a : Option Addr) (c d : Nat) (Y : Nat → Nat) (w : World) (hn : c ≤ 1048576) (h : FS .f32 w a c d Y) (ho : comOk c (vals Y) = false) :
    Calls Try.prog 32 #[.slice a c d] w (MatBel false 0 0 0 (fun _ => none) w) := by
  cases hs : sideB (c : Int) with
  | false =>
    clear ho
    go_enter Try.func32, Try.ntmps32
    go_wp2_with fail
    go_at_call 70
    refine (l00In_any _ _ _ _).mono ?_
    rintro e w' ⟨rfl, rfl⟩
    simp only [inB_side]
    go_wp2_with fail
    refine bodyPost_ret (v := .tuple #[.agg #[.int .i64 0, .int .i64 0, .slice none 0 0], .bool false]) (by simp [results, Try.results32, go_sem]) rfl ?_
    exact ⟨none, 0, fun _ => 0, rfl, ⟨Nat.le_refl _, Nat.zero_le _, fun i hi => by omega⟩, fun i hi => by omega, (by repeat first | (with_reducible exact Below.refl _ _) | (with_reducible refine Below.setCell ?_ (by first | exact Nat.le_refl _ | (simp; done) | (simp; omega) | omega) _) | (with_reducible refine Below.alloc ?_ (by first | exact Nat.le_refl _ | (simp; done) | (simp; omega) | omega) _) | (with_reducible refine below_drewN ?_ _) | (with_reducible refine Below.drew ?_))⟩
  | true =>
    have ha : allFin (vals Y) c = false := by
      obtain ⟨h1, h2⟩ := sideB_le hs
      unfold comOk at ho
      rw [decide_eq_true (show 1 ≤ c by omega), decide_eq_true (show c ≤ 12 by omega)] at ho
      simpa using ho
    clear ho
    go_enter Try.func32, Try.ntmps32
    go_wp2_with fail
    go_at_call 70
    refine (l00In_any _ _ _ _).mono ?_
    rintro e w' ⟨rfl, rfl⟩
    simp only [inB_side]
    go_wp2_with fail
    go_at_call 77
    refine (specFin_any _ c d Y _ hn (h.below (by repeat first | (with_reducible exact Below.refl _ _) | (with_reducible refine Below.setCell ?_ (by first | exact Nat.le_refl _ | (simp; done) | (simp; omega) | omega) _) | (with_reducible refine Below.alloc ?_ (by first | exact Nat.le_refl _ | (simp; done) | (simp; omega) | omega) _) | (with_reducible refine below_drewN ?_ _) | (with_reducible refine Below.drew ?_)) (Nat.le_refl _))).mono ?_
    rintro e w' ⟨rfl, q, rfl⟩
    go_wp2_with fail
    refine bodyPost_ret (v := .tuple #[.agg #[.int .i64 0, .int .i64 0, .slice none 0 0], .bool false]) (by simp [results, Try.results32, go_sem]) rfl ?_
    exact ⟨none, 0, fun _ => 0, rfl, ⟨Nat.le_refl _, Nat.zero_le _, fun i hi => by omega⟩, fun i hi => by omega, (by repeat first | (with_reducible exact Below.refl _ _) | (with_reducible refine Below.setCell ?_ (by first | exact Nat.le_refl _ | (simp; done) | (simp; omega) | omega) _) | (with_reducible refine Below.alloc ?_ (by first | exact Nat.le_refl _ | (simp; done) | (simp; omega) | omega) _) | (with_reducible refine below_drewN ?_ _) | (with_reducible refine Below.drew ?_))⟩
theorem keyCompanionMatrix (c : Nat) (Y : Nat → Nat) (hn : c ≤ 1048576) : ∃ (ok : Bool) (R C : Int) (n : Nat) (V : Nat → Option Nat), n ≤ 144 ∧
    (∀ a d W, FS .f32 W a c d Y → Calls Try.prog 32 #[.slice a c d] W (MatBel ok R C n V W)) ∧
    (∀ a d W, FS .f32 W a c d Y → Calls Try.prog 34 #[.slice a c d] W (MatOwn ok R C n V W)) := by
  cases ho : comOk c (vals Y) with
  | false => exact ⟨false, 0, 0, 0, fun _ => none, by omega, fun a d W h => specComp_no a c d Y W hn h ho, fun a d W h => implComp_no a c d Y W hn h ho⟩
  | true =>
    unfold comOk at ho
    simp only [Bool.and_eq_true, decide_eq_true_eq] at ho
    obtain ⟨h1, h2, h3⟩ := ho
    refine ⟨true, c, c, c * c, vals (comZ c Y c c), sides_le h2 h2, fun a d W h => ?_, fun a d W h => ?_⟩
    · obtain ⟨b, off, rfl, _, _, _⟩ := h.at (show 0 < c by omega)
      exact specComp_yes b off c d _ Y W h1 h2 rfl h3 h
    · obtain ⟨b, off, rfl, _, _, _⟩ := h.at (show 0 < c by omega)
      exact implComp_yes b off c d _ Y W h1 h2 rfl h3 h
end Go.Proofs.Ytcldaafmbmmhiaa
