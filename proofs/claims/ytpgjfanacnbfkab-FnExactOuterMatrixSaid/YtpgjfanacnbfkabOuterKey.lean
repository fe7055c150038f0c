/- Helper: the products of the numbers of two lists, of the program and of its reference. Conditions: none. -/
import Derived.Test.YtpgjfanacnbfkabGive
import Derived.Deep.RegionLaw
set_option linter.unusedVariables false
namespace Go.Proofs.Ytpgjfanacnbfkab
open Go.RowKit

def outB (n n2 : Nat) (V W : Nat → Option Nat) : Bool := vecB n V && (vecB n2 W && (decide (n ≤ 12) && decide (n2 ≤ 12)))
def out (c : Nat) (Z Y : Nat → Nat) (t : Nat) : Option Nat := fop .mul .f32 (vals Z (t / c)) (vals Y (t % c))
theorem out_at {c j k : Nat} {Z Y : Nat → Nat} (hk : k < c) : out c Z Y (j * c + k) = fop .mul .f32 (vals Z j) (vals Y k) := by
  obtain ⟨h1, h2⟩ := place_div (j := j) hk
  unfold out
  rw [h1, h2]
theorem vecB_parts {n : Nat} {V : Nat → Option Nat} (h : vecB n V = true) : 1 ≤ n ∧ allFin V n = true := by
  unfold vecB at h; simp at h; exact ⟨h.1, h.2.2⟩

set_option maxHeartbeats 2000000 in
theorem implOuter_no (a b : Option Addr) (n c n2 d : Nat) (Z Y : Nat → Nat) (w : World) (hn : n ≤ 1048576) (hm : n2 ≤ 1048576) (h : FS .f32 w a n c Z) (h2 : FS .f32 w b n2 d Y) (ho : outB n n2 (vals Z) (vals Y) = false) :
    Calls Try.prog 31 #[.slice a n c, .slice b n2 d] w (MatOwn false 0 0 0 (fun _ => none) w) := by
  cases hv : vecB n (vals Z) <;> cases hv2 : vecB n2 (vals Y) <;> by_cases h12 : n ≤ 12 <;> by_cases h22 : n2 ≤ 12
  all_goals
    first
      | (exfalso; unfold outB at ho; rw [hv, hv2, decide_eq_true h12, decide_eq_true h22] at ho; cases ho; done)
      | (first
           | (have d1 : decide ((12 : Int) < n) = true := decide_eq_true (by omega))
           | (have d1 : decide ((12 : Int) < n) = false := decide_eq_false (by omega))
         first
           | (have d2 : decide ((12 : Int) < n2) = true := decide_eq_true (by omega))
           | (have d2 : decide ((12 : Int) < n2) = false := decide_eq_false (by omega))
         clear h12 h22 ho
         go_enter Try.func31, Try.ntmps31
         go_wp2_with (go_at_call 79; first | ((with_reducible refine (implVector_any a n c Z _ hn (h.below (by repeat first | (with_reducible exact Below.refl _ _) | (with_reducible refine Below.setCell ?_ (by first | exact Nat.le_refl _ | (simp; done) | (simp; omega) | omega) _) | (with_reducible refine Below.alloc ?_ (by first | exact Nat.le_refl _ | (simp; done) | (simp; omega) | omega) _) | (with_reducible refine below_drewN ?_ _) | (with_reducible refine Below.drew ?_)) (Nat.le_refl _))).mono ?_); rintro e w' ⟨rfl, q, rfl⟩) | ((with_reducible refine (implVector_any b n2 d Y _ hm (h2.below (by repeat first | (with_reducible exact Below.refl _ _) | (with_reducible refine Below.setCell ?_ (by first | exact Nat.le_refl _ | (simp; done) | (simp; omega) | omega) _) | (with_reducible refine Below.alloc ?_ (by first | exact Nat.le_refl _ | (simp; done) | (simp; omega) | omega) _) | (with_reducible refine below_drewN ?_ _) | (with_reducible refine Below.drew ?_)) (Nat.le_refl _))).mono ?_); rintro e w' ⟨rfl, q2, rfl⟩))
         refine bodyPost_ret (v := .tuple #[.agg #[.int .i64 0, .int .i64 0, .slice none 0 0], .bool false]) (by simp [results, Try.results31, go_sem]) rfl ?_
         exact ⟨none, 0, fun _ => 0, rfl, .inl ⟨rfl, rfl, rfl⟩, fun i hi => by omega, (by repeat first | (with_reducible exact Below.refl _ _) | (with_reducible refine Below.setCell ?_ (by first | exact Nat.le_refl _ | (simp; done) | (simp; omega) | omega) _) | (with_reducible refine Below.alloc ?_ (by first | exact Nat.le_refl _ | (simp; done) | (simp; omega) | omega) _) | (with_reducible refine below_drewN ?_ _) | (with_reducible refine Below.drew ?_))⟩)
set_option maxHeartbeats 2000000 in
theorem implOuter_yes (p1 o1 r c1 p2 o2 c d n : Nat) (Z Y : Nat → Nat) (w : World) (h12 : r ≤ 12) (h22 : c ≤ 12) (hv : vecB r (vals Z) = true) (hv2 : vecB c (vals Y) = true) (hn : n = r * c) (h : FS .f32 w (some ⟨p1, o1, none⟩) r c1 Z) (h2 : FS .f32 w (some ⟨p2, o2, none⟩) c d Y) :
    Calls Try.prog 31 #[.slice (some ⟨p1, o1, none⟩) r c1, .slice (some ⟨p2, o2, none⟩) c d] w (OwnIf (allFin (out c Z Y) n) r c n (out c Z Y) w) := by
  have h11 := (vecB_parts hv).1
  have h21 := (vecB_parts hv2).1
  have hN := Lib.hid hn
  have hn144 : n ≤ 144 := by have := sides_le h12 h22; omega
  clear hn
  have d1 : decide ((12 : Int) < r) = false := decide_eq_false (by omega)
  have d2 : decide ((12 : Int) < c) = false := decide_eq_false (by omega)
  go_enter Try.func31, Try.ntmps31
  go_wp2_with fail
  go_at_call 79
  refine (implVector_any _ r c1 Z _ (by omega) (h.below (by repeat first | (with_reducible exact Below.refl _ _) | (with_reducible refine Below.setCell ?_ (by first | exact Nat.le_refl _ | (simp; done) | (simp; omega) | omega) _) | (with_reducible refine Below.alloc ?_ (by first | exact Nat.le_refl _ | (simp; done) | (simp; omega) | omega) _) | (with_reducible refine below_drewN ?_ _) | (with_reducible refine Below.drew ?_)) (Nat.le_refl _))).mono ?_
  rintro e w' ⟨rfl, q, rfl⟩
  go_wp2_with fail
  go_at_call 79
  refine (implVector_any _ c d Y _ (by omega) (h2.below (by repeat first | (with_reducible exact Below.refl _ _) | (with_reducible refine Below.setCell ?_ (by first | exact Nat.le_refl _ | (simp; done) | (simp; omega) | omega) _) | (with_reducible refine Below.alloc ?_ (by first | exact Nat.le_refl _ | (simp; done) | (simp; omega) | omega) _) | (with_reducible refine below_drewN ?_ _) | (with_reducible refine Below.drew ?_)) (Nat.le_refl _))).mono ?_
  rintro e w' ⟨rfl, q2, rfl⟩
  go_wp2_with fail
  go_at_call 59
  refine (newMatrix_any r c n _ h12 h22 hN.out).mono ?_
  rintro e w1 ⟨g, rfl, o1', b1⟩
  have b1' : Below (w.alloc (.cells #[.int .i64 0, .int .i64 0, .slice none 0 0] 26)).heap.size (w.alloc (.cells #[.int .i64 0, .int .i64 0, .slice none 0 0] 26)) w1 := (below_drewN (Below.refl _ (w.alloc (.cells #[.int .i64 0, .int .i64 0, .slice none 0 0] 26))) (q + q2)).trans (b1.mono (Nat.le_refl _))
  have wk := Work.start (w := w) (R := (r : Int)) (C := (c : Int)) 26 26 (Own.mono (B' := w.heap.size + 1) o1' (by simp [World.drewN]) (Nat.le_refl _) (Nat.le_refl _)) b1'
  clear o1' b1 b1'
  clear hv hv2 d1 d2
  go_wp2
  go_loopw [38] (fun i wr => ∃ (j : Nat) (X : Nat → Nat), j ≤ r ∧ i = .int .i64 j ∧ (∀ t, t < j * c → FV .f32 (X t) (out c Z Y t)) ∧ Work w (w.heap.size + 1) w1.heap.size g w1.heap.size w.heap.size r c n X wr) (fun i _ => r - (intOf i).toNat)
  case atStart => exact ⟨0, _, Nat.zero_le _, rfl, fun t ht => absurd ht (by rw [Nat.zero_mul]; exact Nat.not_lt_zero _), wk⟩
  case round =>
    obtain ⟨j, X, hj, rfl, hv, hk⟩ := hrel
    have hV := Lib.hid hv
    clear wk hv
    have hpos : 0 < n := by rw [hN.out]; exact Nat.mul_pos h11 h21
    obtain ⟨g1, g2, g3, g4⟩ := hk.facts hpos
    by_cases hlt : j < r
    · obtain ⟨y0, y1, y2⟩ := hk.box
      obtain ⟨pb, po, pe, hbl, hce, hfv⟩ := (h.below hk.bel (Nat.le_refl _)).at hlt
      simp only [Option.some.injEq, Addr.mk.injEq, and_true] at pe
      obtain ⟨rfl, rfl⟩ := pe
      have fz : FV .f32 (Z j) (vals Z j) := FV.mk' hfv.2
      have hk' := Lib.hid hk
      clear hk hbl hfv
      generalize Z j = z at hce fz
      generalize hzj : vals Z j = zz at fz
      have hzj' := Lib.hid hzj
      clear hzj
      go_wp2_with fail
      go_at_call 65
      refine (rowOf_any g 0 r c n n j _ h12 h21 h22 hN.out (Nat.le_refl _) (by omega) hlt).mono ?_
      rintro e w2 ⟨rfl, b2⟩
      have hk2 := hk'.out.below b2 g3 g4
      simp only [Nat.zero_add] at *
      clear b2 hk' y0 y1 y2 hce
      go_wp2
      go_loopw [48] (fun k wr => ∃ (q : Nat) (X2 : Nat → Nat), q ≤ c ∧ k = .int .i64 q ∧ (∀ t, t < j * c + q → FV .f32 (X2 t) (out c Z Y t)) ∧ Work w (w.heap.size + 1) w1.heap.size g w1.heap.size w.heap.size r c n X2 wr) (fun k _ => c - (intOf k).toNat)
      case atStart => exact ⟨0, X, Nat.zero_le _, rfl, hV.out, hk2⟩
      case round =>
        obtain ⟨q, X2, hq, rfl, hv2, hk3⟩ := hrel
        have hV2 := Lib.hid hv2
        clear hk2 hv2
        by_cases hlt2 : q < c
        · have hpl := place_lt hlt hlt2
          rw [← hN.out] at hpl
          obtain ⟨hce2, hfr, _⟩ := hk3.own.cell hpl
          obtain ⟨pb, po, pe, hbl, hce, hfv⟩ := (h2.below hk3.bel (Nat.le_refl _)).at hlt2
          simp only [Option.some.injEq, Addr.mk.injEq, and_true] at pe
          obtain ⟨rfl, rfl⟩ := pe
          have fy : FV .f32 (Y q) (vals Y q) := FV.mk' hfv.2
          have hk4 := Lib.hid hk3
          clear hk3 hbl hfv
          generalize X2 (j * c + q) = old at hce2
          generalize Y q = y at hce fy
          generalize hyj : vals Y q = yy at fy
          have hyj' := Lib.hid hyj
          clear hyj
          go_wp2_with (first | (refine wpList_farith rfl _ _ _ _ _ rfl rfl _ _ _ rfl rfl fz fy ?_; intro rr m hr))
          have hst := (hk4.out.drewN (m := m)).stored (t := j * c + q) (v := rr) hpl hr.2
          have hst' := Lib.hid hst
          have hvn : Hid (∀ t, t < j * c + (q + 1) → FV .f32 (if t = j * c + q then rr else X2 t) (out c Z Y t)) := by
            refine Lib.hid fun t ht => ?_
            by_cases e : t = j * c + q
            · subst e; rw [if_pos rfl, out_at hlt2, hzj'.out, hyj'.out]; exact hr
            · rw [if_neg e]; exact hV2.out t (by omega)
          clear hst
          go_roundw
          case rel => exact ⟨q + 1, _, by omega, by go_num, hvn.out, hst'.out⟩
          case measure => simp [intOf]; omega
        · obtain rfl : q = c := by omega
          have hk4 := Lib.hid hk3
          clear hk3
          go_wp2
          go_roundw
          case rel => exact ⟨j + 1, X2, by omega, by go_num, fun t ht => hV2.out t (by rw [Nat.add_mul, Nat.one_mul] at ht; exact ht), hk4.out⟩
          case measure => simp [intOf]; omega
    · obtain rfl : j = r := by omega
      obtain ⟨y0, y1, y2⟩ := hk.box
      have hvB : validB j c n (vals X) = allFin (out c Z Y) n := (validB_nat h11 h12 h21 h22 hN.out).trans (allFin_congr fun t ht => (hV.out t (by rw [← hN.out]; exact ht)).1)
      have hfs := hk.own.fs
      cases hf : allFin (out c Z Y) n with
      | true =>
        rw [hf] at hvB
        go_wp2_with fail
        go_at_call 67
        refine (implGive_yes _ _ _ _ _ X _ (by omega) hfs hvB).mono ?_
        rintro e w3 ⟨rfl, b3⟩
        have hk2 := hk.below b3 g3 g4
        clear hk hfs y0 y1 y2
        obtain ⟨z0, z1, z2⟩ := hk2.res
        have o2 := hk2.own
        have B2 := hk2.bel
        have hlo := hk2.lo
        have hmid := hk2.mid
        have hice := hk2.ice
        obtain ⟨_, _, g3', _⟩ := hk2.facts hpos
        clear hk2
        go_wp2_with fail
        refine bodyPost_ret (v := .tuple #[.agg #[.int .i64 j, .int .i64 c, .slice (some ⟨g, 0, none⟩) n n], .bool true]) (by simp [results, Try.results31, go_sem, z0, z1, z2]) rfl ?_
        exact OwnIf.yes hf ⟨_, _, _, rfl, (by refine Own.to o2 (hk := fun g hg1 hg2 => by (try simp at hg1 hg2); repeat (first | rw [Below.heap_setCell _ _ _ _ (by simp; omega)] | rw [Below.heap_alloc _ _ _ (by simp [World.setCell]; omega)])) ?_ ?_ ?_ ?_ <;> (first | exact Nat.le_refl _ | omega | (simp [World.setCell]; done) | (simp [World.setCell]; omega))), fun i hi => (hV.out i (by rw [← hN.out]; exact hi)).1, (by repeat first | (with_reducible exact B2) | (with_reducible refine Below.setCell ?_ (by first | exact Nat.le_refl _ | (simp; done) | (simp; omega) | omega) _) | (with_reducible refine Below.alloc ?_ (by first | exact Nat.le_refl _ | (simp; done) | (simp; omega) | omega) _) | (with_reducible refine below_drewN ?_ _) | (with_reducible refine Below.drew ?_))⟩
      | false =>
        rw [hf] at hvB
        go_wp2_with fail
        go_at_call 67
        refine (implGive_no _ _ _ _ _ X _ (by omega) hfs hvB).mono ?_
        rintro e w3 ⟨rfl, b3⟩
        have hk2 := hk.below b3 g3 g4
        clear hk hfs y0 y1 y2
        obtain ⟨z0, z1, z2⟩ := hk2.res
        have B2 := hk2.bel
        have hice := hk2.ice
        clear hk2
        go_wp2_with fail
        refine bodyPost_ret (v := .tuple #[.agg #[.int .i64 0, .int .i64 0, .slice none 0 0], .bool false]) (by simp [results, Try.results31, go_sem, z0, z1, z2]) rfl ?_
        exact OwnIf.no hf ⟨none, 0, fun _ => 0, rfl, .inl ⟨rfl, rfl, rfl⟩, fun i hi => by omega, (by repeat first | (with_reducible exact B2) | (with_reducible refine Below.setCell ?_ (by first | exact Nat.le_refl _ | (simp; done) | (simp; omega) | omega) _) | (with_reducible refine Below.alloc ?_ (by first | exact Nat.le_refl _ | (simp; done) | (simp; omega) | omega) _) | (with_reducible refine below_drewN ?_ _) | (with_reducible refine Below.drew ?_))⟩

set_option maxHeartbeats 2000000 in
theorem specOuter_no (a b : Option Addr) (n c n2 d : Nat) (Z Y : Nat → Nat) (w : World) (hn : n ≤ 1048576) (hm : n2 ≤ 1048576) (h : FS .f32 w a n c Z) (h2 : FS .f32 w b n2 d Y) (ho : outB n n2 (vals Z) (vals Y) = false) :
    Calls Try.prog 30 #[.slice a n c, .slice b n2 d] w (MatBel false 0 0 0 (fun _ => none) w) := by
  have hsd : ∀ W, Calls Try.prog 81 #[.int .i64 n, .int .i64 n2] W fun e w' => e = .returned (.bool (sideB n && sideB n2)) ∧ W = w' := fun W => specSides_any _ _ W
  cases hv : vecB n (vals Z) <;> cases hv2 : vecB n2 (vals Y)
  case true.true =>
    have hq : (sideB n && sideB n2) = false := by
      have h1 := (vecB_parts hv).1
      have h2 := (vecB_parts hv2).1
      unfold outB at ho
      rw [hv, hv2] at ho
      unfold sideB
      rw [decide_eq_true (show (1 : Int) ≤ n by omega), decide_eq_true (show (1 : Int) ≤ n2 by omega)]
      by_cases h12 : n ≤ 12
      · by_cases h22 : n2 ≤ 12
        · rw [decide_eq_true h12, decide_eq_true h22] at ho; cases ho
        · rw [decide_eq_false (show ¬ (n2 : Int) ≤ 12 by omega)]; simp
      · rw [decide_eq_false (show ¬ (n : Int) ≤ 12 by omega)]; simp
    rw [hq] at hsd
    clear ho hq
    go_enter Try.func30, Try.ntmps30
    go_wp2_with (first | (go_at_call 81; refine (hsd _).mono ?_; rintro e w' ⟨rfl, rfl⟩) | (go_at_call 75; first | ((with_reducible refine (specVector_any a n c Z _ hn (h.below (by repeat first | (with_reducible exact Below.refl _ _) | (with_reducible refine Below.setCell ?_ (by first | exact Nat.le_refl _ | (simp; done) | (simp; omega) | omega) _) | (with_reducible refine Below.alloc ?_ (by first | exact Nat.le_refl _ | (simp; done) | (simp; omega) | omega) _) | (with_reducible refine below_drewN ?_ _) | (with_reducible refine Below.drew ?_)) (Nat.le_refl _))).mono ?_); rintro e w' ⟨rfl, q, rfl⟩) | ((with_reducible refine (specVector_any b n2 d Y _ hm (h2.below (by repeat first | (with_reducible exact Below.refl _ _) | (with_reducible refine Below.setCell ?_ (by first | exact Nat.le_refl _ | (simp; done) | (simp; omega) | omega) _) | (with_reducible refine Below.alloc ?_ (by first | exact Nat.le_refl _ | (simp; done) | (simp; omega) | omega) _) | (with_reducible refine below_drewN ?_ _) | (with_reducible refine Below.drew ?_)) (Nat.le_refl _))).mono ?_); rintro e w' ⟨rfl, q2, rfl⟩)))
    refine bodyPost_ret (v := .tuple #[.agg #[.int .i64 0, .int .i64 0, .slice none 0 0], .bool false]) (by simp [results, Try.results30, go_sem]) rfl ?_
    exact ⟨none, 0, fun _ => 0, rfl, ⟨Nat.le_refl _, Nat.zero_le _, fun i hi => by omega⟩, fun i hi => by omega, (by repeat first | (with_reducible exact Below.refl _ _) | (with_reducible refine Below.setCell ?_ (by first | exact Nat.le_refl _ | (simp; done) | (simp; omega) | omega) _) | (with_reducible refine Below.alloc ?_ (by first | exact Nat.le_refl _ | (simp; done) | (simp; omega) | omega) _) | (with_reducible refine below_drewN ?_ _) | (with_reducible refine Below.drew ?_))⟩
  all_goals
    clear ho hsd
    go_enter Try.func30, Try.ntmps30
    go_wp2_with (go_at_call 75; first | ((with_reducible refine (specVector_any a n c Z _ hn (h.below (by repeat first | (with_reducible exact Below.refl _ _) | (with_reducible refine Below.setCell ?_ (by first | exact Nat.le_refl _ | (simp; done) | (simp; omega) | omega) _) | (with_reducible refine Below.alloc ?_ (by first | exact Nat.le_refl _ | (simp; done) | (simp; omega) | omega) _) | (with_reducible refine below_drewN ?_ _) | (with_reducible refine Below.drew ?_)) (Nat.le_refl _))).mono ?_); rintro e w' ⟨rfl, q, rfl⟩) | ((with_reducible refine (specVector_any b n2 d Y _ hm (h2.below (by repeat first | (with_reducible exact Below.refl _ _) | (with_reducible refine Below.setCell ?_ (by first | exact Nat.le_refl _ | (simp; done) | (simp; omega) | omega) _) | (with_reducible refine Below.alloc ?_ (by first | exact Nat.le_refl _ | (simp; done) | (simp; omega) | omega) _) | (with_reducible refine below_drewN ?_ _) | (with_reducible refine Below.drew ?_)) (Nat.le_refl _))).mono ?_); rintro e w' ⟨rfl, q2, rfl⟩))
    refine bodyPost_ret (v := .tuple #[.agg #[.int .i64 0, .int .i64 0, .slice none 0 0], .bool false]) (by simp [results, Try.results30, go_sem]) rfl ?_
    exact ⟨none, 0, fun _ => 0, rfl, ⟨Nat.le_refl _, Nat.zero_le _, fun i hi => by omega⟩, fun i hi => by omega, (by repeat first | (with_reducible exact Below.refl _ _) | (with_reducible refine Below.setCell ?_ (by first | exact Nat.le_refl _ | (simp; done) | (simp; omega) | omega) _) | (with_reducible refine Below.alloc ?_ (by first | exact Nat.le_refl _ | (simp; done) | (simp; omega) | omega) _) | (with_reducible refine below_drewN ?_ _) | (with_reducible refine Below.drew ?_))⟩
theorem place_succ {j c : Nat} : j * c + c = (j + 1) * c := by rw [Nat.add_mul, Nat.one_mul]
set_option maxHeartbeats 4000000 in
theorem specOuter_yes (p1 o1 r c1 p2 o2 c d n : Nat) (Z Y : Nat → Nat) (w : World) (h12 : r ≤ 12) (h22 : c ≤ 12) (hv : vecB r (vals Z) = true) (hv2 : vecB c (vals Y) = true) (hn : n = r * c) (h : FS .f32 w (some ⟨p1, o1, none⟩) r c1 Z) (h2 : FS .f32 w (some ⟨p2, o2, none⟩) c d Y) :
    Calls Try.prog 30 #[.slice (some ⟨p1, o1, none⟩) r c1, .slice (some ⟨p2, o2, none⟩) c d] w (BelIf (allFin (out c Z Y) n) r c n (out c Z Y) w) := by
  obtain ⟨h11, hf1⟩ := vecB_parts hv
  obtain ⟨h21, hf2⟩ := vecB_parts hv2
  have hF1 := Lib.hid hf1
  have hF2 := Lib.hid hf2
  have hsd : ∀ W, Calls Try.prog 81 #[.int .i64 r, .int .i64 c] W fun e w' => e = .returned (.bool true) ∧ W = w' := fun W => by
    have hh := specSides_any r c W
    rw [sideB_yes (show (1 : Int) ≤ r by omega) (by omega), sideB_yes (show (1 : Int) ≤ c by omega) (by omega)] at hh
    exact hh
  have hN := Lib.hid hn
  have hn144 : n ≤ 144 := by have := sides_le h12 h22; omega
  clear hn hf1 hf2
  go_enter Try.func30, Try.ntmps30
  go_wp2_with fail
  go_at_call 75
  refine (specVector_any _ r c1 Z _ (by omega) (h.below (by repeat first | (with_reducible exact Below.refl _ _) | (with_reducible refine Below.setCell ?_ (by first | exact Nat.le_refl _ | (simp; done) | (simp; omega) | omega) _) | (with_reducible refine Below.alloc ?_ (by first | exact Nat.le_refl _ | (simp; done) | (simp; omega) | omega) _) | (with_reducible refine below_drewN ?_ _) | (with_reducible refine Below.drew ?_)) (Nat.le_refl _))).mono ?_
  rintro e w' ⟨rfl, q, rfl⟩
  go_wp2_with fail
  go_at_call 75
  refine (specVector_any _ c d Y _ (by omega) (h2.below (by repeat first | (with_reducible exact Below.refl _ _) | (with_reducible refine Below.setCell ?_ (by first | exact Nat.le_refl _ | (simp; done) | (simp; omega) | omega) _) | (with_reducible refine Below.alloc ?_ (by first | exact Nat.le_refl _ | (simp; done) | (simp; omega) | omega) _) | (with_reducible refine below_drewN ?_ _) | (with_reducible refine Below.drew ?_)) (Nat.le_refl _))).mono ?_
  rintro e w' ⟨rfl, q2, rfl⟩
  go_wp2_with (go_at_call 81; refine (hsd _).mono ?_; rintro e w' ⟨rfl, rfl⟩)
  go_at_call 82
  refine (l02Blank_any _ _ _).mono ?_
  rintro e w1 ⟨g, rfl, o1', b1⟩
  have s1 : w.heap.size + 1 ≤ w1.heap.size := (by have hh := b1.size; (try simp [World.drewN] at hh); omega)
  have hB : Build w w1.heap.size w.heap.size r c 0 (out c Z Y) _ (some ⟨g, 0, none⟩) 0 [] := Build.start1 (T1 := 0) (T2 := 26) (by simp [World.drewN]) b1 (by refine ⟨?_, ?_, ?_⟩ <;> simp [go_sem]) (by intro i; simp [go_sem]) (by repeat first | (with_reducible exact Below.refl _ _) | (with_reducible refine Below.setCell ?_ (by first | exact Nat.le_refl _ | (simp; done) | (simp; omega) | omega) _) | (with_reducible refine Below.alloc ?_ (by first | exact Nat.le_refl _ | (simp; done) | (simp; omega) | omega) _) | (with_reducible refine below_drewN ?_ _) | (with_reducible refine Below.drew ?_)) o1'
  clear o1' b1 hsd hv hv2
  generalize hob : w1.heap.size = ob at hB s1
  have hob' := Lib.hid hob
  go_wp2
  clear hob
  go_loopw [7] (fun i wr => ∃ (j : Nat) (a : Option Addr) (cp : Nat) (xs : List Value), j ≤ r ∧ i = .int .i64 j ∧ Build w ob w.heap.size r c (j * c) (out c Z Y) wr a cp xs) (fun i _ => r - (intOf i).toNat)
  case atStart => exact ⟨0, _, _, _, Nat.zero_le _, rfl, by rw [Nat.zero_mul]; exact hB⟩
  case round =>
    obtain ⟨j, a, cp, xs, hj, rfl, hk⟩ := hrel
    clear hB
    by_cases hlt : j < r
    · have hk1 := Lib.hid hk
      clear hk
      go_wp2
      go_loopw [8] (fun k wr => ∃ (t : Nat) (a : Option Addr) (cp : Nat) (xs : List Value), t ≤ c ∧ k = .int .i64 t ∧ Build w ob w.heap.size r c (j * c + t) (out c Z Y) wr a cp xs) (fun k _ => c - (intOf k).toNat)
      case atStart => exact ⟨0, _, _, _, Nat.zero_le _, rfl, hk1.out⟩
      case round =>
        obtain ⟨t, a, cp, xs, ht, rfl, hk⟩ := hrel
        clear hk1
        have hlo := hk.lo
        have hmid := hk.mid
        by_cases hlt2 : t < c
        · have hpl := place_lt hlt hlt2
          rw [← hN.out] at hpl
          obtain ⟨pb, po, pe, hbl, hc1, hfv⟩ := (h.below hk.bel (Nat.le_refl _)).at hlt
          simp only [Option.some.injEq, Addr.mk.injEq, and_true] at pe
          obtain ⟨rfl, rfl⟩ := pe
          obtain ⟨pb, po, pe, hbl2, hc2, hfv2⟩ := (h2.below hk.bel (Nat.le_refl _)).at hlt2
          simp only [Option.some.injEq, Addr.mk.injEq, and_true] at pe
          obtain ⟨rfl, rfl⟩ := pe
          obtain ⟨rr, hmul, hfz⟩ := mul_fin (x := Z j) (y := Y t) (show finite .f32 (vals Z j) = true from allFin_lt hF1.out hlt) (show finite .f32 (vals Y t) = true from allFin_lt hF2.out hlt2)
          have hfz' : Hid (FV .f32 rr (out c Z Y (j * c + t))) := Lib.hid (by rw [out_at hlt2]; exact hfz)
          clear hfz hbl hfv hbl2 hfv2
          generalize Z j = z at hc1 hmul
          generalize Y t = y at hc2 hmul
          have hqr : ∀ W, (binOp .mul 59 (.float .f32 z) (.float .f32 y)).run Try.prog W = .ok (.float .f32 rr) W := fun W => run_float_arith W .mul _ .f32 z y rr hmul
          generalize hJ : j * c + t = J at hk hfz' hpl
          have hJ' := Lib.hid hJ
          clear hJ
          obtain ⟨y0, y1, y2⟩ := hk.box
          obtain ⟨i0, hi, hz0, hz1, hz2⟩ := info_parts info32
          have hice2 := hk.ice2
          have htop := hk.top
          have hal : ∀ m o, ((wr.drewN m).alloc o).cell? ⟨ob, 2, none⟩ = some (.slice a J cp) := fun m o => (World.cell?_alloc_lt (wr.drewN m) o ⟨ob, 2, none⟩ (by exact htop)).trans y2
          go_wp2
          go_region_law (first
            | (refine step_append_lies _ (by rfl) _ _ _ (by rfl) w.heap.size 59 i0 _ 1 4 Try.underlying22 hi hz0 hz1 hz2 rfl (by omega) (.slice a J cp) J xs (by rfl) (by exact ownsRow_below hk.own (by repeat first | (with_reducible exact Below.refl _ _) | (with_reducible refine Below.setCell ?_ (by first | exact Nat.le_refl _ | (simp; done) | (simp; omega) | omega) _) | (with_reducible refine Below.alloc ?_ (by first | exact Nat.le_refl _ | (simp; done) | (simp; omega) | omega) _) | (with_reducible refine below_drewN ?_ _) | (with_reducible refine Below.drew ?_))) ⟨wr.heap.size, 0, none⟩ 1 1 [.float .f32 rr] (by rfl) (by rfl)
                (by exact World.news_of_block (cs := #[.float .f32 rr]) (t := 59) (fr := (0, 0)) (heap_alloc_new _ _)) (by simp [Value.oneCell']) (by omega) (by unfold maxLen; omega) (by omega) (by have := hk.bel.size; simp [World.drew]; omega) (wr.heap.size + 1) (by simp [World.drew]) ?_
               intro gg cp2 w2 hown2 hgrow2 hat2 hlt3
               have hbA := hlt3
               have q3 := hgrow2.cell (a := ⟨ob, 2, none⟩) (v := .slice a J cp) (hal _ _) (by intro e; exact (hk.far ob e.symm).1 rfl)
               have q4 : w2.frozen? ⟨ob, 2, none⟩ = false := (World.frozen?_of_block (a := ⟨ob, 2, none⟩) (hgrow2.block ob (by have := hk.top; simp [World.drew]; omega) (fun e => (hk.far ob e.symm).1 rfl))).trans (by first | (rw [frozen?_alloc_cells]; exact hice2 2) | (rw [World.frozen?_drew, frozen?_alloc_cells]; exact hice2 2) | (show (wr.alloc _).frozen? _ = false; rw [frozen?_alloc_cells]; exact hice2 2))))
          all_goals
            have hst := Lib.hid (hk.step (by repeat first | (with_reducible exact Below.refl _ _) | (with_reducible refine Below.setCell ?_ (by first | exact Nat.le_refl _ | (simp; done) | (simp; omega) | omega) _) | (with_reducible refine Below.alloc ?_ (by first | exact Nat.le_refl _ | (simp; done) | (simp; omega) | omega) _) | (with_reducible refine below_drewN ?_ _) | (with_reducible refine Below.drew ?_)) hown2 hgrow2 (by simpa [World.drew] using hat2) hfz'.out)
            clear hal q3 q4 hown2 hgrow2 hat2 hlt3 hbA hk hmul hc1 hc2
            go_wp2
            go_roundw
            case rel => exact ⟨t + 1, _, _, _, by omega, by go_num, by rw [← Nat.add_assoc, hJ'.out]; exact hst.out⟩
            case measure => simp [intOf]; omega
        · obtain rfl : t = c := by omega
          have hk2 := Lib.hid hk
          clear hk
          go_wp2
          go_roundw
          case rel => exact ⟨j + 1, _, _, _, by omega, by go_num, by rw [← place_succ]; exact hk2.out⟩
          case measure => simp [intOf]; omega
    · obtain rfl : j = r := by omega
      rw [← hN.out] at hk
      obtain ⟨y0, y1, y2⟩ := hk.box
      obtain ⟨X, hX, hV⟩ := hk.fs
      have hvB : validB j c n (vals X) = allFin (out c Z Y) n := (validB_nat h11 h12 h21 h22 hN.out).trans (allFin_congr hV)
      have hlow : ∀ q off, a = some ⟨q, off, none⟩ → w.heap.size ≤ q := by rintro q off rfl; exact (hk.own.lt q rfl).1
      have hfar : ∀ q, (∃ off, a = some ⟨q, off, none⟩) → q ≠ w.heap.size := by rintro q ⟨off, rfl⟩; exact (hk.far q rfl).2
      cases hf : allFin (out c Z Y) n with
      | true =>
        rw [hf] at hvB
        go_wp2_with fail
        go_at_call 56
        refine (specGive_yes _ _ _ _ _ X _ (by omega) hX hvB).mono ?_
        rintro e w3 ⟨rfl, b3⟩
        have hk2 := hk.below b3
        have hX3 := hX.below b3 (Nat.le_refl _)
        clear hk y0 y1 y2 hX
        obtain ⟨z0, z1, z2⟩ := hk2.res
        have B2 := hk2.bel
        have hice := hk2.ice
        clear hk2
        go_wp2_with fail
        refine bodyPost_ret (v := .tuple #[.agg #[.int .i64 j, .int .i64 c, .slice a n cp], .bool true]) (by simp [results, Try.results30, go_sem, z0, z1, z2]) rfl ?_
        exact BelIf.yes hf ⟨_, _, X, rfl, FS.to hX3 (by simp [World.setCell]) (fun q hq => by have hf := hfar q hq; rw [Below.heap_setCell _ _ _ _ hf, Below.heap_setCell _ _ _ _ hf, Below.heap_setCell _ _ _ _ hf]), hV, (by repeat first | (with_reducible exact B2) | (with_reducible refine Below.setCell ?_ (by first | exact Nat.le_refl _ | (simp; done) | (simp; omega) | omega) _) | (with_reducible refine Below.alloc ?_ (by first | exact Nat.le_refl _ | (simp; done) | (simp; omega) | omega) _) | (with_reducible refine below_drewN ?_ _) | (with_reducible refine Below.drew ?_))⟩
      | false =>
        rw [hf] at hvB
        go_wp2_with fail
        go_at_call 56
        refine (specGive_no _ _ _ _ _ X _ (by omega) hX hvB).mono ?_
        rintro e w3 ⟨rfl, b3⟩
        have hk2 := hk.below b3
        clear hk y0 y1 y2 hX
        obtain ⟨z0, z1, z2⟩ := hk2.res
        have B2 := hk2.bel
        have hice := hk2.ice
        clear hk2
        go_wp2_with fail
        refine bodyPost_ret (v := .tuple #[.agg #[.int .i64 0, .int .i64 0, .slice none 0 0], .bool false]) (by simp [results, Try.results30, go_sem, z0, z1, z2]) rfl ?_
        exact BelIf.no hf ⟨none, 0, fun _ => 0, rfl, ⟨Nat.le_refl _, Nat.zero_le _, fun i hi => by omega⟩, fun i hi => by omega, (by repeat first | (with_reducible exact B2) | (with_reducible refine Below.setCell ?_ (by first | exact Nat.le_refl _ | (simp; done) | (simp; omega) | omega) _) | (with_reducible refine Below.alloc ?_ (by first | exact Nat.le_refl _ | (simp; done) | (simp; omega) | omega) _) | (with_reducible refine below_drewN ?_ _) | (with_reducible refine Below.drew ?_))⟩
theorem keyOuterMatrix (n : Nat) (Z : Nat → Nat) (n2 : Nat) (Y : Nat → Nat) (hn : n ≤ 1048576) (hm : n2 ≤ 1048576) : ∃ (ok : Bool) (R' C' : Int) (n' : Nat) (V : Nat → Option Nat), n' ≤ 144 ∧
    (∀ a c b d W, FS .f32 W a n c Z → FS .f32 W b n2 d Y → Calls Try.prog 30 #[.slice a n c, .slice b n2 d] W (MatBel ok R' C' n' V W)) ∧
    (∀ a c b d W, FS .f32 W a n c Z → FS .f32 W b n2 d Y → Calls Try.prog 31 #[.slice a n c, .slice b n2 d] W (MatOwn ok R' C' n' V W)) := by
  cases ho : outB n n2 (vals Z) (vals Y) with
  | false => exact ⟨false, 0, 0, 0, fun _ => none, by omega, fun a c b d W h h2 => specOuter_no a b n c n2 d Z Y W hn hm h h2 ho, fun a c b d W h h2 => implOuter_no a b n c n2 d Z Y W hn hm h h2 ho⟩
  | true =>
    unfold outB at ho
    simp only [Bool.and_eq_true, decide_eq_true_eq] at ho
    obtain ⟨hv, hv2, h12, h22⟩ := ho
    have e1 := (vecB_parts hv).1
    have e2 := (vecB_parts hv2).1
    cases hf : allFin (out n2 Z Y) (n * n2) with
    | true =>
      refine ⟨true, n, n2, n * n2, out n2 Z Y, sides_le h12 h22, fun a c b d W h h2 => ?_, fun a c b d W h h2 => ?_⟩
      all_goals
        obtain ⟨p1, o1, rfl, _⟩ := h.at (show 0 < n by omega)
        obtain ⟨p2, o2, rfl, _⟩ := h2.at (show 0 < n2 by omega)
      · have hh := specOuter_yes p1 o1 n c p2 o2 n2 d (n * n2) Z Y W h12 h22 hv hv2 rfl h h2
        rw [hf] at hh; exact hh
      · have hh := implOuter_yes p1 o1 n c p2 o2 n2 d (n * n2) Z Y W h12 h22 hv hv2 rfl h h2
        rw [hf] at hh; exact hh
    | false =>
      refine ⟨false, 0, 0, 0, fun _ => none, by omega, fun a c b d W h h2 => ?_, fun a c b d W h h2 => ?_⟩
      all_goals
        obtain ⟨p1, o1, rfl, _⟩ := h.at (show 0 < n by omega)
        obtain ⟨p2, o2, rfl, _⟩ := h2.at (show 0 < n2 by omega)
      · have hh := specOuter_yes p1 o1 n c p2 o2 n2 d (n * n2) Z Y W h12 h22 hv hv2 rfl h h2
        rw [hf] at hh; exact hh
      · have hh := implOuter_yes p1 o1 n c p2 o2 n2 d (n * n2) Z Y W h12 h22 hv hv2 rfl h h2
        rw [hf] at hh; exact hh
end Go.Proofs.Ytpgjfanacnbfkab
