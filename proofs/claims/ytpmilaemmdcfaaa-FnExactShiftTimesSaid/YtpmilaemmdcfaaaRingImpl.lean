/- Helper: squares whose numbers are told by places in a list, of the program and of its reference. Conditions: none. -/
import Derived.Test.YtpmilaemmdcfaaaBuild
import Derived.Test.YtpmilaemmdcfaaaGive
import Derived.Deep.RegionLaw
set_option linter.unusedVariables false
set_option linter.unusedSimpArgs false
namespace Go.Proofs.Ytpmilaemmdcfaaa
open Go.RowKit

/-- A square of which the rows before i, and k numbers of the row i, are told. -/
def tabP (c i k : Nat) (F : Nat → Nat) (t : Nat) : Nat := if t / c < i ∨ (t / c = i ∧ t % c < k) then F t else 0
theorem tabP_step {c i k : Nat} {F : Nat → Nat} (hk : k < c) (t : Nat) : (if t = i * c + k then F (i * c + k) else tabP c i k F t) = tabP c i (k + 1) F t := by
  unfold tabP
  by_cases e : t = i * c + k
  · subst e
    obtain ⟨h1, h2⟩ := place_div (j := i) hk
    rw [if_pos rfl, h1, h2, if_pos (.inr ⟨rfl, Nat.lt_succ_self _⟩)]
  · rw [if_neg e]
    have hp := place_eq (c := c) (t := t)
    by_cases h : t / c < i ∨ (t / c = i ∧ t % c < k + 1)
    · rw [if_pos h]
      rcases h with h | ⟨h1, h2⟩
      · rw [if_pos (.inl h)]
      · by_cases h3 : t % c < k
        · rw [if_pos (.inr ⟨h1, h3⟩)]
        · have e2 : t % c = k := by omega
          rw [h1, e2] at hp
          exact absurd hp.symm e
    · rw [if_neg h, if_neg (fun q => h (q.imp id fun q => ⟨q.1, by omega⟩))]
theorem tabP_row {c i : Nat} {F : Nat → Nat} (hc : 0 < c) (t : Nat) : tabP c i c F t = tabP c (i + 1) 0 F t := by
  have h0 := Nat.mod_lt t hc
  unfold tabP
  generalize t / c = x
  generalize t % c = y at *
  by_cases h : x < i + 1
  · rw [if_pos (show x < i ∨ (x = i ∧ y < c) by omega), if_pos (show x < i + 1 ∨ (x = i + 1 ∧ y < 0) by omega)]
  · rw [if_neg (show ¬ (x < i ∨ (x = i ∧ y < c)) by omega), if_neg (show ¬ (x < i + 1 ∨ (x = i + 1 ∧ y < 0)) by omega)]
theorem tabP_all {c n t : Nat} {F : Nat → Nat} (hn : n = c * c) (ht : t < n) : tabP c c 0 F t = F t := by
  unfold tabP
  rw [if_pos (.inl (Nat.div_lt_of_lt_mul (by rw [← hn]; exact ht)))]
theorem tabP_zero {c t : Nat} {F : Nat → Nat} : tabP c 0 0 F t = 0 := by
  unfold tabP; rw [if_neg (fun h => h.elim (Nat.not_lt_zero _) fun h => Nat.not_lt_zero _ h.2)]
/-- What a first row is. -/
def rowB (n : Nat) (V : Nat → Option Nat) : Bool := sideB (n : Int) && allFin V n
theorem rowB_yes {n : Nat} {V : Nat → Option Nat} (h : rowB n V = true) : 1 ≤ n ∧ n ≤ 12 ∧ allFin V n = true := by
  unfold rowB at h
  simp only [Bool.and_eq_true] at h
  have := sideB_le h.1
  exact ⟨by omega, by omega, h.2⟩
def ringI (c i k : Nat) : Nat := (i + c - k) % c
def shiftI (i k : Nat) : Nat := if i < k then k - i else i - k
theorem shiftI_lt {c i k : Nat} (hi : i < c) (hk : k < c) : shiftI i k < c := by unfold shiftI; split <;> omega
theorem ring_tmod {c i k : Nat} (hi : i < c) (hk : k < c) : Int.tmod ((i : Int) - (k : Int) + (c : Int)) (c : Int) = ((ringI c i k : Nat) : Int) := by
  have e : (i : Int) - (k : Int) + (c : Int) = ((i + c - k : Nat) : Int) := by omega
  rw [e, Int.tmod_eq_emod_of_nonneg (by omega)]
  exact (Int.natCast_emod _ _).symm
/-- The square of a list by places. -/
def byZ (c : Nat) (Z : Nat → Nat) (I : Nat → Nat → Nat) (t : Nat) : Nat := Z (I (t / c) (t % c))

theorem byZ_fin {c n : Nat} {Z : Nat → Nat} {I : Nat → Nat → Nat} (hn : n = c * c) (hI : ∀ i k, i < c → k < c → I i k < c) (h : allFin (vals Z) c = true) : allFin (vals (byZ c Z I)) n = true := by
  have hc : n ≠ 0 → 0 < c := fun h0 => Nat.pos_of_ne_zero fun e => by subst e; simp at hn; exact h0 hn
  have key : ∀ m, m ≤ n → allFin (vals (byZ c Z I)) m = true := by
    intro m
    induction m with
    | zero => intro _; rfl
    | succ m ih =>
      intro hm
      have c0 := hc (by omega)
      refine allFin_succ (ih (by omega)) ?_
      exact allFin_lt (V := vals Z) h (hI _ _ (Nat.div_lt_of_lt_mul (by rw [← hn]; omega)) (Nat.mod_lt _ c0))
  exact key n (Nat.le_refl _)
theorem implRow_any (a : Option Addr) (n c : Nat) (Z : Nat → Nat) (w : World) (hn : n ≤ 1048576) (h : FS .f32 w a n c Z) :
    Calls Try.prog 57 #[.slice a n c] w fun e w' => e = .returned (.bool (rowB n (vals Z))) ∧ ∃ m, w' = w.drewN m := by
  unfold rowB
  cases hs : sideB (n : Int) with
  | false =>
    go_enter Try.func57, Try.ntmps57
    go_wp2_with (first | (go_at_call 69; refine (isSide_any _ _).mono ?_; rintro e w' ⟨rfl, rfl⟩) | (go_at_call 52; refine (implFin_any _ _ _ Z _ hn h).mono ?_; rintro e w' ⟨rfl, q, rfl⟩))
    go_ret
    exact ⟨rfl, 0, rfl⟩
  | true =>
    go_enter Try.func57, Try.ntmps57
    go_wp2_with (first | (go_at_call 69; refine (isSide_any _ _).mono ?_; rintro e w' ⟨rfl, rfl⟩) | (go_at_call 52; refine (implFin_any _ _ _ Z _ hn h).mono ?_; rintro e w' ⟨rfl, q, rfl⟩))
    go_ret
    exact ⟨rfl, _, rfl⟩
theorem specRow_any (a : Option Addr) (n c : Nat) (Z : Nat → Nat) (w : World) (hn : n ≤ 1048576) (h : FS .f32 w a n c Z) :
    Calls Try.prog 39 #[.slice a n c] w fun e w' => e = .returned (.bool (rowB n (vals Z))) ∧ ∃ m, w' = w.drewN m := by
  by_cases h1 : 1 ≤ n
  · have d1 : decide ((1 : Int) ≤ n) = true := decide_eq_true (by omega)
    by_cases h2 : n ≤ 12
    · have HB : Hid (rowB n (vals Z) = allFin (vals Z) n) := Lib.hid (by unfold rowB; rw [sideB_yes (by omega) (by omega)]; rfl)
      have d2 : decide ((n : Int) ≤ 12) = true := decide_eq_true (by omega)
      go_enter Try.func39, Try.ntmps39
      go_wp2_with (go_at_call 29; refine (specFin_any _ _ _ Z _ hn h).mono ?_; rintro e w' ⟨rfl, q, rfl⟩)
      go_ret
      exact ⟨by rw [HB.out]; rfl, _, rfl⟩
    · have HB : Hid (rowB n (vals Z) = false) := Lib.hid (by unfold rowB; rw [sideB_no2 (by omega)]; rfl)
      have d2 : decide ((n : Int) ≤ 12) = false := decide_eq_false (by omega)
      go_enter Try.func39, Try.ntmps39
      go_wp2
      go_ret
      exact ⟨by rw [HB.out]; rfl, 0, rfl⟩
  · have HB : Hid (rowB n (vals Z) = false) := Lib.hid (by unfold rowB; rw [sideB_no1 (by omega)]; rfl)
    have d1 : decide ((1 : Int) ≤ n) = false := decide_eq_false (by omega)
    go_enter Try.func39, Try.ntmps39
    go_wp2
    go_ret
    exact ⟨by rw [HB.out]; rfl, 0, rfl⟩
theorem ringIndex_any (c i k : Nat) (w : World) (h12 : c ≤ 12) (hi : i < c) (hk : k < c) : Calls Try.prog 43 #[.int .i64 c, .int .i64 i, .int .i64 k] w fun e w' => e = .returned (.int .i64 ((ringI c i k : Nat) : Int)) ∧ w = w' := by
  have ht := ring_tmod hi hk
  generalize ringI c i k = u at ht
  have hc0 : ¬ (c = 0) := by omega
  have hc1 : ¬ ((c : Int) = 0) := by omega
  go_enter Try.func43, Try.ntmps43
  go_wp2
  go_ret
  exact ⟨rfl, rfl⟩
theorem shiftIndex_any (c i k : Nat) (w : World) (h12 : c ≤ 12) (hi : i < c) (hk : k < c) : Calls Try.prog 45 #[.int .i64 c, .int .i64 i, .int .i64 k] w fun e w' => e = .returned (.int .i64 ((shiftI i k : Nat) : Int)) ∧ w = w' := by
  by_cases h : i < k
  · have e : ((shiftI i k : Nat) : Int) = (k : Int) - (i : Int) := by unfold shiftI; rw [if_pos h]; omega
    rw [e]
    have hlt : (i : Int) - (k : Int) < (k : Int) - (i : Int) := by omega
    have hd : decide ((i : Int) - (k : Int) < (k : Int) - (i : Int)) = true := decide_eq_true hlt
    have hd2 : decide ((k : Int) - (i : Int) < (i : Int) - (k : Int)) = false := decide_eq_false (by omega)
    have hd3 : decide ((k : Int) - (i : Int) ≤ (i : Int) - (k : Int)) = false := decide_eq_false (by omega)
    go_enter Try.func45, Try.ntmps45
    go_wp2
    go_ret
    exact ⟨by first | rfl | (simp; omega), rfl⟩
  · have e : ((shiftI i k : Nat) : Int) = (i : Int) - (k : Int) := by unfold shiftI; rw [if_neg h]; omega
    rw [e]
    have hle : ¬ (i : Int) - (k : Int) < (k : Int) - (i : Int) := by omega
    have hd : decide ((i : Int) - (k : Int) < (k : Int) - (i : Int)) = false := decide_eq_false hle
    go_enter Try.func45, Try.ntmps45
    go_wp2
    go_ret
    exact ⟨by first | rfl | (simp; omega), rfl⟩

set_option maxRecDepth 20000 in
set_option maxHeartbeats 2000000 in
theorem squareRing_yes (b off c d n : Nat) (Z : Nat → Nat) (w : World) (h1 : 1 ≤ c) (h2 : c ≤ 12) (hn : n = c * c) (hr : rowB c (vals Z) = true) (h : FS .f32 w (some ⟨b, off, none⟩) c d Z) :
    Calls Try.prog 42 #[.slice (some ⟨b, off, none⟩) c d, .func (.func 43) #[] #[]] w (MatOwn true c c n (vals (byZ c Z (ringI c))) w) := by
  have hI : ∀ i k, i < c → k < c → (ringI c) i k < c := (fun i k hi hk => Nat.mod_lt _ (by omega))
  have hN := Lib.hid hn
  have hn144 : n ≤ 144 := by have := sides_le h2 h2; omega
  have hcm : c ≤ 1048576 := by omega
  have hpos : 0 < n := by rw [hn]; exact Nat.mul_pos h1 h1
  clear hn
  obtain ⟨I, hII⟩ : ∃ I, I = (ringI c) := ⟨_, rfl⟩
  rw [← hII] at hI ⊢
  have HI := Lib.hid hII
  clear hII
  go_enter Try.func42, Try.ntmps42
  go_wp2_with fail
  go_at_call 57
  refine (implRow_any _ c d Z _ hcm (h.below (by repeat first | (with_reducible exact Below.refl _ _) | (with_reducible refine Below.setCell ?_ (by first | exact Nat.le_refl _ | (simp; done) | (simp; omega) | omega) _) | (with_reducible refine Below.alloc ?_ (by first | exact Nat.le_refl _ | (simp; done) | (simp; omega) | omega) _) | (with_reducible refine below_drewN ?_ _) | (with_reducible refine Below.drew ?_)) (Nat.le_refl _))).mono ?_
  rintro e w' ⟨rfl, q0, rfl⟩
  rw [hr]
  go_wp2_with fail
  go_at_call 58
  refine (newMatrix_any c c n _ h2 h2 hN.out).mono ?_
  rintro e w1 ⟨g, rfl, o1, b1⟩
  have wk := Work.start (w := w) (R := (c : Int)) (C := (c : Int)) 35 35 (Own.mono (B' := w.heap.size + 1) o1 (by simp) (Nat.le_refl _) (Nat.le_refl _)) (show Below (w.alloc (.cells #[.int .i64 0, .int .i64 0, .slice none 0 0] 35)).heap.size (w.alloc (.cells #[.int .i64 0, .int .i64 0, .slice none 0 0] 35)) w1 from Below.trans (below_drewN (Below.refl _ _) q0) b1)
  clear o1 b1 hr
  go_wp2
  go_loopw [21] (fun i wr => ∃ j : Nat, j ≤ c ∧ i = .int .i64 j ∧ Work w (w.heap.size + 1) w1.heap.size g w1.heap.size w.heap.size c c n (tabP c j 0 (byZ c Z I)) wr) (fun i _ => c - (intOf i).toNat)
  case atStart => exact ⟨0, Nat.zero_le _, rfl, wk.same (fun t _ => tabP_zero.symm)⟩
  case round =>
    obtain ⟨j, hj, rfl, hk⟩ := hrel
    clear wk
    obtain ⟨g1, g2, g3, g4⟩ := hk.facts hpos
    by_cases hlt : j < c
    · obtain ⟨y0, y1, y2⟩ := hk.box
      have hk' := Lib.hid hk
      clear hk
      go_wp2_with fail
      go_at_call 59
      refine (rowOf_any g 0 c c n n j _ h2 h1 h2 hN.out (Nat.le_refl _) (by omega) hlt).mono ?_
      rintro e w2 ⟨rfl, b2⟩
      have hk2 := hk'.out.below b2 g3 g4
      simp only [Nat.zero_add] at *
      clear b2 hk' y0 y1 y2
      go_wp2
      go_loopw [29] (fun k wr => ∃ q : Nat, q ≤ c ∧ k = .int .i64 q ∧ Work w (w.heap.size + 1) w1.heap.size g w1.heap.size w.heap.size c c n (tabP c j q (byZ c Z I)) wr) (fun k _ => c - (intOf k).toNat)
      case atStart => exact ⟨0, Nat.zero_le _, rfl, hk2⟩
      case round =>
        obtain ⟨q, hq, rfl, hk3⟩ := hrel
        clear hk2 g1 g2 g3 g4
        obtain ⟨g1, g2, g3, g4⟩ := hk3.facts hpos
        by_cases hlt2 : q < c
        · have hpl := place_lt hlt hlt2
          rw [← hN.out] at hpl
          have hIq := hI j q hlt hlt2
          obtain ⟨b', off', e, hbl, hcz, hfz⟩ := (h.below hk3.bel (Nat.le_refl _)).at hIq
          simp only [Option.some.injEq, Addr.mk.injEq, and_true] at e
          obtain ⟨rfl, rfl⟩ := e
          have hbz : byZ c Z I (j * c + q) = Z (I j q) := by
            obtain ⟨e1, e2⟩ := place_div (j := j) hlt2
            unfold byZ; rw [e1, e2]
          have hst := hk3.stored (t := j * c + q) (v := Z (I j q)) hpl hfz.2
          have hst' := Lib.hid (hst.same (Y := tabP c j (q + 1) (byZ c Z I)) (fun t _ => by rw [← hbz]; exact tabP_step hlt2 t))
          obtain ⟨hce, hfr, _⟩ := hk3.own.cell hpl
          have hcl : ∀ W, Calls Try.prog 43 #[.int .i64 c, .int .i64 j, .int .i64 q] W fun e w' => e = .returned (.int .i64 ((I j q : Nat) : Int)) ∧ W = w' := fun W => by rw [HI.out]; exact ringIndex_any c j q W h2 hlt hlt2
          have hgb : ¬ (b = g ∧ off + I j q = j * c + q) ∨ True := .inr trivial
          generalize I j q = u at hIq hcz hst' hcl
          have HZ := Lib.hid hfz
          clear hst hk3 hbz hfz hgb
          go_wp2_with (go_at_call 43; refine (hcl _).mono ?_; rintro e w' ⟨rfl, rfl⟩)
          go_roundw
          case rel => exact ⟨q + 1, by omega, by go_num, hst'.out⟩
          case measure => simp [intOf]; omega
        · obtain rfl : q = c := by omega
          have hst' := Lib.hid (hk3.same (fun t _ => tabP_row h1 t))
          clear hk3
          go_wp2_with fail
          go_roundw
          case rel => exact ⟨j + 1, by omega, by go_num, hst'.out⟩
          case measure => simp [intOf]; omega
    · obtain rfl : j = c := by omega
      obtain ⟨y0, y1, y2⟩ := hk.box
      obtain ⟨z0, z1, z2⟩ := hk.res
      have o2 := hk.own.same (fun t ht => tabP_all hN.out ht)
      have B2 := hk.bel
      have hlo := hk.lo
      have hmid := hk.mid
      have hice := hk.ice
      clear hk
      go_wp2_with fail
      refine bodyPost_ret (v := .tuple #[.agg #[.int .i64 j, .int .i64 j, .slice (some ⟨g, 0, none⟩) n n], .bool true]) (by simp [results, Try.results42, go_sem, y0, y1, y2, z0, z1, z2]) rfl ?_
      exact ⟨_, _, _, rfl, (by refine Own.to o2 (hk := fun g hg1 hg2 => by (try simp at hg1 hg2); repeat (first | rw [Below.heap_setCell _ _ _ _ (by simp; omega)] | rw [Below.heap_alloc _ _ _ (by simp [World.setCell]; omega)])) ?_ ?_ ?_ ?_ <;> (first | exact Nat.le_refl _ | omega | (simp [World.setCell]; done) | (simp [World.setCell]; omega))), fun i _ => rfl, (by repeat first | (with_reducible exact B2) | (with_reducible refine Below.setCell ?_ (by first | exact Nat.le_refl _ | (simp; done) | (simp; omega) | omega) _) | (with_reducible refine Below.alloc ?_ (by first | exact Nat.le_refl _ | (simp; done) | (simp; omega) | omega) _) | (with_reducible refine below_drewN ?_ _) | (with_reducible refine Below.drew ?_))⟩
theorem squareRing_no (a : Option Addr) (c d : Nat) (Z : Nat → Nat) (w : World) (hc : c ≤ 1048576) (hr : rowB c (vals Z) = false) (h : FS .f32 w a c d Z) :
    Calls Try.prog 42 #[.slice a c d, .func (.func 43) #[] #[]] w (MatOwn false 0 0 0 (fun _ => none) w) := by
  go_enter Try.func42, Try.ntmps42
  go_wp2_with fail
  go_at_call 57
  refine (implRow_any _ c d Z _ hc (h.below (by repeat first | (with_reducible exact Below.refl _ _) | (with_reducible refine Below.setCell ?_ (by first | exact Nat.le_refl _ | (simp; done) | (simp; omega) | omega) _) | (with_reducible refine Below.alloc ?_ (by first | exact Nat.le_refl _ | (simp; done) | (simp; omega) | omega) _) | (with_reducible refine below_drewN ?_ _) | (with_reducible refine Below.drew ?_)) (Nat.le_refl _))).mono ?_
  rintro e w' ⟨rfl, q0, rfl⟩
  rw [hr]
  go_wp2_with fail
  refine bodyPost_ret (v := .tuple #[.agg #[.int .i64 0, .int .i64 0, .slice none 0 0], .bool false]) (by simp [results, Try.results42, go_sem]) rfl ?_
  exact ⟨none, 0, fun _ => 0, rfl, .inl ⟨rfl, rfl, rfl⟩, fun i hi => by omega, (by repeat first | (with_reducible exact Below.refl _ _) | (with_reducible refine Below.setCell ?_ (by first | exact Nat.le_refl _ | (simp; done) | (simp; omega) | omega) _) | (with_reducible refine Below.alloc ?_ (by first | exact Nat.le_refl _ | (simp; done) | (simp; omega) | omega) _) | (with_reducible refine below_drewN ?_ _) | (with_reducible refine Below.drew ?_))⟩
theorem implRing_any (a : Option Addr) (c d : Nat) (Z : Nat → Nat) (w : World) (ok : Bool) (R C : Int) (n : Nat) (V : Nat → Option Nat) (hsq : ∀ W, FS .f32 W a c d Z → Calls Try.prog 42 #[.slice a c d, .func (.func 43) #[] #[]] W (MatOwn ok R C n V W)) (h : FS .f32 w a c d Z) :
    Calls Try.prog 19 #[.slice a c d] w (MatOwn ok R C n V w) := by
  go_enter Try.func19, Try.ntmps19
  go_wp2_with fail
  go_at_call 42
  refine (hsq _ (h.below (by repeat first | (with_reducible exact Below.refl _ _) | (with_reducible refine Below.setCell ?_ (by first | exact Nat.le_refl _ | (simp; done) | (simp; omega) | omega) _) | (with_reducible refine Below.alloc ?_ (by first | exact Nat.le_refl _ | (simp; done) | (simp; omega) | omega) _) | (with_reducible refine below_drewN ?_ _) | (with_reducible refine Below.drew ?_)) (Nat.le_refl _))).mono ?_
  rintro e w1 ⟨g, q, Y, rfl, o1, hV, b1⟩
  obtain ⟨hc, hf⟩ := bcell b1
  have hz : w.heap.size + 1 ≤ w1.heap.size := by have := b1.size; simp at this; omega
  have B1 : Below w.heap.size w w1 := Below.trans (by repeat first | (with_reducible exact Below.refl _ _) | (with_reducible refine Below.setCell ?_ (by first | exact Nat.le_refl _ | (simp; done) | (simp; omega) | omega) _) | (with_reducible refine Below.alloc ?_ (by first | exact Nat.le_refl _ | (simp; done) | (simp; omega) | omega) _) | (with_reducible refine below_drewN ?_ _) | (with_reducible refine Below.drew ?_)) (b1.mono (by simp))
  have o2 := Own.mono (B' := w.heap.size + 1) o1 (by simp) (Nat.le_refl _) (Nat.le_refl _)
  clear o1 b1
  go_wp2_with fail
  refine bodyPost_ret (v := .tuple #[.agg #[.int .i64 R, .int .i64 C, .slice g n q], .bool ok]) (by simp [results, Try.results19, go_sem, hc]) rfl ?_
  exact ⟨_, _, Y, rfl, (by refine Own.to o2 (hk := fun g hg1 hg2 => by (try simp at hg1 hg2); repeat (first | rw [Below.heap_setCell _ _ _ _ (by simp; omega)] | rw [Below.heap_alloc _ _ _ (by simp [World.setCell]; omega)])) ?_ ?_ ?_ ?_ <;> (first | exact Nat.le_refl _ | omega | (simp [World.setCell]; done) | (simp [World.setCell]; omega))), hV, (by repeat first | (with_reducible exact B1) | (with_reducible refine Below.setCell ?_ (by first | exact Nat.le_refl _ | (simp; done) | (simp; omega) | omega) _) | (with_reducible refine Below.alloc ?_ (by first | exact Nat.le_refl _ | (simp; done) | (simp; omega) | omega) _) | (with_reducible refine below_drewN ?_ _) | (with_reducible refine Below.drew ?_))⟩

set_option maxRecDepth 20000 in
set_option maxHeartbeats 2000000 in
theorem squareShift_yes (b off c d n : Nat) (Z : Nat → Nat) (w : World) (h1 : 1 ≤ c) (h2 : c ≤ 12) (hn : n = c * c) (hr : rowB c (vals Z) = true) (h : FS .f32 w (some ⟨b, off, none⟩) c d Z) :
    Calls Try.prog 42 #[.slice (some ⟨b, off, none⟩) c d, .func (.func 45) #[] #[]] w (MatOwn true c c n (vals (byZ c Z shiftI)) w) := by
  have hI : ∀ i k, i < c → k < c → shiftI i k < c := (fun i k hi hk => shiftI_lt hi hk)
  have hN := Lib.hid hn
  have hn144 : n ≤ 144 := by have := sides_le h2 h2; omega
  have hcm : c ≤ 1048576 := by omega
  have hpos : 0 < n := by rw [hn]; exact Nat.mul_pos h1 h1
  clear hn
  obtain ⟨I, hII⟩ : ∃ I, I = shiftI := ⟨_, rfl⟩
  rw [← hII] at hI ⊢
  have HI := Lib.hid hII
  clear hII
  go_enter Try.func42, Try.ntmps42
  go_wp2_with fail
  go_at_call 57
  refine (implRow_any _ c d Z _ hcm (h.below (by repeat first | (with_reducible exact Below.refl _ _) | (with_reducible refine Below.setCell ?_ (by first | exact Nat.le_refl _ | (simp; done) | (simp; omega) | omega) _) | (with_reducible refine Below.alloc ?_ (by first | exact Nat.le_refl _ | (simp; done) | (simp; omega) | omega) _) | (with_reducible refine below_drewN ?_ _) | (with_reducible refine Below.drew ?_)) (Nat.le_refl _))).mono ?_
  rintro e w' ⟨rfl, q0, rfl⟩
  rw [hr]
  go_wp2_with fail
  go_at_call 58
  refine (newMatrix_any c c n _ h2 h2 hN.out).mono ?_
  rintro e w1 ⟨g, rfl, o1, b1⟩
  have wk := Work.start (w := w) (R := (c : Int)) (C := (c : Int)) 35 35 (Own.mono (B' := w.heap.size + 1) o1 (by simp) (Nat.le_refl _) (Nat.le_refl _)) (show Below (w.alloc (.cells #[.int .i64 0, .int .i64 0, .slice none 0 0] 35)).heap.size (w.alloc (.cells #[.int .i64 0, .int .i64 0, .slice none 0 0] 35)) w1 from Below.trans (below_drewN (Below.refl _ _) q0) b1)
  clear o1 b1 hr
  go_wp2
  go_loopw [21] (fun i wr => ∃ j : Nat, j ≤ c ∧ i = .int .i64 j ∧ Work w (w.heap.size + 1) w1.heap.size g w1.heap.size w.heap.size c c n (tabP c j 0 (byZ c Z I)) wr) (fun i _ => c - (intOf i).toNat)
  case atStart => exact ⟨0, Nat.zero_le _, rfl, wk.same (fun t _ => tabP_zero.symm)⟩
  case round =>
    obtain ⟨j, hj, rfl, hk⟩ := hrel
    clear wk
    obtain ⟨g1, g2, g3, g4⟩ := hk.facts hpos
    by_cases hlt : j < c
    · obtain ⟨y0, y1, y2⟩ := hk.box
      have hk' := Lib.hid hk
      clear hk
      go_wp2_with fail
      go_at_call 59
      refine (rowOf_any g 0 c c n n j _ h2 h1 h2 hN.out (Nat.le_refl _) (by omega) hlt).mono ?_
      rintro e w2 ⟨rfl, b2⟩
      have hk2 := hk'.out.below b2 g3 g4
      simp only [Nat.zero_add] at *
      clear b2 hk' y0 y1 y2
      go_wp2
      go_loopw [29] (fun k wr => ∃ q : Nat, q ≤ c ∧ k = .int .i64 q ∧ Work w (w.heap.size + 1) w1.heap.size g w1.heap.size w.heap.size c c n (tabP c j q (byZ c Z I)) wr) (fun k _ => c - (intOf k).toNat)
      case atStart => exact ⟨0, Nat.zero_le _, rfl, hk2⟩
      case round =>
        obtain ⟨q, hq, rfl, hk3⟩ := hrel
        clear hk2 g1 g2 g3 g4
        obtain ⟨g1, g2, g3, g4⟩ := hk3.facts hpos
        by_cases hlt2 : q < c
        · have hpl := place_lt hlt hlt2
          rw [← hN.out] at hpl
          have hIq := hI j q hlt hlt2
          obtain ⟨b', off', e, hbl, hcz, hfz⟩ := (h.below hk3.bel (Nat.le_refl _)).at hIq
          simp only [Option.some.injEq, Addr.mk.injEq, and_true] at e
          obtain ⟨rfl, rfl⟩ := e
          have hbz : byZ c Z I (j * c + q) = Z (I j q) := by
            obtain ⟨e1, e2⟩ := place_div (j := j) hlt2
            unfold byZ; rw [e1, e2]
          have hst := hk3.stored (t := j * c + q) (v := Z (I j q)) hpl hfz.2
          have hst' := Lib.hid (hst.same (Y := tabP c j (q + 1) (byZ c Z I)) (fun t _ => by rw [← hbz]; exact tabP_step hlt2 t))
          obtain ⟨hce, hfr, _⟩ := hk3.own.cell hpl
          have hcl : ∀ W, Calls Try.prog 45 #[.int .i64 c, .int .i64 j, .int .i64 q] W fun e w' => e = .returned (.int .i64 ((I j q : Nat) : Int)) ∧ W = w' := fun W => by rw [HI.out]; exact shiftIndex_any c j q W h2 hlt hlt2
          have hgb : ¬ (b = g ∧ off + I j q = j * c + q) ∨ True := .inr trivial
          generalize I j q = u at hIq hcz hst' hcl
          have HZ := Lib.hid hfz
          clear hst hk3 hbz hfz hgb
          go_wp2_with (go_at_call 45; refine (hcl _).mono ?_; rintro e w' ⟨rfl, rfl⟩)
          go_roundw
          case rel => exact ⟨q + 1, by omega, by go_num, hst'.out⟩
          case measure => simp [intOf]; omega
        · obtain rfl : q = c := by omega
          have hst' := Lib.hid (hk3.same (fun t _ => tabP_row h1 t))
          clear hk3
          go_wp2_with fail
          go_roundw
          case rel => exact ⟨j + 1, by omega, by go_num, hst'.out⟩
          case measure => simp [intOf]; omega
    · obtain rfl : j = c := by omega
      obtain ⟨y0, y1, y2⟩ := hk.box
      obtain ⟨z0, z1, z2⟩ := hk.res
      have o2 := hk.own.same (fun t ht => tabP_all hN.out ht)
      have B2 := hk.bel
      have hlo := hk.lo
      have hmid := hk.mid
      have hice := hk.ice
      clear hk
      go_wp2_with fail
      refine bodyPost_ret (v := .tuple #[.agg #[.int .i64 j, .int .i64 j, .slice (some ⟨g, 0, none⟩) n n], .bool true]) (by simp [results, Try.results42, go_sem, y0, y1, y2, z0, z1, z2]) rfl ?_
      exact ⟨_, _, _, rfl, (by refine Own.to o2 (hk := fun g hg1 hg2 => by (try simp at hg1 hg2); repeat (first | rw [Below.heap_setCell _ _ _ _ (by simp; omega)] | rw [Below.heap_alloc _ _ _ (by simp [World.setCell]; omega)])) ?_ ?_ ?_ ?_ <;> (first | exact Nat.le_refl _ | omega | (simp [World.setCell]; done) | (simp [World.setCell]; omega))), fun i _ => rfl, (by repeat first | (with_reducible exact B2) | (with_reducible refine Below.setCell ?_ (by first | exact Nat.le_refl _ | (simp; done) | (simp; omega) | omega) _) | (with_reducible refine Below.alloc ?_ (by first | exact Nat.le_refl _ | (simp; done) | (simp; omega) | omega) _) | (with_reducible refine below_drewN ?_ _) | (with_reducible refine Below.drew ?_))⟩
theorem squareShift_no (a : Option Addr) (c d : Nat) (Z : Nat → Nat) (w : World) (hc : c ≤ 1048576) (hr : rowB c (vals Z) = false) (h : FS .f32 w a c d Z) :
    Calls Try.prog 42 #[.slice a c d, .func (.func 45) #[] #[]] w (MatOwn false 0 0 0 (fun _ => none) w) := by
  go_enter Try.func42, Try.ntmps42
  go_wp2_with fail
  go_at_call 57
  refine (implRow_any _ c d Z _ hc (h.below (by repeat first | (with_reducible exact Below.refl _ _) | (with_reducible refine Below.setCell ?_ (by first | exact Nat.le_refl _ | (simp; done) | (simp; omega) | omega) _) | (with_reducible refine Below.alloc ?_ (by first | exact Nat.le_refl _ | (simp; done) | (simp; omega) | omega) _) | (with_reducible refine below_drewN ?_ _) | (with_reducible refine Below.drew ?_)) (Nat.le_refl _))).mono ?_
  rintro e w' ⟨rfl, q0, rfl⟩
  rw [hr]
  go_wp2_with fail
  refine bodyPost_ret (v := .tuple #[.agg #[.int .i64 0, .int .i64 0, .slice none 0 0], .bool false]) (by simp [results, Try.results42, go_sem]) rfl ?_
  exact ⟨none, 0, fun _ => 0, rfl, .inl ⟨rfl, rfl, rfl⟩, fun i hi => by omega, (by repeat first | (with_reducible exact Below.refl _ _) | (with_reducible refine Below.setCell ?_ (by first | exact Nat.le_refl _ | (simp; done) | (simp; omega) | omega) _) | (with_reducible refine Below.alloc ?_ (by first | exact Nat.le_refl _ | (simp; done) | (simp; omega) | omega) _) | (with_reducible refine below_drewN ?_ _) | (with_reducible refine Below.drew ?_))⟩
theorem implShift_any (a : Option Addr) (c d : Nat) (Z : Nat → Nat) (w : World) (ok : Bool) (R C : Int) (n : Nat) (V : Nat → Option Nat) (hsq : ∀ W, FS .f32 W a c d Z → Calls Try.prog 42 #[.slice a c d, .func (.func 45) #[] #[]] W (MatOwn ok R C n V W)) (h : FS .f32 w a c d Z) :
    Calls Try.prog 24 #[.slice a c d] w (MatOwn ok R C n V w) := by
  go_enter Try.func24, Try.ntmps24
  go_wp2_with fail
  go_at_call 42
  refine (hsq _ (h.below (by repeat first | (with_reducible exact Below.refl _ _) | (with_reducible refine Below.setCell ?_ (by first | exact Nat.le_refl _ | (simp; done) | (simp; omega) | omega) _) | (with_reducible refine Below.alloc ?_ (by first | exact Nat.le_refl _ | (simp; done) | (simp; omega) | omega) _) | (with_reducible refine below_drewN ?_ _) | (with_reducible refine Below.drew ?_)) (Nat.le_refl _))).mono ?_
  rintro e w1 ⟨g, q, Y, rfl, o1, hV, b1⟩
  obtain ⟨hc, hf⟩ := bcell b1
  have hz : w.heap.size + 1 ≤ w1.heap.size := by have := b1.size; simp at this; omega
  have B1 : Below w.heap.size w w1 := Below.trans (by repeat first | (with_reducible exact Below.refl _ _) | (with_reducible refine Below.setCell ?_ (by first | exact Nat.le_refl _ | (simp; done) | (simp; omega) | omega) _) | (with_reducible refine Below.alloc ?_ (by first | exact Nat.le_refl _ | (simp; done) | (simp; omega) | omega) _) | (with_reducible refine below_drewN ?_ _) | (with_reducible refine Below.drew ?_)) (b1.mono (by simp))
  have o2 := Own.mono (B' := w.heap.size + 1) o1 (by simp) (Nat.le_refl _) (Nat.le_refl _)
  clear o1 b1
  go_wp2_with fail
  refine bodyPost_ret (v := .tuple #[.agg #[.int .i64 R, .int .i64 C, .slice g n q], .bool ok]) (by simp [results, Try.results24, go_sem, hc]) rfl ?_
  exact ⟨_, _, Y, rfl, (by refine Own.to o2 (hk := fun g hg1 hg2 => by (try simp at hg1 hg2); repeat (first | rw [Below.heap_setCell _ _ _ _ (by simp; omega)] | rw [Below.heap_alloc _ _ _ (by simp [World.setCell]; omega)])) ?_ ?_ ?_ ?_ <;> (first | exact Nat.le_refl _ | omega | (simp [World.setCell]; done) | (simp [World.setCell]; omega))), hV, (by repeat first | (with_reducible exact B1) | (with_reducible refine Below.setCell ?_ (by first | exact Nat.le_refl _ | (simp; done) | (simp; omega) | omega) _) | (with_reducible refine Below.alloc ?_ (by first | exact Nat.le_refl _ | (simp; done) | (simp; omega) | omega) _) | (with_reducible refine below_drewN ?_ _) | (with_reducible refine Below.drew ?_))⟩

end Go.Proofs.Ytpmilaemmdcfaaa
