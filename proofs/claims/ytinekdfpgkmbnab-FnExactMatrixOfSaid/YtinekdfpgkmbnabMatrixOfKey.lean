/- Helper: the matrix of integers, of the program and of its reference. Conditions: none. -/
import Derived.Test.YtinekdfpgkmbnabValidWholeKey
import Derived.Test.YtinekdfpgkmbnabWork
import Derived.Test.YtinekdfpgkmbnabAppend
set_option linter.unusedVariables false
set_option linter.unusedSimpArgs false
namespace Go.Proofs.Ytinekdfpgkmbnab
open Go.RowKit

/-- The numbers as floats, of which j are told. -/
def fzA (Z : Nat → Int) (t : Nat) : Nat := floatOfInt .f32 (Z t)
def fzJ (Z : Nat → Int) (j t : Nat) : Nat := if t < j then fzA Z t else 0
theorem fz_step {Z : Nat → Int} {j : Nat} (t : Nat) : (if t = j then fzA Z j else fzJ Z j t) = fzJ Z (j + 1) t := by
  unfold fzJ
  by_cases e : t = j
  · subst e; rw [if_pos rfl, if_pos (by omega)]
  · rw [if_neg e]
    by_cases h : t < j
    · rw [if_pos h, if_pos (by omega)]
    · rw [if_neg h, if_neg (by omega)]
theorem prod6 {r c n : Nat} (h2 : r ≤ 6) (h4 : c ≤ 6) (hn : n = r * c) : n ≤ 36 := by
  have : r * c ≤ 6 * 6 := Nat.mul_le_mul h2 h4
  omega

set_option maxHeartbeats 1000000 in
theorem implMatrixOf_no (R C : Int) (a : Option Addr) (n cap : Nat) (Z : Nat → Int) (w : World) (hn : n ≤ 1048576) (hv : wholeB 1000000 R C n Z = false) (h : IS .i64 w a n cap Z) :
    Calls Try.prog 23 #[.agg #[.int .i64 R, .int .i64 C, .slice a n cap]] w (MatOwn false 0 0 0 (fun _ => none) w) := by
  have HV := Lib.hid hv
  clear hv
  go_enter Try.func23, Try.ntmps23
  go_wp2_with fail
  go_at_call 43
  refine (implWhole_any R C a n cap Z _ hn (h.below (by repeat first | (with_reducible exact Below.refl _ _) | (with_reducible refine Below.setCell ?_ (by first | exact Nat.le_refl _ | (simp; done) | (simp; omega) | omega) _) | (with_reducible refine Below.alloc ?_ (by first | exact Nat.le_refl _ | (simp; done) | (simp; omega) | omega) _) | (with_reducible refine below_drewN ?_ _) | (with_reducible refine Below.drew ?_)) (Nat.le_refl _))).mono ?_
  rintro e w1 ⟨rfl, b1⟩
  rw [HV.out]
  obtain ⟨hc, hf⟩ := bcell b1
  have hz : w.heap.size + 1 + 1 ≤ w1.heap.size := by have := b1.size; simp at this; omega
  have B1 : Below w.heap.size w w1 := Below.trans (by repeat first | (with_reducible exact Below.refl _ _) | (with_reducible refine Below.setCell ?_ (by first | exact Nat.le_refl _ | (simp; done) | (simp; omega) | omega) _) | (with_reducible refine Below.alloc ?_ (by first | exact Nat.le_refl _ | (simp; done) | (simp; omega) | omega) _) | (with_reducible refine below_drewN ?_ _) | (with_reducible refine Below.drew ?_)) (b1.mono (by simp; omega))
  have z0 : w1.cell? ⟨w.heap.size + 1, 0, none⟩ = some (.int .i64 0) := (hc _ _ (by simp)).trans (by simp [go_sem])
  have z1 : w1.cell? ⟨w.heap.size + 1, 1, none⟩ = some (.int .i64 0) := (hc _ _ (by simp)).trans (by simp [go_sem])
  have z2 : w1.cell? ⟨w.heap.size + 1, 2, none⟩ = some (.slice none 0 0) := (hc _ _ (by simp)).trans (by simp [go_sem])
  have hice : ∀ i, w1.frozen? ⟨w.heap.size + 1, i, none⟩ = false := fun i => (hf _ _ (by simp)).trans (by simp [go_sem])
  clear hc hf b1
  go_wp2_with fail
  refine bodyPost_ret (v := .tuple #[.agg #[.int .i64 0, .int .i64 0, .slice none 0 0], .bool false]) (by simp [results, Try.results23, go_sem, z0, z1, z2]) rfl ?_
  exact ⟨none, 0, fun _ => 0, rfl, .inl ⟨rfl, rfl, rfl⟩, fun i hi => by omega, (by repeat first | (with_reducible exact B1) | (with_reducible refine Below.setCell ?_ (by first | exact Nat.le_refl _ | (simp; done) | (simp; omega) | omega) _) | (with_reducible refine Below.alloc ?_ (by first | exact Nat.le_refl _ | (simp; done) | (simp; omega) | omega) _) | (with_reducible refine below_drewN ?_ _) | (with_reducible refine Below.drew ?_))⟩
set_option maxRecDepth 20000 in
set_option maxHeartbeats 4000000 in
theorem implMatrixOf_yes (r c n b off cap : Nat) (Z : Nat → Int) (w : World) (h1 : 1 ≤ r) (h2 : r ≤ 6) (h3 : 1 ≤ c) (h4 : c ≤ 6) (hn : n = r * c) (hv : wholeB 1000000 r c n Z = true)
    (h : IS .i64 w (some ⟨b, off, none⟩) n cap Z) :
    Calls Try.prog 23 #[.agg #[.int .i64 r, .int .i64 c, .slice (some ⟨b, off, none⟩) n cap]] w (MatOwn true r c n (vals (fzA Z)) w) := by
  have hN' := Lib.hid hn
  have hn36 := prod6 h2 h4 hn
  have hpos : 0 < n := by rw [hn]; exact Nat.mul_pos h1 h3
  have HV := Lib.hid hv
  clear hn hv
  go_enter Try.func23, Try.ntmps23
  go_wp2_with fail
  generalize hwa : w.alloc (.cells #[.int .i64 r, .int .i64 c, .slice (some ⟨b, off, none⟩) n cap] 24) = wa
  have Ba : Below w.heap.size w wa := by rw [← hwa]; exact (by repeat first | (with_reducible exact Below.refl _ _) | (with_reducible refine Below.setCell ?_ (by first | exact Nat.le_refl _ | (simp; done) | (simp; omega) | omega) _) | (with_reducible refine Below.alloc ?_ (by first | exact Nat.le_refl _ | (simp; done) | (simp; omega) | omega) _) | (with_reducible refine below_drewN ?_ _) | (with_reducible refine Below.drew ?_))
  have sa : wa.heap.size = w.heap.size + 1 := by rw [← hwa]; simp
  have Xa : Box wa w.heap.size r c (some ⟨b, off, none⟩) n cap := by rw [← hwa]; exact Box.new _ _ _ _ _ _ _
  have Fa := h.below Ba (Nat.le_refl _)
  rw [← sa]
  clear hwa h
  go_at_call 43
  refine (implWhole_any r c _ n cap Z _ (by omega) (Fa.below (by repeat first | (with_reducible exact Below.refl _ _) | (with_reducible refine Below.setCell ?_ (by first | exact Nat.le_refl _ | (simp; done) | (simp; omega) | omega) _) | (with_reducible refine Below.alloc ?_ (by first | exact Nat.le_refl _ | (simp; done) | (simp; omega) | omega) _) | (with_reducible refine below_drewN ?_ _) | (with_reducible refine Below.drew ?_)) (Nat.le_refl _))).mono ?_
  rintro e w2 ⟨rfl, b1⟩
  rw [HV.out]
  have la : w.heap.size < wa.heap.size := by omega
  have s2 : wa.heap.size + 1 ≤ w2.heap.size := by have := b1.size; simpa using this
  have X2 := (Xa.below (show Below wa.heap.size wa (wa.alloc (.cells #[.int .i64 0, .int .i64 0, .slice none 0 0] 39)) from (by repeat first | (with_reducible exact Below.refl _ _) | (with_reducible refine Below.setCell ?_ (by first | exact Nat.le_refl _ | (simp; done) | (simp; omega) | omega) _) | (with_reducible refine Below.alloc ?_ (by first | exact Nat.le_refl _ | (simp; done) | (simp; omega) | omega) _) | (with_reducible refine below_drewN ?_ _) | (with_reducible refine Below.drew ?_))) la).below b1 (by simp; omega)
  obtain ⟨x0, x1, x2⟩ := X2
  go_wp2_with fail
  go_at_call 50
  refine (newMatrix_any r c n _ (by omega) (by omega) hN'.out).mono ?_
  rintro e w3 ⟨g, rfl, o3, b3⟩
  have b13 := b1.trans (b3.mono b1.size)
  have wk := Work.start (w := wa) (R := (r : Int)) (C := (c : Int)) 39 39 (Own.mono (B' := wa.heap.size + 1) o3 (by omega) (Nat.le_refl _) (Nat.le_refl _)) b13
  clear o3 b1 b3 b13 x0 x1 x2
  have XW := Xa.below wk.bel la
  obtain ⟨x0, x1, x2⟩ := XW
  have HU := Lib.hid (wk.facts hpos)
  go_wp2
  go_loopw [19] (fun i wr => ∃ j : Nat, j ≤ n ∧ i = .int .i64 j ∧ Work wa (wa.heap.size + 1) w3.heap.size g w3.heap.size wa.heap.size r c n (fzJ Z j) wr) (fun i _ => n - (intOf i).toNat)
  case atStart => exact ⟨0, Nat.zero_le _, rfl, wk.same (fun t _ => by unfold fzJ; rw [if_neg (by omega)])⟩
  case round =>
    obtain ⟨j, hj, rfl, hk⟩ := hrel
    clear wk x0 x1 x2
    obtain ⟨g1, g2, g3, g4⟩ := hk.facts hpos
    by_cases hlt : j < n
    · obtain ⟨y0, y1, y2⟩ := hk.box
      obtain ⟨b', off', e, hbl, hce, hwf⟩ := (Fa.below hk.bel (Nat.le_refl _)).at hlt
      simp only [Option.some.injEq, Addr.mk.injEq, and_true] at e
      obtain ⟨rfl, rfl⟩ := e
      have hst := hk.stored (t := j) (v := fzA Z j) hlt (floatOfInt_wf _ _)
      obtain ⟨hce2, hfr, _⟩ := hk.own.cell hlt
      have hst' := Lib.hid (hst.same (fun t _ => fz_step t))
      unfold fzA at hst'
      clear hst hk hbl hwf
      go_wp2_with fail
      go_roundw
      case rel => exact ⟨j + 1, by omega, by go_num, hst'.out⟩
      case measure => simp [intOf]; omega
    · obtain rfl : j = n := by omega
      obtain ⟨y0, y1, y2⟩ := hk.box
      obtain ⟨z0, z1, z2⟩ := hk.res
      have o2 := hk.own.same (Y := fzA Z) (fun t ht => by unfold fzJ; rw [if_pos ht])
      have B2 := Ba.trans (hk.bel.mono (by omega))
      have hlo := hk.lo
      have hmid := hk.mid
      have hice : ∀ i, wr.frozen? ⟨w.heap.size + 1, i, none⟩ = false := fun i => by have hh := hk.ice i; rwa [sa] at hh
      rw [sa] at z0 z1 z2
      clear hk
      go_wp2_with fail
      refine bodyPost_ret (v := .tuple #[.agg #[.int .i64 r, .int .i64 c, .slice (some ⟨g, 0, none⟩) j j], .bool true]) (by simp [results, Try.results23, go_sem, y0, y1, y2, z0, z1, z2]) rfl ?_
      exact ⟨_, _, _, rfl, (by refine Own.to o2 (hk := fun g hg1 hg2 => by (try simp at hg1 hg2); repeat (first | rw [Below.heap_setCell _ _ _ _ (by simp; omega)] | rw [Below.heap_alloc _ _ _ (by simp [World.setCell]; omega)])) ?_ ?_ ?_ ?_ <;> (first | exact Nat.le_refl _ | omega | (simp [World.setCell]; done) | (simp [World.setCell]; omega))), fun i _ => rfl, (by repeat first | (with_reducible exact B2) | (with_reducible refine Below.setCell ?_ (by first | exact Nat.le_refl _ | (simp; done) | (simp; omega) | omega) _) | (with_reducible refine Below.alloc ?_ (by first | exact Nat.le_refl _ | (simp; done) | (simp; omega) | omega) _) | (with_reducible refine below_drewN ?_ _) | (with_reducible refine Below.drew ?_))⟩
set_option maxHeartbeats 1000000 in
theorem specMatrixOf_no (R C : Int) (a : Option Addr) (n cap : Nat) (Z : Nat → Int) (w : World) (hn : n ≤ 1048576) (hv : wholeB 1000000 R C n Z = false) (h : IS .i64 w a n cap Z) :
    Calls Try.prog 22 #[.agg #[.int .i64 R, .int .i64 C, .slice a n cap]] w (MatBel false 0 0 0 (fun _ => none) w) := by
  have HV := Lib.hid hv
  clear hv
  go_enter Try.func22, Try.ntmps22
  go_wp2_with fail
  go_at_call 40
  refine (specWhole_any 1000000 w.heap.size R C a n cap Z _ (by omega) hn ⟨by simp [go_sem], by simp [go_sem], by simp [go_sem]⟩ (h.below (by repeat first | (with_reducible exact Below.refl _ _) | (with_reducible refine Below.setCell ?_ (by first | exact Nat.le_refl _ | (simp; done) | (simp; omega) | omega) _) | (with_reducible refine Below.alloc ?_ (by first | exact Nat.le_refl _ | (simp; done) | (simp; omega) | omega) _) | (with_reducible refine below_drewN ?_ _) | (with_reducible refine Below.drew ?_)) (Nat.le_refl _))).mono ?_
  rintro e w1 ⟨rfl, m1, rfl⟩
  rw [show wholeB ((1000000 : Nat) : Int) R C n Z = false from HV.out]
  go_wp2_with fail
  refine bodyPost_ret (v := .tuple #[.agg #[.int .i64 0, .int .i64 0, .slice none 0 0], .bool false]) (by simp [results, Try.results22, go_sem]) rfl ?_
  exact ⟨none, 0, fun _ => 0, rfl, ⟨Nat.le_refl _, Nat.zero_le _, fun i hi => by omega⟩, fun i hi => by omega, (by repeat first | (with_reducible exact Below.refl _ _) | (with_reducible refine Below.setCell ?_ (by first | exact Nat.le_refl _ | (simp; done) | (simp; omega) | omega) _) | (with_reducible refine Below.alloc ?_ (by first | exact Nat.le_refl _ | (simp; done) | (simp; omega) | omega) _) | (with_reducible refine below_drewN ?_ _) | (with_reducible refine Below.drew ?_))⟩
set_option maxRecDepth 20000 in
set_option maxHeartbeats 4000000 in
theorem specMatrixOf_yes (r c n b off cap : Nat) (Z : Nat → Int) (w : World) (h1 : 1 ≤ r) (h2 : r ≤ 6) (h3 : 1 ≤ c) (h4 : c ≤ 6) (hn : n = r * c) (hv : wholeB 1000000 r c n Z = true)
    (h : IS .i64 w (some ⟨b, off, none⟩) n cap Z) :
    Calls Try.prog 22 #[.agg #[.int .i64 r, .int .i64 c, .slice (some ⟨b, off, none⟩) n cap]] w (MatBel true r c n (vals (fzA Z)) w) := by
  have hN' := Lib.hid hn
  have hn36 := prod6 h2 h4 hn
  have HV := Lib.hid hv
  obtain ⟨VV, hVV⟩ : ∃ VV, VV = vals (fzA Z) := ⟨_, rfl⟩
  rw [← hVV]
  have HVV := Lib.hid hVV
  clear hn hv hVV
  go_enter Try.func22, Try.ntmps22
  go_wp2_with fail
  generalize hwa : w.alloc (.cells #[.int .i64 r, .int .i64 c, .slice (some ⟨b, off, none⟩) n cap] 24) = wa
  have Ba : Below w.heap.size w wa := by rw [← hwa]; exact (by repeat first | (with_reducible exact Below.refl _ _) | (with_reducible refine Below.setCell ?_ (by first | exact Nat.le_refl _ | (simp; done) | (simp; omega) | omega) _) | (with_reducible refine Below.alloc ?_ (by first | exact Nat.le_refl _ | (simp; done) | (simp; omega) | omega) _) | (with_reducible refine below_drewN ?_ _) | (with_reducible refine Below.drew ?_))
  have sa : wa.heap.size = w.heap.size + 1 := by rw [← hwa]; simp
  have Xa : Box wa w.heap.size r c (some ⟨b, off, none⟩) n cap := by rw [← hwa]; exact Box.new _ _ _ _ _ _ _
  have Fa := h.below Ba (Nat.le_refl _)
  rw [← sa]
  clear hwa h
  have la : w.heap.size < wa.heap.size := by omega
  go_at_call 40
  refine (specWhole_any 1000000 w.heap.size r c _ n cap Z _ (by omega) (by omega) (Xa.below (by repeat first | (with_reducible exact Below.refl _ _) | (with_reducible refine Below.setCell ?_ (by first | exact Nat.le_refl _ | (simp; done) | (simp; omega) | omega) _) | (with_reducible refine Below.alloc ?_ (by first | exact Nat.le_refl _ | (simp; done) | (simp; omega) | omega) _) | (with_reducible refine below_drewN ?_ _) | (with_reducible refine Below.drew ?_)) la) (Fa.below (by repeat first | (with_reducible exact Below.refl _ _) | (with_reducible refine Below.setCell ?_ (by first | exact Nat.le_refl _ | (simp; done) | (simp; omega) | omega) _) | (with_reducible refine Below.alloc ?_ (by first | exact Nat.le_refl _ | (simp; done) | (simp; omega) | omega) _) | (with_reducible refine below_drewN ?_ _) | (with_reducible refine Below.drew ?_)) (Nat.le_refl _))).mono ?_
  rintro e w2 ⟨rfl, m1, rfl⟩
  rw [show wholeB ((1000000 : Nat) : Int) r c n Z = true from HV.out]
  obtain ⟨x0, x1, x2⟩ := (Xa.below (show Below wa.heap.size wa (wa.alloc (.cells #[.int .i64 0, .int .i64 0, .slice none 0 0] 39)) from (by repeat first | (with_reducible exact Below.refl _ _) | (with_reducible refine Below.setCell ?_ (by first | exact Nat.le_refl _ | (simp; done) | (simp; omega) | omega) _) | (with_reducible refine Below.alloc ?_ (by first | exact Nat.le_refl _ | (simp; done) | (simp; omega) | omega) _) | (with_reducible refine below_drewN ?_ _) | (with_reducible refine Below.drew ?_))) la).drewN (m := m1)
  go_wp2_with fail
  go_at_call 49
  refine (l02Blank_any _ _ _).mono ?_
  rintro e w3 ⟨g, rfl, o3, b3⟩
  have s3 : wa.heap.size + 1 ≤ w3.heap.size := (by have hh := b3.size; (try simp [World.drewN] at hh); omega)
  have hB : Build wa w3.heap.size wa.heap.size r c 0 VV _ (some ⟨g, 0, none⟩) 0 [] := Build.start1 (T1 := 0) (T2 := 39) (by simp [World.drewN]) b3 (by refine ⟨?_, ?_, ?_⟩ <;> simp [go_sem]) (by intro i; simp [go_sem]) (by repeat first | (with_reducible exact Below.refl _ _) | (with_reducible refine Below.setCell ?_ (by first | exact Nat.le_refl _ | (simp; done) | (simp; omega) | omega) _) | (with_reducible refine Below.alloc ?_ (by first | exact Nat.le_refl _ | (simp; done) | (simp; omega) | omega) _) | (with_reducible refine below_drewN ?_ _) | (with_reducible refine Below.drew ?_)) o3
  generalize hob : w3.heap.size = ob at hB s3
  have hob' := Lib.hid hob
  clear o3 b3 x0 x1 x2
  go_wp2
  clear hob
  go_loopw [5] (fun i wr => ∃ (j : Nat) (a : Option Addr) (cp : Nat) (xs : List Value), j ≤ n ∧ i = .int .i64 j ∧ Build wa ob wa.heap.size r c j VV wr a cp xs) (fun i _ => n - (intOf i).toNat)
  case atStart => exact ⟨0, _, _, _, Nat.zero_le _, rfl, hB⟩
  case round =>
    obtain ⟨j, a, cp, xs, hj, rfl, hk⟩ := hrel
    clear hB
    have XA := Xa.below hk.bel la
    have XA' := XA
    obtain ⟨q0, q1, q2⟩ := XA'
    have hlo := hk.lo
    have hmid := hk.mid
    have htop := hk.top
    have lr : w.heap.size < wr.heap.size := by omega
    by_cases hlt : j < n
    · have hd : decide ((j : Int) < (n : Int)) = true := decide_eq_true (by omega)
      obtain ⟨b', off', e, hbl, hce, hwf⟩ := Fa.at hlt
      simp only [Option.some.injEq, Addr.mk.injEq, and_true] at e
      obtain ⟨rfl, rfl⟩ := e
      have HP : Hid (FV .f32 (floatOfInt .f32 (Z j)) (VV j)) := Lib.hid (by
        rw [HVV.out]; exact FV.mk' (floatOfInt_wf _ _))
      obtain ⟨y0, y1, y2⟩ := hk.box
      obtain ⟨i0, hi, hz0, hz1, hz2⟩ := info_parts info32
      have hice2 := hk.ice2
      have hal : ∀ m o, ((wr.drewN m).alloc o).cell? ⟨ob, 2, none⟩ = some (.slice a j cp) := fun m o => (World.cell?_alloc_lt (wr.drewN m) o ⟨ob, 2, none⟩ (by exact htop)).trans y2
      clear hwf
      generalize Z j = z at hce HP
      obtain ⟨p2, hp2⟩ : ∃ p2, p2 = floatOfInt .f32 z := ⟨_, rfl⟩
      rw [← hp2] at HP
      have HP2 := Lib.hid hp2
      clear hp2
      go_wp2
      have hD0 : ∀ m, Below wa.heap.size wa (wr.drewN m) ∧ (wr.drewN m).cell? ⟨ob, 2, none⟩ = some (.slice a j cp) := fun m => ⟨below_drewN hk.bel m, by rw [← y2]; rfl⟩
      have hD1 : ∀ m k r, Below wa.heap.size wa (((wr.drewN m).alloc (.cells #[.float .f32 r] 45)).drewN k) ∧ (((wr.drewN m).alloc (.cells #[.float .f32 r] 45)).drewN k).cell? ⟨ob, 2, none⟩ = some (.slice a j cp) := fun m k r =>
        ⟨below_drewN (Below.alloc (hD0 m).1 hk.bel.size _) k, hal m _⟩
      refine wp_region_heavy (fun W => Below wa.heap.size wa W ∧ W.cell? ⟨ob, 2, none⟩ = some (.slice a j cp)) (fun s a' W => (fun s l W => AppF wa wr ob a j cp xs (s + 1) (.float .f32 p2 :: l) W) s ([30].map fun d => a'.tmps.getD d undef) W) (fun i => if i = 8 then some 0 else if i = 9 then some 1 else none) 11 2
        (HClass.of (slots := [30]) (F := fun s l W => AppF wa wr ob a j cp xs (s + 1) (.float .f32 p2 :: l) W) (by kernel_rfl) (fun s l W h => h.1) (fun s l W m h => AppF.drew (s + 1) _ W m h)) ⟨hD0 1, 1, rfl⟩ (by kernel_rfl) (by kernel_rfl) (by kernel_rfl) (by kernel_rfl) ?_
      simp only [List.take_succ_cons, List.take_zero, List.drop_succ_cons, List.drop_zero]
      (refine wpHeavy_plain rfl rfl rfl (fun K hK => ?_); go_big_quiet_op; (first | refine hK _ ?_ | refine ⟨_, fun _ _ => rfl, hK _ ?_⟩ | refine ⟨_, fun _ _ _ => rfl, hK _ ?_⟩); clear hK K)
      (refine wpHeavy_run (.slice a j cp) rfl rfl (by rintro W ⟨hW, hO⟩; simp [go_sem, BigFrame.eval_const, BigFrame.eval_global, BigFrame.eval_func, hO]) ?_; simp only [Act.put, List.setIfInBounds_toArray, List.set_cons_succ, List.set_cons_zero])
      (refine wpHeavy_plain rfl rfl rfl (fun K hK => ?_); go_big_quiet_op; (first | refine hK _ ?_ | refine ⟨_, fun _ _ => rfl, hK _ ?_⟩ | refine ⟨_, fun _ _ _ => rfl, hK _ ?_⟩); clear hK K)
      (refine wpHeavy_run (.slice (some ⟨b, off, none⟩) n cap) rfl rfl (by rintro W ⟨hW, hO⟩; have hcell := (hW.cell (p := _) la).trans Xa.2.2; simp [go_sem, BigFrame.eval_const, BigFrame.eval_global, BigFrame.eval_func, hcell]) ?_; simp only [Act.put, List.setIfInBounds_toArray, List.set_cons_succ, List.set_cons_zero])
      (refine wpHeavy_plain rfl rfl rfl (fun K hK => ?_); go_big_quiet_op; (first | refine hK _ ?_ | refine ⟨_, fun _ _ => rfl, hK _ ?_⟩ | refine ⟨_, fun _ _ _ => rfl, hK _ ?_⟩); clear hK K)
      (refine wpHeavy_plain rfl rfl rfl (fun K hK => ?_); go_big_quiet_op; (first | refine hK _ ?_ | refine ⟨_, fun _ _ => rfl, hK _ ?_⟩ | refine ⟨_, fun _ _ _ => rfl, hK _ ?_⟩); clear hK K)
      (refine wpHeavy_run (.int .i64 z) rfl rfl (by rintro W ⟨hW, hO⟩; have hcell := (hW.cell (p := _) hbl).trans hce; simp [go_sem, BigFrame.eval_const, BigFrame.eval_global, BigFrame.eval_func, hcell]) ?_; simp only [Act.put, List.setIfInBounds_toArray, List.set_cons_succ, List.set_cons_zero])
      (refine wpHeavy_run (.float .f32 p2) rfl rfl (by rintro W ⟨hW, hO⟩; rw [HP2.out]; simp [go_sem, BigFrame.eval_const, BigFrame.eval_global, BigFrame.eval_func]) ?_; simp only [Act.put, List.setIfInBounds_toArray, List.set_cons_succ, List.set_cons_zero])
      refine wpHeavy_step rfl rfl ⟨wr.drewN 1, hD0 1, 1, rfl⟩ ?_
      rintro W ⟨hD, m0, rfl⟩
      refine heavyUpon_run (v := .slice (some ⟨wr.heap.size, 0, none⟩) 1 1) (w' := (wr.drewN m0).alloc (.cells #[.float .f32 p2] 45)) (by simp [go_sem, BigFrame.eval_const, BigFrame.eval_global, BigFrame.eval_func]) ⟨hD1 m0 0 p2, m0, 0, p2, rfl, rfl⟩ ?_
      simp only [Act.put, List.setIfInBounds_toArray, List.set_cons_succ, List.set_cons_zero]
      refine wpHeavy_step rfl rfl ⟨_, hD1 0 0 p2, 0, 0, p2, rfl, rfl⟩ ?_
      rintro W ⟨hD, m1', k1, r6, hl0, rfl⟩
      have hr65 : r6 = p2 := by simpa using hl0.symm
      subst hr65
      refine heavy_append_lies _ _ _ _ rfl wa.heap.size 45 i0 _ 1 4 Try.underlying37 hi hz0 hz1 hz2 rfl (by omega) (.slice a j cp) j xs rfl (ownsRow_below hk.own (by repeat first | (with_reducible exact Below.refl _ _) | (with_reducible refine Below.setCell ?_ (by first | exact Nat.le_refl _ | (simp; done) | (simp; omega) | omega) _) | (with_reducible refine Below.alloc ?_ (by first | exact Nat.le_refl _ | (simp; done) | (simp; omega) | omega) _) | (with_reducible refine below_drewN ?_ _) | (with_reducible refine Below.drew ?_))) ⟨wr.heap.size, 0, none⟩ 1 1 [.float .f32 r6] rfl rfl
        (by exact World.news_of_block (cs := #[.float .f32 r6]) (t := 45) (fr := (0, 0)) (heap_alloc_new _ _)) (by simp [Value.oneCell']) (by omega) (by unfold maxLen; omega) (by omega) (by have := hk.bel.size; simp [World.drewN]; omega) (wr.heap.size + 1) (by simp [World.drewN]) ?_
      intro gg c2 W2 hown2 hgrow2 hat2 hlt2
      have hbx : Below wr.heap.size wr (((wr.drewN m1').alloc (.cells #[.float .f32 r6] 45)).drewN k1) := (by repeat first | (with_reducible exact Below.refl _ _) | (with_reducible refine Below.setCell ?_ (by first | exact Nat.le_refl _ | (simp; done) | (simp; omega) | omega) _) | (with_reducible refine Below.alloc ?_ (by first | exact Nat.le_refl _ | (simp; done) | (simp; omega) | omega) _) | (with_reducible refine below_drewN ?_ _) | (with_reducible refine Below.drew ?_))
      refine ⟨⟨⟨hD.1.grown hgrow2 hD.1.size (fun q hq => (hk.own.lt q hq).1), ?_⟩, gg, c2, r6, _, rfl, rfl, hbx, hown2, hgrow2, by simpa [World.drewN] using hat2, hlt2⟩, ?_⟩
      · exact hgrow2.cell (a := ⟨ob, 2, none⟩) (v := .slice a j cp) hD.2 (by intro e; exact (hk.far ob e.symm).1 rfl)
      clear hown2 hgrow2 hat2 hlt2 hbx hD
      simp only [Act.put, List.setIfInBounds_toArray, List.set_cons_succ, List.set_cons_zero]
      (refine wpHeavy_plain rfl rfl rfl (fun K hK => ?_); go_big_quiet_op; (first | refine hK _ ?_ | refine ⟨_, fun _ _ => rfl, hK _ ?_⟩ | refine ⟨_, fun _ _ _ => rfl, hK _ ?_⟩); clear hK K)
      refine wpHeavy_nil ?_
      rintro W ⟨hD, g2, c3, r7, wx2, hl1, hl2, hbx, hown2, hgrow2, hat2, hlt2⟩
      have hr7 : r7 = r6 := by simpa using hl1.symm
      subst hr7
      obtain ⟨rfl, rfl⟩ : gg = g2 ∧ c2 = c3 := by simpa using hl2
      have q3 := hD.2
      have q4 : W.frozen? ⟨ob, 2, none⟩ = false := (World.frozen?_of_block (a := ⟨ob, 2, none⟩) (hgrow2.block ob (Nat.lt_of_lt_of_le htop hbx.size) (fun e => (hk.far ob e.symm).1 rfl))).trans ((hbx.frozen (p := ⟨ob, 2, none⟩) htop).trans (hk.ice2 2))
      have hst := Lib.hid (hk.step hbx hown2 hgrow2 hat2 HP.out)
      clear hk hown2 hgrow2 hat2 hbx hD hD0 hD1 hl1 hl2 hal hce y0 y1 y2 q0 q1 q2 XA HP HP2
      go_wp2
      go_roundw
      case rel => exact ⟨j + 1, _, _, _, by omega, by go_num, hst.out⟩
      case measure => simp [intOf]; omega
    · obtain rfl : j = n := by omega
      obtain ⟨y0, y1, y2⟩ := hk.box
      obtain ⟨z0, z1, z2⟩ := hk.res
      obtain ⟨Y, hY, hV⟩ := hk.fs
      have B2 := Ba.trans (hk.bel.mono (by omega))
      have hice : ∀ i, wr.frozen? ⟨w.heap.size + 1, i, none⟩ = false := fun i => by have hh := hk.ice i; rwa [sa] at hh
      have hfar : ∀ q, (∃ off, a = some ⟨q, off, none⟩) → q ≠ w.heap.size + 1 := by rintro q ⟨off, rfl⟩; rw [← sa]; exact (hk.far q rfl).2
      rw [sa] at z0 z1 z2
      clear hk
      go_wp2_with fail
      refine bodyPost_ret (v := .tuple #[.agg #[.int .i64 r, .int .i64 c, .slice a j cp], .bool true]) (by simp [results, Try.results22, go_sem, y0, y1, y2, z0, z1, z2]) rfl ?_
      exact ⟨_, _, Y, rfl, FS.to hY (by simp [World.setCell]) (fun q hq => by have hf := hfar q hq; rw [Below.heap_setCell _ _ _ _ hf, Below.heap_setCell _ _ _ _ hf, Below.heap_setCell _ _ _ _ hf]), hV, (by repeat first | (with_reducible exact B2) | (with_reducible refine Below.setCell ?_ (by first | exact Nat.le_refl _ | (simp; done) | (simp; omega) | omega) _) | (with_reducible refine Below.alloc ?_ (by first | exact Nat.le_refl _ | (simp; done) | (simp; omega) | omega) _) | (with_reducible refine below_drewN ?_ _) | (with_reducible refine Below.drew ?_))⟩
theorem keyMatrixOf (R C : Int) (n : Nat) (Z : Nat → Int) (wR : (Lit.int .i64 R).wf = true) (wC : (Lit.int .i64 C).wf = true) (hn : n ≤ 1048576) : ∃ (ok : Bool) (R2 C2 : Int) (n2 : Nat) (V : Nat → Option Nat), n2 ≤ 144 ∧
    (∀ a c W, IS .i64 W a n c Z → Calls Try.prog 22 #[.agg #[.int .i64 R, .int .i64 C, .slice a n c]] W (MatBel ok R2 C2 n2 V W)) ∧
    (∀ a c W, IS .i64 W a n c Z → Calls Try.prog 23 #[.agg #[.int .i64 R, .int .i64 C, .slice a n c]] W (MatOwn ok R2 C2 n2 V W)) := by
  cases hv : wholeB 1000000 R C n Z with
  | false => exact ⟨false, 0, 0, 0, fun _ => none, by omega, fun a c W h => specMatrixOf_no R C a n c Z W hn hv h, fun a c W h => implMatrixOf_no R C a n c Z W hn hv h⟩
  | true =>
    obtain ⟨r, c, rfl, rfl, h1, h2, h3, h4, h5, h6⟩ := whole_nat hv
    have hn36 := prod6 h2 h4 h5
    have hpos : 0 < n := by rw [h5]; exact Nat.mul_pos h1 h3
    refine ⟨true, r, c, n, vals (fzA Z), by omega, fun a cp W h => ?_, fun a cp W h => ?_⟩
    all_goals obtain ⟨b, off, rfl, _⟩ := IS.at h hpos
    · exact specMatrixOf_yes r c n b off cp Z W h1 h2 h3 h4 h5 hv h
    · exact implMatrixOf_yes r c n b off cp Z W h1 h2 h3 h4 h5 hv h
end Go.Proofs.Ytinekdfpgkmbnab
