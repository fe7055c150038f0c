/- Helper: drawn matrices, of the program and of its reference. Conditions: none. -/
import Derived.Test.YtpgjfanacnbfkaaBuild
import Derived.Deep.RegionLaw
set_option linter.unusedVariables false
namespace Go.Proofs.Ytpgjfanacnbfkaa
open Go.RowKit

def nx (x : Int) : Int := (1103515245 * x + 12345) % 2147483648
def sd (s : Int) : Nat → Int
  | 0 => s
  | k + 1 => nx (sd s k)
def dv (s : Int) (k : Nat) : Option Nat := fop .quo .f32 (some (floatOfInt .f32 (sd s (k + 1) / 65536 - 16384))) (some 1182793728)
theorem sd_le {s : Int} (h1 : 0 ≤ s) (h2 : s < 2147483648) : ∀ k, 0 ≤ sd s k ∧ sd s k < 2147483648
  | 0 => ⟨h1, h2⟩
  | k + 1 => ⟨Int.emod_nonneg _ (by decide), Int.emod_lt_of_pos _ (by decide)⟩
def drawB (R C s : Int) : Bool := sideB R && (sideB C && (decide (0 ≤ s) && decide (s < 2147483648)))
def MatSBel (ok : Bool) (R C : Int) (n : Nat) (V : Nat → Option Nat) (s : Int) (w : World) (e : Ending) (w' : World) : Prop :=
  ∃ g d Y, e = .returned (.tuple #[.agg #[.int .i64 R, .int .i64 C, .slice g n d], .int .i64 s, .bool ok]) ∧ FS .f32 w' g n d Y ∧ (∀ i, i < n → vals Y i = V i) ∧ Below w.heap.size w w'
def MatSOwn (ok : Bool) (R C : Int) (n : Nat) (V : Nat → Option Nat) (s : Int) (w : World) (e : Ending) (w' : World) : Prop :=
  ∃ g d Y, e = .returned (.tuple #[.agg #[.int .i64 R, .int .i64 C, .slice g n d], .int .i64 s, .bool ok]) ∧ Own 36 .f32 w.heap.size w'.heap.size w' g n d Y ∧ (∀ i, i < n → vals Y i = V i) ∧ Below w.heap.size w w'

set_option maxHeartbeats 2000000 in
theorem implDrawn_no (R C s : Int) (w : World) (ho : drawB R C s = false) :
    Calls Try.prog 59 #[.int .i64 R, .int .i64 C, .int .i64 s] w (MatSOwn false 0 0 0 (fun _ => none) 0 w) := by
  cases h1 : sideB R <;> cases h2 : sideB C <;> by_cases h3 : 0 ≤ s <;> by_cases h4 : s < 2147483648
  all_goals
    first
      | (exfalso; unfold drawB at ho; rw [h1, h2, decide_eq_true h3, decide_eq_true h4] at ho; cases ho; done)
      | (first
           | (have d1 : decide (s < 0) = true := decide_eq_true (by omega))
           | (have d1 : decide (s < 0) = false := decide_eq_false (by omega))
         first
           | (have d2 : decide ((2147483648 : Int) ≤ s) = true := decide_eq_true (by omega))
           | (have d2 : decide ((2147483648 : Int) ≤ s) = false := decide_eq_false (by omega))
         clear h3 h4 ho
         go_enter Try.func59, Try.ntmps59
         go_wp2_with (go_at_call 73; refine (isSide_any _ _).mono ?_; rintro e w' ⟨rfl, rfl⟩)
         refine bodyPost_ret (v := .tuple #[.agg #[.int .i64 0, .int .i64 0, .slice none 0 0], .int .i64 0, .bool false]) (by simp [results, Try.results59, go_sem]) rfl ?_
         exact ⟨none, 0, fun _ => 0, rfl, .inl ⟨rfl, rfl, rfl⟩, fun i hi => by omega, (by repeat first | (with_reducible exact Below.refl _ _) | (with_reducible refine Below.setCell ?_ (by first | exact Nat.le_refl _ | (simp; done) | (simp; omega) | omega) _) | (with_reducible refine Below.alloc ?_ (by first | exact Nat.le_refl _ | (simp; done) | (simp; omega) | omega) _) | (with_reducible refine below_drewN ?_ _) | (with_reducible refine Below.drew ?_))⟩)
set_option maxHeartbeats 2000000 in
theorem implDrawn_yes (r c n : Nat) (s : Int) (w : World) (hr1 : 1 ≤ r) (hr : r ≤ 12) (hc1 : 1 ≤ c) (hc : c ≤ 12) (hn : n = r * c) (s1 : 0 ≤ s) (s2 : s < 2147483648) :
    Calls Try.prog 59 #[.int .i64 r, .int .i64 c, .int .i64 s] w (MatSOwn true r c n (dv s) (sd s n) w) := by
  have hsr : sideB (r : Int) = true := sideB_yes (by omega) (by omega)
  have hsc : sideB (c : Int) = true := sideB_yes (by omega) (by omega)
  have d1 : decide (s < 0) = false := decide_eq_false (by omega)
  have d2 : decide ((2147483648 : Int) ≤ s) = false := decide_eq_false (by omega)
  have hN := Lib.hid hn
  have hn144 : n ≤ 144 := by have := sides_le hr hc; omega
  clear hn
  go_enter Try.func59, Try.ntmps59
  go_wp2_with fail
  go_at_call 73
  refine (isSide_any _ _).mono ?_
  rintro e w' ⟨rfl, rfl⟩
  go_wp2_with fail
  go_at_call 73
  refine (isSide_any _ _).mono ?_
  rintro e w' ⟨rfl, rfl⟩
  go_wp2_with fail
  go_at_call 68
  refine (newMatrix_any r c n _ hr hc hN.out).mono ?_
  rintro e w1 ⟨g, rfl, o1, b1⟩
  have wk := Work.start (R := (r : Int)) (C := (c : Int)) 26 26 (Own.mono (B' := w.heap.size + 1) o1 (by simp) (Nat.le_refl _) (Nat.le_refl _)) b1
  have hU := b1.size
  simp at hU
  clear o1 b1 hsr hsc d1 d2
  go_wp2
  go_loopw [2, 34] (fun q i wr => ∃ (j : Nat) (Z : Nat → Nat), j ≤ n ∧ i = .int .i64 j ∧ q = .int .i64 (sd s j) ∧ (∀ t, t < j → FV .f32 (Z t) (dv s t)) ∧ Work w (w.heap.size + 1) w1.heap.size g w1.heap.size w.heap.size r c n Z wr) (fun _ i _ => n - (intOf i).toNat)
  case atStart => exact ⟨0, _, Nat.zero_le _, rfl, rfl, fun t ht => absurd ht (Nat.not_lt_zero _), wk⟩
  case round =>
    obtain ⟨j, Z, hj, rfl, rfl, hv, hk⟩ := hrel
    have hV := Lib.hid hv
    clear wk hv
    have hpos : 0 < n := by rw [hN.out]; exact Nat.mul_pos hr1 hc1
    obtain ⟨g1, g2, g3, g4⟩ := hk.facts hpos
    by_cases hlt : j < n
    · obtain ⟨y0, y1, y2⟩ := hk.box
      obtain ⟨hce, hfr, _⟩ := hk.own.cell hlt
      obtain ⟨x1, x2⟩ := sd_le s1 s2 j
      obtain ⟨z1, z2⟩ := sd_le s1 s2 (j + 1)
      have hm : Int.tmod (1103515245 * sd s j + 12345) 2147483648 = sd s (j + 1) := Int.tmod_eq_emod_of_nonneg (by omega)
      have HD : Hid (dv s j = fop .quo .f32 (some (floatOfInt .f32 (sd s (j + 1) / 65536 - 16384))) (some 1182793728)) := Lib.hid rfl
      have HS := Lib.hid (rfl : sd s (j + 1) = sd s (j + 1))
      have hk' := Lib.hid hk
      clear hk
      generalize Z j = old at hce
      generalize sd s j = x at hm x1 x2 ⊢
      generalize hy : sd s (j + 1) = y at hm z1 z2 HD HS
      have hy' := Lib.hid hy
      clear hy HS
      have hz : Int.tdiv y 65536 = y / 65536 := Int.tdiv_eq_ediv_of_nonneg z1
      have hz1 : 0 ≤ y / 65536 ∧ y / 65536 ≤ 32767 := by omega
      generalize y / 65536 = z at hz hz1 HD
      obtain ⟨hz1, hz2⟩ := hz1
      have hw1 : IntKind.i64.wrap (1103515245 * x) = 1103515245 * x := IntWalk.i64_in _ (by omega)
      have hw2 : IntKind.i64.wrap (1103515245 * x + 12345) = 1103515245 * x + 12345 := IntWalk.i64_in _ (by omega)
      have hw3 : IntKind.i64.wrap z = z := IntWalk.i64_in _ (by omega)
      have hw4 : IntKind.i64.wrap (z - 16384) = z - 16384 := IntWalk.i64_in _ (by omega)
      have hw5 : IntKind.i64.wrap y = y := IntWalk.i64_in _ (by omega)
      go_wp2_with (first | (refine wpList_farith rfl _ _ _ _ _ rfl rfl _ _ _ rfl rfl (FV.ofInt _ _) (FV.lit (by kernel_rfl) (by kernel_rfl)) ?_; intro rr m hr))
      have hst := (hk'.out.drewN (m := m)).stored (t := j) (v := rr) hlt hr.2
      have hst' := Lib.hid hst
      have hvn : Hid (∀ t, t < j + 1 → FV .f32 (if t = j then rr else Z t) (dv s t)) := by
        refine Lib.hid fun t ht => ?_
        by_cases e : t = j
        · subst e; rw [if_pos rfl, HD.out]; exact hr
        · rw [if_neg e]; exact hV.out t (by omega)
      clear hst
      go_roundw
      case rel => exact ⟨j + 1, _, by omega, by go_num, by rw [hy'.out], hvn.out, hst'.out⟩
      case measure => simp [intOf]; omega
    · obtain rfl : j = n := by omega
      obtain ⟨y0, y1, y2⟩ := hk.box
      obtain ⟨z0, z1, z2⟩ := hk.res
      have o2 := hk.own
      have B2 := hk.bel
      have hlo := hk.lo
      have hmid := hk.mid
      have hice := hk.ice
      clear hk
      go_wp2_with fail
      refine bodyPost_ret (v := .tuple #[.agg #[.int .i64 r, .int .i64 c, .slice (some ⟨g, 0, none⟩) j j], .int .i64 (sd s j), .bool true]) (by simp [results, Try.results59, go_sem, y0, y1, y2, z0, z1, z2]) rfl ?_
      exact ⟨_, _, _, rfl, (by refine Own.to o2 (hk := fun g hg1 hg2 => by (try simp at hg1 hg2); repeat (first | rw [Below.heap_setCell _ _ _ _ (by simp; omega)] | rw [Below.heap_alloc _ _ _ (by simp [World.setCell]; omega)])) ?_ ?_ ?_ ?_ <;> (first | exact Nat.le_refl _ | omega | (simp [World.setCell]; done) | (simp [World.setCell]; omega))), fun i hi => (hV.out i hi).1, (by repeat first | (with_reducible exact B2) | (with_reducible refine Below.setCell ?_ (by first | exact Nat.le_refl _ | (simp; done) | (simp; omega) | omega) _) | (with_reducible refine Below.alloc ?_ (by first | exact Nat.le_refl _ | (simp; done) | (simp; omega) | omega) _) | (with_reducible refine below_drewN ?_ _) | (with_reducible refine Below.drew ?_))⟩

set_option maxHeartbeats 2000000 in
theorem specDrawn_no (R C s : Int) (w : World) (ho : drawB R C s = false) :
    Calls Try.prog 58 #[.int .i64 R, .int .i64 C, .int .i64 s] w (MatSBel false 0 0 0 (fun _ => none) 0 w) := by
  have hsd : ∀ W, Calls Try.prog 102 #[.int .i64 R, .int .i64 C] W fun e w' => e = .returned (.bool (sideB R && sideB C)) ∧ W = w' := fun W => specSides_any _ _ W
  have hin : ∀ W, Calls Try.prog 97 #[.int .i64 s, .int .i64 0, .int .i64 2147483647] W fun e w' => e = .returned (.bool (inB s 0 2147483647)) ∧ W = w' := fun W => l00In_any _ _ _ W
  have hc : (sideB R && sideB C) = false ∨ (sideB R && sideB C) = true ∧ inB s 0 2147483647 = false := by
    unfold drawB at ho
    cases h1 : sideB R <;> cases h2 : sideB C
    · exact .inl rfl
    · exact .inl rfl
    · exact .inl rfl
    · refine .inr ⟨rfl, ?_⟩
      rw [h1, h2] at ho
      unfold inB
      by_cases h3 : 0 ≤ s
      · rw [decide_eq_true h3] at ho
        by_cases h4 : s < 2147483648
        · rw [decide_eq_true h4] at ho; cases ho
        · rw [decide_eq_false (show ¬ s ≤ 2147483647 by omega)]; simp
      · rw [decide_eq_false h3]; rfl
  rcases hc with hc | ⟨hc, hc2⟩
  · rw [hc] at hsd
    clear hin ho hc
    go_enter Try.func58, Try.ntmps58
    go_wp2_with (go_at_call 102; refine (hsd _).mono ?_; rintro e w' ⟨rfl, rfl⟩)
    refine bodyPost_ret (v := .tuple #[.agg #[.int .i64 0, .int .i64 0, .slice none 0 0], .int .i64 0, .bool false]) (by simp [results, Try.results58, go_sem]) rfl ?_
    exact ⟨none, 0, fun _ => 0, rfl, ⟨Nat.le_refl _, Nat.zero_le _, fun i hi => by omega⟩, fun i hi => by omega, (by repeat first | (with_reducible exact Below.refl _ _) | (with_reducible refine Below.setCell ?_ (by first | exact Nat.le_refl _ | (simp; done) | (simp; omega) | omega) _) | (with_reducible refine Below.alloc ?_ (by first | exact Nat.le_refl _ | (simp; done) | (simp; omega) | omega) _) | (with_reducible refine below_drewN ?_ _) | (with_reducible refine Below.drew ?_))⟩
  · rw [hc] at hsd
    rw [hc2] at hin
    clear ho hc hc2
    go_enter Try.func58, Try.ntmps58
    go_wp2_with (first | (go_at_call 102; refine (hsd _).mono ?_; rintro e w' ⟨rfl, rfl⟩) | (go_at_call 97; refine (hin _).mono ?_; rintro e w' ⟨rfl, rfl⟩))
    refine bodyPost_ret (v := .tuple #[.agg #[.int .i64 0, .int .i64 0, .slice none 0 0], .int .i64 0, .bool false]) (by simp [results, Try.results58, go_sem]) rfl ?_
    exact ⟨none, 0, fun _ => 0, rfl, ⟨Nat.le_refl _, Nat.zero_le _, fun i hi => by omega⟩, fun i hi => by omega, (by repeat first | (with_reducible exact Below.refl _ _) | (with_reducible refine Below.setCell ?_ (by first | exact Nat.le_refl _ | (simp; done) | (simp; omega) | omega) _) | (with_reducible refine Below.alloc ?_ (by first | exact Nat.le_refl _ | (simp; done) | (simp; omega) | omega) _) | (with_reducible refine below_drewN ?_ _) | (with_reducible refine Below.drew ?_))⟩
set_option maxRecDepth 20000 in
set_option maxHeartbeats 2000000 in
theorem specDrawn_yes (r c n : Nat) (s : Int) (w : World) (hr1 : 1 ≤ r) (hr : r ≤ 12) (hc1 : 1 ≤ c) (hc : c ≤ 12) (hn : n = r * c) (s1 : 0 ≤ s) (s2 : s < 2147483648) :
    Calls Try.prog 58 #[.int .i64 r, .int .i64 c, .int .i64 s] w (MatSBel true r c n (dv s) (sd s n) w) := by
  have hsd : ∀ W, Calls Try.prog 102 #[.int .i64 r, .int .i64 c] W fun e w' => e = .returned (.bool true) ∧ W = w' := fun W => by
    have hh := specSides_any r c W
    rw [sideB_yes (show (1 : Int) ≤ r by omega) (by omega), sideB_yes (show (1 : Int) ≤ c by omega) (by omega)] at hh
    exact hh
  have hin : ∀ W, Calls Try.prog 97 #[.int .i64 s, .int .i64 0, .int .i64 2147483647] W fun e w' => e = .returned (.bool true) ∧ W = w' := fun W => by
    have hh := l00In_any s 0 2147483647 W
    unfold inB at hh
    rw [decide_eq_true s1, decide_eq_true (show s ≤ 2147483647 by omega)] at hh
    exact hh
  have hN := Lib.hid hn
  have hn144 : n ≤ 144 := by have := sides_le hr hc; omega
  have he : (r : Int) * (c : Int) = ((n : Nat) : Int) := by rw [hn, Int.natCast_mul]
  clear hn
  go_enter Try.func58, Try.ntmps58
  go_wp2_with (first | (go_at_call 102; refine (hsd _).mono ?_; rintro e w' ⟨rfl, rfl⟩) | (go_at_call 97; refine (hin _).mono ?_; rintro e w' ⟨rfl, rfl⟩))
  go_at_call 101
  refine (l02Blank_any _ _ _).mono ?_
  rintro e w1 ⟨g, rfl, o1, b1⟩
  have sz : w.heap.size + 1 ≤ w1.heap.size := (by have hh := b1.size; (try simp at hh); omega)
  have hB : Build w w1.heap.size w.heap.size r c 0 (dv s) _ (some ⟨g, 0, none⟩) 0 [] := Build.start1 (T1 := 0) (T2 := 26) (by simp) b1 (by refine ⟨?_, ?_, ?_⟩ <;> simp [go_sem]) (by intro i; simp [go_sem]) (by repeat first | (with_reducible exact Below.refl _ _) | (with_reducible refine Below.setCell ?_ (by first | exact Nat.le_refl _ | (simp; done) | (simp; omega) | omega) _) | (with_reducible refine Below.alloc ?_ (by first | exact Nat.le_refl _ | (simp; done) | (simp; omega) | omega) _) | (with_reducible refine below_drewN ?_ _) | (with_reducible refine Below.drew ?_)) o1
  clear o1 b1 hsd hin
  generalize hob : w1.heap.size = ob at hB sz
  have hob' := Lib.hid hob
  go_wp2
  clear hob
  go_loopw [2, 10] (fun q i wr => ∃ (j : Nat) (a : Option Addr) (cp : Nat) (xs : List Value), j ≤ n ∧ i = .int .i64 (((n - j : Nat) : Nat) : Int) ∧ q = .int .i64 (sd s j) ∧ Build w ob w.heap.size r c j (dv s) wr a cp xs) (fun _ i _ => (intOf i).toNat)
  case atStart => exact ⟨0, _, _, _, Nat.zero_le _, rfl, rfl, hB⟩
  case round =>
    obtain ⟨j, a, cp, xs, hj, rfl, rfl, hk⟩ := hrel
    clear hB he
    have hlo := hk.lo
    have hmid := hk.mid
    by_cases hlt : j < n
    · obtain ⟨y0, y1, y2⟩ := hk.box
      obtain ⟨i0, hi, hz0, hz1', hz2'⟩ := info_parts info32
      have hice2 := hk.ice2
      have htop := hk.top
      obtain ⟨x1, x2⟩ := sd_le s1 s2 j
      obtain ⟨z1, z2⟩ := sd_le s1 s2 (j + 1)
      have hm : Int.tmod (1103515245 * sd s j + 12345) 2147483648 = sd s (j + 1) := Int.tmod_eq_emod_of_nonneg (by omega)
      have HD : Hid (dv s j = fop .quo .f32 (some (floatOfInt .f32 (sd s (j + 1) / 65536 - 16384))) (some 1182793728)) := Lib.hid rfl
      generalize sd s j = x at hm x1 x2 ⊢
      generalize hy : sd s (j + 1) = y at hm z1 z2 HD
      have hy' := Lib.hid hy
      clear hy
      have hz : Int.tdiv y 65536 = y / 65536 := Int.tdiv_eq_ediv_of_nonneg z1
      have hz1 : 0 ≤ y / 65536 ∧ y / 65536 ≤ 32767 := by omega
      generalize y / 65536 = z at hz hz1 HD
      obtain ⟨hz1, hz2⟩ := hz1
      have hw1 : IntKind.i64.wrap (1103515245 * x) = 1103515245 * x := IntWalk.i64_in _ (by omega)
      have hw2 : IntKind.i64.wrap (1103515245 * x + 12345) = 1103515245 * x + 12345 := IntWalk.i64_in _ (by omega)
      have hw3 : IntKind.i64.wrap z = z := IntWalk.i64_in _ (by omega)
      have hw4 : IntKind.i64.wrap (z - 16384) = z - 16384 := IntWalk.i64_in _ (by omega)
      have hw5 : IntKind.i64.wrap y = y := IntWalk.i64_in _ (by omega)
      have hd : decide ((0 : Int) < ((n - j : Nat) : Int)) = true := decide_eq_true (by omega)
      generalize hi2 : n - j = left at hd ⊢
      have hl' := Lib.hid hi2
      have hl1 : 1 ≤ left := by omega
      have hl2 : left ≤ 144 := by omega
      clear hi2
      go_wp2_with (first
        | (refine wpList_farith rfl _ _ _ _ _ rfl rfl _ _ _ rfl rfl (FV.ofInt _ _) (FV.lit (by kernel_rfl) (by kernel_rfl)) ?_; intro rr m hr)
        | (at_builtin
           refine wpList_append_lies _ rfl _ _ _ rfl w.heap.size 36 i0 _ 1 4 Try.underlying24 hi hz0 hz1' hz2' rfl (by omega) (.slice a j cp) j xs rfl (by exact ownsRow_below hk.own (by repeat first | (with_reducible exact Below.refl _ _) | (with_reducible refine Below.setCell ?_ (by first | exact Nat.le_refl _ | (simp; done) | (simp; omega) | omega) _) | (with_reducible refine Below.alloc ?_ (by first | exact Nat.le_refl _ | (simp; done) | (simp; omega) | omega) _) | (with_reducible refine below_drewN ?_ _) | (with_reducible refine Below.drew ?_))) ⟨wr.heap.size, 0, none⟩ 1 1 [.float .f32 rr] rfl rfl
                (by exact World.news_of_block (cs := #[.float .f32 rr]) (t := 36) (fr := (0, 0)) (heap_alloc_new _ _)) (by simp [Value.oneCell']) (by omega) (by unfold maxLen; omega) (by omega) (by have := hk.bel.size; simp [World.drewN]; omega) (wr.heap.size + 1) (by simp [World.drewN]) ?_
           intro gg cp2 w2 hown2 hgrow2 hat2 hlt3
           have hbA := hlt3
           have q3 := hgrow2.cell (a := ⟨ob, 2, none⟩) (v := .slice a j cp) ((World.cell?_alloc_lt (wr.drewN m) _ ⟨ob, 2, none⟩ (by exact htop)).trans y2) (by intro e; exact (hk.far ob e.symm).1 rfl)
           have q4 : w2.frozen? ⟨ob, 2, none⟩ = false := (World.frozen?_of_block (a := ⟨ob, 2, none⟩) (hgrow2.block ob (by have := hk.top; simp [World.drewN]; omega) (fun e => (hk.far ob e.symm).1 rfl))).trans (by rw [frozen?_alloc_cells]; exact hice2 2)
           have hst := Lib.hid (hk.step (by repeat first | (with_reducible exact Below.refl _ _) | (with_reducible refine Below.setCell ?_ (by first | exact Nat.le_refl _ | (simp; done) | (simp; omega) | omega) _) | (with_reducible refine Below.alloc ?_ (by first | exact Nat.le_refl _ | (simp; done) | (simp; omega) | omega) _) | (with_reducible refine below_drewN ?_ _) | (with_reducible refine Below.drew ?_)) hown2 hgrow2 (by simpa [World.drewN] using hat2) (HD.out ▸ hr))))
      clear q3 q4 hown2 hgrow2 hat2 hlt3 hbA hk
      go_roundw
      case rel => exact ⟨j + 1, _, _, _, by omega, by rw [← hl'.out] ; go_num, by rw [hy'.out], hst.out⟩
      case measure => simp [intOf]; omega
    · obtain rfl : j = n := by omega
      obtain ⟨y0, y1, y2⟩ := hk.box
      obtain ⟨z0, z1, z2⟩ := hk.res
      obtain ⟨Y, hY, hV⟩ := hk.fs
      have B2 := hk.bel
      have hice := hk.ice
      have hfar : ∀ q, (∃ off, a = some ⟨q, off, none⟩) → q ≠ w.heap.size := by rintro q ⟨off, rfl⟩; exact (hk.far q rfl).2
      rw [Nat.sub_self]
      clear hk
      go_wp2_with fail
      refine bodyPost_ret (v := .tuple #[.agg #[.int .i64 r, .int .i64 c, .slice a j cp], .int .i64 (sd s j), .bool true]) (by simp [results, Try.results58, go_sem, y0, y1, y2, z0, z1, z2]) rfl ?_
      exact ⟨_, _, Y, rfl, FS.to hY (by simp [World.setCell]) (fun q hq => by have hf := hfar q hq; rw [Below.heap_setCell _ _ _ _ hf, Below.heap_setCell _ _ _ _ hf, Below.heap_setCell _ _ _ _ hf]), hV, (by repeat first | (with_reducible exact B2) | (with_reducible refine Below.setCell ?_ (by first | exact Nat.le_refl _ | (simp; done) | (simp; omega) | omega) _) | (with_reducible refine Below.alloc ?_ (by first | exact Nat.le_refl _ | (simp; done) | (simp; omega) | omega) _) | (with_reducible refine below_drewN ?_ _) | (with_reducible refine Below.drew ?_))⟩
theorem keyDrawnMatrix (R C s : Int) (wR : (Lit.int .i64 R).wf = true) (wC : (Lit.int .i64 C).wf = true) (ws : (Lit.int .i64 s).wf = true) : ∃ (ok : Bool) (R' C' : Int) (n : Nat) (V : Nat → Option Nat) (s' : Int), n ≤ 144 ∧
    (∀ W, Calls Try.prog 58 #[.int .i64 R, .int .i64 C, .int .i64 s] W (MatSBel ok R' C' n V s' W)) ∧ (∀ W, Calls Try.prog 59 #[.int .i64 R, .int .i64 C, .int .i64 s] W (MatSOwn ok R' C' n V s' W)) := by
  cases ho : drawB R C s with
  | false => exact ⟨false, 0, 0, 0, fun _ => none, 0, by omega, fun W => specDrawn_no R C s W ho, fun W => implDrawn_no R C s W ho⟩
  | true =>
    unfold drawB at ho
    simp only [Bool.and_eq_true, decide_eq_true_eq] at ho
    obtain ⟨h1, h2, h3, h4⟩ := ho
    obtain ⟨h11, h12⟩ := sideB_le h1
    obtain ⟨h21, h22⟩ := sideB_le h2
    obtain ⟨r, rfl⟩ : ∃ r : Nat, R = r := ⟨R.toNat, by omega⟩
    obtain ⟨c, rfl⟩ : ∃ c : Nat, C = c := ⟨C.toNat, by omega⟩
    exact ⟨true, r, c, r * c, dv s, sd s (r * c), sides_le (by omega) (by omega), fun W => specDrawn_yes r c _ s W (by omega) (by omega) (by omega) (by omega) rfl h3 h4, fun W => implDrawn_yes r c _ s W (by omega) (by omega) (by omega) (by omega) rfl h3 h4⟩
end Go.Proofs.Ytpgjfanacnbfkaa
