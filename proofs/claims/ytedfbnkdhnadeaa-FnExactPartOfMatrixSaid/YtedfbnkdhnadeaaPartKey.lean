/- Helper: a part of a matrix, of the reference, and the key. Conditions: none. -/
import Derived.Test.YtedfbnkdhnadeaaPartImpl
import Derived.Test.YtedfbnkdhnadeaaFlipWalks
set_option linter.unusedVariables false
namespace Go.Proofs.Ytedfbnkdhnadeaa
open Go.RowKit

set_option maxHeartbeats 1000000 in
theorem l02In_any (p R C n c : Nat) (A : Option Addr) (P Q X Y : Int) (w : World) (hR : R ≤ 12) (hC : C ≤ 12) (hb : Box w p R C A n c) :
    Calls Try.prog 111 #[.pointer (some ⟨p, 0, none⟩), .int .i64 X, .int .i64 Y, .int .i64 P, .int .i64 Q] w fun e w' => e = .returned (.bool (liB R P X && liB C Q Y)) ∧ w = w' := by
  rw [liB_eq (by omega) (by omega)]
  obtain ⟨x0, x1, x2⟩ := hb
  have hsd : ∀ W, Calls Try.prog 121 #[.int .i64 P, .int .i64 Q] W fun e w' => e = .returned (.bool (sideB P && sideB Q)) ∧ W = w' := fun W => specSides_any _ _ W
  cases hs : (sideB P && sideB Q) with
  | false =>
    rw [hs] at hsd
    clear hs
    go_enter Try.func111, Try.ntmps111
    go_wp2_with (go_at_call 121; refine (hsd _).mono ?_; rintro e w' ⟨rfl, rfl⟩)
    go_ret
    exact ⟨rfl, rfl⟩
  | true =>
    rw [hs] at hsd
    simp only [Bool.and_eq_true] at hs
    obtain ⟨p1, p2⟩ := sideB_le hs.1
    obtain ⟨q1, q2⟩ := sideB_le hs.2
    have hw1 : IntKind.i64.wrap ((R : Int) - P) = (R : Int) - P := IntWalk.i64_in _ (by omega)
    have hw2 : IntKind.i64.wrap ((C : Int) - Q) = (C : Int) - Q := IntWalk.i64_in _ (by omega)
    have hin1 : ∀ W, Calls Try.prog 124 #[.int .i64 X, .int .i64 0, .int .i64 ((R : Int) - P)] W fun e w' => e = .returned (.bool (inB X 0 ((R : Int) - P))) ∧ W = w' := fun W => l00In_any _ _ _ W
    have hin2 : ∀ W, Calls Try.prog 124 #[.int .i64 Y, .int .i64 0, .int .i64 ((C : Int) - Q)] W fun e w' => e = .returned (.bool (inB Y 0 ((C : Int) - Q))) ∧ W = w' := fun W => l00In_any _ _ _ W
    cases h1 : inB X 0 ((R : Int) - P) <;> cases h2 : inB Y 0 ((C : Int) - Q)
    all_goals
      rw [h1] at hin1
      rw [h2] at hin2
      clear hs h1 h2 p1 p2 q1 q2
      go_enter Try.func111, Try.ntmps111
      go_wp2_with (first | (go_at_call 121; refine (hsd _).mono ?_; rintro e w' ⟨rfl, rfl⟩) | (go_at_call 124; (first | (with_reducible refine (hin1 _).mono ?_) | (with_reducible refine (hin2 _).mono ?_)); rintro e w' ⟨rfl, rfl⟩))
      go_ret
      exact ⟨rfl, rfl⟩
set_option maxHeartbeats 2000000 in
theorem l02Part_any (p r c n b off cap x y p' q m : Nat) (Z : Nat → Nat) (w : World) (hr : r ≤ 12) (hc : c ≤ 12) (hn : n = r * c) (hp1 : 1 ≤ p') (hq1 : 1 ≤ q) (hx : x + p' ≤ r) (hy : y + q ≤ c) (hm : m = p' * q) (hp : p < w.heap.size) (hb : Box w p r c (some ⟨b, off, none⟩) n cap) (h : FS .f32 w (some ⟨b, off, none⟩) n cap Z) :
    Calls Try.prog 112 #[.pointer (some ⟨p, 0, none⟩), .int .i64 x, .int .i64 y, .int .i64 p', .int .i64 q] w (NewRead w p' q m (fun t => vals (partZ c q x y Z) t)) := by
  obtain ⟨x0, x1, x2⟩ := hb
  have hM := Lib.hid hm
  have hN := Lib.hid hn
  have hn144 : m ≤ 144 := by have := sides_le (show p' ≤ 12 by omega) (show q ≤ 12 by omega); omega
  have he : (p' : Int) * (q : Int) = ((m : Nat) : Int) := by rw [hm, Int.natCast_mul]
  clear hn hm
  go_enter Try.func112, Try.ntmps112
  go_wp2_with fail
  go_at_call 109
  refine (l02Blank_any _ _ _).mono ?_
  rintro e w1 ⟨g, rfl, o1, b1⟩
  have hB : Build w w1.heap.size w.heap.size p' q 0 (fun t => vals (partZ c q x y Z) t) _ (some ⟨g, 0, none⟩) 0 [] := Build.start1 (T1 := 0) (T2 := 28) (by simp) b1 (by refine ⟨?_, ?_, ?_⟩ <;> simp [go_sem]) (by intro i; simp [go_sem]) (by repeat first | (with_reducible exact Below.refl _ _) | (with_reducible refine Below.setCell ?_ (by first | exact Nat.le_refl _ | (simp; done) | (simp; omega) | omega) _) | (with_reducible refine Below.alloc ?_ (by first | exact Nat.le_refl _ | (simp; done) | (simp; omega) | omega) _) | (with_reducible refine below_drewN ?_ _) | (with_reducible refine Below.drew ?_)) o1
  have s1 : w.heap.size + 1 ≤ w1.heap.size := by have hh := b1.size; simp at hh; omega
  clear b1 o1
  generalize hob : w1.heap.size = ob at hB
  have hob' := Lib.hid hob
  go_wp2
  clear hob s1
  go_loopw [12] (fun i wr => ∃ (j : Nat) (a : Option Addr) (cp : Nat) (xs : List Value), j ≤ m ∧ i = .int .i64 j ∧ Build w ob w.heap.size p' q j (fun t => vals (partZ c q x y Z) t) wr a cp xs) (fun i _ => m - (intOf i).toNat)
  case atStart => exact ⟨0, _, _, _, Nat.zero_le _, rfl, hB⟩
  case round =>
    obtain ⟨j, a, cp, xs, hj, rfl, hk⟩ := hrel
    clear hB
    have q0 := (hk.bel.cell (p := ⟨p, 0, none⟩) hp).trans x0
    have q1 := (hk.bel.cell (p := ⟨p, 1, none⟩) hp).trans x1
    have q2 := (hk.bel.cell (p := ⟨p, 2, none⟩) hp).trans x2
    have hlo := hk.lo
    have hmid := hk.mid
    by_cases hlt : j < m
    · have hd : decide ((j : Int) < (m : Int)) = true := decide_eq_true (by omega)
      have hmod : j % q < q := Nat.mod_lt _ hq1
      have hdiv : j / q < p' := Nat.div_lt_of_lt_mul (by rw [Nat.mul_comm, ← hM.out]; exact hlt)
      obtain ⟨y0, y1, y2⟩ := hk.box
      obtain ⟨i0, hi, hz0, hz1, hz2⟩ := info_parts info32
      have hice2 := hk.ice2
      have htop := hk.top
      have hal : ∀ m o, ((wr.drewN m).alloc o).cell? ⟨ob, 2, none⟩ = some (.slice a j cp) := fun m o => (World.cell?_alloc_lt (wr.drewN m) o ⟨ob, 2, none⟩ (by exact htop)).trans y2
      have hr0 : ¬ (q = 0) := by omega
      have ht1 : Int.tmod (j : Int) (q : Int) = (j : Int) % (q : Int) := Int.tmod_eq_emod_of_nonneg (by omega)
      have ht2 : Int.tdiv (j : Int) (q : Int) = (j : Int) / (q : Int) := Int.tdiv_eq_ediv_of_nonneg (by omega)
      have e1 : ((j % q : Nat) : Int) = (j : Int) % (q : Int) := Int.natCast_emod _ _
      have e2 : ((j / q : Nat) : Int) = (j : Int) / (q : Int) := Int.natCast_ediv _ _
      have ht3 : IntKind.i64.wrap ((j : Int) / (q : Int)) = (j : Int) / (q : Int) := IntWalk.i64_in _ (by rw [← e2]; have h5 := Nat.div_le_self j q; generalize j / q = x at h5; omega)
      obtain ⟨A, hA⟩ : ∃ A, x + j / q = A := ⟨_, rfl⟩
      obtain ⟨B, hB'⟩ : ∃ B, y + j % q = B := ⟨_, rfl⟩
      have hAr : A < r := by omega
      have hBc : B < c := by omega
      have hW1 : IntKind.i64.wrap ((x : Int) + (j : Int) / (q : Int)) = (A : Int) := by
        rw [← e2]
        have e : (x : Int) + ((j / q : Nat) : Int) = (A : Int) := by omega
        rw [e]; exact IntWalk.i64_in _ (by omega)
      have hW2 : IntKind.i64.wrap ((y : Int) + (j : Int) % (q : Int)) = (B : Int) := by
        rw [← e1]
        have e : (y : Int) + ((j % q : Nat) : Int) = (B : Int) := by omega
        rw [e]; exact IntWalk.i64_in _ (by omega)
      have hAB := Lib.hid (And.intro hA hB')
      clear hA hB' hmod hdiv
      have hAt2 : ∀ m, Calls Try.prog 64 #[.pointer (some ⟨p, 0, none⟩), .int .i64 A, .int .i64 B] (wr.drewN m) fun e w' => e = .returned (.float .f32 (Z (A * c + B))) ∧ ∃ q, w' = (wr.drewN m).drewN q := fun m => specAt_any p b off r c n cap A B Z _ hr hc hN.out ⟨q0, q1, q2⟩ (FS.drewN (h.below hk.bel (Nat.le_refl _))) hAr hBc
      clear e1 e2
      go_wp2
      go_region_law (first
          | (go_simp; go_at_call 64; refine (hAt2 _).mono ?_; rintro e w' ⟨rfl, mA, rfl⟩; dsimp only)
          | (refine step_append_lies _ (by rfl) _ _ _ (by rfl) w.heap.size 40 i0 _ 1 4 Try.underlying22 hi hz0 hz1 hz2 rfl (by omega) (.slice a j cp) j xs (by rfl) (by exact ownsRow_below hk.own (by repeat first | (with_reducible exact Below.refl _ _) | (with_reducible refine Below.setCell ?_ (by first | exact Nat.le_refl _ | (simp; done) | (simp; omega) | omega) _) | (with_reducible refine Below.alloc ?_ (by first | exact Nat.le_refl _ | (simp; done) | (simp; omega) | omega) _) | (with_reducible refine below_drewN ?_ _) | (with_reducible refine Below.drew ?_))) ⟨wr.heap.size, 0, none⟩ 1 1 [.float .f32 (Z (A * c + B))] (by rfl) (by rfl)
              (by exact World.news_of_block (cs := #[.float .f32 (Z (A * c + B))]) (t := 40) (fr := (0, 0)) (heap_alloc_new _ _)) (by simp [Value.oneCell']) (by omega) (by unfold maxLen; omega) (by omega) (by have := hk.bel.size; simp [World.drew]; omega) (wr.heap.size + 1) (by simp [World.drew]) ?_
             intro gg cp2 w2 hown2 hgrow2 hat2 hlt2
             have hbA := hlt2
             have q3 := hgrow2.cell (a := ⟨ob, 2, none⟩) (v := .slice a j cp) (hal _ _) (by intro e; exact (hk.far ob e.symm).1 rfl)
             have q4 : w2.frozen? ⟨ob, 2, none⟩ = false := (World.frozen?_of_block (a := ⟨ob, 2, none⟩) (hgrow2.block ob (by have := hk.top; simp [World.drew]; omega) (fun e => (hk.far ob e.symm).1 rfl))).trans (by rw [frozen?_alloc_cells]; exact hice2 2)))
      all_goals
        have hfz : FV .f32 (Z (A * c + B)) (vals (partZ c q x y Z) j) := by
          have hp := place_lt hAr hBc
          rw [← hN.out] at hp
          have hv : partZ c q x y Z j = Z (A * c + B) := by unfold partZ; rw [hAB.out.1, hAB.out.2]
          show FV .f32 (Z (A * c + B)) (cn .f32 (partZ c q x y Z j))
          rw [hv]
          exact FV.mk' ((h.at hp).elim fun _ q => q.elim fun _ q => q.2.2.2.2)
        have hst := Lib.hid (hk.step (by repeat first | (with_reducible exact Below.refl _ _) | (with_reducible refine Below.setCell ?_ (by first | exact Nat.le_refl _ | (simp; done) | (simp; omega) | omega) _) | (with_reducible refine Below.alloc ?_ (by first | exact Nat.le_refl _ | (simp; done) | (simp; omega) | omega) _) | (with_reducible refine below_drewN ?_ _) | (with_reducible refine Below.drew ?_)) hown2 hgrow2 (by simpa [World.drew] using hat2) hfz)
        clear hal q3 q4 hown2 hgrow2 hat2 hlt2 hbA hAt2 hfz hk ht1 ht2 ht3 hW1 hW2
        go_wp2
        go_roundw
        case rel => exact ⟨j + 1, _, _, _, by omega, by go_num, hst.out⟩
        case measure => simp [intOf]; omega
    · obtain rfl : j = m := by omega
      obtain ⟨y0, y1, y2⟩ := hk.box
      obtain ⟨z0, z1, z2⟩ := hk.res
      obtain ⟨Y, hY, hV⟩ := hk.fs
      have B2 := hk.bel
      have hice := hk.ice
      have hfar : ∀ q, (∃ off, a = some ⟨q, off, none⟩) → q ≠ w.heap.size := by rintro q ⟨off, rfl⟩; exact (hk.far q rfl).2
      have hlow : ∀ q off, a = some ⟨q, off, none⟩ → w.heap.size ≤ q := by rintro q off rfl; exact (hk.own.lt q rfl).1
      have hd : decide ((j : Int) < (j : Int)) = false := decide_eq_false (by omega)
      clear hk
      go_wp2_with fail
      refine bodyPost_ret (v := .agg #[.int .i64 p', .int .i64 q, .slice a j cp]) (by simp [results, Try.results112, go_sem, y0, y1, y2, z0, z1, z2]) rfl ?_
      exact ⟨_, _, Y, rfl, FS.to hY (by simp [World.setCell]) (fun q hq => by have hf := hfar q hq; rw [Below.heap_setCell _ _ _ _ hf, Below.heap_setCell _ _ _ _ hf, Below.heap_setCell _ _ _ _ hf]), hlow, hV, (by repeat first | (with_reducible exact B2) | (with_reducible refine Below.setCell ?_ (by first | exact Nat.le_refl _ | (simp; done) | (simp; omega) | omega) _) | (with_reducible refine Below.alloc ?_ (by first | exact Nat.le_refl _ | (simp; done) | (simp; omega) | omega) _) | (with_reducible refine below_drewN ?_ _) | (with_reducible refine Below.drew ?_))⟩
def partOk (R C P Q X Y : Int) (n : Nat) (Z : Nat → Nat) : Bool := validB R C n (vals Z) && (liB R P X && liB C Q Y)
set_option maxHeartbeats 1000000 in
theorem specPart_no (R C P Q X Y : Int) (a : Option Addr) (n c : Nat) (Z : Nat → Nat) (w : World) (hn : n ≤ 1048576) (h : FS .f32 w a n c Z) (ho : partOk R C P Q X Y n Z = false) :
    Calls Try.prog 51 #[.agg #[.int .i64 R, .int .i64 C, .slice a n c], .int .i64 X, .int .i64 Y, .int .i64 P, .int .i64 Q] w (MatBel false 0 0 0 (fun _ => none) w) := by
  cases hv : validB R C n (vals Z) with
  | false =>
    clear ho
    go_enter Try.func51, Try.ntmps51
    go_wp2_with fail
    go_at_call 86
    refine (specIs_any _ R C a n c Z _ hn (by refine ⟨?_, ?_, ?_⟩ <;> simp [go_sem]) (h.below (by repeat first | (with_reducible exact Below.refl _ _) | (with_reducible refine Below.setCell ?_ (by first | exact Nat.le_refl _ | (simp; done) | (simp; omega) | omega) _) | (with_reducible refine Below.alloc ?_ (by first | exact Nat.le_refl _ | (simp; done) | (simp; omega) | omega) _) | (with_reducible refine below_drewN ?_ _) | (with_reducible refine Below.drew ?_)) (Nat.le_refl _))).mono ?_
    rintro e w1 ⟨rfl, m1, rfl⟩
    go_wp2_with fail
    refine bodyPost_ret (v := .tuple #[.agg #[.int .i64 0, .int .i64 0, .slice none 0 0], .bool false]) (by simp [results, Try.results51, go_sem]) rfl ?_
    exact ⟨none, 0, fun _ => 0, rfl, ⟨Nat.le_refl _, Nat.zero_le _, fun i hi => by omega⟩, fun i hi => by omega, (by repeat first | (with_reducible exact Below.refl _ _) | (with_reducible refine Below.setCell ?_ (by first | exact Nat.le_refl _ | (simp; done) | (simp; omega) | omega) _) | (with_reducible refine Below.alloc ?_ (by first | exact Nat.le_refl _ | (simp; done) | (simp; omega) | omega) _) | (with_reducible refine below_drewN ?_ _) | (with_reducible refine Below.drew ?_))⟩
  | true =>
    have hl : (liB R P X && liB C Q Y) = false := by unfold partOk at ho; rw [hv] at ho; exact ho
    obtain ⟨r, k, rfl, rfl, h1, h2, h3, h4, h5, h6⟩ := valid_nat hv
    clear h5 h6
    clear ho
    go_enter Try.func51, Try.ntmps51
    go_wp2_with fail
    go_at_call 86
    refine (specIs_any _ r k a n c Z _ hn (by refine ⟨?_, ?_, ?_⟩ <;> simp [go_sem]) (h.below (by repeat first | (with_reducible exact Below.refl _ _) | (with_reducible refine Below.setCell ?_ (by first | exact Nat.le_refl _ | (simp; done) | (simp; omega) | omega) _) | (with_reducible refine Below.alloc ?_ (by first | exact Nat.le_refl _ | (simp; done) | (simp; omega) | omega) _) | (with_reducible refine below_drewN ?_ _) | (with_reducible refine Below.drew ?_)) (Nat.le_refl _))).mono ?_
    rintro e w1 ⟨rfl, m1, rfl⟩
    go_wp2_with fail
    go_at_call 111
    refine (l02In_any _ r k n c a P Q X Y _ h2 h4 (by refine ⟨?_, ?_, ?_⟩ <;> simp [go_sem])).mono ?_
    rintro e w2 ⟨rfl, rfl⟩
    rw [hl]
    go_wp2_with fail
    refine bodyPost_ret (v := .tuple #[.agg #[.int .i64 0, .int .i64 0, .slice none 0 0], .bool false]) (by simp [results, Try.results51, go_sem]) rfl ?_
    exact ⟨none, 0, fun _ => 0, rfl, ⟨Nat.le_refl _, Nat.zero_le _, fun i hi => by omega⟩, fun i hi => by omega, (by repeat first | (with_reducible exact Below.refl _ _) | (with_reducible refine Below.setCell ?_ (by first | exact Nat.le_refl _ | (simp; done) | (simp; omega) | omega) _) | (with_reducible refine Below.alloc ?_ (by first | exact Nat.le_refl _ | (simp; done) | (simp; omega) | omega) _) | (with_reducible refine below_drewN ?_ _) | (with_reducible refine Below.drew ?_))⟩
set_option maxHeartbeats 2000000 in
theorem specPart_yes (r c n b off cap x y p' q m : Nat) (Z : Nat → Nat) (w : World) (hr1 : 1 ≤ r) (hr : r ≤ 12) (hc1 : 1 ≤ c) (hc : c ≤ 12) (hn : n = r * c) (hp1 : 1 ≤ p') (hq1 : 1 ≤ q) (hx : x + p' ≤ r) (hy : y + q ≤ c) (hm : m = p' * q) (hv : validB r c n (vals Z) = true)
    (hli : (liB r p' x && liB c q y) = true) (h : FS .f32 w (some ⟨b, off, none⟩) n cap Z) :
    Calls Try.prog 51 #[.agg #[.int .i64 r, .int .i64 c, .slice (some ⟨b, off, none⟩) n cap], .int .i64 x, .int .i64 y, .int .i64 p', .int .i64 q] w (MatBel true p' q m (fun t => vals (partZ c q x y Z) t) w) := by
  have hN := Lib.hid hn
  have hM := Lib.hid hm
  have hn144 : n ≤ 144 := by have := sides_le hr hc; omega
  clear hn hm
  go_enter Try.func51, Try.ntmps51
  go_wp2_with fail
  go_at_call 86
  refine (specIs_any _ r c _ n cap Z _ (by omega) (by refine ⟨?_, ?_, ?_⟩ <;> simp [go_sem]) (h.below (by repeat first | (with_reducible exact Below.refl _ _) | (with_reducible refine Below.setCell ?_ (by first | exact Nat.le_refl _ | (simp; done) | (simp; omega) | omega) _) | (with_reducible refine Below.alloc ?_ (by first | exact Nat.le_refl _ | (simp; done) | (simp; omega) | omega) _) | (with_reducible refine below_drewN ?_ _) | (with_reducible refine Below.drew ?_)) (Nat.le_refl _))).mono ?_
  rintro e w1 ⟨rfl, m1, rfl⟩
  go_wp2_with fail
  go_at_call 111
  refine (l02In_any _ r c n cap (some ⟨b, off, none⟩) p' q x y _ hr hc (by refine ⟨?_, ?_, ?_⟩ <;> simp [go_sem])).mono ?_
  rintro e w2 ⟨rfl, rfl⟩
  rw [hli]
  go_wp2_with fail
  go_at_call 112
  refine (l02Part_any _ r c n b off cap x y p' q m Z _ hr hc hN.out hp1 hq1 hx hy hM.out (by simp [World.drewN] <;> omega) (by refine ⟨?_, ?_, ?_⟩ <;> simp [go_sem]) (h.below (by repeat first | (with_reducible exact Below.refl _ _) | (with_reducible refine Below.setCell ?_ (by first | exact Nat.le_refl _ | (simp; done) | (simp; omega) | omega) _) | (with_reducible refine Below.alloc ?_ (by first | exact Nat.le_refl _ | (simp; done) | (simp; omega) | omega) _) | (with_reducible refine below_drewN ?_ _) | (with_reducible refine Below.drew ?_)) (Nat.le_refl _))).mono ?_
  rintro e w2 ⟨a, cp, Y, rfl, hY, hlow, hV, b2⟩
  have B2 : Below w.heap.size w w2 := Below.trans (by repeat first | (with_reducible exact Below.refl _ _) | (with_reducible refine Below.setCell ?_ (by first | exact Nat.le_refl _ | (simp; done) | (simp; omega) | omega) _) | (with_reducible refine Below.alloc ?_ (by first | exact Nat.le_refl _ | (simp; done) | (simp; omega) | omega) _) | (with_reducible refine below_drewN ?_ _) | (with_reducible refine Below.drew ?_)) (b2.mono (by simp [World.drewN] <;> omega))
  have s2 : w.heap.size + 1 + 1 ≤ w2.heap.size := by have := b2.size; simp [World.drewN] at this; omega
  have Z2 : Box w2 (w.heap.size + 1) 0 0 none 0 0 := by
    obtain ⟨hc, hf⟩ := bcell b2
    refine ⟨?_, ?_, ?_⟩ <;> (rw [hc _ _ (by simp [World.drewN] <;> omega)]; simp [go_sem])
  have I2 : ∀ i, w2.frozen? ⟨w.heap.size + 1, i, none⟩ = false := fun i => by rw [(bcell b2).2 _ _ (by simp [World.drewN] <;> omega)]; simp [go_sem]
  have hfar : ∀ q, (∃ off, a = some ⟨q, off, none⟩) → q ≠ w.heap.size + 1 := by
    rintro q ⟨off, rfl⟩ e
    have hl := hlow q off rfl
    simp [World.drewN] at hl
    omega
  obtain ⟨z0, z1, z2⟩ := Z2
  clear b2 hlow
  go_wp2_with fail
  refine bodyPost_ret (v := .tuple #[.agg #[.int .i64 p', .int .i64 q, .slice a m cp], .bool true]) (by simp [results, Try.results51, go_sem, z0, z1, z2]) rfl ?_
  exact ⟨_, _, Y, rfl, FS.to hY (by simp [World.setCell]) (fun q hq => by have hf := hfar q hq; rw [Below.heap_setCell _ _ _ _ hf, Below.heap_setCell _ _ _ _ hf, Below.heap_setCell _ _ _ _ hf]), hV, (by repeat first | (with_reducible exact B2) | (with_reducible refine Below.setCell ?_ (by first | exact Nat.le_refl _ | (simp; done) | (simp; omega) | omega) _) | (with_reducible refine Below.alloc ?_ (by first | exact Nat.le_refl _ | (simp; done) | (simp; omega) | omega) _) | (with_reducible refine below_drewN ?_ _) | (with_reducible refine Below.drew ?_))⟩
set_option maxHeartbeats 1000000 in
theorem implPart_no (R C P Q X Y : Int) (a : Option Addr) (n c : Nat) (Z : Nat → Nat) (w : World) (hn : n ≤ 1048576) (h : FS .f32 w a n c Z) (ho : partOk R C P Q X Y n Z = false) :
    Calls Try.prog 52 #[.agg #[.int .i64 R, .int .i64 C, .slice a n c], .int .i64 X, .int .i64 Y, .int .i64 P, .int .i64 Q] w (MatOwn false 0 0 0 (fun _ => none) w) := by
  cases hv : validB R C n (vals Z) with
  | false =>
    clear ho
    go_enter Try.func52, Try.ntmps52
    go_wp2_with fail
    go_at_call 88
    refine (implValid_any R C a n c Z _ hn (h.below (by repeat first | (with_reducible exact Below.refl _ _) | (with_reducible refine Below.setCell ?_ (by first | exact Nat.le_refl _ | (simp; done) | (simp; omega) | omega) _) | (with_reducible refine Below.alloc ?_ (by first | exact Nat.le_refl _ | (simp; done) | (simp; omega) | omega) _) | (with_reducible refine below_drewN ?_ _) | (with_reducible refine Below.drew ?_)) (Nat.le_refl _))).mono ?_
    rintro e w1 ⟨rfl, b1⟩
    have B1 : Below w.heap.size w w1 := Below.trans (by repeat first | (with_reducible exact Below.refl _ _) | (with_reducible refine Below.setCell ?_ (by first | exact Nat.le_refl _ | (simp; done) | (simp; omega) | omega) _) | (with_reducible refine Below.alloc ?_ (by first | exact Nat.le_refl _ | (simp; done) | (simp; omega) | omega) _) | (with_reducible refine below_drewN ?_ _) | (with_reducible refine Below.drew ?_)) (b1.mono (by simp <;> omega))
    obtain ⟨hc, hf⟩ := bcell b1
    have s1 : w.heap.size + 1 + 1 ≤ w1.heap.size := by have := b1.size; simp at this; omega
    go_wp2_with fail
    refine bodyPost_ret (v := .tuple #[.agg #[.int .i64 0, .int .i64 0, .slice none 0 0], .bool false]) (by simp [results, Try.results52, go_sem, hc]) rfl ?_
    exact ⟨none, 0, fun _ => 0, rfl, .inl ⟨rfl, rfl, rfl⟩, fun i hi => by omega, (by repeat first | (with_reducible exact B1) | (with_reducible refine Below.setCell ?_ (by first | exact Nat.le_refl _ | (simp; done) | (simp; omega) | omega) _) | (with_reducible refine Below.alloc ?_ (by first | exact Nat.le_refl _ | (simp; done) | (simp; omega) | omega) _) | (with_reducible refine below_drewN ?_ _) | (with_reducible refine Below.drew ?_))⟩
  | true =>
    have hl : (liB R P X && liB C Q Y) = false := by unfold partOk at ho; rw [hv] at ho; exact ho
    obtain ⟨r, k, rfl, rfl, h1, h2, h3, h4, h5, h6⟩ := valid_nat hv
    clear h5 h6
    clear ho
    go_enter Try.func52, Try.ntmps52
    go_wp2_with fail
    go_at_call 88
    refine (implValid_any r k a n c Z _ hn (h.below (by repeat first | (with_reducible exact Below.refl _ _) | (with_reducible refine Below.setCell ?_ (by first | exact Nat.le_refl _ | (simp; done) | (simp; omega) | omega) _) | (with_reducible refine Below.alloc ?_ (by first | exact Nat.le_refl _ | (simp; done) | (simp; omega) | omega) _) | (with_reducible refine below_drewN ?_ _) | (with_reducible refine Below.drew ?_)) (Nat.le_refl _))).mono ?_
    rintro e w1 ⟨rfl, b1⟩
    have B1 : Below w.heap.size w w1 := Below.trans (by repeat first | (with_reducible exact Below.refl _ _) | (with_reducible refine Below.setCell ?_ (by first | exact Nat.le_refl _ | (simp; done) | (simp; omega) | omega) _) | (with_reducible refine Below.alloc ?_ (by first | exact Nat.le_refl _ | (simp; done) | (simp; omega) | omega) _) | (with_reducible refine below_drewN ?_ _) | (with_reducible refine Below.drew ?_)) (b1.mono (by simp <;> omega))
    have s1 : w.heap.size + 1 + 1 ≤ w1.heap.size := by have := b1.size; simp at this; omega
    have X1 : Box w1 w.heap.size r k a n c := by
      obtain ⟨hc, hf⟩ := bcell b1
      refine ⟨?_, ?_, ?_⟩ <;> (rw [hc _ _ (by simp <;> omega)]; simp [go_sem])
    have Z1 : Box w1 (w.heap.size + 1) 0 0 none 0 0 := by
      obtain ⟨hc, hf⟩ := bcell b1
      refine ⟨?_, ?_, ?_⟩ <;> (rw [hc _ _ (by simp <;> omega)]; simp [go_sem])
    have I1 : ∀ i, w1.frozen? ⟨w.heap.size + 1, i, none⟩ = false := fun i => by rw [(bcell b1).2 _ _ (by simp <;> omega)]; simp [go_sem]
    obtain ⟨y0, y1, y2⟩ := X1
    clear b1
    go_wp2_with fail
    go_at_call 114
    refine (sidesOf_any r k _ n c _).mono ?_
    rintro e w2 ⟨rfl, b2⟩
    go_wp2_with fail
    go_at_call 113
    refine (liesIn_any r k P Q X Y _ (by omega) (by omega) (by omega) (by omega)).mono ?_
    rintro e w3 ⟨rfl, b3⟩
    rw [hl]
    have B2 := B1.trans (b2.mono B1.size)
    have B3 := B2.trans (b3.mono B2.size)
    have s2 := b2.size
    have s3 := b3.size
    obtain ⟨z0, z1, z2⟩ := (Z1.below b2 (by omega)).below b3 (by omega)
    have I3 : ∀ i, w3.frozen? ⟨w.heap.size + 1, i, none⟩ = false := fun i => (b3.frozen (p := ⟨w.heap.size + 1, i, none⟩) (by show w.heap.size + 1 < w2.heap.size; omega)).trans ((b2.frozen (p := ⟨w.heap.size + 1, i, none⟩) (by show w.heap.size + 1 < w1.heap.size; omega)).trans (I1 i))
    clear b2 b3 y0 y1 y2 I1 Z1
    go_wp2_with fail
    refine bodyPost_ret (v := .tuple #[.agg #[.int .i64 0, .int .i64 0, .slice none 0 0], .bool false]) (by simp [results, Try.results52, go_sem, z0, z1, z2]) rfl ?_
    exact ⟨none, 0, fun _ => 0, rfl, .inl ⟨rfl, rfl, rfl⟩, fun i hi => by omega, (by repeat first | (with_reducible exact B3) | (with_reducible refine Below.setCell ?_ (by first | exact Nat.le_refl _ | (simp; done) | (simp; omega) | omega) _) | (with_reducible refine Below.alloc ?_ (by first | exact Nat.le_refl _ | (simp; done) | (simp; omega) | omega) _) | (with_reducible refine below_drewN ?_ _) | (with_reducible refine Below.drew ?_))⟩
theorem keyPartOfMatrix (R C : Int) (n : Nat) (Z : Nat → Nat) (X Y P Q : Int) (hn : n ≤ 1048576) (wX : (Lit.int .i64 X).wf = true) (wY : (Lit.int .i64 Y).wf = true) (wP : (Lit.int .i64 P).wf = true) (wQ : (Lit.int .i64 Q).wf = true) : ∃ (ok : Bool) (R' C' : Int) (n' : Nat) (V : Nat → Option Nat), n' ≤ 144 ∧
    (∀ a c W, FS .f32 W a n c Z → Calls Try.prog 51 #[.agg #[.int .i64 R, .int .i64 C, .slice a n c], .int .i64 X, .int .i64 Y, .int .i64 P, .int .i64 Q] W (MatBel ok R' C' n' V W)) ∧
    (∀ a c W, FS .f32 W a n c Z → Calls Try.prog 52 #[.agg #[.int .i64 R, .int .i64 C, .slice a n c], .int .i64 X, .int .i64 Y, .int .i64 P, .int .i64 Q] W (MatOwn ok R' C' n' V W)) := by
  cases ho : partOk R C P Q X Y n Z with
  | false => exact ⟨false, 0, 0, 0, fun _ => none, by omega, fun a c W h => specPart_no R C P Q X Y a n c Z W hn h ho, fun a c W h => implPart_no R C P Q X Y a n c Z W hn h ho⟩
  | true =>
    unfold partOk at ho
    rw [Bool.and_eq_true] at ho
    obtain ⟨hv, hl⟩ := ho
    obtain ⟨r, c, rfl, rfl, h1, h2, h3, h4, h5, _⟩ := valid_nat hv
    have hl' := hl
    unfold liB at hl'
    simp only [Bool.and_eq_true, decide_eq_true_eq] at hl'
    obtain ⟨⟨p1, p2, x1, x2⟩, q1, q2, y1, y2⟩ := hl'
    obtain ⟨x, rfl⟩ : ∃ x : Nat, X = x := ⟨X.toNat, by omega⟩
    obtain ⟨y, rfl⟩ : ∃ y : Nat, Y = y := ⟨Y.toNat, by omega⟩
    obtain ⟨p, rfl⟩ : ∃ p : Nat, P = p := ⟨P.toNat, by omega⟩
    obtain ⟨q, rfl⟩ : ∃ q : Nat, Q = q := ⟨Q.toNat, by omega⟩
    refine ⟨true, p, q, p * q, fun t => vals (partZ c q x y Z) t, by have := sides_le (show p ≤ 12 by omega) (show q ≤ 12 by omega); omega, fun a cap W k1 => ?_, fun a cap W k1 => ?_⟩
    all_goals
      have h0 : 0 < n := by rw [h5]; exact Nat.mul_pos h1 h3
      obtain ⟨b1, o1, rfl, _⟩ := k1.at h0
    · exact specPart_yes r c n b1 o1 cap x y p q (p * q) Z W h1 h2 h3 h4 h5 (by omega) (by omega) (by omega) (by omega) rfl hv hl k1
    · exact implPart_yes r c n b1 o1 cap x y p q (p * q) Z W h1 h2 h3 h4 h5 (by omega) (by omega) (by omega) (by omega) rfl hv hl k1
end Go.Proofs.Ytedfbnkdhnadeaa
