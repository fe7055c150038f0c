/- Helper: squares whose numbers are told by places in a list, of the reference. Conditions: none. -/
import Derived.Test.YtpmilaemmdcfaaaRingImpl
set_option linter.unusedVariables false
set_option linter.unusedSimpArgs false
namespace Go.Proofs.Ytpmilaemmdcfaaa
open Go.RowKit

theorem validB_congr {R C : Int} {n : Nat} {V W : Nat → Option Nat} (h : ∀ i, i < n → V i = W i) : validB R C n V = validB R C n W := by unfold validB; rw [allFin_congr h]

set_option maxRecDepth 20000 in
set_option maxHeartbeats 4000000 in
theorem specRing_yes (b off c d n : Nat) (Z : Nat → Nat) (w : World) (h1 : 1 ≤ c) (h2 : c ≤ 12) (hn : n = c * c) (hr : rowB c (vals Z) = true) (h : FS .f32 w (some ⟨b, off, none⟩) c d Z) :
    Calls Try.prog 18 #[.slice (some ⟨b, off, none⟩) c d] w (MatBel true c c n (vals (byZ c Z (ringI c))) w) := by
  obtain ⟨I, hII⟩ : ∃ I, I = (ringI c) := ⟨_, rfl⟩
  have hI : ∀ i k, i < c → k < c → I i k < c := by rw [hII]; exact (fun i k hi hk => Nat.mod_lt _ (by omega))
  rw [← hII]
  have HI := Lib.hid hII
  have hN := Lib.hid hn
  have hn144 : n ≤ 144 := by have := sides_le h2 h2; omega
  have hcm : c ≤ 1048576 := by omega
  clear hII hn
  have hval : validB c c n (vals (byZ c Z I)) = true := by
    rw [validB_nat h1 h2 h1 h2 hN.out]
    exact byZ_fin hN.out hI (rowB_yes hr).2.2
  go_enter Try.func18, Try.ntmps18
  go_wp2_with fail
  go_at_call 39
  refine (specRow_any _ c d Z _ hcm (h.below (by repeat first | (with_reducible exact Below.refl _ _) | (with_reducible refine Below.setCell ?_ (by first | exact Nat.le_refl _ | (simp; done) | (simp; omega) | omega) _) | (with_reducible refine Below.alloc ?_ (by first | exact Nat.le_refl _ | (simp; done) | (simp; omega) | omega) _) | (with_reducible refine below_drewN ?_ _) | (with_reducible refine Below.drew ?_)) (Nat.le_refl _))).mono ?_
  rintro e w' ⟨rfl, q0, rfl⟩
  rw [hr]
  go_wp2_with fail
  go_at_call 40
  refine (l02Blank_any _ _ _).mono ?_
  rintro e w1 ⟨g, rfl, o1, b1⟩
  have s1 : w.heap.size + 1 ≤ w1.heap.size := (by have hh := b1.size; (try simp at hh); omega)
  have hB : Build w w1.heap.size w.heap.size c c 0 (vals (byZ c Z I)) _ (some ⟨g, 0, none⟩) 0 [] := Build.start1 (T1 := 0) (T2 := 35) (by simp) b1 (by refine ⟨?_, ?_, ?_⟩ <;> simp [go_sem]) (by intro i; simp [go_sem]) (by repeat first | (with_reducible exact Below.refl _ _) | (with_reducible refine Below.setCell ?_ (by first | exact Nat.le_refl _ | (simp; done) | (simp; omega) | omega) _) | (with_reducible refine Below.alloc ?_ (by first | exact Nat.le_refl _ | (simp; done) | (simp; omega) | omega) _) | (with_reducible refine below_drewN ?_ _) | (with_reducible refine Below.drew ?_)) o1
  clear o1 b1 hr
  generalize hob : w1.heap.size = ob at hB s1
  have hob' := Lib.hid hob
  have hval' := Lib.hid hval
  clear hval
  go_wp2
  clear hob
  go_loopw [6] (fun i wr => ∃ (j : Nat) (a : Option Addr) (cp : Nat) (xs : List Value), j ≤ c ∧ i = .int .i64 j ∧ Build w ob w.heap.size c c (j * c) (vals (byZ c Z I)) wr a cp xs) (fun i _ => c - (intOf i).toNat)
  case atStart => exact ⟨0, _, _, _, Nat.zero_le _, rfl, by rw [Nat.zero_mul]; exact hB⟩
  case round =>
    obtain ⟨j, a, cp, xs, hj, rfl, hk⟩ := hrel
    clear hB
    have hlo := hk.lo
    have hmid := hk.mid
    by_cases hlt : j < c
    · have hd : decide ((j : Int) < (c : Int)) = true := decide_eq_true (by omega)
      have hk' := Lib.hid hk
      clear hk
      go_wp2_with fail
      go_loopw [7] (fun i wr => ∃ (q : Nat) (a : Option Addr) (cp : Nat) (xs : List Value), q ≤ c ∧ i = .int .i64 q ∧ Build w ob w.heap.size c c (j * c + q) (vals (byZ c Z I)) wr a cp xs) (fun i _ => c - (intOf i).toNat)
      case atStart => exact ⟨0, _, _, _, Nat.zero_le _, rfl, hk'.out⟩
      case round =>
       obtain ⟨q, a, cp, xs, hq, rfl, hk⟩ := hrel
       clear hk'
       by_cases hlt2 : q < c
       · have hd2 : decide ((q : Int) < (c : Int)) = true := decide_eq_true (by omega)
         have hIq := hI j q hlt hlt2
         have hpl := place_lt hlt hlt2
         have h144 := sides_le h2 h2
         obtain ⟨b', off', e, hbl, hcz, hfz⟩ := (h.below hk.bel (Nat.le_refl _)).at hIq
         simp only [Option.some.injEq, Addr.mk.injEq, and_true] at e
         obtain ⟨rfl, rfl⟩ := e
         have hbz : byZ c Z I (j * c + q) = Z (I j q) := by
           obtain ⟨e1, e2⟩ := place_div (j := j) hlt2
           unfold byZ; rw [e1, e2]
         obtain ⟨t, ht⟩ : ∃ t, t = j * c + q := ⟨_, rfl⟩
         rw [← ht] at hk hbz hpl
         have hT1 : Hid (j * c + (q + 1) = t + 1) := Lib.hid (by omega)
         have hfz2 : FV .f32 (Z (I j q)) (vals (byZ c Z I) t) := by show FV .f32 _ (cn .f32 (byZ c Z I t)); rw [hbz]; exact hfz
         have htm := ring_tmod (c := c) hlt hlt2
         have hw1 : IntKind.i64.wrap ((j : Int) - (q : Int)) = (j : Int) - (q : Int) := IntWalk.i64_in _ (by omega)
         have hw2 : IntKind.i64.wrap ((j : Int) - (q : Int) + (c : Int)) = (j : Int) - (q : Int) + (c : Int) := IntWalk.i64_in _ (by omega)
         have hc0 : ¬ (c = 0) := by omega
         rw [show ringI c j q = I j q by rw [HI.out]] at htm
         have hfz' := Lib.hid hfz2
         have hwz := hfz.2
         generalize I j q = u at hIq hcz hfz' hfz hwz htm
         generalize Z u = z at hcz hfz' hfz hwz
         obtain ⟨y0, y1, y2⟩ := hk.box
         obtain ⟨i0, hi, hz0, hz1, hz2⟩ := info_parts info32
         have hice2 := hk.ice2
         have htop := hk.top
         have hal : ∀ m o, ((wr.drewN m).alloc o).cell? ⟨ob, 2, none⟩ = some (.slice a t cp) := fun m o => (World.cell?_alloc_lt (wr.drewN m) o ⟨ob, 2, none⟩ (by exact htop)).trans y2
         clear hfz2 ht hbz hfz
         go_wp2
         go_region_law (first
               | (refine step_append_lies _ (by rfl) _ _ _ (by rfl) w.heap.size 23 i0 _ 1 4 Try.underlying22 hi hz0 hz1 hz2 rfl (by omega) (.slice a t cp) t xs (by rfl) (by exact ownsRow_below hk.own (by repeat first | (with_reducible exact Below.refl _ _) | (with_reducible refine Below.setCell ?_ (by first | exact Nat.le_refl _ | (simp; done) | (simp; omega) | omega) _) | (with_reducible refine Below.alloc ?_ (by first | exact Nat.le_refl _ | (simp; done) | (simp; omega) | omega) _) | (with_reducible refine below_drewN ?_ _) | (with_reducible refine Below.drew ?_))) ⟨wr.heap.size, 0, none⟩ 1 1 [.float .f32 z] (by rfl) (by rfl)
                   (by exact World.news_of_block (cs := #[.float .f32 z]) (t := 23) (fr := (0, 0)) (heap_alloc_new _ _)) (by simp [Value.oneCell']) (by omega) (by unfold maxLen; omega) (by omega) (by have := hk.bel.size; simp [World.drew]; omega) (wr.heap.size + 1) (by simp [World.drew]) ?_
                  intro gg cp2 w2 hown2 hgrow2 hat2 hlt2
                  have hbA := hlt2
                  have q3 := hgrow2.cell (a := ⟨ob, 2, none⟩) (v := .slice a t cp) (hal _ _) (by intro e; exact (hk.far ob e.symm).1 rfl)
                  have q4 : w2.frozen? ⟨ob, 2, none⟩ = false := (World.frozen?_of_block (a := ⟨ob, 2, none⟩) (hgrow2.block ob (by have := hk.top; simp [World.drew]; omega) (fun e => (hk.far ob e.symm).1 rfl))).trans (by first | (rw [frozen?_alloc_cells]; exact hice2 2) | (rw [World.frozen?_drew, frozen?_alloc_cells]; exact hice2 2) | (show (wr.alloc _).frozen? _ = false; rw [frozen?_alloc_cells]; exact hice2 2))))
         all_goals
           have hst := Lib.hid (hk.step (by repeat first | (with_reducible exact Below.refl _ _) | (with_reducible refine Below.setCell ?_ (by first | exact Nat.le_refl _ | (simp; done) | (simp; omega) | omega) _) | (with_reducible refine Below.alloc ?_ (by first | exact Nat.le_refl _ | (simp; done) | (simp; omega) | omega) _) | (with_reducible refine below_drewN ?_ _) | (with_reducible refine Below.drew ?_)) hown2 hgrow2 (by simpa [World.drew] using hat2) hfz'.out)
           clear hal q3 q4 hown2 hgrow2 hat2 hlt2 hbA hk htm hw1 hw2
           go_wp2
           go_roundw
           case rel => exact ⟨q + 1, _, _, _, by omega, by go_num, by rw [hT1.out]; exact hst.out⟩
           case measure => simp [intOf]; omega
       · obtain rfl : q = c := by omega
         have hst : Hid (Build w ob w.heap.size q q ((j + 1) * q) (vals (byZ q Z I)) wr a cp xs) := Lib.hid (by rw [Nat.succ_mul]; exact hk)
         have hd2 : decide ((q : Int) < (q : Int)) = false := decide_eq_false (by omega)
         clear hk
         go_wp2_with fail
         go_roundw
         case rel => exact ⟨j + 1, _, _, _, by omega, by go_num, hst.out⟩
         case measure => simp [intOf]; omega
    · obtain rfl : j = c := by omega
      have hd : decide ((j : Int) < (j : Int)) = false := decide_eq_false (by omega)
      rw [← hN.out] at hk
      obtain ⟨y0, y1, y2⟩ := hk.box
      obtain ⟨z0, z1, z2⟩ := hk.res
      obtain ⟨Y, hY, hV⟩ := hk.fs
      have B2 := hk.bel
      have hice := hk.ice
      have htop := hk.top
      have hfar : ∀ q, (∃ off, a = some ⟨q, off, none⟩) → q ≠ w.heap.size := by rintro q ⟨off, rfl⟩; exact (hk.far q rfl).2
      clear hk
      go_wp2_with fail
      go_at_call 41
      refine (specGive_yes _ _ a n cp Y _ (by omega) hY (by rw [← hval'.out]; exact validB_congr hV)).mono ?_
      rintro e w3 ⟨rfl, b3⟩
      have hs3 := b3.size
      obtain ⟨hc3, hf3⟩ := bcell b3
      have hwl : w.heap.size < wr.heap.size := by omega
      have x0 := (hc3 w.heap.size 0 hwl).trans z0
      have x1 := (hc3 w.heap.size 1 hwl).trans z1
      have x2 := (hc3 w.heap.size 2 hwl).trans z2
      have ix : ∀ i, w3.frozen? ⟨w.heap.size, i, none⟩ = false := fun i => (hf3 w.heap.size i hwl).trans (hice i)
      have hY3 := hY.below b3 (Nat.le_refl _)
      have B3 := B2.trans (b3.mono B2.size)
      clear hc3 hf3 z0 z1 z2 y0 y1 y2 hY b3
      go_wp2_with fail
      refine bodyPost_ret (v := .tuple #[.agg #[.int .i64 j, .int .i64 j, .slice a n cp], .bool true]) (by simp [results, Try.results18, go_sem, x0, x1, x2]) rfl ?_
      exact ⟨_, _, Y, rfl, FS.to hY3 (by simp [World.setCell]) (fun q hq => by have hf := hfar q hq; rw [Below.heap_setCell _ _ _ _ hf, Below.heap_setCell _ _ _ _ hf, Below.heap_setCell _ _ _ _ hf]), hV, (by repeat first | (with_reducible exact B3) | (with_reducible refine Below.setCell ?_ (by first | exact Nat.le_refl _ | (simp; done) | (simp; omega) | omega) _) | (with_reducible refine Below.alloc ?_ (by first | exact Nat.le_refl _ | (simp; done) | (simp; omega) | omega) _) | (with_reducible refine below_drewN ?_ _) | (with_reducible refine Below.drew ?_))⟩
theorem specRing_no (a : Option Addr) (c d : Nat) (Z : Nat → Nat) (w : World) (hc : c ≤ 1048576) (hr : rowB c (vals Z) = false) (h : FS .f32 w a c d Z) :
    Calls Try.prog 18 #[.slice a c d] w (MatBel false 0 0 0 (fun _ => none) w) := by
  go_enter Try.func18, Try.ntmps18
  go_wp2_with fail
  go_at_call 39
  refine (specRow_any _ c d Z _ hc (h.below (by repeat first | (with_reducible exact Below.refl _ _) | (with_reducible refine Below.setCell ?_ (by first | exact Nat.le_refl _ | (simp; done) | (simp; omega) | omega) _) | (with_reducible refine Below.alloc ?_ (by first | exact Nat.le_refl _ | (simp; done) | (simp; omega) | omega) _) | (with_reducible refine below_drewN ?_ _) | (with_reducible refine Below.drew ?_)) (Nat.le_refl _))).mono ?_
  rintro e w' ⟨rfl, q0, rfl⟩
  rw [hr]
  go_wp2_with fail
  refine bodyPost_ret (v := .tuple #[.agg #[.int .i64 0, .int .i64 0, .slice none 0 0], .bool false]) (by simp [results, Try.results18, go_sem]) rfl ?_
  exact ⟨none, 0, fun _ => 0, rfl, ⟨Nat.le_refl _, Nat.zero_le _, fun i hi => by omega⟩, fun i hi => by omega, (by repeat first | (with_reducible exact Below.refl _ _) | (with_reducible refine Below.setCell ?_ (by first | exact Nat.le_refl _ | (simp; done) | (simp; omega) | omega) _) | (with_reducible refine Below.alloc ?_ (by first | exact Nat.le_refl _ | (simp; done) | (simp; omega) | omega) _) | (with_reducible refine below_drewN ?_ _) | (with_reducible refine Below.drew ?_))⟩
set_option maxRecDepth 20000 in
set_option maxHeartbeats 4000000 in
theorem l07Shift_any (b off c d n : Nat) (Z : Nat → Nat) (w : World) (h1 : 1 ≤ c) (h2 : c ≤ 12) (hn : n = c * c) (h : FS .f32 w (some ⟨b, off, none⟩) c d Z) :
    Calls Try.prog 44 #[.slice (some ⟨b, off, none⟩) c d] w (NewRead w c c n (vals (byZ c Z shiftI))) := by
  obtain ⟨I, hII⟩ : ∃ I, I = shiftI := ⟨_, rfl⟩
  have hI : ∀ i k, i < c → k < c → I i k < c := by rw [hII]; exact (fun i k hi hk => shiftI_lt hi hk)
  rw [← hII]
  have HI := Lib.hid hII
  have hN := Lib.hid hn
  have hn144 : n ≤ 144 := by have := sides_le h2 h2; omega
  have hcm : c ≤ 1048576 := by omega
  clear hII hn
  go_enter Try.func44, Try.ntmps44
  go_wp2_with fail
  go_at_call 40
  refine (l02Blank_any _ _ _).mono ?_
  rintro e w1 ⟨g, rfl, o1, b1⟩
  have s1 : w.heap.size + 1 ≤ w1.heap.size := (by have hh := b1.size; (try simp at hh); omega)
  have hB : Build w w1.heap.size w.heap.size c c 0 (vals (byZ c Z I)) _ (some ⟨g, 0, none⟩) 0 [] := Build.start1 (T1 := 0) (T2 := 35) (by simp) b1 (by refine ⟨?_, ?_, ?_⟩ <;> simp [go_sem]) (by intro i; simp [go_sem]) (by repeat first | (with_reducible exact Below.refl _ _) | (with_reducible refine Below.setCell ?_ (by first | exact Nat.le_refl _ | (simp; done) | (simp; omega) | omega) _) | (with_reducible refine Below.alloc ?_ (by first | exact Nat.le_refl _ | (simp; done) | (simp; omega) | omega) _) | (with_reducible refine below_drewN ?_ _) | (with_reducible refine Below.drew ?_)) o1
  clear o1 b1
  generalize hob : w1.heap.size = ob at hB s1
  have hob' := Lib.hid hob
  go_wp2
  clear hob
  go_loopw [5] (fun i wr => ∃ (j : Nat) (a : Option Addr) (cp : Nat) (xs : List Value), j ≤ c ∧ i = .int .i64 j ∧ Build w ob w.heap.size c c (j * c) (vals (byZ c Z I)) wr a cp xs) (fun i _ => c - (intOf i).toNat)
  case atStart => exact ⟨0, _, _, _, Nat.zero_le _, rfl, by rw [Nat.zero_mul]; exact hB⟩
  case round =>
    obtain ⟨j, a, cp, xs, hj, rfl, hk⟩ := hrel
    clear hB
    have hlo := hk.lo
    have hmid := hk.mid
    by_cases hlt : j < c
    · have hd : decide ((j : Int) < (c : Int)) = true := decide_eq_true (by omega)
      have hk' := Lib.hid hk
      clear hk
      go_wp2_with fail
      go_loopw [6] (fun i wr => ∃ (q : Nat) (a : Option Addr) (cp : Nat) (xs : List Value), q ≤ c ∧ i = .int .i64 q ∧ Build w ob w.heap.size c c (j * c + q) (vals (byZ c Z I)) wr a cp xs) (fun i _ => c - (intOf i).toNat)
      case atStart => exact ⟨0, _, _, _, Nat.zero_le _, rfl, hk'.out⟩
      case round =>
       obtain ⟨q, a, cp, xs, hq, rfl, hk⟩ := hrel
       clear hk'
       by_cases hlt2 : q < c
       · have hd2 : decide ((q : Int) < (c : Int)) = true := decide_eq_true (by omega)
         have hIq := hI j q hlt hlt2
         have hpl := place_lt hlt hlt2
         have h144 := sides_le h2 h2
         obtain ⟨b', off', e, hbl, hcz, hfz⟩ := (h.below hk.bel (Nat.le_refl _)).at hIq
         simp only [Option.some.injEq, Addr.mk.injEq, and_true] at e
         obtain ⟨rfl, rfl⟩ := e
         have hbz : byZ c Z I (j * c + q) = Z (I j q) := by
           obtain ⟨e1, e2⟩ := place_div (j := j) hlt2
           unfold byZ; rw [e1, e2]
         obtain ⟨t, ht⟩ : ∃ t, t = j * c + q := ⟨_, rfl⟩
         rw [← ht] at hk hbz hpl
         have hT1 : Hid (j * c + (q + 1) = t + 1) := Lib.hid (by omega)
         have hfz2 : FV .f32 (Z (I j q)) (vals (byZ c Z I) t) := by show FV .f32 _ (cn .f32 (byZ c Z I t)); rw [hbz]; exact hfz
         have hsh : (I j q : Nat) = shiftI j q := by rw [HI.out]
         have hfz' := Lib.hid hfz2
         have hwz := hfz.2
         generalize I j q = u at hIq hcz hfz' hfz hwz hsh
         generalize Z u = z at hcz hfz' hfz hwz
         obtain ⟨y0, y1, y2⟩ := hk.box
         obtain ⟨i0, hi, hz0, hz1, hz2⟩ := info_parts info32
         have hice2 := hk.ice2
         have htop := hk.top
         have hal : ∀ m o, ((wr.drewN m).alloc o).cell? ⟨ob, 2, none⟩ = some (.slice a t cp) := fun m o => (World.cell?_alloc_lt (wr.drewN m) o ⟨ob, 2, none⟩ (by exact htop)).trans y2
         clear hfz2 ht hbz hfz
         by_cases hneg : j < q
         · have hm : -((j : Int) - (q : Int)) = ((u : Nat) : Int) := by rw [hsh]; unfold shiftI; rw [if_pos hneg]; omega
           have hdn : decide ((j : Int) - (q : Int) < 0) = true := decide_eq_true (by omega)
           clear hsh
           go_wp2
           go_region_law (first
                 | (refine step_append_lies _ (by rfl) _ _ _ (by rfl) w.heap.size 23 i0 _ 1 4 Try.underlying22 hi hz0 hz1 hz2 rfl (by omega) (.slice a t cp) t xs (by rfl) (by exact ownsRow_below hk.own (by repeat first | (with_reducible exact Below.refl _ _) | (with_reducible refine Below.setCell ?_ (by first | exact Nat.le_refl _ | (simp; done) | (simp; omega) | omega) _) | (with_reducible refine Below.alloc ?_ (by first | exact Nat.le_refl _ | (simp; done) | (simp; omega) | omega) _) | (with_reducible refine below_drewN ?_ _) | (with_reducible refine Below.drew ?_))) ⟨wr.heap.size, 0, none⟩ 1 1 [.float .f32 z] (by rfl) (by rfl)
                     (by exact World.news_of_block (cs := #[.float .f32 z]) (t := 23) (fr := (0, 0)) (heap_alloc_new _ _)) (by simp [Value.oneCell']) (by omega) (by unfold maxLen; omega) (by omega) (by have := hk.bel.size; simp [World.drew]; omega) (wr.heap.size + 1) (by simp [World.drew]) ?_
                    intro gg cp2 w2 hown2 hgrow2 hat2 hlt2
                    have hbA := hlt2
                    have q3 := hgrow2.cell (a := ⟨ob, 2, none⟩) (v := .slice a t cp) (hal _ _) (by intro e; exact (hk.far ob e.symm).1 rfl)
                    have q4 : w2.frozen? ⟨ob, 2, none⟩ = false := (World.frozen?_of_block (a := ⟨ob, 2, none⟩) (hgrow2.block ob (by have := hk.top; simp [World.drew]; omega) (fun e => (hk.far ob e.symm).1 rfl))).trans (by first | (rw [frozen?_alloc_cells]; exact hice2 2) | (rw [World.frozen?_drew, frozen?_alloc_cells]; exact hice2 2) | (show (wr.alloc _).frozen? _ = false; rw [frozen?_alloc_cells]; exact hice2 2))))
           all_goals
             have hst := Lib.hid (hk.step (by repeat first | (with_reducible exact Below.refl _ _) | (with_reducible refine Below.setCell ?_ (by first | exact Nat.le_refl _ | (simp; done) | (simp; omega) | omega) _) | (with_reducible refine Below.alloc ?_ (by first | exact Nat.le_refl _ | (simp; done) | (simp; omega) | omega) _) | (with_reducible refine below_drewN ?_ _) | (with_reducible refine Below.drew ?_)) hown2 hgrow2 (by simpa [World.drew] using hat2) hfz'.out)
             clear hal q3 q4 hown2 hgrow2 hat2 hlt2 hbA hk hm
             go_wp2
             go_roundw
             case rel => exact ⟨q + 1, _, _, _, by omega, by go_num, by rw [hT1.out]; exact hst.out⟩
             case measure => simp [intOf]; omega
         · have hm : (j : Int) - (q : Int) = ((u : Nat) : Int) := by rw [hsh]; unfold shiftI; rw [if_neg hneg]; omega
           have hdn : decide ((j : Int) - (q : Int) < 0) = false := decide_eq_false (by omega)
           clear hsh
           go_wp2
           go_region_law (first
                 | (refine step_append_lies _ (by rfl) _ _ _ (by rfl) w.heap.size 23 i0 _ 1 4 Try.underlying22 hi hz0 hz1 hz2 rfl (by omega) (.slice a t cp) t xs (by rfl) (by exact ownsRow_below hk.own (by repeat first | (with_reducible exact Below.refl _ _) | (with_reducible refine Below.setCell ?_ (by first | exact Nat.le_refl _ | (simp; done) | (simp; omega) | omega) _) | (with_reducible refine Below.alloc ?_ (by first | exact Nat.le_refl _ | (simp; done) | (simp; omega) | omega) _) | (with_reducible refine below_drewN ?_ _) | (with_reducible refine Below.drew ?_))) ⟨wr.heap.size, 0, none⟩ 1 1 [.float .f32 z] (by rfl) (by rfl)
                     (by exact World.news_of_block (cs := #[.float .f32 z]) (t := 23) (fr := (0, 0)) (heap_alloc_new _ _)) (by simp [Value.oneCell']) (by omega) (by unfold maxLen; omega) (by omega) (by have := hk.bel.size; simp [World.drew]; omega) (wr.heap.size + 1) (by simp [World.drew]) ?_
                    intro gg cp2 w2 hown2 hgrow2 hat2 hlt2
                    have hbA := hlt2
                    have q3 := hgrow2.cell (a := ⟨ob, 2, none⟩) (v := .slice a t cp) (hal _ _) (by intro e; exact (hk.far ob e.symm).1 rfl)
                    have q4 : w2.frozen? ⟨ob, 2, none⟩ = false := (World.frozen?_of_block (a := ⟨ob, 2, none⟩) (hgrow2.block ob (by have := hk.top; simp [World.drew]; omega) (fun e => (hk.far ob e.symm).1 rfl))).trans (by first | (rw [frozen?_alloc_cells]; exact hice2 2) | (rw [World.frozen?_drew, frozen?_alloc_cells]; exact hice2 2) | (show (wr.alloc _).frozen? _ = false; rw [frozen?_alloc_cells]; exact hice2 2))))
           all_goals
             have hst := Lib.hid (hk.step (by repeat first | (with_reducible exact Below.refl _ _) | (with_reducible refine Below.setCell ?_ (by first | exact Nat.le_refl _ | (simp; done) | (simp; omega) | omega) _) | (with_reducible refine Below.alloc ?_ (by first | exact Nat.le_refl _ | (simp; done) | (simp; omega) | omega) _) | (with_reducible refine below_drewN ?_ _) | (with_reducible refine Below.drew ?_)) hown2 hgrow2 (by simpa [World.drew] using hat2) hfz'.out)
             clear hal q3 q4 hown2 hgrow2 hat2 hlt2 hbA hk hm
             go_wp2
             go_roundw
             case rel => exact ⟨q + 1, _, _, _, by omega, by go_num, by rw [hT1.out]; exact hst.out⟩
             case measure => simp [intOf]; omega
       · obtain rfl : q = c := by omega
         have hst : Hid (Build w ob w.heap.size q q ((j + 1) * q) (vals (byZ q Z I)) wr a cp xs) := Lib.hid (by rw [Nat.succ_mul]; exact hk)
         have hd2 : decide ((q : Int) < (q : Int)) = false := decide_eq_false (by omega)
         clear hk
         go_wp2_with fail
         go_roundw
         case rel => exact ⟨j + 1, _, _, _, by omega, by go_num, hst.out⟩
         case measure => simp [intOf]; omega
    · obtain rfl : j = c := by omega
      have hd : decide ((j : Int) < (j : Int)) = false := decide_eq_false (by omega)
      rw [← hN.out] at hk
      obtain ⟨y0, y1, y2⟩ := hk.box
      obtain ⟨z0, z1, z2⟩ := hk.res
      obtain ⟨Y, hY, hV⟩ := hk.fs
      have B2 := hk.bel
      have hice := hk.ice
      have htop := hk.top
      have hfar : ∀ q, (∃ off, a = some ⟨q, off, none⟩) → q ≠ w.heap.size := by rintro q ⟨off, rfl⟩; exact (hk.far q rfl).2
      have hlow : ∀ q off, a = some ⟨q, off, none⟩ → w.heap.size ≤ q := by rintro q off rfl; exact (hk.own.lt q rfl).1
      clear hk
      go_wp2_with fail
      refine bodyPost_ret (v := .agg #[.int .i64 j, .int .i64 j, .slice a n cp]) (by simp [results, Try.results44, go_sem, y0, y1, y2, z0, z1, z2]) rfl ?_
      exact ⟨_, _, Y, rfl, FS.to hY (by simp [World.setCell]) (fun q hq => by have hf := hfar q hq; rw [Below.heap_setCell _ _ _ _ hf, Below.heap_setCell _ _ _ _ hf, Below.heap_setCell _ _ _ _ hf]), hlow, hV, (by repeat first | (with_reducible exact B2) | (with_reducible refine Below.setCell ?_ (by first | exact Nat.le_refl _ | (simp; done) | (simp; omega) | omega) _) | (with_reducible refine Below.alloc ?_ (by first | exact Nat.le_refl _ | (simp; done) | (simp; omega) | omega) _) | (with_reducible refine below_drewN ?_ _) | (with_reducible refine Below.drew ?_))⟩
theorem specShift_yes (b off c d n : Nat) (Z : Nat → Nat) (w : World) (h1 : 1 ≤ c) (h2 : c ≤ 12) (hn : n = c * c) (hr : rowB c (vals Z) = true) (h : FS .f32 w (some ⟨b, off, none⟩) c d Z) :
    Calls Try.prog 23 #[.slice (some ⟨b, off, none⟩) c d] w (MatBel true c c n (vals (byZ c Z shiftI)) w) := by
  have hval : validB c c n (vals (byZ c Z shiftI)) = true := by
    rw [validB_nat h1 h2 h1 h2 hn]
    exact byZ_fin hn (fun i k hi hk => shiftI_lt hi hk) (rowB_yes hr).2.2
  have hn144 : n ≤ 144 := by have := sides_le h2 h2; omega
  have hcm : c ≤ 1048576 := by omega
  have hval' := Lib.hid hval
  have hN := Lib.hid hn
  clear hval hn
  go_enter Try.func23, Try.ntmps23
  go_wp2_with fail
  go_at_call 39
  refine (specRow_any _ c d Z _ hcm (h.below (by repeat first | (with_reducible exact Below.refl _ _) | (with_reducible refine Below.setCell ?_ (by first | exact Nat.le_refl _ | (simp; done) | (simp; omega) | omega) _) | (with_reducible refine Below.alloc ?_ (by first | exact Nat.le_refl _ | (simp; done) | (simp; omega) | omega) _) | (with_reducible refine below_drewN ?_ _) | (with_reducible refine Below.drew ?_)) (Nat.le_refl _))).mono ?_
  rintro e w' ⟨rfl, q0, rfl⟩
  rw [hr]
  go_wp2_with fail
  go_at_call 44
  refine (l07Shift_any b off c d n Z _ h1 h2 hN.out (h.below (by repeat first | (with_reducible exact Below.refl _ _) | (with_reducible refine Below.setCell ?_ (by first | exact Nat.le_refl _ | (simp; done) | (simp; omega) | omega) _) | (with_reducible refine Below.alloc ?_ (by first | exact Nat.le_refl _ | (simp; done) | (simp; omega) | omega) _) | (with_reducible refine below_drewN ?_ _) | (with_reducible refine Below.drew ?_)) (Nat.le_refl _))).mono ?_
  rintro e w1 ⟨a, cp, Y, rfl, hY, hlow, hV, b1⟩
  have B1 : Below w.heap.size w w1 := Below.trans (by repeat first | (with_reducible exact Below.refl _ _) | (with_reducible refine Below.setCell ?_ (by first | exact Nat.le_refl _ | (simp; done) | (simp; omega) | omega) _) | (with_reducible refine Below.alloc ?_ (by first | exact Nat.le_refl _ | (simp; done) | (simp; omega) | omega) _) | (with_reducible refine below_drewN ?_ _) | (with_reducible refine Below.drew ?_)) (b1.mono (by simp))
  have s1 : w.heap.size + 1 ≤ w1.heap.size := by have := b1.size; simp at this; omega
  have hfar : ∀ q, (∃ off, a = some ⟨q, off, none⟩) → q ≠ w.heap.size := by
    rintro q ⟨off, rfl⟩
    have := hlow q off rfl
    simp at this
    omega
  obtain ⟨hc1, hf1⟩ := bcell b1
  have z0 : w1.cell? ⟨w.heap.size, 0, none⟩ = some (.int .i64 0) := by rw [hc1 _ _ (by simp)]; simp [go_sem]
  have z1 : w1.cell? ⟨w.heap.size, 1, none⟩ = some (.int .i64 0) := by rw [hc1 _ _ (by simp)]; simp [go_sem]
  have z2 : w1.cell? ⟨w.heap.size, 2, none⟩ = some (.slice none 0 0) := by rw [hc1 _ _ (by simp)]; simp [go_sem]
  have hice : ∀ i, w1.frozen? ⟨w.heap.size, i, none⟩ = false := fun i => by rw [hf1 _ _ (by simp)]; simp [go_sem]
  clear hc1 hf1 b1
  go_wp2_with fail
  go_at_call 41
  refine (specGive_yes _ _ a n cp Y _ (by omega) hY (by rw [← hval'.out]; exact validB_congr hV)).mono ?_
  rintro e w3 ⟨rfl, b3⟩
  have hs3 := b3.size
  obtain ⟨hc3, hf3⟩ := bcell b3
  have hwl : w.heap.size < w1.heap.size := by omega
  have x0 := (hc3 w.heap.size 0 hwl).trans z0
  have x1 := (hc3 w.heap.size 1 hwl).trans z1
  have x2 := (hc3 w.heap.size 2 hwl).trans z2
  have ix : ∀ i, w3.frozen? ⟨w.heap.size, i, none⟩ = false := fun i => (hf3 w.heap.size i hwl).trans (hice i)
  have hY3 := hY.below b3 (Nat.le_refl _)
  have B3 := B1.trans (b3.mono B1.size)
  clear hc3 hf3 z0 z1 z2 hY b3
  go_wp2_with fail
  refine bodyPost_ret (v := .tuple #[.agg #[.int .i64 c, .int .i64 c, .slice a n cp], .bool true]) (by simp [results, Try.results23, go_sem, x0, x1, x2]) rfl ?_
  exact ⟨_, _, Y, rfl, FS.to hY3 (by simp [World.setCell]) (fun q hq => by have hf := hfar q hq; rw [Below.heap_setCell _ _ _ _ hf, Below.heap_setCell _ _ _ _ hf, Below.heap_setCell _ _ _ _ hf]), hV, (by repeat first | (with_reducible exact B3) | (with_reducible refine Below.setCell ?_ (by first | exact Nat.le_refl _ | (simp; done) | (simp; omega) | omega) _) | (with_reducible refine Below.alloc ?_ (by first | exact Nat.le_refl _ | (simp; done) | (simp; omega) | omega) _) | (with_reducible refine below_drewN ?_ _) | (with_reducible refine Below.drew ?_))⟩
theorem specShift_no (a : Option Addr) (c d : Nat) (Z : Nat → Nat) (w : World) (hc : c ≤ 1048576) (hr : rowB c (vals Z) = false) (h : FS .f32 w a c d Z) :
    Calls Try.prog 23 #[.slice a c d] w (MatBel false 0 0 0 (fun _ => none) w) := by
  go_enter Try.func23, Try.ntmps23
  go_wp2_with fail
  go_at_call 39
  refine (specRow_any _ c d Z _ hc (h.below (by repeat first | (with_reducible exact Below.refl _ _) | (with_reducible refine Below.setCell ?_ (by first | exact Nat.le_refl _ | (simp; done) | (simp; omega) | omega) _) | (with_reducible refine Below.alloc ?_ (by first | exact Nat.le_refl _ | (simp; done) | (simp; omega) | omega) _) | (with_reducible refine below_drewN ?_ _) | (with_reducible refine Below.drew ?_)) (Nat.le_refl _))).mono ?_
  rintro e w' ⟨rfl, q0, rfl⟩
  rw [hr]
  go_wp2_with fail
  refine bodyPost_ret (v := .tuple #[.agg #[.int .i64 0, .int .i64 0, .slice none 0 0], .bool false]) (by simp [results, Try.results23, go_sem]) rfl ?_
  exact ⟨none, 0, fun _ => 0, rfl, ⟨Nat.le_refl _, Nat.zero_le _, fun i hi => by omega⟩, fun i hi => by omega, (by repeat first | (with_reducible exact Below.refl _ _) | (with_reducible refine Below.setCell ?_ (by first | exact Nat.le_refl _ | (simp; done) | (simp; omega) | omega) _) | (with_reducible refine Below.alloc ?_ (by first | exact Nat.le_refl _ | (simp; done) | (simp; omega) | omega) _) | (with_reducible refine below_drewN ?_ _) | (with_reducible refine Below.drew ?_))⟩
theorem keyRingMatrix (c : Nat) (Z : Nat → Nat) (hc : c ≤ 1048576) : ∃ (ok : Bool) (R C : Int) (n : Nat) (V : Nat → Option Nat), n ≤ 144 ∧
    (∀ a d W, FS .f32 W a c d Z → Calls Try.prog 18 #[.slice a c d] W (MatBel ok R C n V W)) ∧ (∀ a d W, FS .f32 W a c d Z → Calls Try.prog 19 #[.slice a c d] W (MatOwn ok R C n V W)) := by
  cases hr : rowB c (vals Z) with
  | false => exact ⟨false, 0, 0, 0, fun _ => none, by omega, fun a d W h => specRing_no a c d Z W hc hr h, fun a d W h => implRing_any a c d Z W _ _ _ _ _ (fun W h => squareRing_no a c d Z W hc hr h) h⟩
  | true =>
    obtain ⟨h1, h2, _⟩ := rowB_yes hr
    refine ⟨true, c, c, c * c, vals (byZ c Z (ringI c)), sides_le h2 h2, fun a d W h => ?_, fun a d W h => ?_⟩
    · obtain ⟨b, off, rfl, _, _, _⟩ := h.at (show 0 < c by omega)
      exact specRing_yes b off c d _ Z W h1 h2 rfl hr h
    · obtain ⟨b, off, rfl, _, _, _⟩ := h.at (show 0 < c by omega)
      exact implRing_any _ c d Z W _ _ _ _ _ (fun W h => squareRing_yes b off c d _ Z W h1 h2 rfl hr h) h
theorem keyShiftMatrix (c : Nat) (Z : Nat → Nat) (hc : c ≤ 1048576) : ∃ (ok : Bool) (R C : Int) (n : Nat) (V : Nat → Option Nat), n ≤ 144 ∧
    (∀ a d W, FS .f32 W a c d Z → Calls Try.prog 23 #[.slice a c d] W (MatBel ok R C n V W)) ∧ (∀ a d W, FS .f32 W a c d Z → Calls Try.prog 24 #[.slice a c d] W (MatOwn ok R C n V W)) := by
  cases hr : rowB c (vals Z) with
  | false => exact ⟨false, 0, 0, 0, fun _ => none, by omega, fun a d W h => specShift_no a c d Z W hc hr h, fun a d W h => implShift_any a c d Z W _ _ _ _ _ (fun W h => squareShift_no a c d Z W hc hr h) h⟩
  | true =>
    obtain ⟨h1, h2, _⟩ := rowB_yes hr
    refine ⟨true, c, c, c * c, vals (byZ c Z shiftI), sides_le h2 h2, fun a d W h => ?_, fun a d W h => ?_⟩
    · obtain ⟨b, off, rfl, _, _, _⟩ := h.at (show 0 < c by omega)
      exact specShift_yes b off c d _ Z W h1 h2 rfl hr h
    · obtain ⟨b, off, rfl, _, _, _⟩ := h.at (show 0 < c by omega)
      exact implShift_any _ c d Z W _ _ _ _ _ (fun W h => squareShift_yes b off c d _ Z W h1 h2 rfl hr h) h
end Go.Proofs.Ytpmilaemmdcfaaa
