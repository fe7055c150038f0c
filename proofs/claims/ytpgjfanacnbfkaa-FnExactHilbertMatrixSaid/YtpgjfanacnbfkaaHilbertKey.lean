/- Helper: squares of quotients, of the program and of its reference. Conditions: none. -/
import Derived.Test.YtpgjfanacnbfkaaBuild
import Derived.Deep.RegionLaw
set_option linter.unusedVariables false
namespace Go.Proofs.Ytpgjfanacnbfkaa
open Go.RowKit

/-- The quotient of 1 and a whole number. -/
def hil (c t : Nat) : Option Nat := fop .quo .f32 (some 1065353216) (some (floatOfInt .f32 (((t / c : Nat) : Int) + ((t % c : Nat) : Int) + 1)))
theorem hil_at {c j k : Nat} (hk : k < c) : hil c (j * c + k) = fop .quo .f32 (some 1065353216) (some (floatOfInt .f32 ((j : Int) + (k : Int) + 1))) := by
  obtain ⟨h1, h2⟩ := place_div (j := j) hk
  unfold hil
  rw [h1, h2]

set_option maxHeartbeats 2000000 in
theorem implHilbert_yes (c n : Nat) (w : World) (h1 : 1 ≤ c) (h2 : c ≤ 12) (hn : n = c * c) :
    Calls Try.prog 57 #[.int .i64 c] w (MatOwn true c c n (hil c) w) := by
  have hs : sideB (c : Int) = true := sideB_yes (by omega) (by omega)
  have hN := Lib.hid hn
  have hn144 : n ≤ 144 := by have := sides_le h2 h2; omega
  clear hn
  go_enter Try.func57, Try.ntmps57
  go_wp2_with fail
  go_at_call 73
  refine (isSide_any _ _).mono ?_
  rintro e w' ⟨rfl, rfl⟩
  go_wp2_with fail
  go_at_call 68
  refine (newMatrix_any c c n _ h2 h2 hN.out).mono ?_
  rintro e w1 ⟨g, rfl, o1, b1⟩
  have wk := Work.start (R := (c : Int)) (C := (c : Int)) 26 26 (Own.mono (B' := w.heap.size + 1) o1 (by simp) (Nat.le_refl _) (Nat.le_refl _)) b1
  clear o1 b1
  go_wp2
  clear hs
  go_loopw [16] (fun i wr => ∃ (j : Nat) (Z : Nat → Nat), j ≤ c ∧ i = .int .i64 j ∧ (∀ t, t < j * c → FV .f32 (Z t) (hil c t)) ∧ Work w (w.heap.size + 1) w1.heap.size g w1.heap.size w.heap.size c c n Z wr) (fun i _ => c - (intOf i).toNat)
  case atStart => exact ⟨0, _, Nat.zero_le _, rfl, fun t ht => absurd ht (by rw [Nat.zero_mul]; exact Nat.not_lt_zero _), wk⟩
  case round =>
    obtain ⟨j, Z, hj, rfl, hv, hk⟩ := hrel
    have hV := Lib.hid hv
    clear wk hv
    have hpos : 0 < n := by rw [hN.out]; exact Nat.mul_pos h1 h1
    obtain ⟨g1, g2, g3, g4⟩ := hk.facts hpos
    by_cases hlt : j < c
    · obtain ⟨y0, y1, y2⟩ := hk.box
      have hk' := Lib.hid hk
      clear hk
      go_wp2_with fail
      go_at_call 71
      refine (rowOf_any g 0 c c n n j _ h2 h1 h2 hN.out (Nat.le_refl _) (by omega) hlt).mono ?_
      rintro e w2 ⟨rfl, b2⟩
      have hk2 := hk'.out.below b2 g3 g4
      simp only [Nat.zero_add] at *
      clear b2 hk' y0 y1 y2
      go_wp2
      go_loopw [23] (fun k wr => ∃ (q : Nat) (Y : Nat → Nat), q ≤ c ∧ k = .int .i64 q ∧ (∀ t, t < j * c + q → FV .f32 (Y t) (hil c t)) ∧ Work w (w.heap.size + 1) w1.heap.size g w1.heap.size w.heap.size c c n Y wr) (fun k _ => c - (intOf k).toNat)
      case atStart => exact ⟨0, Z, Nat.zero_le _, rfl, hV.out, hk2⟩
      case round =>
        obtain ⟨q, Y, hq, rfl, hv2, hk3⟩ := hrel
        have hV2 := Lib.hid hv2
        clear hk2 hv2
        by_cases hlt2 : q < c
        · have hpl := place_lt hlt hlt2
          rw [← hN.out] at hpl
          obtain ⟨hce2, hfr, _⟩ := hk3.own.cell hpl
          have hk4 := Lib.hid hk3
          clear hk3
          generalize Y (j * c + q) = old at hce2
          go_wp2_with (first | (refine wpList_farith rfl _ _ _ _ _ rfl rfl _ _ _ rfl rfl (by first | assumption | (with_reducible exact FV.ofInt _ _) | exact FV.lit (by kernel_rfl) (by kernel_rfl)) (by first | assumption | (with_reducible exact FV.ofInt _ _) | exact FV.lit (by kernel_rfl) (by kernel_rfl)) ?_; intro r m hr))
          have hst := (hk4.out.drewN (m := m)).stored (t := j * c + q) (v := r) hpl hr.2
          have hst' := Lib.hid hst
          have hvn : Hid (∀ t, t < j * c + (q + 1) → FV .f32 (if t = j * c + q then r else Y t) (hil c t)) := by
            refine Lib.hid fun t ht => ?_
            by_cases e : t = j * c + q
            · subst e; rw [if_pos rfl, hil_at hlt2]; exact hr
            · rw [if_neg e]; exact hV2.out t (by omega)
          clear hst
          go_roundw
          case rel => exact ⟨q + 1, _, by omega, by go_num, hvn.out, hst'.out⟩
          case measure => simp [intOf]; omega
        · obtain rfl : q = c := by omega
          have hk4 := Lib.hid hk3
          clear hk3
          go_wp2
          go_roundw
          case rel => exact ⟨j + 1, Y, by omega, by go_num, fun t ht => hV2.out t (by rw [Nat.add_mul, Nat.one_mul] at ht; exact ht), hk4.out⟩
          case measure => simp [intOf]; omega
    · obtain rfl : j = c := by omega
      obtain ⟨y0, y1, y2⟩ := hk.box
      obtain ⟨z0, z1, z2⟩ := hk.res
      have o2 := hk.own
      have B2 := hk.bel
      have hlo := hk.lo
      have hmid := hk.mid
      have hice := hk.ice
      clear hk
      go_wp2_with fail
      refine bodyPost_ret (v := .tuple #[.agg #[.int .i64 j, .int .i64 j, .slice (some ⟨g, 0, none⟩) n n], .bool true]) (by simp [results, Try.results57, go_sem, y0, y1, y2, z0, z1, z2]) rfl ?_
      exact ⟨_, _, _, rfl, (by refine Own.to o2 (hk := fun g hg1 hg2 => by (try simp at hg1 hg2); repeat (first | rw [Below.heap_setCell _ _ _ _ (by simp; omega)] | rw [Below.heap_alloc _ _ _ (by simp [World.setCell]; omega)])) ?_ ?_ ?_ ?_ <;> (first | exact Nat.le_refl _ | omega | (simp [World.setCell]; done) | (simp [World.setCell]; omega))), fun i hi => (hV.out i (by rw [← hN.out]; exact hi)).1, (by repeat first | (with_reducible exact B2) | (with_reducible refine Below.setCell ?_ (by first | exact Nat.le_refl _ | (simp; done) | (simp; omega) | omega) _) | (with_reducible refine Below.alloc ?_ (by first | exact Nat.le_refl _ | (simp; done) | (simp; omega) | omega) _) | (with_reducible refine below_drewN ?_ _) | (with_reducible refine Below.drew ?_))⟩
theorem implHilbert_no (x : Int) (w : World) (hs : sideB x = false) :
    Calls Try.prog 57 #[.int .i64 x] w (MatOwn false 0 0 0 (fun _ => none) w) := by
  go_enter Try.func57, Try.ntmps57
  go_wp2_with fail
  go_at_call 73
  refine (isSide_any _ _).mono ?_
  rintro e w' ⟨rfl, rfl⟩
  go_wp2_with fail
  refine bodyPost_ret (v := .tuple #[.agg #[.int .i64 0, .int .i64 0, .slice none 0 0], .bool false]) (by simp [results, Try.results57, go_sem]) rfl ?_
  exact ⟨none, 0, fun _ => 0, rfl, .inl ⟨rfl, rfl, rfl⟩, fun i hi => by omega, (by repeat first | (with_reducible exact Below.refl _ _) | (with_reducible refine Below.setCell ?_ (by first | exact Nat.le_refl _ | (simp; done) | (simp; omega) | omega) _) | (with_reducible refine Below.alloc ?_ (by first | exact Nat.le_refl _ | (simp; done) | (simp; omega) | omega) _) | (with_reducible refine below_drewN ?_ _) | (with_reducible refine Below.drew ?_))⟩

theorem quo_run (x y r : Nat) (t : TypeId) (h : fop .quo .f32 (some x) (some y) = some r) (w : World) : (binOp .quo t (.float .f32 x) (.float .f32 y)).run Try.prog w = .ok (.float .f32 r) w :=
  run_float_arith w .quo t .f32 x y r h
theorem quo_div (x y r : Nat) (h : fop .quo .f32 (some x) (some y) = some r) : FloatKind.f32.format.div x y = some r := h
theorem specHilbert_no (x : Int) (w : World) (hs : sideB x = false) :
    Calls Try.prog 56 #[.int .i64 x] w (MatBel false 0 0 0 (fun _ => none) w) := by
  go_enter Try.func56, Try.ntmps56
  go_wp2_with fail
  go_at_call 97
  refine (l00In_any _ _ _ _).mono ?_
  rintro e w' ⟨rfl, rfl⟩
  simp only [inB_side]
  go_wp2_with fail
  refine bodyPost_ret (v := .tuple #[.agg #[.int .i64 0, .int .i64 0, .slice none 0 0], .bool false]) (by simp [results, Try.results56, go_sem]) rfl ?_
  exact ⟨none, 0, fun _ => 0, rfl, ⟨Nat.le_refl _, Nat.zero_le _, fun i hi => by omega⟩, fun i hi => by omega, (by repeat first | (with_reducible exact Below.refl _ _) | (with_reducible refine Below.setCell ?_ (by first | exact Nat.le_refl _ | (simp; done) | (simp; omega) | omega) _) | (with_reducible refine Below.alloc ?_ (by first | exact Nat.le_refl _ | (simp; done) | (simp; omega) | omega) _) | (with_reducible refine below_drewN ?_ _) | (with_reducible refine Below.drew ?_))⟩
/-- The quotients are numbers. -/
theorem hil_num : ∀ m : Nat, m < 24 → ∃ r, fop .quo .f32 (some 1065353216) (some (floatOfInt .f32 ((m : Int) + 1))) = some r ∧ (FloatKind.f32.decode r).isNaN = false ∧ (Lit.float .f32 r).wf = true := by
  have h : ∀ m : Nat, m < 24 → (match fop .quo .f32 (some 1065353216) (some (floatOfInt .f32 ((m : Int) + 1))) with | some r => !(FloatKind.f32.decode r).isNaN && (Lit.float .f32 r).wf | none => false) = true := by decide +kernel
  intro m hm
  have hh := h m hm
  generalize fop .quo .f32 (some 1065353216) (some (floatOfInt .f32 ((m : Int) + 1))) = X at hh
  cases X with
  | none => cases hh
  | some r =>
    simp at hh
    exact ⟨r, rfl, by simpa using hh.1, hh.2⟩
set_option maxHeartbeats 2000000 in
theorem specHilbert_yes (c n : Nat) (w : World) (h1 : 1 ≤ c) (h2 : c ≤ 12) (hn : n = c * c) :
    Calls Try.prog 56 #[.int .i64 c] w (MatBel true c c n (hil c) w) := by
  have hs : sideB (c : Int) = true := sideB_yes (by omega) (by omega)
  go_enter Try.func56, Try.ntmps56
  go_wp2_with fail
  go_at_call 97
  refine (l00In_any _ _ _ _).mono ?_
  rintro e w' ⟨rfl, rfl⟩
  simp only [inB_side]
  go_wp2_with fail
  go_at_call 101
  refine (l02Blank_any _ _ _).mono ?_
  rintro e w1 ⟨g, rfl, o1, b1⟩
  have s1 : w.heap.size + 1 ≤ w1.heap.size := (by have hh := b1.size; (try simp at hh); omega)
  have hB : Build w w1.heap.size w.heap.size c c 0 (hil c) _ (some ⟨g, 0, none⟩) 0 [] := Build.start1 (T1 := 0) (T2 := 26) (by simp) b1 (by refine ⟨?_, ?_, ?_⟩ <;> simp [go_sem]) (by intro i; simp [go_sem]) (by repeat first | (with_reducible exact Below.refl _ _) | (with_reducible refine Below.setCell ?_ (by first | exact Nat.le_refl _ | (simp; done) | (simp; omega) | omega) _) | (with_reducible refine Below.alloc ?_ (by first | exact Nat.le_refl _ | (simp; done) | (simp; omega) | omega) _) | (with_reducible refine below_drewN ?_ _) | (with_reducible refine Below.drew ?_)) o1
  clear o1 b1
  have hN := Lib.hid hn
  have hn144 : n ≤ 144 := by have := sides_le h2 h2; omega
  have he : (c : Int) * (c : Int) = ((n : Nat) : Int) := by rw [hn, Int.natCast_mul]
  clear hn
  generalize hob : w1.heap.size = ob at hB s1
  have hob' := Lib.hid hob
  go_wp2
  clear hob hs
  go_loopw [5] (fun i wr => ∃ (j : Nat) (a : Option Addr) (cp : Nat) (xs : List Value), j ≤ n ∧ i = .int .i64 j ∧ Build w ob w.heap.size c c j (hil c) wr a cp xs) (fun i _ => n - (intOf i).toNat)
  case atStart => exact ⟨0, _, _, _, Nat.zero_le _, rfl, hB⟩
  case round =>
    obtain ⟨j, a, cp, xs, hj, rfl, hk⟩ := hrel
    clear hB
    have hlo := hk.lo
    have hmid := hk.mid
    by_cases hlt : j < n
    · have hd : decide ((j : Int) < (n : Int)) = true := decide_eq_true (by omega)
      have hmod : j % c < c := Nat.mod_lt _ h1
      have hdiv : j / c < c := Nat.div_lt_of_lt_mul (by rw [← hN.out]; exact hlt)
      obtain ⟨y0, y1, y2⟩ := hk.box
      obtain ⟨i0, hi, hz0, hz1, hz2⟩ := info_parts info32
      have hice2 := hk.ice2
      have htop := hk.top
      have hal : ∀ m o, ((wr.drewN m).alloc o).cell? ⟨ob, 2, none⟩ = some (.slice a j cp) := fun m o => (World.cell?_alloc_lt (wr.drewN m) o ⟨ob, 2, none⟩ (by exact htop)).trans y2
      have hr0 : ¬ (c = 0) := by omega
      have ht1 : Int.tmod (j : Int) (c : Int) = (j : Int) % (c : Int) := Int.tmod_eq_emod_of_nonneg (by omega)
      have ht2 : Int.tdiv (j : Int) (c : Int) = (j : Int) / (c : Int) := Int.tdiv_eq_ediv_of_nonneg (by omega)
      have e1 : ((j % c : Nat) : Int) = (j : Int) % (c : Int) := Int.natCast_emod _ _
      have e2 : ((j / c : Nat) : Int) = (j : Int) / (c : Int) := Int.natCast_ediv _ _
      have ht3 : IntKind.i64.wrap ((j : Int) / (c : Int)) = (j : Int) / (c : Int) := IntWalk.i64_in _ (by rw [← e2]; have h5 := Nat.div_le_self j c; generalize j / c = x at h5; omega)
      have ht4 : IntKind.i64.wrap ((j : Int) / (c : Int) + (j : Int) % (c : Int)) = (j : Int) / (c : Int) + (j : Int) % (c : Int) := IntWalk.i64_in _ (by rw [← e2, ← e1]; generalize j / c = x at hdiv; generalize j % c = y at hmod; omega)
      have ht5 : IntKind.i64.wrap ((j : Int) / (c : Int) + (j : Int) % (c : Int) + 1) = (j : Int) / (c : Int) + (j : Int) % (c : Int) + 1 := IntWalk.i64_in _ (by rw [← e2, ← e1]; generalize j / c = x at hdiv; generalize j % c = y at hmod; omega)
      obtain ⟨r, hq, hrn, hrw⟩ := hil_num (j / c + j % c) (by omega)
      have hfz : FV .f32 r (hil c j) := ⟨by unfold hil; rw [show (((j / c : Nat) : Int) + ((j % c : Nat) : Int) + 1) = (((j / c + j % c : Nat) : Int) + 1) by omega, hq]; exact cn_of hrn, hrw⟩
      have hfz' := Lib.hid hfz
      have hq2 : fop .quo .f32 (some 1065353216) (some (floatOfInt .f32 ((j : Int) / (c : Int) + (j : Int) % (c : Int) + 1))) = some r := by rw [← hq, ← e1, ← e2, Int.natCast_add]
      have hqr := quo_run _ _ r 36 hq2
      have hq3 : FloatKind.f32.format.div 1065353216 (floatOfInt .f32 ((j : Int) / (c : Int) + (j : Int) % (c : Int) + 1)) = some r := quo_div _ _ _ hq2
      clear e1 e2 hq hq2 hrn hrw hfz
      go_wp2
      go_region_law (first
            | (refine step_append_lies _ (by rfl) _ _ _ (by rfl) w.heap.size 36 i0 _ 1 4 Try.underlying24 hi hz0 hz1 hz2 rfl (by omega) (.slice a j cp) j xs (by rfl) (by exact ownsRow_below hk.own (by repeat first | (with_reducible exact Below.refl _ _) | (with_reducible refine Below.setCell ?_ (by first | exact Nat.le_refl _ | (simp; done) | (simp; omega) | omega) _) | (with_reducible refine Below.alloc ?_ (by first | exact Nat.le_refl _ | (simp; done) | (simp; omega) | omega) _) | (with_reducible refine below_drewN ?_ _) | (with_reducible refine Below.drew ?_))) ⟨wr.heap.size, 0, none⟩ 1 1 [.float .f32 r] (by rfl) (by rfl)
                (by exact World.news_of_block (cs := #[.float .f32 r]) (t := 36) (fr := (0, 0)) (heap_alloc_new _ _)) (by simp [Value.oneCell']) (by omega) (by unfold maxLen; omega) (by omega) (by have := hk.bel.size; simp [World.drew]; omega) (wr.heap.size + 1) (by simp [World.drew]) ?_
               intro gg cp2 w2 hown2 hgrow2 hat2 hlt2
               have hbA := hlt2
               have q3 := hgrow2.cell (a := ⟨ob, 2, none⟩) (v := .slice a j cp) (hal _ _) (by intro e; exact (hk.far ob e.symm).1 rfl)
               have q4 : w2.frozen? ⟨ob, 2, none⟩ = false := (World.frozen?_of_block (a := ⟨ob, 2, none⟩) (hgrow2.block ob (by have := hk.top; simp [World.drew]; omega) (fun e => (hk.far ob e.symm).1 rfl))).trans (by first | (rw [frozen?_alloc_cells]; exact hice2 2) | (rw [World.frozen?_drew, frozen?_alloc_cells]; exact hice2 2) | (show (wr.alloc _).frozen? _ = false; rw [frozen?_alloc_cells]; exact hice2 2))))
      all_goals
        have hst := Lib.hid (hk.step (by repeat first | (with_reducible exact Below.refl _ _) | (with_reducible refine Below.setCell ?_ (by first | exact Nat.le_refl _ | (simp; done) | (simp; omega) | omega) _) | (with_reducible refine Below.alloc ?_ (by first | exact Nat.le_refl _ | (simp; done) | (simp; omega) | omega) _) | (with_reducible refine below_drewN ?_ _) | (with_reducible refine Below.drew ?_)) hown2 hgrow2 (by simpa [World.drew] using hat2) hfz'.out)
        clear hal q3 q4 hown2 hgrow2 hat2 hlt2 hbA hk ht1 ht2 ht3 ht4 ht5 hqr hq3
        go_wp2
        go_roundw
        case rel => exact ⟨j + 1, _, _, _, by omega, by go_num, hst.out⟩
        case measure => simp [intOf]; omega
    · obtain rfl : j = n := by omega
      obtain ⟨y0, y1, y2⟩ := hk.box
      obtain ⟨z0, z1, z2⟩ := hk.res
      obtain ⟨Y, hY, hV⟩ := hk.fs
      have B2 := hk.bel
      have hice := hk.ice
      have hfar : ∀ q, (∃ off, a = some ⟨q, off, none⟩) → q ≠ w.heap.size := by rintro q ⟨off, rfl⟩; exact (hk.far q rfl).2
      have hlow : ∀ q off, a = some ⟨q, off, none⟩ → w.heap.size ≤ q := by rintro q off rfl; exact (hk.own.lt q rfl).1
      have hd : decide ((j : Int) < (j : Int)) = false := decide_eq_false (by omega)
      clear hk
      go_wp2_with fail
      refine bodyPost_ret (v := .tuple #[.agg #[.int .i64 c, .int .i64 c, .slice a j cp], .bool true]) (by simp [results, Try.results56, go_sem, y0, y1, y2, z0, z1, z2]) rfl ?_
      exact ⟨_, _, Y, rfl, FS.to hY (by simp [World.setCell]) (fun q hq => by have hf := hfar q hq; rw [Below.heap_setCell _ _ _ _ hf, Below.heap_setCell _ _ _ _ hf, Below.heap_setCell _ _ _ _ hf]), hV, (by repeat first | (with_reducible exact B2) | (with_reducible refine Below.setCell ?_ (by first | exact Nat.le_refl _ | (simp; done) | (simp; omega) | omega) _) | (with_reducible refine Below.alloc ?_ (by first | exact Nat.le_refl _ | (simp; done) | (simp; omega) | omega) _) | (with_reducible refine below_drewN ?_ _) | (with_reducible refine Below.drew ?_))⟩
theorem keyHilbertMatrix (x : Int) (wx : (Lit.int .i64 x).wf = true) : ∃ (ok : Bool) (R C : Int) (n : Nat) (V : Nat → Option Nat), n ≤ 144 ∧
    (∀ W, Calls Try.prog 56 #[.int .i64 x] W (MatBel ok R C n V W)) ∧ (∀ W, Calls Try.prog 57 #[.int .i64 x] W (MatOwn ok R C n V W)) := by
  cases hs : sideB x with
  | false => exact ⟨false, 0, 0, 0, fun _ => none, by omega, fun W => specHilbert_no x W hs, fun W => implHilbert_no x W hs⟩
  | true =>
    obtain ⟨h1, h2⟩ := sideB_le hs
    obtain ⟨c, rfl⟩ : ∃ c : Nat, x = c := ⟨x.toNat, by omega⟩
    exact ⟨true, c, c, c * c, hil c, sides_le (by omega) (by omega), fun W => specHilbert_yes c _ W (by omega) (by omega) rfl, fun W => implHilbert_yes c _ W (by omega) (by omega) rfl⟩
end Go.Proofs.Ytpgjfanacnbfkaa
