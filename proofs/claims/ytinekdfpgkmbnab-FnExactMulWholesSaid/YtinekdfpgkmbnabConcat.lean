/- Helper: rows joined to one list, and wholes made of rows, of the program. Conditions: none. -/
import Derived.Test.YtinekdfpgkmbnabTab
import Derived.Test.YtinekdfpgkmbnabValidWholeKey
import Derived.Test.YtinekdfpgkmbnabWhole
import Derived.Lib.Walk
set_option linter.unusedVariables false
set_option linter.unusedSimpArgs false
namespace Go.Proofs.Ytinekdfpgkmbnab
open Go.RowKit

theorem below_of_grown {w w' : World} {row : Option Nat} {B : Nat} {w0 : World} (h : Below B w0 w) (hg : w.grownBy w' row) (hB : B ≤ w.heap.size) (hr : ∀ q, row = some q → B ≤ q) : Below B w0 w' := h.grown hg hB hr
set_option maxRecDepth 100000 in
set_option maxHeartbeats 2000000 in
theorem growI_nil (n : Nat) (w : World) (h0 : 0 < n) (hn : n ≤ 1048576) :
    Calls Try.prog 82 #[.slice none 0 0, .int .i64 n] w fun e w' => ∃ c, e = .returned (.slice (some ⟨w.heap.size, 0, none⟩) 0 c) ∧ w'.ownsRow w.heap.size 2 1 (.slice (some ⟨w.heap.size, 0, none⟩) 0 c) 0 [] ∧ Below w.heap.size w w' := by
  obtain ⟨i0, hi, hz0, hz1, hz2⟩ := info_parts info64
  have hrz : ∀ ty, (Builtin.append_ #[22, 3] ty #[.slice none 0 0, .int .i64 (n : Int)]).run Try.prog w =
      .ok (.slice (some ⟨w.heap.size, 0, none⟩) (0 + n) (grownCap w (0 + n) 0 2)) (w.drew.alloc (.cells (([] : List Value).toArray ++ Builtin.zeroCells (Value.int .i64 0).cells n ++ Builtin.zeroCells (Value.int .i64 0).cells (grownCap w (0 + n) 0 2 - (0 + n))) 2)) := fun ty =>
    Lib.run_append_grow_zeros w _ _ ty _ i0 (.int .i64 0) .i64 .i64 Try.underlying22 Try.underlying3 hi hz0 none 0 0 [] (run_firstCells_none _ _ _ _ _) n h0 (by omega) (by omega) (by omega) (by rw [hz2]; omega) (growslice_fits (by omega) (by rw [hz2]; omega))
  have hGn : 0 + n ≤ grownCap w (0 + n) 0 2 := grownCap_ge w _ _ _
  have hGm : grownCap w (0 + n) 0 2 ≤ maxLen := grownCap_le_maxLen w _ _ _ (by unfold maxLen; omega)
  obtain ⟨G, hG⟩ : ∃ G, G = grownCap w (0 + n) 0 2 := ⟨_, rfl⟩
  rw [← hG] at hrz hGn hGm
  simp only [Nat.zero_add] at hrz hGn
  have hGx : G ≤ 9223372036854775807 := by unfold maxLen at hGm; omega
  obtain ⟨cs, hcs⟩ : ∃ cs, cs = ([] : List Value).toArray ++ Builtin.zeroCells (Value.int .i64 0).cells n ++ Builtin.zeroCells (Value.int .i64 0).cells (G - n) := ⟨_, rfl⟩
  rw [← hcs] at hrz
  have hsz : cs.size = G * 1 := by
    rw [hcs]
    simp [size_zeroCells, Value.cells]
    omega
  have hown : Hid ((w.drew.alloc (.cells cs 2)).ownsRow w.heap.size 2 1 (.slice (some ⟨w.heap.size, 0, none⟩) 0 G) 0 []) :=
    Lib.hid ⟨rfl, .inr ⟨w.heap.size, G, cs, rfl, Nat.le_refl _, heap_alloc_new w.drew _, Nat.zero_le _, hGm, hsz, by simp⟩⟩
  have hd : decide (0 < (n : Int)) = true := decide_eq_true (by omega)
  have hd2 : decide ((n : Int) < 0) = false := decide_eq_false (by omega)
  clear hG hcs hsz hGm
  go_enter Try.func82, Try.ntmps82
  go_wp2_with (at_builtin; refine Lib.wpList_append_run _ rfl _ _ _ _ rfl _ _ rfl rfl _ _ (hrz _) ?_)
  go_ret
  exact ⟨G, rfl, hown.out, (by repeat first | (with_reducible exact Below.refl _ _) | (with_reducible refine Below.setCell ?_ (by first | exact Nat.le_refl _ | (simp; done) | (simp; omega) | omega) _) | (with_reducible refine Below.alloc ?_ (by first | exact Nat.le_refl _ | (simp; done) | (simp; omega) | omega) _) | (with_reducible refine below_drewN ?_ _) | (with_reducible refine Below.drew ?_))⟩
/-- The numbers of rows, one after another. -/
def joinZ (L : Nat) (Y : Nat → Nat → Int) (t : Nat) : Int := Y (t / L) (t % L)
theorem join_cells {L : Nat} (hL : 0 < L) (Y : Nat → Nat → Int) (i : Nat) : cellsOfI (joinZ L Y) (i * L) ++ cellsOfI (Y i) L = cellsOfI (joinZ L Y) ((i + 1) * L) := by
  apply List.ext_getElem?
  intro t
  have e : (i + 1) * L = i * L + L := by rw [Nat.add_mul, Nat.one_mul]
  by_cases h1 : t < i * L
  · rw [List.getElem?_append_left (by rw [cellsI_len]; exact h1), cellsI_at h1, cellsI_at (by omega)]
  · rw [List.getElem?_append_right (by rw [cellsI_len]; omega), cellsI_len]
    by_cases h2 : t < (i + 1) * L
    · rw [cellsI_at (by omega), cellsI_at h2]
      have e1 : t / L = i := Nat.div_eq_of_lt_le (by omega) h2
      have e2 : t % L = t - i * L := by
        have := Nat.div_add_mod t L
        rw [e1, Nat.mul_comm] at this
        omega
      show _ = some (Value.int .i64 (Y (t / L) (t % L)))
      rw [e1, e2]
    · rw [List.getElem?_eq_none (by rw [cellsI_len]; omega), List.getElem?_eq_none (by rw [cellsI_len]; omega)]
set_option maxRecDepth 20000 in
set_option maxHeartbeats 4000000 in
theorem concat_any (b off n c L : Nat) (Y : Nat → Nat → Int) (w : World) (hn : 1 ≤ n) (hn6 : n ≤ 6) (hL : 1 ≤ L) (hL6 : L ≤ 6) (h : RS w (some ⟨b, off, none⟩) n c L Y) :
    Calls Try.prog 64 #[.slice (some ⟨b, off, none⟩) n c] w fun e w' => ∃ g d, e = .returned (.slice (some ⟨g, 0, none⟩) (n * L) d) ∧ OwnI 2 .i64 w.heap.size w'.heap.size w' (some ⟨g, 0, none⟩) (n * L) d (joinZ L Y) ∧ Below w.heap.size w w' := by
  obtain ⟨i0, hi, hz0, hz1, hz2⟩ := info_parts info64
  have hcap := h.1
  have hmx : c ≤ 9223372036854775807 := by have := h.2.1; unfold maxLen at this; omega
  have H := Lib.hid h
  have hNL : n * L ≤ 6 * 6 := Nat.mul_le_mul hn6 hL6
  have hpos : 0 < n * L := Nat.mul_pos hn hL
  clear h
  go_enter Try.func64, Try.ntmps64
  go_wp2
  go_loop [3, 11] (fun s i => ∃ j : Nat, j ≤ n ∧ i = .int .i64 j ∧ s = .int .i64 ((j * L : Nat) : Int)) (fun _ i => n - (intOf i).toNat)
  case atStart => exact ⟨0, Nat.zero_le _, rfl, by simp⟩
  case round =>
    obtain ⟨j, hj, rfl, rfl⟩ := hrel
    by_cases hlt : j < n
    · obtain ⟨b', off', ra, rc, e, hbl, hce, hI⟩ := H.out.2.2 j hlt
      simp only [Option.some.injEq, Addr.mk.injEq, and_true] at e
      obtain ⟨rfl, rfl⟩ := e
      have hjL : j * L ≤ 6 * 6 := Nat.mul_le_mul (by omega) hL6
      have hS : Hid ((j + 1) * L = j * L + L) := Lib.hid (by rw [Nat.add_mul, Nat.one_mul])
      have hrL := hI.1
      have hrm : rc ≤ 9223372036854775807 := by have := hI.2.1; unfold maxLen at this; omega
      clear hI hbl
      generalize j * L = p at hjL hS
      have d1 : decide ((p : Int) + (L : Int) < 0) = false := decide_eq_false (by omega)
      go_wp2
      go_round
      case rel => exact ⟨j + 1, by omega, by go_num, by rw [hS.out]; go_num⟩
      case measure => simp [intOf]; omega
    · obtain rfl : j = n := by omega
      generalize hN : j * L = N at *
      have HN := Lib.hid hN
      clear hN
      have hg := fun W => growI_nil N W hpos (by omega)
      go_wp2_with fail
      go_at_call 82
      refine (hg _).mono ?_
      rintro e w1 ⟨gc, rfl, o1, b1⟩
      have H1 := Lib.hid (H.out.below b1)
      have O1 := Lib.hid o1
      have B1 := Lib.hid b1
      clear o1 b1 hg
      go_wp2
      go_loopw [6, 27] (fun v i wr => ∃ k : Nat, k ≤ j ∧ i = .int .i64 k ∧ wr.ownsRow w.heap.size 2 1 v (k * L) (cellsOfI (joinZ L Y) (k * L)) ∧ Below w.heap.size w wr) (fun _ i _ => j - (intOf i).toNat)
      case atStart => exact ⟨0, Nat.zero_le _, rfl, by simpa [cellsOfI] using O1.out, B1.out⟩
      case round =>
        obtain ⟨k, hk, rfl, hown, hb⟩ := hrel
        by_cases hlt2 : k < j
        · obtain ⟨b', off', ra, rc, e, hbl, hce, hI⟩ := (H.out.below hb).2.2 k hlt2
          simp only [Option.some.injEq, Addr.mk.injEq, and_true] at e
          obtain ⟨rfl, rfl⟩ := e
          obtain ⟨rb, ro, rfl, _⟩ := hI.at (show 0 < L by omega)
          have hcells := Lib.hid (cellsI_cell hI)
          have hS := Lib.hid (join_cells (L := L) (by omega) Y k)
          have hE : Hid (k * L + L = (k + 1) * L) := Lib.hid (by rw [Nat.add_mul, Nat.one_mul])
          have hkL : k * L ≤ 6 * 6 := Nat.mul_le_mul (by omega) hL6
          have hs := Lib.hid hb.size
          have HO := Lib.hid hown
          have HB := Lib.hid hb
          have hrL := hI.1
          have hrm : rc ≤ 9223372036854775807 := by have := hI.2.1; unfold maxLen at this; omega
          clear hown hb hI hbl
          go_wp2_with (at_builtin; refine wpList_append_own _ rfl (.tmp 31) (.tmp 32) 22 rfl w.heap.size 2 i0 (.int .i64 0) 1 8 Try.underlying22 hi hz0 hz1 hz2 rfl (by decide) _ _ _ rfl HO.out ⟨rb, ro, none⟩ L rc (cellsOfI (Y k) L) rfl ?qc1 ?qc2 ?qc3 ?qc4 ?qc5 ?qc6 ?_)
          case qc1 => rw [cellsI_len]; omega
          case qc2 =>
            intro t u ht
            rw [Addr.add_lit]
            exact hcells.out t u ht
          case qc3 => exact cellsI_one
          case qc4 => unfold maxLen; omega
          case qc5 => omega
          case qc6 => exact hs.out
          intro v2 w2 hown2 hgrow hnil
          rw [hS.out, hE.out] at hown2
          have HO2 := Lib.hid hown2
          have HB2 : Hid (Below w.heap.size w w2) := Lib.hid (HB.out.grown hgrow hs.out (fun q hq => (HO.out.lt q hq).1))
          clear hown2 hgrow hnil
          go_wp2
          go_roundw
          case rel => exact ⟨k + 1, by omega, by go_num, HO2.out, HB2.out⟩
          case measure => simp [intOf]; omega
        · obtain rfl : k = j := by omega
          obtain ⟨g, d, cur, e, hbg, hh, hjc, hcm, hcs, htake⟩ : ∃ g d cur, _ := by
            rcases hown.2 with ⟨_, e⟩ | hx
            · have := HN.out; omega
            · exact hx
          subst e
          have hlt3 := hown.lt g rfl
          have hwf : ∀ t, t < k * L → (Lit.int .i64 (joinZ L Y t)).wf = true := by
            intro t ht
            have hd : t / L < k := Nat.div_lt_of_lt_mul (by rw [Nat.mul_comm]; exact ht)
            obtain ⟨_, _, _, _, _, _, _, hI⟩ := H.out.2.2 (t / L) hd
            exact hI.wfs _ (Nat.mod_lt _ (by omega))
          have hO : Hid (OwnI 2 .i64 w.heap.size wr.heap.size wr (some ⟨g, 0, none⟩) (k * L) d (joinZ L Y)) := Lib.hid (.inr ⟨g, _, rfl, hjc, hcm, hlt3.1, hlt3.2, Nat.le_refl _, hown, fun t ht => cellsI_at ht, hwf⟩)
          have HB := Lib.hid hb
          clear hown hb hh htake hcs hwf hlt3 hbg
          go_wp2
          go_ret
          exact ⟨g, d, by rw [← HN.out]; rfl, by first | exact hO.out | (rw [← HN.out]; exact hO.out), HB.out⟩
set_option maxHeartbeats 1000000 in
theorem validWhole_yes (R C : Int) (a : Option Addr) (n c : Nat) (Z : Nat → Int) (w : World) (hn : n ≤ 1048576) (h : IS .i64 w a n c Z) (hv : wholeB 1000000 R C n Z = true) :
    Calls Try.prog 62 #[.agg #[.int .i64 R, .int .i64 C, .slice a n c]] w fun e w' => e = .returned (.tuple #[.agg #[.int .i64 R, .int .i64 C, .slice a n c], .bool true]) ∧ Below w.heap.size w w' := by
  have hV := fun W (f : IS .i64 W a n c Z) => implWhole_any R C a n c Z W hn f
  rw [hv] at hV
  clear hv
  go_enter Try.func62, Try.ntmps62
  go_wp2_with fail
  generalize hwa : w.alloc (.cells #[.int .i64 R, .int .i64 C, .slice a n c] 24) = wa
  have Ba : Below w.heap.size w wa := by rw [← hwa]; exact (by repeat first | (with_reducible exact Below.refl _ _) | (with_reducible refine Below.setCell ?_ (by first | exact Nat.le_refl _ | (simp; done) | (simp; omega) | omega) _) | (with_reducible refine Below.alloc ?_ (by first | exact Nat.le_refl _ | (simp; done) | (simp; omega) | omega) _) | (with_reducible refine below_drewN ?_ _) | (with_reducible refine Below.drew ?_))
  have sa : wa.heap.size = w.heap.size + 1 := by rw [← hwa]; simp
  have Xa : Box wa w.heap.size R C a n c := by rw [← hwa]; exact Box.new _ _ _ _ _ _ _
  have Fa := h.below Ba (Nat.le_refl _)
  clear hwa h
  have la : w.heap.size < wa.heap.size := by omega
  go_at_call 43
  refine (hV _ (Fa.below (by repeat first | (with_reducible exact Below.refl _ _) | (with_reducible refine Below.setCell ?_ (by first | exact Nat.le_refl _ | (simp; done) | (simp; omega) | omega) _) | (with_reducible refine Below.alloc ?_ (by first | exact Nat.le_refl _ | (simp; done) | (simp; omega) | omega) _) | (with_reducible refine below_drewN ?_ _) | (with_reducible refine Below.drew ?_)) (Nat.le_refl _))).mono ?_
  rintro e w1 ⟨rfl, b1⟩
  obtain ⟨hc, hf⟩ := bcell b1
  have s1 : wa.heap.size + 1 ≤ w1.heap.size := by have := b1.size; simpa using this
  obtain ⟨x0, x1, x2⟩ : Box w1 w.heap.size R C a n c := (Xa.below (show Below wa.heap.size wa (wa.alloc (.cells #[.int .i64 0, .int .i64 0, .slice none 0 0] 24)) from (by repeat first | (with_reducible exact Below.refl _ _) | (with_reducible refine Below.setCell ?_ (by first | exact Nat.le_refl _ | (simp; done) | (simp; omega) | omega) _) | (with_reducible refine Below.alloc ?_ (by first | exact Nat.le_refl _ | (simp; done) | (simp; omega) | omega) _) | (with_reducible refine below_drewN ?_ _) | (with_reducible refine Below.drew ?_))) la).below b1 (by simp; omega)
  have z0 : w1.cell? ⟨wa.heap.size, 0, none⟩ = some (.int .i64 0) := (hc _ _ (by simp)).trans (by simp [go_sem])
  have z1 : w1.cell? ⟨wa.heap.size, 1, none⟩ = some (.int .i64 0) := (hc _ _ (by simp)).trans (by simp [go_sem])
  have z2 : w1.cell? ⟨wa.heap.size, 2, none⟩ = some (.slice none 0 0) := (hc _ _ (by simp)).trans (by simp [go_sem])
  have hice : ∀ i, w1.frozen? ⟨wa.heap.size, i, none⟩ = false := fun i => (hf _ _ (by simp)).trans (by simp [go_sem])
  have b2 : Below wa.heap.size wa w1 := Below.trans (by repeat first | (with_reducible exact Below.refl _ _) | (with_reducible refine Below.setCell ?_ (by first | exact Nat.le_refl _ | (simp; done) | (simp; omega) | omega) _) | (with_reducible refine Below.alloc ?_ (by first | exact Nat.le_refl _ | (simp; done) | (simp; omega) | omega) _) | (with_reducible refine below_drewN ?_ _) | (with_reducible refine Below.drew ?_)) (b1.mono (by simp))
  have B1 := Ba.trans (b2.mono Ba.size)
  clear hc hf b1 b2 Xa Fa
  rw [sa] at z0 z1 z2 hice
  have ss : w.heap.size ≤ wa.heap.size := by omega
  go_wp2_with fail
  refine bodyPost_ret (v := .tuple #[.agg #[.int .i64 R, .int .i64 C, .slice a n c], .bool true]) (by simp [results, Try.results62, go_sem, z0, z1, z2]) rfl ?_
  exact ⟨rfl, (by repeat first | (with_reducible exact B1) | (with_reducible refine Below.setCell ?_ (by first | exact Nat.le_refl _ | (simp; done) | (simp; omega) | omega) _) | (with_reducible refine Below.alloc ?_ (by first | exact Nat.le_refl _ | (simp; done) | (simp; omega) | omega) _) | (with_reducible refine below_drewN ?_ _) | (with_reducible refine Below.drew ?_))⟩
set_option maxHeartbeats 1000000 in
theorem validWhole_no (R C : Int) (a : Option Addr) (n c : Nat) (Z : Nat → Int) (w : World) (hn : n ≤ 1048576) (h : IS .i64 w a n c Z) (hv : wholeB 1000000 R C n Z = false) :
    Calls Try.prog 62 #[.agg #[.int .i64 R, .int .i64 C, .slice a n c]] w fun e w' => e = .returned (.tuple #[.agg #[.int .i64 0, .int .i64 0, .slice none 0 0], .bool false]) ∧ Below w.heap.size w w' := by
  have hV := fun W (f : IS .i64 W a n c Z) => implWhole_any R C a n c Z W hn f
  rw [hv] at hV
  clear hv
  go_enter Try.func62, Try.ntmps62
  go_wp2_with fail
  generalize hwa : w.alloc (.cells #[.int .i64 R, .int .i64 C, .slice a n c] 24) = wa
  have Ba : Below w.heap.size w wa := by rw [← hwa]; exact (by repeat first | (with_reducible exact Below.refl _ _) | (with_reducible refine Below.setCell ?_ (by first | exact Nat.le_refl _ | (simp; done) | (simp; omega) | omega) _) | (with_reducible refine Below.alloc ?_ (by first | exact Nat.le_refl _ | (simp; done) | (simp; omega) | omega) _) | (with_reducible refine below_drewN ?_ _) | (with_reducible refine Below.drew ?_))
  have sa : wa.heap.size = w.heap.size + 1 := by rw [← hwa]; simp
  have Fa := h.below Ba (Nat.le_refl _)
  clear hwa h
  go_at_call 43
  refine (hV _ (Fa.below (by repeat first | (with_reducible exact Below.refl _ _) | (with_reducible refine Below.setCell ?_ (by first | exact Nat.le_refl _ | (simp; done) | (simp; omega) | omega) _) | (with_reducible refine Below.alloc ?_ (by first | exact Nat.le_refl _ | (simp; done) | (simp; omega) | omega) _) | (with_reducible refine below_drewN ?_ _) | (with_reducible refine Below.drew ?_)) (Nat.le_refl _))).mono ?_
  rintro e w1 ⟨rfl, b1⟩
  obtain ⟨hc, hf⟩ := bcell b1
  have s1 : wa.heap.size + 1 ≤ w1.heap.size := by have := b1.size; simpa using this
  have z0 : w1.cell? ⟨wa.heap.size, 0, none⟩ = some (.int .i64 0) := (hc _ _ (by simp)).trans (by simp [go_sem])
  have z1 : w1.cell? ⟨wa.heap.size, 1, none⟩ = some (.int .i64 0) := (hc _ _ (by simp)).trans (by simp [go_sem])
  have z2 : w1.cell? ⟨wa.heap.size, 2, none⟩ = some (.slice none 0 0) := (hc _ _ (by simp)).trans (by simp [go_sem])
  have hice : ∀ i, w1.frozen? ⟨wa.heap.size, i, none⟩ = false := fun i => (hf _ _ (by simp)).trans (by simp [go_sem])
  have b2 : Below wa.heap.size wa w1 := Below.trans (by repeat first | (with_reducible exact Below.refl _ _) | (with_reducible refine Below.setCell ?_ (by first | exact Nat.le_refl _ | (simp; done) | (simp; omega) | omega) _) | (with_reducible refine Below.alloc ?_ (by first | exact Nat.le_refl _ | (simp; done) | (simp; omega) | omega) _) | (with_reducible refine below_drewN ?_ _) | (with_reducible refine Below.drew ?_)) (b1.mono (by simp))
  have B1 := Ba.trans (b2.mono Ba.size)
  clear hc hf b1 b2 Fa
  rw [sa] at z0 z1 z2 hice
  have ss : w.heap.size ≤ wa.heap.size := by omega
  go_wp2_with fail
  refine bodyPost_ret (v := .tuple #[.agg #[.int .i64 0, .int .i64 0, .slice none 0 0], .bool false]) (by simp [results, Try.results62, go_sem, z0, z1, z2]) rfl ?_
  exact ⟨rfl, (by repeat first | (with_reducible exact B1) | (with_reducible refine Below.setCell ?_ (by first | exact Nat.le_refl _ | (simp; done) | (simp; omega) | omega) _) | (with_reducible refine Below.alloc ?_ (by first | exact Nat.le_refl _ | (simp; done) | (simp; omega) | omega) _) | (with_reducible refine below_drewN ?_ _) | (with_reducible refine Below.drew ?_))⟩
/-- What a region keeps that reads one cell beside what makes memory. -/
theorem heldOne {w0 W w' : World} {p : Addr} {u : Value} (hs : W.cell? p = some u ∧ Below w0.heap.size w0 W) (hb : Below W.heap.size W w') (l : p.block < w0.heap.size) : w'.cell? p = some u ∧ Below w0.heap.size w0 w' :=
  ⟨(hb.cell (p := p) (Nat.lt_of_lt_of_le l hs.2.size)).trans hs.1, hs.2.trans (hb.mono hs.2.size)⟩
theorem whole_of_join {n L : Nat} (Z : Nat → Int) (h1 : 1 ≤ n) (h2 : n ≤ 6) (h3 : 1 ≤ L) (h4 : L ≤ 6) : wholeB 1000000 n L (n * L) Z = withB 1000000 Z (n * L) := by
  unfold wholeB
  rw [side6_yes (x := (n : Int)) (by omega) (by omega), side6_yes (x := (L : Int)) (by omega) (by omega), decide_eq_true (show ((n * L : Nat) : Int) = (n : Int) * (L : Int) from Int.natCast_mul n L)]
  rfl
theorem heldSet {w0 W : World} {p : Addr} {u v0 v1 v2 : Value} {R : Nat} (hs : W.cell? p = some u ∧ Below w0.heap.size w0 W) (l : p.block < w0.heap.size) (hR : w0.heap.size ≤ R) :
    (((W.setCell ⟨R, 0, none⟩ v0).setCell ⟨R, 1, none⟩ v1).setCell ⟨R, 2, none⟩ v2).cell? p = some u ∧ Below w0.heap.size w0 (((W.setCell ⟨R, 0, none⟩ v0).setCell ⟨R, 1, none⟩ v1).setCell ⟨R, 2, none⟩ v2) := by
  have hne : ∀ o, (⟨R, o, none⟩ : Addr) ≠ p := fun o e => by rw [← e] at l; exact absurd l (by simp; omega)
  refine ⟨?_, ((hs.2.setCell (by exact hR) _).setCell (by exact hR) _).setCell (by exact hR) _⟩
  rw [World.cell?_setCell_other _ _ _ _ (hne 2), World.cell?_setCell_other _ _ _ _ (hne 1), World.cell?_setCell_other _ _ _ _ (hne 0)]
  exact hs.1
set_option maxRecDepth 20000 in
set_option maxHeartbeats 4000000 in
theorem wholeOfRows_yes (b off n c L : Nat) (Y : Nat → Nat → Int) (w : World) (hn : 1 ≤ n) (hn6 : n ≤ 6) (hL : 1 ≤ L) (hL6 : L ≤ 6) (h : RS w (some ⟨b, off, none⟩) n c L Y) (hv : withB 1000000 (joinZ L Y) (n * L) = true) :
    Calls Try.prog 34 #[.slice (some ⟨b, off, none⟩) n c] w (WholeOwn true n L (n * L) (joinZ L Y) w) := by
  obtain ⟨b', off', ra, rc, e, hbl, hce, hI⟩ := h.2.2 0 (by omega)
  simp only [Option.some.injEq, Addr.mk.injEq, and_true] at e
  obtain ⟨rfl, rfl⟩ := e
  simp only [Nat.add_zero] at hce
  have hNL : n * L ≤ 6 * 6 := Nat.mul_le_mul hn6 hL6
  have hcap := h.1
  have hmx : c ≤ 9223372036854775807 := by have := h.2.1; unfold maxLen at this; omega
  have hVV : Hid (wholeB 1000000 n L (n * L) (joinZ L Y) = true) := Lib.hid ((whole_of_join _ hn hn6 hL hL6).trans hv)
  have H := Lib.hid h
  have hcc : ∀ W, Below w.heap.size w W → Calls Try.prog 64 #[.slice (some ⟨b, off, none⟩) n c] W fun e w' => ∃ g d, e = .returned (.slice (some ⟨g, 0, none⟩) (n * L) d) ∧ OwnI 2 .i64 W.heap.size w'.heap.size w' (some ⟨g, 0, none⟩) (n * L) d (joinZ L Y) ∧ Below W.heap.size W w' :=
    fun W hW => concat_any b off n c L Y W hn hn6 hL hL6 (h.below hW)
  generalize hN : n * L = N at *
  have HN := Lib.hid hN
  clear h hv hN hI
  go_enter Try.func34, Try.ntmps34
  go_wp2_with fail
  generalize hwa : w.alloc (.cells #[.int .i64 0, .int .i64 0, .slice none 0 0] 24) = wa
  have Ba : Below w.heap.size w wa := by rw [← hwa]; exact (by repeat first | (with_reducible exact Below.refl _ _) | (with_reducible refine Below.setCell ?_ (by first | exact Nat.le_refl _ | (simp; done) | (simp; omega) | omega) _) | (with_reducible refine Below.alloc ?_ (by first | exact Nat.le_refl _ | (simp; done) | (simp; omega) | omega) _) | (with_reducible refine below_drewN ?_ _) | (with_reducible refine Below.drew ?_))
  have sa : wa.heap.size = w.heap.size + 1 := by rw [← hwa]; simp
  obtain ⟨z0, z1, z2⟩ : Box wa w.heap.size 0 0 none 0 0 := by rw [← hwa]; exact Box.new _ _ _ _ _ _ _
  have hice : ∀ i, wa.frozen? ⟨w.heap.size, i, none⟩ = false := fun i => by rw [← hwa]; simp [go_sem]
  have hca : wa.cell? ⟨b, off, none⟩ = some (.slice ra L rc) := (Ba.cell (p := ⟨b, off, none⟩) hbl).trans hce
  have la : b < wa.heap.size := by omega
  clear hwa hce
  have lR : w.heap.size < wa.heap.size := by omega
  have hn0 : (0 : Int) < (n : Int) := by omega
  have hn00 : 0 < n := by omega
  have haw : ∀ W, Below wa.heap.size wa W → W.cell? ⟨w.heap.size, 0, none⟩ = some (.int .i64 0) ∧ W.cell? ⟨w.heap.size, 1, none⟩ = some (.int .i64 0) ∧ W.cell? ⟨w.heap.size, 2, none⟩ = some (.slice none 0 0) ∧ ∀ i, W.frozen? ⟨w.heap.size, i, none⟩ = false := fun W hW =>
    ⟨(hW.cell (p := ⟨w.heap.size, 0, none⟩) lR).trans z0, (hW.cell (p := ⟨w.heap.size, 1, none⟩) lR).trans z1, (hW.cell (p := ⟨w.heap.size, 2, none⟩) lR).trans z2, fun i => (hW.frozen (p := ⟨w.heap.size, i, none⟩) lR).trans (hice i)⟩
  have hss : w.heap.size ≤ wa.heap.size := by omega
  go_region_held3 (fun w' => w'.cell? ⟨b, off, none⟩ = some (.slice ra L rc) ∧ Below w.heap.size w w')
    (first | exact ⟨hca, Ba.drew⟩ | exact heldOne (by assumption) (by assumption) hbl | exact heldSet (by assumption) hbl (Nat.le_refl _))
    (first | (go_at_call 64; refine (hcc _ (by go_split_ands; assumption)).mono ?_; rintro e w2 ⟨g, d, rfl, o2, b2⟩) | (go_at_call 62; refine (validWhole_yes _ _ _ _ _ (joinZ L Y) _ (by omega) o2.is hVV.out).mono ?_; rintro e w3 ⟨rfl, b3⟩; have bb2 : Below wa.heap.size wa w2 := Below.trans ((Below.refl _ _).drew) (b2.mono (Nat.le_refl _)); have bb3 := bb2.trans (b3.mono bb2.size); obtain ⟨y0, y1, y2, y3⟩ := haw _ bb3))
  have O3 := o2.kept (below_grew b3) (fun q hq => by cases hq)
  have B3 : Below w.heap.size w w3 := Ba.trans (bb3.mono Ba.size)
  have s3 : w2.heap.size ≤ w3.heap.size := b3.size
  have s4 : wa.drew.heap.size = wa.heap.size := rfl
  clear o2 b2 b3 bb2 bb3 hcc haw
  go_wp2_with fail
  refine bodyPost_ret (v := .tuple #[.agg #[.int .i64 n, .int .i64 L, .slice (some ⟨g, 0, none⟩) N d], .bool true]) (by simp [results, Try.results34, go_sem, y0, y1, y2]) rfl ?_
  exact ⟨_, _, _, rfl, (by refine OwnI.to O3 (hk := fun g hg1 hg2 => by (try simp at hg1 hg2); repeat (first | rw [Below.heap_setCell _ _ _ _ (by simp; omega)] | rw [Below.heap_alloc _ _ _ (by simp [World.setCell]; omega)])) ?_ ?_ ?_ ?_ <;> (first | exact Nat.le_refl _ | omega | (simp [World.setCell]; done) | (simp [World.setCell]; omega))), fun i _ => rfl, (by repeat first | (with_reducible exact B3) | (with_reducible refine Below.setCell ?_ (by first | exact Nat.le_refl _ | (simp; done) | (simp; omega) | omega) _) | (with_reducible refine Below.alloc ?_ (by first | exact Nat.le_refl _ | (simp; done) | (simp; omega) | omega) _) | (with_reducible refine below_drewN ?_ _) | (with_reducible refine Below.drew ?_))⟩
set_option maxRecDepth 20000 in
set_option maxHeartbeats 4000000 in
theorem wholeOfRows_no (b off n c L : Nat) (Y : Nat → Nat → Int) (w : World) (hn : 1 ≤ n) (hn6 : n ≤ 6) (hL : 1 ≤ L) (hL6 : L ≤ 6) (h : RS w (some ⟨b, off, none⟩) n c L Y) (hv : withB 1000000 (joinZ L Y) (n * L) = false) :
    Calls Try.prog 34 #[.slice (some ⟨b, off, none⟩) n c] w (WholeOwn false 0 0 0 (fun _ => 0) w) := by
  obtain ⟨b', off', ra, rc, e, hbl, hce, hI⟩ := h.2.2 0 (by omega)
  simp only [Option.some.injEq, Addr.mk.injEq, and_true] at e
  obtain ⟨rfl, rfl⟩ := e
  simp only [Nat.add_zero] at hce
  have hNL : n * L ≤ 6 * 6 := Nat.mul_le_mul hn6 hL6
  have hcap := h.1
  have hmx : c ≤ 9223372036854775807 := by have := h.2.1; unfold maxLen at this; omega
  have hVV : Hid (wholeB 1000000 n L (n * L) (joinZ L Y) = false) := Lib.hid ((whole_of_join _ hn hn6 hL hL6).trans hv)
  have H := Lib.hid h
  have hcc : ∀ W, Below w.heap.size w W → Calls Try.prog 64 #[.slice (some ⟨b, off, none⟩) n c] W fun e w' => ∃ g d, e = .returned (.slice (some ⟨g, 0, none⟩) (n * L) d) ∧ OwnI 2 .i64 W.heap.size w'.heap.size w' (some ⟨g, 0, none⟩) (n * L) d (joinZ L Y) ∧ Below W.heap.size W w' :=
    fun W hW => concat_any b off n c L Y W hn hn6 hL hL6 (h.below hW)
  generalize hN : n * L = N at *
  have HN := Lib.hid hN
  clear h hv hN hI
  go_enter Try.func34, Try.ntmps34
  go_wp2_with fail
  generalize hwa : w.alloc (.cells #[.int .i64 0, .int .i64 0, .slice none 0 0] 24) = wa
  have Ba : Below w.heap.size w wa := by rw [← hwa]; exact (by repeat first | (with_reducible exact Below.refl _ _) | (with_reducible refine Below.setCell ?_ (by first | exact Nat.le_refl _ | (simp; done) | (simp; omega) | omega) _) | (with_reducible refine Below.alloc ?_ (by first | exact Nat.le_refl _ | (simp; done) | (simp; omega) | omega) _) | (with_reducible refine below_drewN ?_ _) | (with_reducible refine Below.drew ?_))
  have sa : wa.heap.size = w.heap.size + 1 := by rw [← hwa]; simp
  obtain ⟨z0, z1, z2⟩ : Box wa w.heap.size 0 0 none 0 0 := by rw [← hwa]; exact Box.new _ _ _ _ _ _ _
  have hice : ∀ i, wa.frozen? ⟨w.heap.size, i, none⟩ = false := fun i => by rw [← hwa]; simp [go_sem]
  have hca : wa.cell? ⟨b, off, none⟩ = some (.slice ra L rc) := (Ba.cell (p := ⟨b, off, none⟩) hbl).trans hce
  have la : b < wa.heap.size := by omega
  clear hwa hce
  have lR : w.heap.size < wa.heap.size := by omega
  have hn0 : (0 : Int) < (n : Int) := by omega
  have hn00 : 0 < n := by omega
  have haw : ∀ W, Below wa.heap.size wa W → W.cell? ⟨w.heap.size, 0, none⟩ = some (.int .i64 0) ∧ W.cell? ⟨w.heap.size, 1, none⟩ = some (.int .i64 0) ∧ W.cell? ⟨w.heap.size, 2, none⟩ = some (.slice none 0 0) ∧ ∀ i, W.frozen? ⟨w.heap.size, i, none⟩ = false := fun W hW =>
    ⟨(hW.cell (p := ⟨w.heap.size, 0, none⟩) lR).trans z0, (hW.cell (p := ⟨w.heap.size, 1, none⟩) lR).trans z1, (hW.cell (p := ⟨w.heap.size, 2, none⟩) lR).trans z2, fun i => (hW.frozen (p := ⟨w.heap.size, i, none⟩) lR).trans (hice i)⟩
  have hss : w.heap.size ≤ wa.heap.size := by omega
  go_region_held3 (fun w' => w'.cell? ⟨b, off, none⟩ = some (.slice ra L rc) ∧ Below w.heap.size w w')
    (first | exact ⟨hca, Ba.drew⟩ | exact heldOne (by assumption) (by assumption) hbl | exact heldSet (by assumption) hbl (Nat.le_refl _))
    (first | (go_at_call 64; refine (hcc _ (by go_split_ands; assumption)).mono ?_; rintro e w2 ⟨g, d, rfl, o2, b2⟩) | (go_at_call 62; refine (validWhole_no _ _ _ _ _ (joinZ L Y) _ (by omega) o2.is hVV.out).mono ?_; rintro e w3 ⟨rfl, b3⟩; have bb2 : Below wa.heap.size wa w2 := Below.trans ((Below.refl _ _).drew) (b2.mono (Nat.le_refl _)); have bb3 := bb2.trans (b3.mono bb2.size); obtain ⟨y0, y1, y2, y3⟩ := haw _ bb3))
  have B3 : Below w.heap.size w w3 := Ba.trans (bb3.mono Ba.size)
  clear o2 b2 b3 bb2 bb3 hcc haw
  go_wp2_with fail
  refine bodyPost_ret (v := .tuple #[.agg #[.int .i64 0, .int .i64 0, .slice none 0 0], .bool false]) (by simp [results, Try.results34, go_sem, y0, y1, y2]) rfl ?_
  exact ⟨none, 0, fun _ => 0, rfl, .inl ⟨rfl, rfl, rfl⟩, fun i hi => by omega, (by repeat first | (with_reducible exact B3) | (with_reducible refine Below.setCell ?_ (by first | exact Nat.le_refl _ | (simp; done) | (simp; omega) | omega) _) | (with_reducible refine Below.alloc ?_ (by first | exact Nat.le_refl _ | (simp; done) | (simp; omega) | omega) _) | (with_reducible refine below_drewN ?_ _) | (with_reducible refine Below.drew ?_))⟩
end Go.Proofs.Ytinekdfpgkmbnab
