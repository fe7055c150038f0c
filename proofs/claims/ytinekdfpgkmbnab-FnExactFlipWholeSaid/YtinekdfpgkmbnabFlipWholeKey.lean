/- Helper: wholes with rows and columns exchanged, of program and reference, their key. Conditions: none. -/
import Derived.Test.YtinekdfpgkmbnabFlipImpl
import Derived.Test.YtinekdfpgkmbnabFlipAt
set_option linter.unusedVariables false
set_option linter.unusedSimpArgs false
namespace Go.Proofs.Ytinekdfpgkmbnab
open Go.RowKit

theorem flipI_end {r c : Nat} {Z : Nat → Int} (hr : 0 < r) (t : Nat) : flipI r c Z r 0 t = flipZ r c Z t := by
  unfold flipI
  rw [if_pos (.inl (Nat.mod_lt _ hr))]; rfl
set_option maxHeartbeats 1000000 in
theorem specFlipW_no (R C : Int) (a : Option Addr) (n cap : Nat) (Z : Nat → Int) (w : World) (hn : n ≤ 1048576) (hv : wholeB 1000000 R C n Z = false) (h : IS .i64 w a n cap Z) :
    Calls Try.prog 15 #[.agg #[.int .i64 R, .int .i64 C, .slice a n cap]] w (WholeBel false 0 0 0 (fun _ => 0) w) := by
  have HV := Lib.hid hv
  clear hv
  go_enter Try.func15, Try.ntmps15
  go_wp2_with fail
  go_at_call 40
  refine (specWhole_any 1000000 w.heap.size R C a n cap Z _ (by omega) hn ⟨by simp [go_sem], by simp [go_sem], by simp [go_sem]⟩ (h.below (by repeat first | (with_reducible exact Below.refl _ _) | (with_reducible refine Below.setCell ?_ (by first | exact Nat.le_refl _ | (simp; done) | (simp; omega) | omega) _) | (with_reducible refine Below.alloc ?_ (by first | exact Nat.le_refl _ | (simp; done) | (simp; omega) | omega) _) | (with_reducible refine below_drewN ?_ _) | (with_reducible refine Below.drew ?_)) (Nat.le_refl _))).mono ?_
  rintro e w1 ⟨rfl, m1, rfl⟩
  rw [show wholeB ((1000000 : Nat) : Int) R C n Z = false from HV.out]
  go_wp2_with fail
  refine bodyPost_ret (v := .tuple #[.agg #[.int .i64 0, .int .i64 0, .slice none 0 0], .bool false]) (by simp [results, Try.results15, go_sem]) rfl ?_
  exact ⟨none, 0, fun _ => 0, rfl, ⟨Nat.le_refl _, Nat.zero_le _, fun i hi => by omega⟩, fun i hi => by omega, (by repeat first | (with_reducible exact Below.refl _ _) | (with_reducible refine Below.setCell ?_ (by first | exact Nat.le_refl _ | (simp; done) | (simp; omega) | omega) _) | (with_reducible refine Below.alloc ?_ (by first | exact Nat.le_refl _ | (simp; done) | (simp; omega) | omega) _) | (with_reducible refine below_drewN ?_ _) | (with_reducible refine Below.drew ?_))⟩
set_option maxHeartbeats 2000000 in
theorem specFlipW_yes (r c n b off cap : Nat) (Z : Nat → Int) (w : World) (h1 : 1 ≤ r) (h2 : r ≤ 6) (h3 : 1 ≤ c) (h4 : c ≤ 6) (hn : n = r * c) (hv : wholeB 1000000 r c n Z = true)
    (h : IS .i64 w (some ⟨b, off, none⟩) n cap Z) :
    Calls Try.prog 15 #[.agg #[.int .i64 r, .int .i64 c, .slice (some ⟨b, off, none⟩) n cap]] w (WholeBel true c r n (flipZ r c Z) w) := by
  have hN := Lib.hid hn
  have hn36 : n ≤ 36 := by have : r * c ≤ 6 * 6 := Nat.mul_le_mul h2 h4; omega
  have HV := Lib.hid hv
  clear hn hv
  go_enter Try.func15, Try.ntmps15
  go_wp2_with fail
  generalize hwa : w.alloc (.cells #[.int .i64 r, .int .i64 c, .slice (some ⟨b, off, none⟩) n cap] 24) = wa
  have Ba : Below w.heap.size w wa := by rw [← hwa]; exact (by repeat first | (with_reducible exact Below.refl _ _) | (with_reducible refine Below.setCell ?_ (by first | exact Nat.le_refl _ | (simp; done) | (simp; omega) | omega) _) | (with_reducible refine Below.alloc ?_ (by first | exact Nat.le_refl _ | (simp; done) | (simp; omega) | omega) _) | (with_reducible refine below_drewN ?_ _) | (with_reducible refine Below.drew ?_))
  have sa : wa.heap.size = w.heap.size + 1 := by rw [← hwa]; simp
  have Xa : Box wa w.heap.size r c (some ⟨b, off, none⟩) n cap := by rw [← hwa]; exact Box.new _ _ _ _ _ _ _
  have Fa := h.below Ba (Nat.le_refl _)
  rw [← sa]
  clear hwa h
  have la : w.heap.size < wa.heap.size := by omega
  go_at_call 40
  refine (specWhole_any 1000000 w.heap.size r c _ n cap Z _ (by omega) (by omega) (Xa.below (by repeat first | (with_reducible exact Below.refl _ _) | (with_reducible refine Below.setCell ?_ (by first | exact Nat.le_refl _ | (simp; done) | (simp; omega) | omega) _) | (with_reducible refine Below.alloc ?_ (by first | exact Nat.le_refl _ | (simp; done) | (simp; omega) | omega) _) | (with_reducible refine below_drewN ?_ _) | (with_reducible refine Below.drew ?_)) la) (Fa.below (by repeat first | (with_reducible exact Below.refl _ _) | (with_reducible refine Below.setCell ?_ (by first | exact Nat.le_refl _ | (simp; done) | (simp; omega) | omega) _) | (with_reducible refine Below.alloc ?_ (by first | exact Nat.le_refl _ | (simp; done) | (simp; omega) | omega) _) | (with_reducible refine below_drewN ?_ _) | (with_reducible refine Below.drew ?_)) (Nat.le_refl _))).mono ?_
  rintro e w2 ⟨rfl, m1, rfl⟩
  rw [show wholeB ((1000000 : Nat) : Int) r c n Z = true from HV.out]
  go_wp2_with fail
  go_at_call 41
  refine (l06Flip_any w.heap.size r c n b off cap Z _ h1 h2 h3 h4 hN.out (by simp [World.drewN]; omega) (Xa.below (by repeat first | (with_reducible exact Below.refl _ _) | (with_reducible refine Below.setCell ?_ (by first | exact Nat.le_refl _ | (simp; done) | (simp; omega) | omega) _) | (with_reducible refine Below.alloc ?_ (by first | exact Nat.le_refl _ | (simp; done) | (simp; omega) | omega) _) | (with_reducible refine below_drewN ?_ _) | (with_reducible refine Below.drew ?_)) la) (Fa.below (by repeat first | (with_reducible exact Below.refl _ _) | (with_reducible refine Below.setCell ?_ (by first | exact Nat.le_refl _ | (simp; done) | (simp; omega) | omega) _) | (with_reducible refine Below.alloc ?_ (by first | exact Nat.le_refl _ | (simp; done) | (simp; omega) | omega) _) | (with_reducible refine below_drewN ?_ _) | (with_reducible refine Below.drew ?_)) (Nat.le_refl _))).mono ?_
  rintro e w1 ⟨g, rfl, o1, b1⟩
  obtain ⟨hc, hf⟩ := bcell b1
  have hz : wa.heap.size + 1 ≤ w1.heap.size := by have := b1.size; simp [World.drewN] at this; omega
  have B1 : Below wa.heap.size wa w1 := Below.trans (by repeat first | (with_reducible exact Below.refl _ _) | (with_reducible refine Below.setCell ?_ (by first | exact Nat.le_refl _ | (simp; done) | (simp; omega) | omega) _) | (with_reducible refine Below.alloc ?_ (by first | exact Nat.le_refl _ | (simp; done) | (simp; omega) | omega) _) | (with_reducible refine below_drewN ?_ _) | (with_reducible refine Below.drew ?_)) (b1.mono (by simp [World.drewN]))
  have B2 : Below w.heap.size w w1 := Ba.trans (B1.mono (by omega))
  have z0 : w1.cell? ⟨wa.heap.size, 0, none⟩ = some (.int .i64 0) := (hc _ _ (by simp [World.drewN])).trans (by simp [go_sem])
  have z1 : w1.cell? ⟨wa.heap.size, 1, none⟩ = some (.int .i64 0) := (hc _ _ (by simp [World.drewN])).trans (by simp [go_sem])
  have z2 : w1.cell? ⟨wa.heap.size, 2, none⟩ = some (.slice none 0 0) := (hc _ _ (by simp [World.drewN])).trans (by simp [go_sem])
  have hice : ∀ i, w1.frozen? ⟨wa.heap.size, i, none⟩ = false := fun i => (hf _ _ (by simp [World.drewN])).trans (by simp [go_sem])
  have o2 := OwnI.mono (B' := wa.heap.size + 1) o1 (by simp [World.drewN]) (Nat.le_refl _) (Nat.le_refl _)
  rw [sa] at z0 z1 z2 hice o2
  clear hc hf b1 o1
  go_wp2_with fail
  refine bodyPost_ret (v := .tuple #[.agg #[.int .i64 c, .int .i64 r, .slice (some ⟨g, 0, none⟩) n n], .bool true]) (by simp [results, Try.results15, go_sem, z0, z1, z2]) rfl ?_
  exact ⟨_, _, _, rfl, OwnI.is (B := w.heap.size + 1 + 1) (U := w1.heap.size) (by refine OwnI.to o2 (hk := fun g hg1 hg2 => by (try simp at hg1 hg2); repeat (first | rw [Below.heap_setCell _ _ _ _ (by simp; omega)] | rw [Below.heap_alloc _ _ _ (by simp [World.setCell]; omega)])) ?_ ?_ ?_ ?_ <;> (first | exact Nat.le_refl _ | omega | (simp [World.setCell]; done) | (simp [World.setCell]; omega))), fun i hi => flipI_end (by omega) i, (by repeat first | (with_reducible exact B2) | (with_reducible refine Below.setCell ?_ (by first | exact Nat.le_refl _ | (simp; done) | (simp; omega) | omega) _) | (with_reducible refine Below.alloc ?_ (by first | exact Nat.le_refl _ | (simp; done) | (simp; omega) | omega) _) | (with_reducible refine below_drewN ?_ _) | (with_reducible refine Below.drew ?_))⟩
theorem keyFlipWhole (R C : Int) (n : Nat) (Z : Nat → Int) (wR : (Lit.int .i64 R).wf = true) (wC : (Lit.int .i64 C).wf = true) (hn : n ≤ 1048576) : ∃ (ok : Bool) (R2 C2 : Int) (n2 : Nat) (V : Nat → Int), n2 ≤ 144 ∧
    (∀ a c W, IS .i64 W a n c Z → Calls Try.prog 15 #[.agg #[.int .i64 R, .int .i64 C, .slice a n c]] W (WholeBel ok R2 C2 n2 V W)) ∧
    (∀ a c W, IS .i64 W a n c Z → Calls Try.prog 17 #[.agg #[.int .i64 R, .int .i64 C, .slice a n c]] W (WholeOwn ok R2 C2 n2 V W)) := by
  cases hv : wholeB 1000000 R C n Z with
  | false => exact ⟨false, 0, 0, 0, fun _ => 0, by omega, fun a c W h => specFlipW_no R C a n c Z W hn hv h, fun a c W h => implFlipW_no R C a n c Z W hn hv h⟩
  | true =>
    obtain ⟨r, c, rfl, rfl, h1, h2, h3, h4, h5, h6⟩ := whole_nat hv
    have hn36 : n ≤ 36 := by have : r * c ≤ 6 * 6 := Nat.mul_le_mul h2 h4; omega
    have hpos : 0 < n := by rw [h5]; exact Nat.mul_pos h1 h3
    refine ⟨true, c, r, n, flipZ r c Z, by omega, fun a cp W h => ?_, fun a cp W h => ?_⟩
    all_goals obtain ⟨b, off, rfl, _⟩ := IS.at h hpos
    · exact specFlipW_yes r c n b off cp Z W h1 h2 h3 h4 h5 hv h
    · have hh := implFlipW_yes r c n b off cp Z W h1 h2 h3 h4 h5 hv h6 h
      rw [Nat.mul_comm c r, ← h5] at hh
      exact hh
end Go.Proofs.Ytinekdfpgkmbnab
